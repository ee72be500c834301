/-
  What is found is just the rows with these values, none of which is null (law FnFindRows, for every code).
-/
import Derived.Test.YthjbhapmgkhckaaGreatNa
import Derived.Test.YthjbhapmgkhckaaGreatNb
import Derived.Test.YthjbhapmgkhckaaGreatNc
import Derived.Test.YthjbhapmgkhckaaGreatNd
namespace Go.Proofs.YthjbhapmgkhckaaGreat.fnFindRows
open Go.ChangeShapes Go.WideShapes Go.ChangeAt Go.RowKit Go.Joins
open Go.ChangeMaps (open_string shut_string)
set_option linter.unusedSimpArgs false
set_option linter.unusedVariables false

set_option maxRecDepth 100000 in
set_option maxHeartbeats 4000000 in
theorem walk (a0 : Option Addr) (len0 cap0 : Nat) (z0 : List Int) (w : World) (w0 : IsRow .u8 w a0 len0 cap0 z0) :
    Calls Tryz.prog 3 #[.slice a0 len0 cap0] w fun e w' => e = .returned (.bool true) ∧ Below w.heap.size w w' := by
  by_cases hbig : (1048576 : Int) < len0
  · have hbig : decide ((1048576 : Int) < len0) = true := by simpa using hbig
    go_enter Tryz.func3, Tryz.ntmps3
    go_wp2_with fail
    refine (lawsBig a0 len0 cap0 w).mono ?_
    rintro e w' ⟨rfl, rfl⟩
    go_wp2
    go_ret
    exact ⟨rfl, Below.refl _ _⟩
  have hbig : decide ((1048576 : Int) < len0) = false := by simpa using hbig
  go_enter Tryz.func3, Tryz.ntmps3
  go_wp2_with fail
  refine (lawsBig a0 len0 cap0 w).mono ?_
  rintro e w' ⟨rfl, rfl⟩
  clear hbig
  go_wp2_with fail
  refine (drawFindRows a0 len0 cap0 z0 _ w0).mono ?_
  rintro e w1 ⟨v, rfl, ⟨ok, A1, c1, ts, A2, n2, c2, ds, t, A3, c3, cl, A4, c4, key, rfl, hc1, hc2, hc3, hc4, hs, hd, hcl, hk, hsk, hrw, hn2, ht1, ht2, hx⟩, hb1⟩
  have hsz := hsk.sz
  have hdl : ds.length = n2 := hd.1
  subst hdl
  have hdz := hrw.sz hsk.2.2 (by have := hsk.2.1; omega)
  have hcl1 : cl.length = 1 := hcl.1
  have hkl1 : key.length = 1 := hk.1
  have HS := Lib.hid hs
  have HD := Lib.hid hd
  have HC := Lib.hid hcl
  have HK := Lib.hid hk
  have HSK := Lib.hid hsk
  have HX := Lib.hid hx
  have hfl : (findB ts ds t cl key).length ≤ 1048576 := findB_len ts ds t cl key (by omega)
  have HFL := Lib.hid hfl
  have HRW := Lib.hid (w0.below hb1)
  clear hs hd hcl hk hsk hrw hx
  go_wp2_with fail
  refine (implFindRows A1 A2 A3 A4 ts.length c1 ds.length c2 1 c3 1 c4 ts ds t cl key _ _ _ _ _ HS.out HD.out HC.out HK.out (by omega) (by omega) (by omega) (by omega)).mono ?_
  rintro e w2 ⟨B1, e1, rfl, -, hl1, hq⟩
  have HL1 := Lib.hid (hl1.stays IntR.stays (ok' := fun _ => True) (fun _ _ => trivial) fun _ _ _ h => h)
  replace HS := Lib.hid (HS.out.below TbR.stays hq)
  replace HD := Lib.hid (HD.out.below DtR.stays hq)
  replace HC := Lib.hid (HC.out.below IntR.stays hq)
  replace HK := Lib.hid (HK.out.below VlR.stays hq)
  replace HRW := Lib.hid (HRW.out.below hq)
  have hb2 := hb1.trans (hq.mono hb1.size)
  clear hl1 hq hb1
  go_wp2_with fail
  refine (drawKeyOf a0 len0 cap0 z0 _ HRW.out).mono ?_
  rintro e w3 ⟨v, rfl, ⟨okq, A5, c5, cl2, A6, c6, vals2, rfl, h5, h6, h5l, h6l⟩, hq⟩
  have H5 := Lib.hid h5
  have H6 := Lib.hid h6
  replace HS := Lib.hid (HS.out.below TbR.stays hq)
  replace HD := Lib.hid (HD.out.below DtR.stays hq)
  replace HC := Lib.hid (HC.out.below IntR.stays hq)
  replace HK := Lib.hid (HK.out.below VlR.stays hq)
  replace HL1 := Lib.hid (HL1.out.below IntR.stays hq)
  have hb3 := hb2.trans (hq.mono hb2.size)
  clear h5 h6 hq hb2 HRW
  have hkq : (keyOf cl2 vals2).length ≤ 2 := Nat.le_trans (keyOf_len cl2 vals2) h5l
  go_wp2_with fail
  refine (implKeyOf A5 A6 cl2.length c5 vals2.length c6 cl2 vals2 _ _ _ H5.out H6.out (by omega) (by omega)).mono ?_
  rintro e w4 ⟨B7, e7, rfl, -, h7, hq⟩
  have H7 := Lib.hid (h7.stays VlR.stays (ok' := fun _ => True) (fun _ _ => trivial) fun _ _ _ h => h)
  replace HS := Lib.hid (HS.out.below TbR.stays hq)
  replace HD := Lib.hid (HD.out.below DtR.stays hq)
  replace HC := Lib.hid (HC.out.below IntR.stays hq)
  replace HK := Lib.hid (HK.out.below VlR.stays hq)
  replace HL1 := Lib.hid (HL1.out.below IntR.stays hq)
  replace H5 := Lib.hid (H5.out.below IntR.stays hq)
  replace H6 := Lib.hid (H6.out.below VlR.stays hq)
  have hb4 := hb3.trans (hq.mono hb3.size)
  clear h7 hq hb3
  go_wp2_with fail
  refine (specKeyOf A5 A6 cl2.length c5 vals2.length c6 cl2 vals2 _ _ _ H5.out H6.out (by omega) (by omega)).mono ?_
  rintro e w5 ⟨B8, e8, rfl, -, h8, hq⟩
  have H8 := Lib.hid (h8.stays VlR.stays (ok' := fun _ => True) (fun _ _ => trivial) fun _ _ _ h => h)
  replace HS := Lib.hid (HS.out.below TbR.stays hq)
  replace HD := Lib.hid (HD.out.below DtR.stays hq)
  replace HC := Lib.hid (HC.out.below IntR.stays hq)
  replace HK := Lib.hid (HK.out.below VlR.stays hq)
  replace HL1 := Lib.hid (HL1.out.below IntR.stays hq)
  replace H7 := Lib.hid (H7.out.below VlR.stays hq)
  have hb5 := hb4.trans (hq.mono hb4.size)
  clear h8 hq hb4 H5 H6
  generalize keyFl cl2 vals2 = kf at *
  generalize keyOf cl2 vals2 = kl at *
  go_wp2_with fail
  refine (specFindRows A1 A2 A3 A4 ts.length c1 ds.length c2 1 c3 1 c4 ts ds t cl key _ _ _ _ _ HS.out HD.out HC.out HK.out hc1 hc3 (by omega) (by omega) (by omega) (by omega)).mono ?_
  rintro e w6 ⟨B2, e2, rfl, -, hl2, hq⟩
  have HL2 := Lib.hid (hl2.stays IntR.stays (ok' := fun _ => True) (fun _ _ => trivial) fun _ _ _ h => h)
  replace HS := Lib.hid (HS.out.below TbR.stays hq)
  replace HD := Lib.hid (HD.out.below DtR.stays hq)
  replace HC := Lib.hid (HC.out.below IntR.stays hq)
  replace HK := Lib.hid (HK.out.below VlR.stays hq)
  replace HL1 := Lib.hid (HL1.out.below IntR.stays hq)
  replace H7 := Lib.hid (H7.out.below VlR.stays hq)
  replace H8 := Lib.hid (H8.out.below VlR.stays hq)
  have hb6 := hb5.trans (hq.mono hb5.size)
  clear hl2 hq hb5
  go_wp2_with fail
  refine (lawsSameInts B1 B2 (findB ts ds t cl key).length e1 e2 (findB ts ds t cl key) _ _ _ HL1.out HL2.out HFL.out).mono ?_
  rintro e w7 ⟨rfl, hq⟩
  replace HS := Lib.hid (HS.out.below TbR.stays hq)
  replace HD := Lib.hid (HD.out.below DtR.stays hq)
  replace HC := Lib.hid (HC.out.below IntR.stays hq)
  replace HK := Lib.hid (HK.out.below VlR.stays hq)
  replace HL1 := Lib.hid (HL1.out.below IntR.stays hq)
  replace H7 := Lib.hid (H7.out.below VlR.stays hq)
  replace H8 := Lib.hid (H8.out.below VlR.stays hq)
  have hb7 := hb6.trans (hq.mono hb6.size)
  have hkk := eqlL_refl kl
  have HKK := Lib.hid hkk
  have hkf : (kf != kf) = false := by cases kf <;> rfl
  clear hq hb6 HL2 hkk
  go_wp2_with fail
  refine (lawsSameVals B7 B8 kl.length e7 kl.length e8 kl kl _ _ _ H7.out H8.out (by omega) (by omega)).mono ?_
  rintro e w8 ⟨rfl, hq⟩
  rw [HKK.out]
  replace HS := Lib.hid (HS.out.below TbR.stays hq)
  replace HD := Lib.hid (HD.out.below DtR.stays hq)
  replace HC := Lib.hid (HC.out.below IntR.stays hq)
  replace HK := Lib.hid (HK.out.below VlR.stays hq)
  replace HL1 := Lib.hid (HL1.out.below IntR.stays hq)
  have hb8 := hb7.trans (hq.mono hb7.size)
  clear hq hb7 H7 H8 hkf hkq HKK
  go_wp2_with fail
  refine (specDbOk A1 A2 ts.length c1 ds.length c2 ts ds _ _ _ HS.out HD.out hc1 (by omega) (by omega)).mono ?_
  rintro e w9 ⟨rfl, hq⟩
  replace HD := Lib.hid (HD.out.below DtR.stays hq)
  replace HC := Lib.hid (HC.out.below IntR.stays hq)
  replace HK := Lib.hid (HK.out.below VlR.stays hq)
  replace HL1 := Lib.hid (HL1.out.below IntR.stays hq)
  have hb9 := hb8.trans (hq.mono hb8.size)
  clear hq hb8 HS
  obtain ⟨fl, hfle⟩ : ∃ fl, findB ts ds t cl key = fl := ⟨_, rfl⟩
  rw [hfle] at HL1 HFL hfl
  have HFE := Lib.hid hfle
  rw [hfle]
  clear hfle
  cases hB : dbB ts ds
  · have hz : fl = [] := by rw [← HFE.out]; exact findB_bad hB
    subst hz
    go_wp2_with fail
    go_ret
    exact ⟨rfl, hb9⟩
  have HB := Lib.hid hB
  clear hB
  by_cases hin : 0 ≤ t ∧ t < (ts.length : Int)
  case neg =>
    have hz : fl = [] := by
      rw [← HFE.out]
      refine findB_out ?_
      by_cases h0 : 0 ≤ t
      · rw [decide_eq_false (fun h => hin ⟨h0, h⟩)]; simp
      · rw [decide_eq_false h0]; rfl
    subst hz
    by_cases h0 : t < 0
    · have e1 : decide (t < 0) = true := decide_eq_true h0
      go_wp2_with fail
      go_ret
      exact ⟨rfl, hb9⟩
    · have e1 : decide (t < 0) = false := decide_eq_false h0
      have e2 : decide ((ts.length : Int) ≤ t) = true := decide_eq_true (by omega)
      go_wp2_with fail
      go_ret
      exact ⟨rfl, hb9⟩
  obtain ⟨m, rfl⟩ : ∃ m : Nat, t = (m : Int) := ⟨t.toNat, by omega⟩
  have hm1 : m < ts.length := by omega
  have hdl := dbB_len HB.out
  have hm2 : m < ds.length := by omega
  obtain ⟨x, hcle, x0, x2⟩ := HX.out
  have HCI := Lib.hid (show colsInB cl ts[m].cols.length = true by rw [hcle]; exact colsInB_one x0 (by have := (HSK.out.2.2 _ (List.getElem_mem hm1)).2; omega))
  have e1 : decide ((m : Int) < 0) = false := decide_eq_false (by omega)
  have e2 : decide ((ts.length : Int) ≤ (m : Int)) = false := decide_eq_false (by omega)
  have e2n : decide (ts.length ≤ m) = false := decide_eq_false (by omega)
  have g0 : (0 : Int) ≤ (m : Nat) := by omega
  have g1 : (m : Int) < (ds.length : Nat) := by omega
  have HDLT := Lib.hid hm2
  obtain ⟨bD, oD, AR, nR, cR, -, rfl, q0, hrw, -⟩ := DtR.at_ HD.out hm2
  have hnR : ds[m].rows.length = nR := hrw.1
  subst hnR
  have HR := Lib.hid hrw
  have hrn : ds[m].rows.length ≤ 1048576 := by
    have h1 := sum_mem_le Dt.sz ds m hm2
    have h2 : ds[m].rows.length ≤ Dt.sz ds[m] := by show _ ≤ szL Rw.sz ds[m].rows; unfold szL; omega
    have h3 : (ds.map Dt.sz).sum ≤ szL Dt.sz ds := by unfold szL; omega
    omega
  have HVL := Lib.hid (show ∀ r ∈ ds[m].rows, r.vals.length ≤ 10000 from rows_le (db := ds) (by omega) _ (List.getElem_mem hm2))
  clear hrw hcle x0 x2 HX HSK hin
  go_wp2_with fail
  go_loopw [15] (fun i wr => ∃ k : Nat, k ≤ ds[m].rows.length ∧ i = .int .i64 k ∧ Below w9.heap.size w9 wr) (fun i _ => ds[m].rows.length - (intOf i).toNat)
  case atStart => exact ⟨0, by omega, rfl, Below.refl _ _⟩
  case round =>
    obtain ⟨k, hk, rfl, hb⟩ := hrel
    have q0' := (hb.cell (cell_lt q0)).trans q0
    by_cases hlt : k < ds[m].rows.length
    · obtain ⟨bR, oR, AV, nV, cV, -, rfl, p0, p1, hsv, hcv⟩ := RwR.at_ (HR.out.below RwR.stays hb) hlt
      have hnV : ds[m].rows[k].vals.length = nV := hsv.1
      subst hnV
      have hfh := find_has HB.out hm1 hm2 (cols := cl) (key := key) HCI.out hlt
      rw [HFE.out] at hfh
      have HFH := Lib.hid hfh
      have hvl := HVL.out _ (List.getElem_mem hlt)
      have k0 : (0 : Int) ≤ (k : Nat) := by omega
      have k1 : (k : Int) < (ds[m].rows.length : Nat) := by omega
      have HSV := Lib.hid (hsv.below VlR.stays ((Below.refl wr.heap.size wr).alloc (Nat.le_refl _) (.cells #[.int .i64 ds[m].rows[k].id, .slice AV ds[m].rows[k].vals.length cV] 42)))
      have hba := hb.trans (((Below.refl wr.heap.size wr).alloc (Nat.le_refl _) (.cells #[.int .i64 ds[m].rows[k].id, .slice AV ds[m].rows[k].vals.length cV] 42)).mono hb.size)
      have BX := Lib.hid (Blo.new wr [.int .i64 ds[m].rows[k].id, .slice AV ds[m].rows[k].vals.length cV] 42)
      obtain ⟨kid, hkid⟩ : ∃ kid, ds[m].rows[k].id = kid := ⟨_, rfl⟩
      clear hfh hsv hcv
      have x0' := BX.out.cell 0 _ rfl
      have x1' := BX.out.cell 1 _ rfl
      go_wp2_with fail
      generalize wr.alloc (.cells #[.int .i64 ds[m].rows[k].id, .slice AV ds[m].rows[k].vals.length cV] 42) = wa at *
      generalize wr.heap.size = bx at *
      refine (implKeyOf A3 AV 1 c3 ds[m].rows[k].vals.length cV cl ds[m].rows[k].vals _ _ _ (HC.out.below IntR.stays hba) HSV.out (by omega) (by omega)).mono ?_
      rintro e v1 ⟨B9, e9, rfl, -, h9, hq⟩
      have H9 := Lib.hid h9
      have hb2 := hba.trans (hq.mono hba.size)
      have x0' := (hq.cell (cell_lt x0')).trans x0'
      have hkl9 : (keyOf cl ds[m].rows[k].vals).length ≤ 1 := by have := keyOf_len cl ds[m].rows[k].vals; omega
      clear h9 hq x1'
      generalize keyFl cl ds[m].rows[k].vals = kf2 at *
      generalize keyOf cl ds[m].rows[k].vals = kl2 at *
      go_wp2_with fail
      refine (lawsHas B1 fl.length _ fl kid _ _ (HL1.out.below IntR.stays hb2) HFL.out).mono ?_
      rintro e v2 ⟨rfl, hq⟩
      have H9' := Lib.hid (H9.out.below VlR.stays hq)
      have hb3 := hb2.trans (hq.mono hb2.size)
      rw [(congrArg (hasI fl) hkid).symm.trans HFH.out]
      clear hq H9
      cases kf2
      · rw [Bool.false_and]
        go_wp2_with fail
        go_roundw
        case rel => exact ⟨k + 1, by omega, by go_num, hb3⟩
        case measure => simp [intOf]; omega
      · rw [Bool.true_and]
        go_wp2_with fail
        refine (lawsSameVals B9 A4 kl2.length e9 1 c4 kl2 key _ _ _ H9'.out (HK.out.below VlR.stays hb3) (by omega) (by omega)).mono ?_
        rintro e v3 ⟨rfl, hq⟩
        have hb4 := hb3.trans (hq.mono hb3.size)
        clear hq
        generalize eqlL kl2 key = eb at *
        have heb : (eb != eb) = false := by cases eb <;> rfl
        go_wp2_with fail
        go_roundw
        case rel => exact ⟨k + 1, by omega, by go_num, hb4⟩
        case measure => simp [intOf]; omega
    · go_wp2_with fail
      go_ret
      exact ⟨rfl, hb9.trans (hb.mono hb9.size)⟩

set_option maxRecDepth 100000 in
theorem lifted (os : Os) (started : os.Started) (H : Type) (enc : TypeId × Value → H) :
    ReturnsInHanded {} Tryz.checked os 3 .any (Rows.fnFindRowsSpec.pre6 enc Tryz.prog Tryz.f3 Rows.fnFindRowsRow.domain false) (Rows.fnFindRowsSpec.post enc Tryz.prog Tryz.f3 false true false false) := by
  refine returnsInHanded_of_change (C := Tryz.checked) own started (by kernel_rfl) Tryz.func3
    (ChangeSpec.witness6 (enc := enc) (C := Tryz.checked) false ⟨#[], #[.slice none 0 0], []⟩ 8 (by kernel_rfl) (by kernel_rfl) (by kernel_rfl) (by kernel_rfl)) ?_
  intro W base args ds gs before hval0 hW hcnd _
  have hval : ∀ (j : Nat) t v, Tryz.f3.params[j]? = some t → args[j]? = some v → Value.okWide Tryz.prog W .any base t v := hval0
  have hW' := hW
  obtain ⟨p, q, hA0, hV, rfl, hfz, hnd⟩ := hW
  have hA : DataW.TrodAll enc Tryz.prog W 0 (fun _ => true) true Tryz.f3.params.toList args.toList ds p := hA0
  rw [Tryz.params3] at hA hval
  obtain ⟨v0, vs0, d0, ds0, p0, q0, hargs, rfl, rfl, h0, r0⟩ := trodAll_cons hA
  obtain ⟨rfl, rfl, rfl⟩ := trodAll_nil r0
  obtain rfl : args = #[v0] := by cases args; simp_all
  obtain ⟨rfl, rfl⟩ := trodVars_none hV
  have k0' := h0
  have lt0 : ∀ x ∈ p0, x.block < W.heap.size := by obtain ⟨m, hm⟩ := k0'; exact DataW.trod_lt m _ _ _ hm
  obtain ⟨a0, len0, cap0, rfl⟩ := okWide_slice Tryz.underlying22 (hval 0 22 v0 rfl rfl)
  obtain ⟨z0, w0⟩ := isRow_of_trod Tryz.underlying22 Tryz.underlying5 (by kernel_rfl) h0
  clear hA0 hval0
  refine (walk a0 len0 cap0 z0 W w0).mono fun e W' ⟨he, bel⟩ => ?_
  subst he
  exact ⟨_, rfl, _, _, _, [], _, [], hW', trodAll_mk1 (shut_bool Tryz.underlying4 _), (trodAll_cons_mk (Below.trod laidOut (by kernel_rfl) (of_decide_eq_true (by kernel_rfl)) k0' bel lt0) trodAll_mk0), rfl, bel.frame _, fun h => by cases h⟩

set_option maxRecDepth 100000 in
set_option maxHeartbeats 16000000 in
theorem facts : joinedFacts Tryz.checked.prog 3 Tryz.f3 Rows.fnFindRowsSpec Rows.fnFindRowsRow = true := by
  unfold joinedFacts
  repeat' (with_reducible refine Bool.and_eq_true_iff.2 ⟨?_, ?_⟩)
  all_goals (as_aux_lemma => kernel_rfl)

theorem over : Rows.fnFindRowsRow.holds Tryz.pinned (OpenSpec.ofChange Rows.fnFindRowsSpec) :=
  OpenClaim.holds_of_wide 3 Tryz.f3 rfl rfl rfl rfl rfl rfl rfl ⟨rfl, rfl, rfl, rfl, rfl⟩ rfl rfl rfl rfl rfl (by kernel_rfl) Tryz.func3 facts
    (of_decide_eq_true (by as_aux_lemma => kernel_rfl)) (by unfold Func.isWrapper; first | (rw [if_pos (by decide +kernel)]; kernel_rfl) | (rw [if_neg (by decide +kernel)]; exact ⟨rfl, rfl⟩))
    (fun os started H enc _ => lifted os started H enc)

theorem proved : Rows.FnFindRowsSaid := over
#print axioms proved
end Go.Proofs.YthjbhapmgkhckaaGreat.fnFindRows
