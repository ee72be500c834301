/-
  Flaws answers as the model at every schema and database, in memory of its own (law FnExactFlaws, for every input).
-/
import Derived.Test.YtlpldhmanihnnaaGreatXa
import Derived.Test.YtlpldhmanihnnaaGreatXb
import Derived.Test.YtlpldhmanihnnaaGreatXc
import Derived.Test.YtlpldhmanihnnaaGreatXd
import Derived.Test.YtlpldhmanihnnaaGreatXe
import Derived.Test.YtlpldhmanihnnaaGreatXf
import Derived.Test.YtlpldhmanihnnaaGreatXg
namespace Go.Proofs.YtlpldhmanihnnaaGreat.fnExactFlaws
open Go.ChangeShapes Go.WideShapes Go.ChangeAt Go.RowKit Go.Joins
open Go.ChangeMaps (open_string shut_string)
set_option linter.unusedVariables false

set_option maxRecDepth 100000 in
set_option maxHeartbeats 2000000 in
theorem walk (a0 : Option Addr) (len0 cap0 : Nat) (x0 : List Tb) (a1 : Option Addr) (len1 cap1 : Nat) (x1 : List Dt) (w : World) (w0 : Sl TbR 6 (fun _ => True) w a0 len0 x0 ∧ (x0.length ≤ maxLen ∧ ∀ y ∈ x0, y.wf)) (w1 : Sl DtR 1 (fun _ => True) w a1 len1 x1 ∧ (x1.length ≤ maxLen ∧ ∀ y ∈ x1, y.wf)) :
    Calls Tryz.prog 3 #[.slice a0 len0 cap0, .slice a1 len1 cap1] w fun e w' => e = .returned (.bool true) ∧ Below w.heap.size w w' := by
  obtain ⟨h0, wf0⟩ := w0
  obtain rfl : x0.length = len0 := h0.1
  have WF0 := Lib.hid wf0
  clear wf0
  obtain ⟨h1, wf1⟩ := w1
  obtain rfl : x1.length = len1 := h1.1
  have WF1 := Lib.hid wf1
  clear wf1
  have hb0 := (Below.refl w.heap.size w)
  go_enter Tryz.func3, Tryz.ntmps3
  go_wp2_with fail
  refine (lawsSzTableL a0 x0.length cap0 x0 1048576 _ _ (h0.below TbR.stays hb0) WF0.out (by omega) (by omega)).mono ?_
  rintro e y1 ⟨rfl, hq1⟩
  have hbb1 := (hb0).trans (hq1.mono (hb0).size)
  rcases szR_cases 1048576 (szL Tb.sz x0) (by omega) with ⟨hno1, hv1⟩ | ⟨l1, hv1, -, h01, h11, hle1⟩
  · rw [hv1.out]
    go_wp2
    go_ret
    exact ⟨rfl, hbb1⟩
  rw [hv1.out]
  have S0 := Lib.hid (show szL Tb.sz x0 ≤ 1048576 by omega)
  clear hle1
  go_wp2_with fail
  refine (lawsSzDataL a1 x1.length cap1 x1 l1 _ _ (h1.below DtR.stays hbb1) WF1.out (by omega) (by omega)).mono ?_
  rintro e y2 ⟨rfl, hq2⟩
  have hbb2 := (hbb1).trans (hq2.mono (hbb1).size)
  rcases szR_cases l1 (szL Dt.sz x1) (by omega) with ⟨hno2, hv2⟩ | ⟨l2, hv2, -, h02, h12, hle2⟩
  · rw [hv2.out]
    go_wp2
    go_ret
    exact ⟨rfl, hbb2⟩
  rw [hv2.out]
  have S1 := Lib.hid (show szL Dt.sz x1 ≤ 1048576 by omega)
  clear hle2
  go_wp2_with fail
  have HLN := Lib.hid (flawsB_len x0 x1)
  refine (lawsToTableL a0 x0.length cap0 x0 _ _ (h0.below TbR.stays hbb2) S0.out).mono ?_
  rintro e y3 ⟨Bs0, ds0, rfl, hcps0, ts0, hq3⟩
  have hbb3 := (hbb2).trans (hq3.mono (hbb2).size)
  go_wp2_with fail
  refine (lawsToDataL a1 x1.length cap1 x1 _ _ (h1.below DtR.stays hbb3) S1.out).mono ?_
  rintro e y4 ⟨Bs1, ds1, rfl, hcps1, ts1, hq4⟩
  have hbb4 := (hbb3).trans (hq4.mono (hbb3).size)
  have ts0 := ts0.below TbR.stays hq4
  go_wp2_with fail
  refine (specFlaws Bs0 Bs1 x0.length ds0 x1.length ds1 x0 x1 _ _ _ ts0 ts1 hcps0 S0.out S1.out).mono ?_
  rintro e y5 ⟨Aw, cw, rfl, hcw, tw, hq5⟩
  have hbb5 := (hbb4).trans (hq5.mono (hbb4).size)
  have ts0 := ts0.below TbR.stays hq5
  have ts1 := ts1.below DtR.stays hq5
  clear ts0 ts1
  have hBG : w.heap.size ≤ y5.heap.size := (hbb5).size
  have HBG := Lib.hid hBG
  clear hBG
  go_wp2_with fail
  refine (lawsToTableL a0 x0.length cap0 x0 _ _ (h0.below TbR.stays hbb5) S0.out).mono ?_
  rintro e y6 ⟨Bx0, dx0, rfl, hcpx0, tx0, hq6⟩
  have hbb6 := (hbb5).trans (hq6.mono (hbb5).size)
  have tw := tw.below FwR.stays hq6
  have M0 : mayMark y5.heap.size y6.heap.size y6 (okF _ y6) := fun b hb => ⟨Nat.le_trans (Nat.le_refl _) hb.1, hb.2.1, hb.2.1, hb.2.2⟩
  have hmx : y5.heap.size ≤ y6.heap.size := (hq6).size
  go_wp2_with fail
  refine (lawsToDataL a1 x1.length cap1 x1 _ _ (h1.below DtR.stays hbb6) S1.out).mono ?_
  rintro e y7 ⟨Bx1, dx1, rfl, hcpx1, tx1, hq7⟩
  have M0 := M0.below hq7
  have hbb7 := (hbb6).trans (hq7.mono (hbb6).size)
  have tw := tw.below FwR.stays hq7
  have tx0 := tx0.below TbR.stays hq7
  have M1 : mayMark y5.heap.size y7.heap.size y7 (okF _ y7) := fun b hb => ⟨Nat.le_trans hmx hb.1, hb.2.1, hb.2.1, hb.2.2⟩
  have hmx : y5.heap.size ≤ y7.heap.size := Nat.le_trans hmx (hq7).size
  go_wp2_with fail
  have M0 : mayMark y5.heap.size y7.heap.size y7 _ := fun b hb => ⟨(M0 b hb).1, (M0 b hb).2.2.1, (M0 b hb).2.2⟩
  have M1 : mayMark y5.heap.size y7.heap.size y7 _ := fun b hb => ⟨(M1 b hb).1, (M1 b hb).2.2.1, (M1 b hb).2.2⟩
  have HMX := Lib.hid hmx
  clear hmx
  refine (implFlaws Bx0 Bx1 x0.length dx0 x1.length dx1 x0 x1 _ _ _ tx0 tx1 S0.out S1.out).mono ?_
  rintro e y8 ⟨Ag, cg, rfl, hcg, tg, hq8⟩
  have M0 := M0.below hq8
  have M1 := M1.below hq8
  have hbb8 := (hbb7).trans (hq8.mono (hbb7).size)
  have tw := tw.below FwR.stays hq8
  have tx0 := tx0.below TbR.stays hq8
  have tx1 := tx1.below DtR.stays hq8
  have Mg := mayMark_okF (G := y7.heap.size) (Nat.le_refl y8.heap.size)
  go_wp2_with fail
  refine (lawsEqFlawL _ _ _ _ _ (flawsB x0 x1 false) _ _ _ tg tw (by have := HLN.out; omega)).mono ?_
  rintro e y9 ⟨rfl, hq9⟩
  have M0 := M0.below hq9
  have M1 := M1.below hq9
  have Mg := Mg.below hq9
  have hbb9 := (hbb8).trans (hq9.mono (hbb8).size)
  have tw := tw.below FwR.stays hq9
  have tx0 := tx0.below TbR.stays hq9
  have tx1 := tx1.below DtR.stays hq9
  have tg := tg.below FwR.stays hq9
  go_wp2_with fail
  refine (lawsToTableL a0 x0.length cap0 x0 _ _ (h0.below TbR.stays hbb9) S0.out).mono ?_
  rintro e y10 ⟨Be0, de0, rfl, -, te0, hq10⟩
  have M0 := M0.below hq10
  have M1 := M1.below hq10
  have Mg := Mg.below hq10
  have hbb10 := (hbb9).trans (hq10.mono (hbb9).size)
  have tw := tw.below FwR.stays hq10
  have tx0 := tx0.below TbR.stays hq10
  have tx1 := tx1.below DtR.stays hq10
  have tg := tg.below FwR.stays hq10
  go_wp2_with fail
  refine (lawsEqTableL _ _ _ _ _ x0 _ _ _ tx0 te0 S0.out).mono ?_
  rintro e y11 ⟨rfl, hq11⟩
  have M0 := M0.below hq11
  have M1 := M1.below hq11
  have Mg := Mg.below hq11
  have hbb11 := (hbb10).trans (hq11.mono (hbb10).size)
  have tw := tw.below FwR.stays hq11
  have tx0 := tx0.below TbR.stays hq11
  have tx1 := tx1.below DtR.stays hq11
  have tg := tg.below FwR.stays hq11
  go_wp2_with fail
  refine (lawsToDataL a1 x1.length cap1 x1 _ _ (h1.below DtR.stays hbb11) S1.out).mono ?_
  rintro e y12 ⟨Be1, de1, rfl, -, te1, hq12⟩
  have M0 := M0.below hq12
  have M1 := M1.below hq12
  have Mg := Mg.below hq12
  have hbb12 := (hbb11).trans (hq12.mono (hbb11).size)
  have tw := tw.below FwR.stays hq12
  have tx0 := tx0.below TbR.stays hq12
  have tx1 := tx1.below DtR.stays hq12
  have tg := tg.below FwR.stays hq12
  go_wp2_with fail
  refine (lawsEqDataL _ _ _ _ _ x1 _ _ _ tx1 te1 S1.out).mono ?_
  rintro e y13 ⟨rfl, hq13⟩
  have M0 := M0.below hq13
  have M1 := M1.below hq13
  have Mg := Mg.below hq13
  have hbb13 := (hbb12).trans (hq13.mono (hbb12).size)
  have tw := tw.below FwR.stays hq13
  have tx0 := tx0.below TbR.stays hq13
  have tx1 := tx1.below DtR.stays hq13
  have tg := tg.below FwR.stays hq13
  go_wp2_with fail
  have hbd0 : (x0.map Tb.cnt).sum ≤ 6291456 := by have h1 := sum_le_of (f := Tb.cnt) (g := Tb.sz) 6 Tb.cnt_le x0; have h2 := S0.out; omega
  generalize hsm0 : (x0.map Tb.cnt).sum = sm0 at hbd0
  have HSM0 := Lib.hid hsm0
  clear hsm0
  have sh0 := tx0.toSh Tb.toSh (fun y hy => by have h1 := szL_mem Tb.sz x0 y hy; have h2 := S0.out; omega)
  clear tx0
  have sh1 := tx1.toSh Dt.toSh (fun y hy => by have h1 := szL_mem Dt.sz x1 y hy; have h2 := S1.out; omega)
  clear tx1
  refine (marksTableL _ _ _ _ _ y5.heap.size y7.heap.size (1) _ sh0 M0 (by rw [HSM0.out]; omega) (by have h2 := S0.out; (try unfold szL at h2); omega) (by first | rfl | omega)).mono ?_
  rintro e y14 ⟨rfl, hq14⟩
  have hbb14 := Kept.toBelow (hbb13) hq14 HBG.out (hbb13).size
  have M0 := M0.kept hq14
  have M1 := M1.kept hq14
  have Mg := Mg.kept hq14
  have tw := tw.kept FwR.stays hq14 (fun b hb => Or.inl hb.2.1)
  have tg := tg.kept FwR.stays hq14 (fun b hb => Or.inr hb.1)
  rw [HSM0.out]
  have sh1 := sh1.shape DtSh.keeps hq14
  clear sh0
  go_wp2_with fail
  have hbd1 : (x1.map Dt.cnt).sum ≤ 6291456 := by have h1 := sum_le_of (f := Dt.cnt) (g := Dt.sz) 6 Dt.cnt_le x1; have h2 := S1.out; omega
  generalize hsm1 : (x1.map Dt.cnt).sum = sm1 at hbd1
  have HSM1 := Lib.hid hsm1
  clear hsm1
  refine (marksDataL _ _ _ _ _ y5.heap.size y7.heap.size (1 + sm0) _ sh1 M1 (by rw [HSM1.out]; omega) (by have h2 := S1.out; (try unfold szL at h2); omega) (by first | rfl | omega)).mono ?_
  rintro e y15 ⟨rfl, hq15⟩
  have hbb15 := Kept.toBelow (hbb14) hq15 HBG.out (hbb14).size
  have M0 := M0.kept hq15
  have M1 := M1.kept hq15
  have Mg := Mg.kept hq15
  have tw := tw.kept FwR.stays hq15 (fun b hb => Or.inl hb.2.1)
  have tg := tg.kept FwR.stays hq15 (fun b hb => Or.inr hb.1)
  rw [HSM1.out]
  clear sh1
  generalize hkk : 1 + sm0 + sm1 = kk
  have hk1 : 1 ≤ kk := by omega
  have hk2 : (0 : Int) ≤ (kk : Int) := by omega
  have hk3 : decide ((kk : Int) < 0) = false := by rw [decide_eq_false_iff_not]; omega
  clear hkk
  go_wp2_with fail
  refine (lawsEqFlawL _ _ _ _ _ (flawsB x0 x1 false) _ _ _ tg tw (by have := HLN.out; omega)).mono ?_
  rintro e y16 ⟨rfl, hq16⟩
  have M0 := M0.below hq16
  have M1 := M1.below hq16
  have Mg := Mg.below hq16
  have hbb16 := (hbb15).trans (hq16.mono (hbb15).size)
  have tw := tw.below FwR.stays hq16
  have tg := tg.below FwR.stays hq16
  go_wp2_with fail
  have shg := tg.toSh Fw.toSh (fun _ _ => trivial)
  have HBX := Lib.hid (Nat.le_trans HBG.out HMX.out)
  clear tg
  have HBG := HBX
  refine (marksXFlawL _ _ _ _ _ y7.heap.size _ 1 _ shg Mg (by have := (by have := HLN.out; omega); omega) (by have := (by have := HLN.out; omega); omega) (by first | rfl | omega)).mono ?_
  rintro e y17 ⟨rfl, hq17, mg⟩
  have hbb17 := Kept.toBelow (hbb16) hq17 HBG.out (hbb16).size
  have M0 := M0.kept hq17
  have M1 := M1.kept hq17
  have Mg := Mg.kept hq17
  have tw := tw.kept FwR.stays hq17 (fun b hb => Or.inl (Nat.lt_of_lt_of_le hb.2.1 HMX.out))
  clear shg
  go_wp2_with fail
  refine (heldXFlawL _ _ _ 1 _ mg (by have := (by have := HLN.out; omega); omega) (by have := (by have := HLN.out; omega); omega) (by first | rfl | omega)).mono ?_
  rintro e y18 ⟨rfl, hq18⟩
  have M0 := M0.below hq18
  have M1 := M1.below hq18
  have Mg := Mg.below hq18
  have hbb18 := (hbb17).trans (hq18.mono (hbb17).size)
  have tw := tw.below FwR.stays hq18
  have mg := mg.below hq18
  have hp : decide (((1 + (flawsB x0 x1 false).length * 3 : Nat) : Int) < 0) = false := by rw [decide_eq_false_iff_not]; omega
  go_wp2_with fail
  clear hp
  refine (lawsToTableL a0 x0.length cap0 x0 _ _ (h0.below TbR.stays hbb18) S0.out).mono ?_
  rintro e y19 ⟨Bh0, dh0, rfl, hcph0, th0, hq19⟩
  have hbb19 := (hbb18).trans (hq19.mono (hbb18).size)
  have tw := tw.below FwR.stays hq19
  have mg := mg.below hq19
  go_wp2_with fail
  refine (lawsToDataL a1 x1.length cap1 x1 _ _ (h1.below DtR.stays hbb19) S1.out).mono ?_
  rintro e y20 ⟨Bh1, dh1, rfl, hcph1, th1, hq20⟩
  have hbb20 := (hbb19).trans (hq20.mono (hbb19).size)
  have tw := tw.below FwR.stays hq20
  have th0 := th0.below TbR.stays hq20
  have mg := mg.below hq20
  go_wp2_with fail
  refine (implFlaws Bh0 Bh1 x0.length dh0 x1.length dh1 x0 x1 _ _ _ th0 th1 S0.out S1.out).mono ?_
  rintro e y21 ⟨Ah, ch, rfl, hch, th, hq21⟩
  have hbb21 := (hbb20).trans (hq21.mono (hbb20).size)
  have tw := tw.below FwR.stays hq21
  have th0 := th0.below TbR.stays hq21
  have th1 := th1.below DtR.stays hq21
  have mg := mg.below hq21
  clear th0
  clear th1
  go_wp2_with fail
  refine (lawsEqFlawL _ _ _ _ _ (flawsB x0 x1 false) _ _ _ th tw (by have := HLN.out; omega)).mono ?_
  rintro e y22 ⟨rfl, hq22⟩
  have hbb22 := (hbb21).trans (hq22.mono (hbb21).size)
  have tw := tw.below FwR.stays hq22
  have th := th.below FwR.stays hq22
  have mg := mg.below hq22
  go_wp2_with fail
  refine (heldXFlawL _ _ _ 1 _ mg (by have := (by have := HLN.out; omega); omega) (by have := (by have := HLN.out; omega); omega) (by first | rfl | omega)).mono ?_
  rintro e y23 ⟨rfl, hq23⟩
  have hbb23 := (hbb22).trans (hq23.mono (hbb22).size)
  have tw := tw.below FwR.stays hq23
  have th := th.below FwR.stays hq23
  have mg := mg.below hq23
  have hp : decide (((1 + (flawsB x0 x1 false).length * 3 : Nat) : Int) < 0) = false := by rw [decide_eq_false_iff_not]; omega
  go_wp2_with fail
  clear hp
  go_ret
  exact ⟨rfl, hbb23⟩

set_option maxRecDepth 100000 in
theorem lifted (os : Os) (started : os.Started) (H : Type) (enc : TypeId × Value → H) :
    ReturnsInHanded {} Tryz.checked os 3 .any (Rows.fnExactFlawsSpec.pre6 enc Tryz.prog Tryz.f3 Rows.fnExactFlawsRow.domain false) (Rows.fnExactFlawsSpec.post enc Tryz.prog Tryz.f3 false true false false) := by
  refine returnsInHanded_of_change (C := Tryz.checked) own started (by kernel_rfl) Tryz.func3
    (ChangeSpec.witness6 (enc := enc) (C := Tryz.checked) false ⟨#[], #[.slice none 0 0, .slice none 0 0], []⟩ 8 (by kernel_rfl) (by kernel_rfl) (by kernel_rfl) (by kernel_rfl)) ?_
  intro W base args ds gs before hval0 hW hcnd _
  have hval : ∀ (j : Nat) t v, Tryz.f3.params[j]? = some t → args[j]? = some v → Value.okWide Tryz.prog W .any base t v := hval0
  have hW' := hW
  obtain ⟨p, q, hA0, hV, rfl, hfz, hnd⟩ := hW
  have hA : DataW.TrodAll enc Tryz.prog W 0 (fun _ => true) true Tryz.f3.params.toList args.toList ds p := hA0
  rw [Tryz.params3] at hA hval
  obtain ⟨v0, vs0, d0, ds0, p0, q0, hargs, rfl, rfl, h0, r0⟩ := trodAll_cons hA
  obtain ⟨v1, vs1, d1, ds1, p1, q1, rfl, rfl, rfl, h1, r1⟩ := trodAll_cons r0
  obtain ⟨rfl, rfl, rfl⟩ := trodAll_nil r1
  obtain rfl : args = #[v0, v1] := by cases args; simp_all
  obtain ⟨rfl, rfl⟩ := trodVars_none hV
  have k0' := h0
  have lt0 : ∀ x ∈ p0, x.block < W.heap.size := by obtain ⟨m, hm⟩ := k0'; exact DataW.trod_lt m _ _ _ hm
  have k1' := h1
  have lt1 : ∀ x ∈ p1, x.block < W.heap.size := by obtain ⟨m, hm⟩ := k1'; exact DataW.trod_lt m _ _ _ hm
  obtain ⟨a0, len0, cap0, rfl⟩ := okWide_slice Tryz.underlying22 (hval 0 22 v0 rfl rfl)
  obtain ⟨x0, w0⟩ := (by obtain ⟨m, hm⟩ := h0; exact TableL_of_trod (by simpa [Value.cells] using hm) : ∃ ds : List Tb, Sl TbR 6 (fun _ => True) W a0 len0 ds ∧ (ds.length ≤ maxLen ∧ ∀ y ∈ ds, y.wf))
  obtain ⟨a1, len1, cap1, rfl⟩ := okWide_slice Tryz.underlying23 (hval 1 23 v1 rfl rfl)
  obtain ⟨x1, w1⟩ := (by obtain ⟨m, hm⟩ := h1; exact DataL_of_trod (by simpa [Value.cells] using hm) : ∃ ds : List Dt, Sl DtR 1 (fun _ => True) W a1 len1 ds ∧ (ds.length ≤ maxLen ∧ ∀ y ∈ ds, y.wf))
  clear hA0 hval0
  refine (walk a0 len0 cap0 x0 a1 len1 cap1 x1 W w0 w1).mono fun e W' ⟨he, bel⟩ => ?_
  subst he
  exact ⟨_, rfl, _, _, _, [], _, [], hW', trodAll_mk1 (shut_bool Tryz.underlying4 _), (trodAll_cons_mk (Below.trod laidOut (by kernel_rfl) (of_decide_eq_true (by kernel_rfl)) k0' bel lt0) (trodAll_cons_mk (Below.trod laidOut (by kernel_rfl) (of_decide_eq_true (by kernel_rfl)) k1' bel lt1) trodAll_mk0)), rfl, bel.frame _, fun h => by cases h⟩

set_option maxRecDepth 100000 in
set_option maxHeartbeats 16000000 in
theorem facts : joinedFacts Tryz.checked.prog 3 Tryz.f3 Rows.fnExactFlawsSpec Rows.fnExactFlawsRow = true := by
  unfold joinedFacts
  repeat' (with_reducible refine Bool.and_eq_true_iff.2 ⟨?_, ?_⟩)
  all_goals (as_aux_lemma => kernel_rfl)

theorem over : Rows.fnExactFlawsRow.holds Tryz.pinned (OpenSpec.ofChange Rows.fnExactFlawsSpec) :=
  OpenClaim.holds_of_wide 3 Tryz.f3 rfl rfl rfl rfl rfl rfl rfl ⟨rfl, rfl, rfl, rfl, rfl⟩ rfl rfl rfl rfl rfl (by kernel_rfl) Tryz.func3 facts
    (of_decide_eq_true (by as_aux_lemma => kernel_rfl)) (by unfold Func.isWrapper; first | (rw [if_pos (by decide +kernel)]; kernel_rfl) | (rw [if_neg (by decide +kernel)]; exact ⟨rfl, rfl⟩))
    (fun os started H enc _ => lifted os started H enc)

theorem proved : Rows.FnExactFlawsSaid := over
#print axioms proved
end Go.Proofs.YtlpldhmanihnnaaGreat.fnExactFlaws
