/-
  DiffOf answers as the model at every schema and two databases, in memory of its own (law FnExactDiffOf, for every input).
-/
import Derived.Test.YtffnicoegnomeaaGreatQa
import Derived.Test.YtffnicoegnomeaaGreatQb
import Derived.Test.YtffnicoegnomeaaGreatQc
import Derived.Test.YtffnicoegnomeaaGreatQd
import Derived.Test.YtffnicoegnomeaaGreatQe
namespace Go.Proofs.YtffnicoegnomeaaGreat.fnExactDiffOf
open Go.ChangeShapes Go.WideShapes Go.ChangeAt Go.RowKit Go.Joins
open Go.ChangeMaps (open_string shut_string)
set_option linter.unusedVariables false

set_option maxRecDepth 100000 in
set_option maxHeartbeats 2000000 in
theorem walk (a0 : Option Addr) (len0 cap0 : Nat) (x0 : List Tb) (a1 : Option Addr) (len1 cap1 : Nat) (x1 : List Dt) (a2 : Option Addr) (len2 cap2 : Nat) (x2 : List Dt) (w : World) (w0 : Sl TbR 6 (fun _ => True) w a0 len0 x0 ∧ (x0.length ≤ maxLen ∧ ∀ y ∈ x0, y.wf)) (w1 : Sl DtR 1 (fun _ => True) w a1 len1 x1 ∧ (x1.length ≤ maxLen ∧ ∀ y ∈ x1, y.wf)) (w2 : Sl DtR 1 (fun _ => True) w a2 len2 x2 ∧ (x2.length ≤ maxLen ∧ ∀ y ∈ x2, y.wf)) :
    Calls Tryz.prog 4 #[.slice a0 len0 cap0, .slice a1 len1 cap1, .slice a2 len2 cap2] w fun e w' => e = .returned (.bool true) ∧ Below w.heap.size w w' := by
  obtain ⟨h0, wf0⟩ := w0
  obtain rfl : x0.length = len0 := h0.1
  have WF0 := Lib.hid wf0
  clear wf0
  obtain ⟨h1, wf1⟩ := w1
  obtain rfl : x1.length = len1 := h1.1
  have WF1 := Lib.hid wf1
  clear wf1
  obtain ⟨h2, wf2⟩ := w2
  obtain rfl : x2.length = len2 := h2.1
  have WF2 := Lib.hid wf2
  clear wf2
  have hb0 := (Below.refl w.heap.size w)
  go_enter Tryz.func4, Tryz.ntmps4
  go_wp2_with fail
  refine (lawsSzTableL a0 x0.length cap0 x0 1048576 _ _ (h0.below TbR.stays hb0) WF0.out (by omega) (by omega)).mono ?_
  rintro e y1 ⟨rfl, hq1⟩
  have hbb1 := (hb0).trans (hq1.mono (hb0).size)
  rcases szR_cases 1048576 (szL Tb.sz x0) (by omega) with ⟨hno1, hv1⟩ | ⟨l1, hv1, -, h01, h11, hle1⟩
  · rw [hv1.out]
    go_wp2
    go_ret
    exact ⟨rfl, hbb1⟩
  rw [hv1.out]
  have S0 := Lib.hid (show szL Tb.sz x0 ≤ 1048576 by omega)
  clear hle1
  go_wp2_with fail
  refine (lawsSzDataL a1 x1.length cap1 x1 l1 _ _ (h1.below DtR.stays hbb1) WF1.out (by omega) (by omega)).mono ?_
  rintro e y2 ⟨rfl, hq2⟩
  have hbb2 := (hbb1).trans (hq2.mono (hbb1).size)
  rcases szR_cases l1 (szL Dt.sz x1) (by omega) with ⟨hno2, hv2⟩ | ⟨l2, hv2, -, h02, h12, hle2⟩
  · rw [hv2.out]
    go_wp2
    go_ret
    exact ⟨rfl, hbb2⟩
  rw [hv2.out]
  have S1 := Lib.hid (show szL Dt.sz x1 ≤ 1048576 by omega)
  clear hle2
  go_wp2_with fail
  refine (lawsSzDataL a2 x2.length cap2 x2 l2 _ _ (h2.below DtR.stays hbb2) WF2.out (by omega) (by omega)).mono ?_
  rintro e y3 ⟨rfl, hq3⟩
  have hbb3 := (hbb2).trans (hq3.mono (hbb2).size)
  rcases szR_cases l2 (szL Dt.sz x2) (by omega) with ⟨hno3, hv3⟩ | ⟨l3, hv3, -, h03, h13, hle3⟩
  · rw [hv3.out]
    go_wp2
    go_ret
    exact ⟨rfl, hbb3⟩
  rw [hv3.out]
  have S2 := Lib.hid (show szL Dt.sz x2 ≤ 1048576 by omega)
  clear hle3
  go_wp2_with fail
  have HIK := Lib.hid (chs_len (diffB_sz x0 x1 x2))
  have HIL := Lib.hid (show (diffB x0 x1 x2).length ≤ 1048576 by have := (diffB_ok x0 x1 x2).1; omega)
  have HLN := Lib.hid (diffB_sz x0 x1 x2)
  have HMS := Lib.hid (show 1 + ((diffB x0 x1 x2).map Ch.marks).sum ≤ 1073741824 from chs_marks (diffB_sz x0 x1 x2))
  refine (lawsToTableL a0 x0.length cap0 x0 _ _ (h0.below TbR.stays hbb3) S0.out).mono ?_
  rintro e y4 ⟨Bs0, ds0, rfl, hcps0, ts0, hq4⟩
  have hbb4 := (hbb3).trans (hq4.mono (hbb3).size)
  go_wp2_with fail
  refine (lawsToDataL a1 x1.length cap1 x1 _ _ (h1.below DtR.stays hbb4) S1.out).mono ?_
  rintro e y5 ⟨Bs1, ds1, rfl, hcps1, ts1, hq5⟩
  have hbb5 := (hbb4).trans (hq5.mono (hbb4).size)
  have ts0 := ts0.below TbR.stays hq5
  go_wp2_with fail
  refine (lawsToDataL a2 x2.length cap2 x2 _ _ (h2.below DtR.stays hbb5) S2.out).mono ?_
  rintro e y6 ⟨Bs2, ds2, rfl, hcps2, ts2, hq6⟩
  have hbb6 := (hbb5).trans (hq6.mono (hbb5).size)
  have ts0 := ts0.below TbR.stays hq6
  have ts1 := ts1.below DtR.stays hq6
  go_wp2_with fail
  refine (specDiffOf Bs0 Bs1 Bs2 x0.length ds0 x1.length ds1 x2.length ds2 x0 x1 x2 _ _ _ _ ts0 ts1 ts2 hcps0 S0.out S1.out S2.out).mono ?_
  rintro e y7 ⟨vw, rfl, ow, hq7⟩
  have hbb7 := (hbb6).trans (hq7.mono (hbb6).size)
  have ts0 := ts0.below TbR.stays hq7
  have ts1 := ts1.below DtR.stays hq7
  have ts2 := ts2.below DtR.stays hq7
  obtain ⟨Aw, cw, rfl, hcw, -, tw⟩ := OwnL.sl ChO.good ow (fun _ _ _ h => ChO.toR h)
  clear ow
  clear ts0 ts1 ts2
  have hBG : w.heap.size ≤ y7.heap.size := (hbb7).size
  have HBG := Lib.hid hBG
  clear hBG
  go_wp2_with fail
  refine (lawsToTableL a0 x0.length cap0 x0 _ _ (h0.below TbR.stays hbb7) S0.out).mono ?_
  rintro e y8 ⟨Bx0, dx0, rfl, hcpx0, tx0, hq8⟩
  have hbb8 := (hbb7).trans (hq8.mono (hbb7).size)
  have tw := tw.below ChR.stays hq8
  have M0 : mayMark y7.heap.size y8.heap.size y8 (okF _ y8) := fun b hb => ⟨Nat.le_trans (Nat.le_refl _) hb.1, hb.2.1, hb.2.1, hb.2.2⟩
  have hmx : y7.heap.size ≤ y8.heap.size := (hq8).size
  go_wp2_with fail
  refine (lawsToDataL a1 x1.length cap1 x1 _ _ (h1.below DtR.stays hbb8) S1.out).mono ?_
  rintro e y9 ⟨Bx1, dx1, rfl, hcpx1, tx1, hq9⟩
  have M0 := M0.below hq9
  have hbb9 := (hbb8).trans (hq9.mono (hbb8).size)
  have tw := tw.below ChR.stays hq9
  have tx0 := tx0.below TbR.stays hq9
  have M1 : mayMark y7.heap.size y9.heap.size y9 (okF _ y9) := fun b hb => ⟨Nat.le_trans hmx hb.1, hb.2.1, hb.2.1, hb.2.2⟩
  have hmx : y7.heap.size ≤ y9.heap.size := Nat.le_trans hmx (hq9).size
  go_wp2_with fail
  refine (lawsToDataL a2 x2.length cap2 x2 _ _ (h2.below DtR.stays hbb9) S2.out).mono ?_
  rintro e y10 ⟨Bx2, dx2, rfl, hcpx2, tx2, hq10⟩
  have M0 := M0.below hq10
  have M1 := M1.below hq10
  have hbb10 := (hbb9).trans (hq10.mono (hbb9).size)
  have tw := tw.below ChR.stays hq10
  have tx0 := tx0.below TbR.stays hq10
  have tx1 := tx1.below DtR.stays hq10
  have M2 : mayMark y7.heap.size y10.heap.size y10 (okF _ y10) := fun b hb => ⟨Nat.le_trans hmx hb.1, hb.2.1, hb.2.1, hb.2.2⟩
  have hmx : y7.heap.size ≤ y10.heap.size := Nat.le_trans hmx (hq10).size
  go_wp2_with fail
  have M0 : mayMark y7.heap.size y10.heap.size y10 _ := fun b hb => ⟨(M0 b hb).1, (M0 b hb).2.2.1, (M0 b hb).2.2⟩
  have M1 : mayMark y7.heap.size y10.heap.size y10 _ := fun b hb => ⟨(M1 b hb).1, (M1 b hb).2.2.1, (M1 b hb).2.2⟩
  have M2 : mayMark y7.heap.size y10.heap.size y10 _ := fun b hb => ⟨(M2 b hb).1, (M2 b hb).2.2.1, (M2 b hb).2.2⟩
  have HMX := Lib.hid hmx
  clear hmx
  refine (implDiffOf Bx0 Bx1 Bx2 x0.length dx0 x1.length dx1 x2.length dx2 x0 x1 x2 _ _ _ _ tx0 tx1 tx2 S0.out S1.out S2.out).mono ?_
  rintro e y11 ⟨vg, rfl, og, hq11⟩
  have M0 := M0.below hq11
  have M1 := M1.below hq11
  have M2 := M2.below hq11
  have hbb11 := (hbb10).trans (hq11.mono (hbb10).size)
  have tw := tw.below ChR.stays hq11
  have tx0 := tx0.below TbR.stays hq11
  have tx1 := tx1.below DtR.stays hq11
  have tx2 := tx2.below DtR.stays hq11
  obtain ⟨Ag, cg, bsg, rfl, shg, hbg⟩ := OwnL.sh ChO.good ChO.out (cnt := Ch.marks) og (by have := HIL.out; omega) (fun _ x _ hx h => ChO.toS h (HIK.out x hx).1 (HIK.out x hx).2)
  obtain ⟨Ag', cg', eg, -, -, tg⟩ := OwnL.sl ChO.good og (fun _ _ _ h => ChO.toR h)
  cases eg
  clear og
  have HBS := Lib.hid hbg
  clear hbg
  go_wp2_with fail
  refine (lawsEqChangeL _ _ _ _ _ (diffB x0 x1 x2) _ _ _ tg tw HLN.out).mono ?_
  rintro e y12 ⟨rfl, hq12⟩
  have M0 := M0.below hq12
  have M1 := M1.below hq12
  have M2 := M2.below hq12
  have hbb12 := (hbb11).trans (hq12.mono (hbb11).size)
  have tw := tw.below ChR.stays hq12
  have tx0 := tx0.below TbR.stays hq12
  have tx1 := tx1.below DtR.stays hq12
  have tx2 := tx2.below DtR.stays hq12
  have tg := tg.below ChR.stays hq12
  have shg := shg.stay ChS.stay (bs' := []) (KeptL.below hq12) (fun _ _ => List.not_mem_nil)
  go_wp2_with fail
  refine (lawsToTableL a0 x0.length cap0 x0 _ _ (h0.below TbR.stays hbb12) S0.out).mono ?_
  rintro e y13 ⟨Be0, de0, rfl, -, te0, hq13⟩
  have M0 := M0.below hq13
  have M1 := M1.below hq13
  have M2 := M2.below hq13
  have hbb13 := (hbb12).trans (hq13.mono (hbb12).size)
  have tw := tw.below ChR.stays hq13
  have tx0 := tx0.below TbR.stays hq13
  have tx1 := tx1.below DtR.stays hq13
  have tx2 := tx2.below DtR.stays hq13
  have tg := tg.below ChR.stays hq13
  have shg := shg.stay ChS.stay (bs' := []) (KeptL.below hq13) (fun _ _ => List.not_mem_nil)
  go_wp2_with fail
  refine (lawsEqTableL _ _ _ _ _ x0 _ _ _ tx0 te0 S0.out).mono ?_
  rintro e y14 ⟨rfl, hq14⟩
  have M0 := M0.below hq14
  have M1 := M1.below hq14
  have M2 := M2.below hq14
  have hbb14 := (hbb13).trans (hq14.mono (hbb13).size)
  have tw := tw.below ChR.stays hq14
  have tx0 := tx0.below TbR.stays hq14
  have tx1 := tx1.below DtR.stays hq14
  have tx2 := tx2.below DtR.stays hq14
  have tg := tg.below ChR.stays hq14
  have shg := shg.stay ChS.stay (bs' := []) (KeptL.below hq14) (fun _ _ => List.not_mem_nil)
  go_wp2_with fail
  refine (lawsToDataL a1 x1.length cap1 x1 _ _ (h1.below DtR.stays hbb14) S1.out).mono ?_
  rintro e y15 ⟨Be1, de1, rfl, -, te1, hq15⟩
  have M0 := M0.below hq15
  have M1 := M1.below hq15
  have M2 := M2.below hq15
  have hbb15 := (hbb14).trans (hq15.mono (hbb14).size)
  have tw := tw.below ChR.stays hq15
  have tx0 := tx0.below TbR.stays hq15
  have tx1 := tx1.below DtR.stays hq15
  have tx2 := tx2.below DtR.stays hq15
  have tg := tg.below ChR.stays hq15
  have shg := shg.stay ChS.stay (bs' := []) (KeptL.below hq15) (fun _ _ => List.not_mem_nil)
  go_wp2_with fail
  refine (lawsEqDataL _ _ _ _ _ x1 _ _ _ tx1 te1 S1.out).mono ?_
  rintro e y16 ⟨rfl, hq16⟩
  have M0 := M0.below hq16
  have M1 := M1.below hq16
  have M2 := M2.below hq16
  have hbb16 := (hbb15).trans (hq16.mono (hbb15).size)
  have tw := tw.below ChR.stays hq16
  have tx0 := tx0.below TbR.stays hq16
  have tx1 := tx1.below DtR.stays hq16
  have tx2 := tx2.below DtR.stays hq16
  have tg := tg.below ChR.stays hq16
  have shg := shg.stay ChS.stay (bs' := []) (KeptL.below hq16) (fun _ _ => List.not_mem_nil)
  go_wp2_with fail
  refine (lawsToDataL a2 x2.length cap2 x2 _ _ (h2.below DtR.stays hbb16) S2.out).mono ?_
  rintro e y17 ⟨Be2, de2, rfl, -, te2, hq17⟩
  have M0 := M0.below hq17
  have M1 := M1.below hq17
  have M2 := M2.below hq17
  have hbb17 := (hbb16).trans (hq17.mono (hbb16).size)
  have tw := tw.below ChR.stays hq17
  have tx0 := tx0.below TbR.stays hq17
  have tx1 := tx1.below DtR.stays hq17
  have tx2 := tx2.below DtR.stays hq17
  have tg := tg.below ChR.stays hq17
  have shg := shg.stay ChS.stay (bs' := []) (KeptL.below hq17) (fun _ _ => List.not_mem_nil)
  go_wp2_with fail
  refine (lawsEqDataL _ _ _ _ _ x2 _ _ _ tx2 te2 S2.out).mono ?_
  rintro e y18 ⟨rfl, hq18⟩
  have M0 := M0.below hq18
  have M1 := M1.below hq18
  have M2 := M2.below hq18
  have hbb18 := (hbb17).trans (hq18.mono (hbb17).size)
  have tw := tw.below ChR.stays hq18
  have tx0 := tx0.below TbR.stays hq18
  have tx1 := tx1.below DtR.stays hq18
  have tx2 := tx2.below DtR.stays hq18
  have tg := tg.below ChR.stays hq18
  have shg := shg.stay ChS.stay (bs' := []) (KeptL.below hq18) (fun _ _ => List.not_mem_nil)
  go_wp2_with fail
  have hbd0 : (x0.map Tb.cnt).sum ≤ 6291456 := by have h1 := sum_le_of (f := Tb.cnt) (g := Tb.sz) 6 Tb.cnt_le x0; have h2 := S0.out; omega
  generalize hsm0 : (x0.map Tb.cnt).sum = sm0 at hbd0
  have HSM0 := Lib.hid hsm0
  clear hsm0
  have sh0 := tx0.toSh Tb.toSh (fun y hy => by have h1 := szL_mem Tb.sz x0 y hy; have h2 := S0.out; omega)
  clear tx0
  have sh1 := tx1.toSh Dt.toSh (fun y hy => by have h1 := szL_mem Dt.sz x1 y hy; have h2 := S1.out; omega)
  clear tx1
  have sh2 := tx2.toSh Dt.toSh (fun y hy => by have h1 := szL_mem Dt.sz x2 y hy; have h2 := S2.out; omega)
  clear tx2
  refine (marksTableL _ _ _ _ _ y7.heap.size y10.heap.size (1) _ sh0 M0 (by rw [HSM0.out]; omega) (by have h2 := S0.out; (try unfold szL at h2); omega) (by first | rfl | omega)).mono ?_
  rintro e y19 ⟨rfl, hq19⟩
  have hbb19 := Kept.toBelow (hbb18) hq19 HBG.out (hbb18).size
  have M0 := M0.kept hq19
  have M1 := M1.kept hq19
  have M2 := M2.kept hq19
  have tw := tw.kept ChR.stays hq19 (fun b hb => Or.inl hb.2.1)
  have tg := tg.kept ChR.stays hq19 (fun b hb => Or.inr hb.1)
  have shg := shg.stay ChS.stay (KeptL.range hq19) (not_range HBS.out)
  rw [HSM0.out]
  have sh1 := sh1.shape DtSh.keeps hq19
  have sh2 := sh2.shape DtSh.keeps hq19
  clear sh0
  go_wp2_with fail
  have hbd1 : (x1.map Dt.cnt).sum ≤ 6291456 := by have h1 := sum_le_of (f := Dt.cnt) (g := Dt.sz) 6 Dt.cnt_le x1; have h2 := S1.out; omega
  generalize hsm1 : (x1.map Dt.cnt).sum = sm1 at hbd1
  have HSM1 := Lib.hid hsm1
  clear hsm1
  refine (marksDataL _ _ _ _ _ y7.heap.size y10.heap.size (1 + sm0) _ sh1 M1 (by rw [HSM1.out]; omega) (by have h2 := S1.out; (try unfold szL at h2); omega) (by first | rfl | omega)).mono ?_
  rintro e y20 ⟨rfl, hq20⟩
  have hbb20 := Kept.toBelow (hbb19) hq20 HBG.out (hbb19).size
  have M0 := M0.kept hq20
  have M1 := M1.kept hq20
  have M2 := M2.kept hq20
  have tw := tw.kept ChR.stays hq20 (fun b hb => Or.inl hb.2.1)
  have tg := tg.kept ChR.stays hq20 (fun b hb => Or.inr hb.1)
  have shg := shg.stay ChS.stay (KeptL.range hq20) (not_range HBS.out)
  rw [HSM1.out]
  have sh2 := sh2.shape DtSh.keeps hq20
  clear sh1
  go_wp2_with fail
  have hbd2 : (x2.map Dt.cnt).sum ≤ 6291456 := by have h1 := sum_le_of (f := Dt.cnt) (g := Dt.sz) 6 Dt.cnt_le x2; have h2 := S2.out; omega
  generalize hsm2 : (x2.map Dt.cnt).sum = sm2 at hbd2
  have HSM2 := Lib.hid hsm2
  clear hsm2
  refine (marksDataL _ _ _ _ _ y7.heap.size y10.heap.size (1 + sm0 + sm1) _ sh2 M2 (by rw [HSM2.out]; omega) (by have h2 := S2.out; (try unfold szL at h2); omega) (by first | rfl | omega)).mono ?_
  rintro e y21 ⟨rfl, hq21⟩
  have hbb21 := Kept.toBelow (hbb20) hq21 HBG.out (hbb20).size
  have M0 := M0.kept hq21
  have M1 := M1.kept hq21
  have M2 := M2.kept hq21
  have tw := tw.kept ChR.stays hq21 (fun b hb => Or.inl hb.2.1)
  have tg := tg.kept ChR.stays hq21 (fun b hb => Or.inr hb.1)
  have shg := shg.stay ChS.stay (KeptL.range hq21) (not_range HBS.out)
  rw [HSM2.out]
  clear sh2
  generalize hkk : 1 + sm0 + sm1 + sm2 = kk
  have hk1 : 1 ≤ kk := by omega
  have hk2 : (0 : Int) ≤ (kk : Int) := by omega
  have hk3 : decide ((kk : Int) < 0) = false := by rw [decide_eq_false_iff_not]; omega
  clear hkk
  go_wp2_with fail
  refine (lawsEqChangeL _ _ _ _ _ (diffB x0 x1 x2) _ _ _ tg tw HLN.out).mono ?_
  rintro e y22 ⟨rfl, hq22⟩
  have M0 := M0.below hq22
  have M1 := M1.below hq22
  have M2 := M2.below hq22
  have hbb22 := (hbb21).trans (hq22.mono (hbb21).size)
  have tw := tw.below ChR.stays hq22
  have tg := tg.below ChR.stays hq22
  have shg := shg.stay ChS.stay (bs' := []) (KeptL.below hq22) (fun _ _ => List.not_mem_nil)
  go_wp2_with fail
  clear tg
  have HBX := Lib.hid (Nat.le_trans HBG.out HMX.out)
  have HSG := Lib.hid (show ∀ b ∈ bsg, w.heap.size ≤ b from fun b hb => Nat.le_trans HBX.out (HBS.out b hb))
  refine (marksOChL _ _ _ _ _ 1 _ shg HMS.out (by first | rfl | omega)).mono ?_
  rintro e y23 ⟨rfl, hq23, mg⟩
  have hbb23 := KeptL.toBelow (hbb22) hq23 HSG.out (hbb22).size
  have tw := tw.keptL ChR.stays hq23 (fun b hb hh => by have h1 := HBS.out b hh; have h2 := hb.2.1; have h3 := HMX.out; omega)
  clear shg
  go_wp2_with fail
  refine (heldOChL _ _ _ _ _ 1 _ mg HMS.out (by first | rfl | omega)).mono ?_
  rintro e y24 ⟨rfl, hq24⟩
  have hbb24 := (hbb23).trans (hq24.mono (hbb23).size)
  have tw := tw.below ChR.stays hq24
  have mg := mg.below ChH.stay hq24
  have hp : decide (((1 + ((diffB x0 x1 x2).map Ch.marks).sum : Nat) : Int) < 0) = false := by rw [decide_eq_false_iff_not]; omega
  go_wp2_with fail
  clear hp
  refine (lawsToTableL a0 x0.length cap0 x0 _ _ (h0.below TbR.stays hbb24) S0.out).mono ?_
  rintro e y25 ⟨Bh0, dh0, rfl, hcph0, th0, hq25⟩
  have hbb25 := (hbb24).trans (hq25.mono (hbb24).size)
  have tw := tw.below ChR.stays hq25
  have mg := mg.below ChH.stay hq25
  go_wp2_with fail
  refine (lawsToDataL a1 x1.length cap1 x1 _ _ (h1.below DtR.stays hbb25) S1.out).mono ?_
  rintro e y26 ⟨Bh1, dh1, rfl, hcph1, th1, hq26⟩
  have hbb26 := (hbb25).trans (hq26.mono (hbb25).size)
  have tw := tw.below ChR.stays hq26
  have th0 := th0.below TbR.stays hq26
  have mg := mg.below ChH.stay hq26
  go_wp2_with fail
  refine (lawsToDataL a2 x2.length cap2 x2 _ _ (h2.below DtR.stays hbb26) S2.out).mono ?_
  rintro e y27 ⟨Bh2, dh2, rfl, hcph2, th2, hq27⟩
  have hbb27 := (hbb26).trans (hq27.mono (hbb26).size)
  have tw := tw.below ChR.stays hq27
  have th0 := th0.below TbR.stays hq27
  have th1 := th1.below DtR.stays hq27
  have mg := mg.below ChH.stay hq27
  go_wp2_with fail
  refine (implDiffOf Bh0 Bh1 Bh2 x0.length dh0 x1.length dh1 x2.length dh2 x0 x1 x2 _ _ _ _ th0 th1 th2 S0.out S1.out S2.out).mono ?_
  rintro e y28 ⟨vh, rfl, oh, hq28⟩
  have hbb28 := (hbb27).trans (hq28.mono (hbb27).size)
  have tw := tw.below ChR.stays hq28
  have th0 := th0.below TbR.stays hq28
  have th1 := th1.below DtR.stays hq28
  have th2 := th2.below DtR.stays hq28
  obtain ⟨Ah, ch, rfl, -, -, th⟩ := OwnL.sl ChO.good oh (fun _ _ _ h => ChO.toR h)
  clear oh
  have mg := mg.below ChH.stay hq28
  clear th0
  clear th1
  clear th2
  go_wp2_with fail
  refine (lawsEqChangeL _ _ _ _ _ (diffB x0 x1 x2) _ _ _ th tw HLN.out).mono ?_
  rintro e y29 ⟨rfl, hq29⟩
  have hbb29 := (hbb28).trans (hq29.mono (hbb28).size)
  have tw := tw.below ChR.stays hq29
  have th := th.below ChR.stays hq29
  have mg := mg.below ChH.stay hq29
  go_wp2_with fail
  refine (heldOChL _ _ _ _ _ 1 _ mg HMS.out (by first | rfl | omega)).mono ?_
  rintro e y30 ⟨rfl, hq30⟩
  have hbb30 := (hbb29).trans (hq30.mono (hbb29).size)
  have tw := tw.below ChR.stays hq30
  have th := th.below ChR.stays hq30
  have mg := mg.below ChH.stay hq30
  have hp : decide (((1 + ((diffB x0 x1 x2).map Ch.marks).sum : Nat) : Int) < 0) = false := by rw [decide_eq_false_iff_not]; omega
  go_wp2_with fail
  clear hp
  go_ret
  exact ⟨rfl, hbb30⟩

set_option maxRecDepth 100000 in
theorem lifted (os : Os) (started : os.Started) (H : Type) (enc : TypeId × Value → H) :
    ReturnsInHanded {} Tryz.checked os 4 .any (Rows.fnExactDiffOfSpec.pre6 enc Tryz.prog Tryz.f4 Rows.fnExactDiffOfRow.domain false) (Rows.fnExactDiffOfSpec.post enc Tryz.prog Tryz.f4 false true false false) := by
  refine returnsInHanded_of_change (C := Tryz.checked) own started (by kernel_rfl) Tryz.func4
    (ChangeSpec.witness6 (enc := enc) (C := Tryz.checked) false ⟨#[], #[.slice none 0 0, .slice none 0 0, .slice none 0 0], []⟩ 8 (by kernel_rfl) (by kernel_rfl) (by kernel_rfl) (by kernel_rfl)) ?_
  intro W base args ds gs before hval0 hW hcnd _
  have hval : ∀ (j : Nat) t v, Tryz.f4.params[j]? = some t → args[j]? = some v → Value.okWide Tryz.prog W .any base t v := hval0
  have hW' := hW
  obtain ⟨p, q, hA0, hV, rfl, hfz, hnd⟩ := hW
  have hA : DataW.TrodAll enc Tryz.prog W 0 (fun _ => true) true Tryz.f4.params.toList args.toList ds p := hA0
  rw [Tryz.params4] at hA hval
  obtain ⟨v0, vs0, d0, ds0, p0, q0, hargs, rfl, rfl, h0, r0⟩ := trodAll_cons hA
  obtain ⟨v1, vs1, d1, ds1, p1, q1, rfl, rfl, rfl, h1, r1⟩ := trodAll_cons r0
  obtain ⟨v2, vs2, d2, ds2, p2, q2, rfl, rfl, rfl, h2, r2⟩ := trodAll_cons r1
  obtain ⟨rfl, rfl, rfl⟩ := trodAll_nil r2
  obtain rfl : args = #[v0, v1, v2] := by cases args; simp_all
  obtain ⟨rfl, rfl⟩ := trodVars_none hV
  have k0' := h0
  have lt0 : ∀ x ∈ p0, x.block < W.heap.size := by obtain ⟨m, hm⟩ := k0'; exact DataW.trod_lt m _ _ _ hm
  have k1' := h1
  have lt1 : ∀ x ∈ p1, x.block < W.heap.size := by obtain ⟨m, hm⟩ := k1'; exact DataW.trod_lt m _ _ _ hm
  have k2' := h2
  have lt2 : ∀ x ∈ p2, x.block < W.heap.size := by obtain ⟨m, hm⟩ := k2'; exact DataW.trod_lt m _ _ _ hm
  obtain ⟨a0, len0, cap0, rfl⟩ := okWide_slice Tryz.underlying22 (hval 0 22 v0 rfl rfl)
  obtain ⟨x0, w0⟩ := (by obtain ⟨m, hm⟩ := h0; exact TableL_of_trod (by simpa [Value.cells] using hm) : ∃ ds : List Tb, Sl TbR 6 (fun _ => True) W a0 len0 ds ∧ (ds.length ≤ maxLen ∧ ∀ y ∈ ds, y.wf))
  obtain ⟨a1, len1, cap1, rfl⟩ := okWide_slice Tryz.underlying45 (hval 1 45 v1 rfl rfl)
  obtain ⟨x1, w1⟩ := (by obtain ⟨m, hm⟩ := h1; exact DataL_of_trod (by simpa [Value.cells] using hm) : ∃ ds : List Dt, Sl DtR 1 (fun _ => True) W a1 len1 ds ∧ (ds.length ≤ maxLen ∧ ∀ y ∈ ds, y.wf))
  obtain ⟨a2, len2, cap2, rfl⟩ := okWide_slice Tryz.underlying45 (hval 2 45 v2 rfl rfl)
  obtain ⟨x2, w2⟩ := (by obtain ⟨m, hm⟩ := h2; exact DataL_of_trod (by simpa [Value.cells] using hm) : ∃ ds : List Dt, Sl DtR 1 (fun _ => True) W a2 len2 ds ∧ (ds.length ≤ maxLen ∧ ∀ y ∈ ds, y.wf))
  clear hA0 hval0
  refine (walk a0 len0 cap0 x0 a1 len1 cap1 x1 a2 len2 cap2 x2 W w0 w1 w2).mono fun e W' ⟨he, bel⟩ => ?_
  subst he
  exact ⟨_, rfl, _, _, _, [], _, [], hW', trodAll_mk1 (shut_bool Tryz.underlying4 _), (trodAll_cons_mk (Below.trod laidOut (by kernel_rfl) (of_decide_eq_true (by kernel_rfl)) k0' bel lt0) (trodAll_cons_mk (Below.trod laidOut (by kernel_rfl) (of_decide_eq_true (by kernel_rfl)) k1' bel lt1) (trodAll_cons_mk (Below.trod laidOut (by kernel_rfl) (of_decide_eq_true (by kernel_rfl)) k2' bel lt2) trodAll_mk0))), rfl, bel.frame _, fun h => by cases h⟩

set_option maxRecDepth 100000 in
set_option maxHeartbeats 16000000 in
theorem facts : joinedFacts Tryz.checked.prog 4 Tryz.f4 Rows.fnExactDiffOfSpec Rows.fnExactDiffOfRow = true := by
  unfold joinedFacts
  repeat' (with_reducible refine Bool.and_eq_true_iff.2 ⟨?_, ?_⟩)
  all_goals (as_aux_lemma => kernel_rfl)

theorem over : Rows.fnExactDiffOfRow.holds Tryz.pinned (OpenSpec.ofChange Rows.fnExactDiffOfSpec) :=
  OpenClaim.holds_of_wide 4 Tryz.f4 rfl rfl rfl rfl rfl rfl rfl ⟨rfl, rfl, rfl, rfl, rfl⟩ rfl rfl rfl rfl rfl (by kernel_rfl) Tryz.func4 facts
    (of_decide_eq_true (by as_aux_lemma => kernel_rfl)) (by unfold Func.isWrapper; first | (rw [if_pos (by decide +kernel)]; kernel_rfl) | (rw [if_neg (by decide +kernel)]; exact ⟨rfl, rfl⟩))
    (fun os started H enc _ => lifted os started H enc)

theorem proved : Rows.FnExactDiffOfSaid := over
#print axioms proved
end Go.Proofs.YtffnicoegnomeaaGreat.fnExactDiffOf
