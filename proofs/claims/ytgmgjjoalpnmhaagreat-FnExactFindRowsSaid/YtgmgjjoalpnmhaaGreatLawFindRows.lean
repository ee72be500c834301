/-
  FindRows answers as the model at every schema, database, table, list of columns and key, in memory of its own (law FnExactFindRows, for every input).
-/
import Derived.Test.YtgmgjjoalpnmhaaGreatBase
import Derived.Test.YtgmgjjoalpnmhaaGreatFindAll
import Derived.Test.YtgmgjjoalpnmhaaGreatEq
namespace Go.Proofs.YtgmgjjoalpnmhaaGreat.fnExactFindRows
open Go.ChangeShapes Go.WideShapes Go.ChangeAt Go.RowKit Go.Joins
open Go.ChangeMaps (open_string shut_string)
set_option linter.unusedVariables false

set_option maxRecDepth 100000 in
set_option maxHeartbeats 2000000 in
theorem walk (a0 : Option Addr) (len0 cap0 : Nat) (x0 : List Tb) (a1 : Option Addr) (len1 cap1 : Nat) (x1 : List Dt) (a2 : Int) (a3 : Option Addr) (len3 cap3 : Nat) (x3 : List Int) (a4 : Option Addr) (len4 cap4 : Nat) (x4 : List Vl) (w : World) (w0 : Sl TbR 6 (fun _ => True) w a0 len0 x0 ∧ (x0.length ≤ maxLen ∧ ∀ y ∈ x0, y.wf)) (w1 : Sl DtR 1 (fun _ => True) w a1 len1 x1 ∧ (x1.length ≤ maxLen ∧ ∀ y ∈ x1, y.wf)) (w2 : (Lit.int .i64 a2).wf = true) (w3 : Sl IntR 1 (fun _ => True) w a3 len3 x3 ∧ x3.length ≤ maxLen) (w4 : IsVals w a4 len4 x4) :
    Calls Tryz.prog 6 #[.slice a0 len0 cap0, .slice a1 len1 cap1, .int .i64 a2, .slice a3 len3 cap3, .slice a4 len4 cap4] w fun e w' => e = .returned (.bool true) ∧ Below w.heap.size w w' := by
  obtain ⟨h0, wf0⟩ := w0
  obtain rfl : x0.length = len0 := h0.1
  have WF0 := Lib.hid wf0
  clear wf0
  obtain ⟨h1, wf1⟩ := w1
  obtain rfl : x1.length = len1 := h1.1
  have WF1 := Lib.hid wf1
  clear wf1
  obtain ⟨h3, wf3⟩ := w3
  obtain rfl : x3.length = len3 := h3.1
  obtain ⟨h4, hl4, wf4⟩ := w4
  have h4 := Sl.of_cellz h4
  obtain rfl : x4.length = len4 := h4.1
  have WF4 := Lib.hid (And.intro hl4 wf4)
  clear hl4 wf4
  have hb0 := (Below.refl w.heap.size w)
  unfold maxLen at wf3
  by_cases hlong3 : (1048576 : Int) < (x3.length : Int)
  · go_enter Tryz.func6, Tryz.ntmps6
    go_wp2
    go_ret
    exact ⟨rfl, hb0⟩
  have hlong3' : decide ((1048576 : Int) < (x3.length : Int)) = false := by simpa using hlong3
  have S3 : x3.length ≤ 1048576 := by omega
  go_enter Tryz.func6, Tryz.ntmps6
  go_wp2_with fail
  refine (lawsSzTableL a0 x0.length cap0 x0 1048576 _ _ (h0.below TbR.stays hb0) WF0.out (by omega) (by omega)).mono ?_
  rintro e y1 ⟨rfl, hq1⟩
  have hbb1 := (hb0).trans (hq1.mono (hb0).size)
  rcases szR_cases 1048576 (szL Tb.sz x0) (by omega) with ⟨hno1, hv1⟩ | ⟨l1, hv1, -, h01, h11, hle1⟩
  · rw [hv1.out]
    go_wp2
    go_ret
    exact ⟨rfl, hbb1⟩
  rw [hv1.out]
  have S0 := Lib.hid (show szL Tb.sz x0 ≤ 1048576 by omega)
  clear hle1
  go_wp2_with fail
  refine (lawsSzDataL a1 x1.length cap1 x1 l1 _ _ (h1.below DtR.stays hbb1) WF1.out (by omega) (by omega)).mono ?_
  rintro e y2 ⟨rfl, hq2⟩
  have hbb2 := (hbb1).trans (hq2.mono (hbb1).size)
  rcases szR_cases l1 (szL Dt.sz x1) (by omega) with ⟨hno2, hv2⟩ | ⟨l2, hv2, -, h02, h12, hle2⟩
  · rw [hv2.out]
    go_wp2
    go_ret
    exact ⟨rfl, hbb2⟩
  rw [hv2.out]
  have S1 := Lib.hid (show szL Dt.sz x1 ≤ 1048576 by omega)
  clear hle2
  go_wp2_with fail
  refine (lawsSzValL a4 x4.length cap4 x4 l2 _ _ (h4.below VlR.stays hbb2) WF4.out (by omega) (by omega)).mono ?_
  rintro e y3 ⟨rfl, hq3⟩
  have hbb3 := (hbb2).trans (hq3.mono (hbb2).size)
  rcases szR_cases l2 (szL (fun v : Vl => v.s.size) x4) (by omega) with ⟨hno3, hv3⟩ | ⟨l3, hv3, -, h03, h13, hle3⟩
  · rw [hv3.out]
    go_wp2
    go_ret
    exact ⟨rfl, hbb3⟩
  rw [hv3.out]
  have S4 := Lib.hid (show szL (fun v : Vl => v.s.size) x4 ≤ 1048576 by omega)
  clear hle3
  go_wp2_with fail
  have HLN := Lib.hid (findB_len x0 x1 a2 x3 x4 S1.out)
  refine (lawsToTableL a0 x0.length cap0 x0 _ _ (h0.below TbR.stays hbb3) S0.out).mono ?_
  rintro e y4 ⟨Bs0, ds0, rfl, hcps0, ts0, hq4⟩
  have hbb4 := (hbb3).trans (hq4.mono (hbb3).size)
  go_wp2_with fail
  refine (lawsToDataL a1 x1.length cap1 x1 _ _ (h1.below DtR.stays hbb4) S1.out).mono ?_
  rintro e y5 ⟨Bs1, ds1, rfl, hcps1, ts1, hq5⟩
  have hbb5 := (hbb4).trans (hq5.mono (hbb4).size)
  have ts0 := ts0.below TbR.stays hq5
  go_wp2_with fail
  refine (lawsToIntL a3 x3.length cap3 x3 _ _ (h3.below IntR.stays hbb5) S3).mono ?_
  rintro e y6 ⟨Bs3, ds3, rfl, hcps3, ts3, hq6⟩
  have hbb6 := (hbb5).trans (hq6.mono (hbb5).size)
  have ts0 := ts0.below TbR.stays hq6
  have ts1 := ts1.below DtR.stays hq6
  go_wp2_with fail
  refine (lawsToValL a4 x4.length cap4 x4 _ _ (h4.below VlR.stays hbb6) S4.out).mono ?_
  rintro e y7 ⟨Bs4, ds4, rfl, hcps4, ts4, hq7⟩
  have hbb7 := (hbb6).trans (hq7.mono (hbb6).size)
  have ts0 := ts0.below TbR.stays hq7
  have ts1 := ts1.below DtR.stays hq7
  have ts3 := ts3.below IntR.stays hq7
  go_wp2_with fail
  refine (specFindRows Bs0 Bs1 Bs3 Bs4 x0.length ds0 x1.length ds1 x3.length ds3 x4.length ds4 x0 x1 a2 x3 x4 _ _ _ _ _ ts0 ts1 ts3 ts4 hcps0 hcps3 S0.out S1.out S3 (by have := S4.out; unfold szL at this; omega)).mono ?_
  rintro e y8 ⟨Aw, cw, rfl, hcw, tw, hq8⟩
  have hbb8 := (hbb7).trans (hq8.mono (hbb7).size)
  have ts0 := ts0.below TbR.stays hq8
  have ts1 := ts1.below DtR.stays hq8
  have ts3 := ts3.below IntR.stays hq8
  have ts4 := ts4.below VlR.stays hq8
  clear ts0 ts1 ts3 ts4
  have hBG : w.heap.size ≤ y8.heap.size := (hbb8).size
  have HBG := Lib.hid hBG
  clear hBG
  go_wp2_with fail
  refine (lawsToTableL a0 x0.length cap0 x0 _ _ (h0.below TbR.stays hbb8) S0.out).mono ?_
  rintro e y9 ⟨Bx0, dx0, rfl, hcpx0, tx0, hq9⟩
  have hbb9 := (hbb8).trans (hq9.mono (hbb8).size)
  have tw := tw.below IntR.stays hq9
  have M0 : mayMark y8.heap.size y9.heap.size y9 (okF _ y9) := fun b hb => ⟨Nat.le_trans (Nat.le_refl _) hb.1, hb.2.1, hb.2.1, hb.2.2⟩
  have hmx : y8.heap.size ≤ y9.heap.size := (hq9).size
  go_wp2_with fail
  refine (lawsToDataL a1 x1.length cap1 x1 _ _ (h1.below DtR.stays hbb9) S1.out).mono ?_
  rintro e y10 ⟨Bx1, dx1, rfl, hcpx1, tx1, hq10⟩
  have M0 := M0.below hq10
  have hbb10 := (hbb9).trans (hq10.mono (hbb9).size)
  have tw := tw.below IntR.stays hq10
  have tx0 := tx0.below TbR.stays hq10
  have M1 : mayMark y8.heap.size y10.heap.size y10 (okF _ y10) := fun b hb => ⟨Nat.le_trans hmx hb.1, hb.2.1, hb.2.1, hb.2.2⟩
  have hmx : y8.heap.size ≤ y10.heap.size := Nat.le_trans hmx (hq10).size
  go_wp2_with fail
  refine (lawsToIntL a3 x3.length cap3 x3 _ _ (h3.below IntR.stays hbb10) S3).mono ?_
  rintro e y11 ⟨Bx3, dx3, rfl, hcpx3, tx3, hq11⟩
  have M0 := M0.below hq11
  have M1 := M1.below hq11
  have hbb11 := (hbb10).trans (hq11.mono (hbb10).size)
  have tw := tw.below IntR.stays hq11
  have tx0 := tx0.below TbR.stays hq11
  have tx1 := tx1.below DtR.stays hq11
  have M3 : mayMark y8.heap.size y11.heap.size y11 (okF _ y11) := fun b hb => ⟨Nat.le_trans hmx hb.1, hb.2.1, hb.2.1, hb.2.2⟩
  have hmx : y8.heap.size ≤ y11.heap.size := Nat.le_trans hmx (hq11).size
  go_wp2_with fail
  refine (lawsToValL a4 x4.length cap4 x4 _ _ (h4.below VlR.stays hbb11) S4.out).mono ?_
  rintro e y12 ⟨Bx4, dx4, rfl, hcpx4, tx4, hq12⟩
  have M0 := M0.below hq12
  have M1 := M1.below hq12
  have M3 := M3.below hq12
  have hbb12 := (hbb11).trans (hq12.mono (hbb11).size)
  have tw := tw.below IntR.stays hq12
  have tx0 := tx0.below TbR.stays hq12
  have tx1 := tx1.below DtR.stays hq12
  have tx3 := tx3.below IntR.stays hq12
  have M4 : mayMark y8.heap.size y12.heap.size y12 (okF _ y12) := fun b hb => ⟨Nat.le_trans hmx hb.1, hb.2.1, hb.2.1, hb.2.2⟩
  have hmx : y8.heap.size ≤ y12.heap.size := Nat.le_trans hmx (hq12).size
  go_wp2_with fail
  have M0 : mayMark y8.heap.size y12.heap.size y12 _ := fun b hb => ⟨(M0 b hb).1, (M0 b hb).2.2.1, (M0 b hb).2.2⟩
  have M1 : mayMark y8.heap.size y12.heap.size y12 _ := fun b hb => ⟨(M1 b hb).1, (M1 b hb).2.2.1, (M1 b hb).2.2⟩
  have M3 : mayMark y8.heap.size y12.heap.size y12 _ := fun b hb => ⟨(M3 b hb).1, (M3 b hb).2.2.1, (M3 b hb).2.2⟩
  have M4 : mayMark y8.heap.size y12.heap.size y12 _ := fun b hb => ⟨(M4 b hb).1, (M4 b hb).2.2.1, (M4 b hb).2.2⟩
  have HMX := Lib.hid hmx
  clear hmx
  refine (implFindRows Bx0 Bx1 Bx3 Bx4 x0.length dx0 x1.length dx1 x3.length dx3 x4.length dx4 x0 x1 a2 x3 x4 _ _ _ _ _ tx0 tx1 tx3 tx4 S0.out S1.out S3 (by have := S4.out; unfold szL at this; omega)).mono ?_
  rintro e y13 ⟨Ag, cg, rfl, hcg, tg, hq13⟩
  have M0 := M0.below hq13
  have M1 := M1.below hq13
  have M3 := M3.below hq13
  have M4 := M4.below hq13
  have hbb13 := (hbb12).trans (hq13.mono (hbb12).size)
  have tw := tw.below IntR.stays hq13
  have tx0 := tx0.below TbR.stays hq13
  have tx1 := tx1.below DtR.stays hq13
  have tx3 := tx3.below IntR.stays hq13
  have tx4 := tx4.below VlR.stays hq13
  have Mg := mayMark_okF (G := y12.heap.size) (Nat.le_refl y13.heap.size)
  go_wp2_with fail
  refine (lawsEqIntL _ _ _ _ _ (findB x0 x1 a2 x3 x4) _ _ _ tg tw (HLN.out)).mono ?_
  rintro e y14 ⟨rfl, hq14⟩
  have M0 := M0.below hq14
  have M1 := M1.below hq14
  have M3 := M3.below hq14
  have M4 := M4.below hq14
  have Mg := Mg.below hq14
  have hbb14 := (hbb13).trans (hq14.mono (hbb13).size)
  have tw := tw.below IntR.stays hq14
  have tx0 := tx0.below TbR.stays hq14
  have tx1 := tx1.below DtR.stays hq14
  have tx3 := tx3.below IntR.stays hq14
  have tx4 := tx4.below VlR.stays hq14
  have tg := tg.below IntR.stays hq14
  go_wp2_with fail
  refine (lawsToTableL a0 x0.length cap0 x0 _ _ (h0.below TbR.stays hbb14) S0.out).mono ?_
  rintro e y15 ⟨Be0, de0, rfl, -, te0, hq15⟩
  have M0 := M0.below hq15
  have M1 := M1.below hq15
  have M3 := M3.below hq15
  have M4 := M4.below hq15
  have Mg := Mg.below hq15
  have hbb15 := (hbb14).trans (hq15.mono (hbb14).size)
  have tw := tw.below IntR.stays hq15
  have tx0 := tx0.below TbR.stays hq15
  have tx1 := tx1.below DtR.stays hq15
  have tx3 := tx3.below IntR.stays hq15
  have tx4 := tx4.below VlR.stays hq15
  have tg := tg.below IntR.stays hq15
  go_wp2_with fail
  refine (lawsEqTableL _ _ _ _ _ x0 _ _ _ tx0 te0 S0.out).mono ?_
  rintro e y16 ⟨rfl, hq16⟩
  have M0 := M0.below hq16
  have M1 := M1.below hq16
  have M3 := M3.below hq16
  have M4 := M4.below hq16
  have Mg := Mg.below hq16
  have hbb16 := (hbb15).trans (hq16.mono (hbb15).size)
  have tw := tw.below IntR.stays hq16
  have tx0 := tx0.below TbR.stays hq16
  have tx1 := tx1.below DtR.stays hq16
  have tx3 := tx3.below IntR.stays hq16
  have tx4 := tx4.below VlR.stays hq16
  have tg := tg.below IntR.stays hq16
  go_wp2_with fail
  refine (lawsToDataL a1 x1.length cap1 x1 _ _ (h1.below DtR.stays hbb16) S1.out).mono ?_
  rintro e y17 ⟨Be1, de1, rfl, -, te1, hq17⟩
  have M0 := M0.below hq17
  have M1 := M1.below hq17
  have M3 := M3.below hq17
  have M4 := M4.below hq17
  have Mg := Mg.below hq17
  have hbb17 := (hbb16).trans (hq17.mono (hbb16).size)
  have tw := tw.below IntR.stays hq17
  have tx0 := tx0.below TbR.stays hq17
  have tx1 := tx1.below DtR.stays hq17
  have tx3 := tx3.below IntR.stays hq17
  have tx4 := tx4.below VlR.stays hq17
  have tg := tg.below IntR.stays hq17
  go_wp2_with fail
  refine (lawsEqDataL _ _ _ _ _ x1 _ _ _ tx1 te1 S1.out).mono ?_
  rintro e y18 ⟨rfl, hq18⟩
  have M0 := M0.below hq18
  have M1 := M1.below hq18
  have M3 := M3.below hq18
  have M4 := M4.below hq18
  have Mg := Mg.below hq18
  have hbb18 := (hbb17).trans (hq18.mono (hbb17).size)
  have tw := tw.below IntR.stays hq18
  have tx0 := tx0.below TbR.stays hq18
  have tx1 := tx1.below DtR.stays hq18
  have tx3 := tx3.below IntR.stays hq18
  have tx4 := tx4.below VlR.stays hq18
  have tg := tg.below IntR.stays hq18
  go_wp2_with fail
  refine (lawsToIntL a3 x3.length cap3 x3 _ _ (h3.below IntR.stays hbb18) S3).mono ?_
  rintro e y19 ⟨Be3, de3, rfl, -, te3, hq19⟩
  have M0 := M0.below hq19
  have M1 := M1.below hq19
  have M3 := M3.below hq19
  have M4 := M4.below hq19
  have Mg := Mg.below hq19
  have hbb19 := (hbb18).trans (hq19.mono (hbb18).size)
  have tw := tw.below IntR.stays hq19
  have tx0 := tx0.below TbR.stays hq19
  have tx1 := tx1.below DtR.stays hq19
  have tx3 := tx3.below IntR.stays hq19
  have tx4 := tx4.below VlR.stays hq19
  have tg := tg.below IntR.stays hq19
  go_wp2_with fail
  refine (lawsEqIntL _ _ _ _ _ x3 _ _ _ tx3 te3 S3).mono ?_
  rintro e y20 ⟨rfl, hq20⟩
  have M0 := M0.below hq20
  have M1 := M1.below hq20
  have M3 := M3.below hq20
  have M4 := M4.below hq20
  have Mg := Mg.below hq20
  have hbb20 := (hbb19).trans (hq20.mono (hbb19).size)
  have tw := tw.below IntR.stays hq20
  have tx0 := tx0.below TbR.stays hq20
  have tx1 := tx1.below DtR.stays hq20
  have tx3 := tx3.below IntR.stays hq20
  have tx4 := tx4.below VlR.stays hq20
  have tg := tg.below IntR.stays hq20
  go_wp2_with fail
  refine (lawsToValL a4 x4.length cap4 x4 _ _ (h4.below VlR.stays hbb20) S4.out).mono ?_
  rintro e y21 ⟨Be4, de4, rfl, -, te4, hq21⟩
  have M0 := M0.below hq21
  have M1 := M1.below hq21
  have M3 := M3.below hq21
  have M4 := M4.below hq21
  have Mg := Mg.below hq21
  have hbb21 := (hbb20).trans (hq21.mono (hbb20).size)
  have tw := tw.below IntR.stays hq21
  have tx0 := tx0.below TbR.stays hq21
  have tx1 := tx1.below DtR.stays hq21
  have tx3 := tx3.below IntR.stays hq21
  have tx4 := tx4.below VlR.stays hq21
  have tg := tg.below IntR.stays hq21
  go_wp2_with fail
  refine (lawsEqValL _ _ _ _ _ x4 _ _ _ tx4 te4 S4.out).mono ?_
  rintro e y22 ⟨rfl, hq22⟩
  have M0 := M0.below hq22
  have M1 := M1.below hq22
  have M3 := M3.below hq22
  have M4 := M4.below hq22
  have Mg := Mg.below hq22
  have hbb22 := (hbb21).trans (hq22.mono (hbb21).size)
  have tw := tw.below IntR.stays hq22
  have tx0 := tx0.below TbR.stays hq22
  have tx1 := tx1.below DtR.stays hq22
  have tx3 := tx3.below IntR.stays hq22
  have tx4 := tx4.below VlR.stays hq22
  have tg := tg.below IntR.stays hq22
  go_wp2_with fail
  have hbd0 : (x0.map Tb.cnt).sum ≤ 6291456 := by have h1 := sum_le_of (f := Tb.cnt) (g := Tb.sz) 6 Tb.cnt_le x0; have h2 := S0.out; omega
  generalize hsm0 : (x0.map Tb.cnt).sum = sm0 at hbd0
  have HSM0 := Lib.hid hsm0
  clear hsm0
  have sh0 := tx0.toSh Tb.toSh (fun y hy => by have h1 := szL_mem Tb.sz x0 y hy; have h2 := S0.out; omega)
  clear tx0
  have sh1 := tx1.toSh Dt.toSh (fun y hy => by have h1 := szL_mem Dt.sz x1 y hy; have h2 := S1.out; omega)
  clear tx1
  have sh3 := tx3.toSh Int.toSh (fun _ _ => trivial)
  clear tx3
  have sh4 := tx4.toSh Vl.toSh (fun _ _ => trivial)
  clear tx4
  refine (marksTableL _ _ _ _ _ y8.heap.size y12.heap.size (1) _ sh0 M0 (by rw [HSM0.out]; omega) (by have h2 := S0.out; (try unfold szL at h2); omega) (by first | rfl | omega)).mono ?_
  rintro e y23 ⟨rfl, hq23⟩
  have hbb23 := Kept.toBelow (hbb22) hq23 HBG.out (hbb22).size
  have M0 := M0.kept hq23
  have M1 := M1.kept hq23
  have M3 := M3.kept hq23
  have M4 := M4.kept hq23
  have Mg := Mg.kept hq23
  have tw := tw.kept IntR.stays hq23 (fun b hb => Or.inl hb.2.1)
  have tg := tg.kept IntR.stays hq23 (fun b hb => Or.inr hb.1)
  rw [HSM0.out]
  have sh1 := sh1.shape DtSh.keeps hq23
  have sh3 := sh3.shape (ShF.keeps 1) hq23
  have sh4 := sh4.shape (ShF.keeps 3) hq23
  clear sh0
  go_wp2_with fail
  have hbd1 : (x1.map Dt.cnt).sum ≤ 6291456 := by have h1 := sum_le_of (f := Dt.cnt) (g := Dt.sz) 6 Dt.cnt_le x1; have h2 := S1.out; omega
  generalize hsm1 : (x1.map Dt.cnt).sum = sm1 at hbd1
  have HSM1 := Lib.hid hsm1
  clear hsm1
  refine (marksDataL _ _ _ _ _ y8.heap.size y12.heap.size (1 + sm0) _ sh1 M1 (by rw [HSM1.out]; omega) (by have h2 := S1.out; (try unfold szL at h2); omega) (by first | rfl | omega)).mono ?_
  rintro e y24 ⟨rfl, hq24⟩
  have hbb24 := Kept.toBelow (hbb23) hq24 HBG.out (hbb23).size
  have M0 := M0.kept hq24
  have M1 := M1.kept hq24
  have M3 := M3.kept hq24
  have M4 := M4.kept hq24
  have Mg := Mg.kept hq24
  have tw := tw.kept IntR.stays hq24 (fun b hb => Or.inl hb.2.1)
  have tg := tg.kept IntR.stays hq24 (fun b hb => Or.inr hb.1)
  rw [HSM1.out]
  have sh3 := sh3.shape (ShF.keeps 1) hq24
  have sh4 := sh4.shape (ShF.keeps 3) hq24
  clear sh1
  go_wp2_with fail
  have hbd3 : (x3.map (fun _ : Int => 1)).sum ≤ 6291456 := by have h1 := sum_ones x3; have h2 := S3; omega
  generalize hsm3 : (x3.map (fun _ : Int => 1)).sum = sm3 at hbd3
  have HSM3 := Lib.hid hsm3
  clear hsm3
  refine (marksIntL _ _ _ _ _ y8.heap.size y12.heap.size (1 + sm0 + sm1) _ sh3 M3 (by rw [HSM3.out]; omega) (by have h2 := S3; (try unfold szL at h2); omega) (by first | rfl | omega)).mono ?_
  rintro e y25 ⟨rfl, hq25⟩
  have hbb25 := Kept.toBelow (hbb24) hq25 HBG.out (hbb24).size
  have M0 := M0.kept hq25
  have M1 := M1.kept hq25
  have M3 := M3.kept hq25
  have M4 := M4.kept hq25
  have Mg := Mg.kept hq25
  have tw := tw.kept IntR.stays hq25 (fun b hb => Or.inl hb.2.1)
  have tg := tg.kept IntR.stays hq25 (fun b hb => Or.inr hb.1)
  rw [HSM3.out]
  have sh4 := sh4.shape (ShF.keeps 3) hq25
  clear sh3
  go_wp2_with fail
  have hbd4 : (x4.map (fun _ : Vl => 3)).sum ≤ 6291456 := by have h1 := sum_le_of (f := (fun _ : Vl => 3)) (g := fun v : Vl => v.s.size) 6 (fun _ => by omega) x4; have h2 := S4.out; omega
  generalize hsm4 : (x4.map (fun _ : Vl => 3)).sum = sm4 at hbd4
  have HSM4 := Lib.hid hsm4
  clear hsm4
  refine (marksValL _ _ _ _ _ y8.heap.size y12.heap.size (1 + sm0 + sm1 + sm3) _ sh4 M4 (by rw [HSM4.out]; omega) (by have h2 := S4.out; (try unfold szL at h2); omega) (by first | rfl | omega)).mono ?_
  rintro e y26 ⟨rfl, hq26⟩
  have hbb26 := Kept.toBelow (hbb25) hq26 HBG.out (hbb25).size
  have M0 := M0.kept hq26
  have M1 := M1.kept hq26
  have M3 := M3.kept hq26
  have M4 := M4.kept hq26
  have Mg := Mg.kept hq26
  have tw := tw.kept IntR.stays hq26 (fun b hb => Or.inl hb.2.1)
  have tg := tg.kept IntR.stays hq26 (fun b hb => Or.inr hb.1)
  rw [HSM4.out]
  clear sh4
  generalize hkk : 1 + sm0 + sm1 + sm3 + sm4 = kk
  have hk1 : 1 ≤ kk := by omega
  have hk2 : (0 : Int) ≤ (kk : Int) := by omega
  have hk3 : decide ((kk : Int) < 0) = false := by rw [decide_eq_false_iff_not]; omega
  clear hkk
  go_wp2_with fail
  refine (lawsEqIntL _ _ _ _ _ (findB x0 x1 a2 x3 x4) _ _ _ tg tw (HLN.out)).mono ?_
  rintro e y27 ⟨rfl, hq27⟩
  have M0 := M0.below hq27
  have M1 := M1.below hq27
  have M3 := M3.below hq27
  have M4 := M4.below hq27
  have Mg := Mg.below hq27
  have hbb27 := (hbb26).trans (hq27.mono (hbb26).size)
  have tw := tw.below IntR.stays hq27
  have tg := tg.below IntR.stays hq27
  go_wp2_with fail
  have shg := tg.toSh Int.toSh (fun _ _ => trivial)
  have HBX := Lib.hid (Nat.le_trans HBG.out HMX.out)
  clear tg
  have HBG := HBX
  refine (marksXIntL _ _ _ _ _ y12.heap.size _ 1 _ shg Mg (by have := HLN.out; omega) (by have := HLN.out; omega) (by first | rfl | omega)).mono ?_
  rintro e y28 ⟨rfl, hq28, mg⟩
  have hbb28 := Kept.toBelow (hbb27) hq28 HBG.out (hbb27).size
  have M0 := M0.kept hq28
  have M1 := M1.kept hq28
  have M3 := M3.kept hq28
  have M4 := M4.kept hq28
  have Mg := Mg.kept hq28
  have tw := tw.kept IntR.stays hq28 (fun b hb => Or.inl (Nat.lt_of_lt_of_le hb.2.1 HMX.out))
  clear shg
  go_wp2_with fail
  refine (heldXIntL _ _ _ 1 _ mg (by have := HLN.out; omega) (by have := HLN.out; omega) (by first | rfl | omega)).mono ?_
  rintro e y29 ⟨rfl, hq29⟩
  have M0 := M0.below hq29
  have M1 := M1.below hq29
  have M3 := M3.below hq29
  have M4 := M4.below hq29
  have Mg := Mg.below hq29
  have hbb29 := (hbb28).trans (hq29.mono (hbb28).size)
  have tw := tw.below IntR.stays hq29
  have mg := mg.below hq29
  have hp : decide (((1 + (findB x0 x1 a2 x3 x4).length * 1 : Nat) : Int) < 0) = false := by rw [decide_eq_false_iff_not]; omega
  go_wp2_with fail
  clear hp
  refine (lawsToTableL a0 x0.length cap0 x0 _ _ (h0.below TbR.stays hbb29) S0.out).mono ?_
  rintro e y30 ⟨Bh0, dh0, rfl, hcph0, th0, hq30⟩
  have hbb30 := (hbb29).trans (hq30.mono (hbb29).size)
  have tw := tw.below IntR.stays hq30
  have mg := mg.below hq30
  go_wp2_with fail
  refine (lawsToDataL a1 x1.length cap1 x1 _ _ (h1.below DtR.stays hbb30) S1.out).mono ?_
  rintro e y31 ⟨Bh1, dh1, rfl, hcph1, th1, hq31⟩
  have hbb31 := (hbb30).trans (hq31.mono (hbb30).size)
  have tw := tw.below IntR.stays hq31
  have th0 := th0.below TbR.stays hq31
  have mg := mg.below hq31
  go_wp2_with fail
  refine (lawsToIntL a3 x3.length cap3 x3 _ _ (h3.below IntR.stays hbb31) S3).mono ?_
  rintro e y32 ⟨Bh3, dh3, rfl, hcph3, th3, hq32⟩
  have hbb32 := (hbb31).trans (hq32.mono (hbb31).size)
  have tw := tw.below IntR.stays hq32
  have th0 := th0.below TbR.stays hq32
  have th1 := th1.below DtR.stays hq32
  have mg := mg.below hq32
  go_wp2_with fail
  refine (lawsToValL a4 x4.length cap4 x4 _ _ (h4.below VlR.stays hbb32) S4.out).mono ?_
  rintro e y33 ⟨Bh4, dh4, rfl, hcph4, th4, hq33⟩
  have hbb33 := (hbb32).trans (hq33.mono (hbb32).size)
  have tw := tw.below IntR.stays hq33
  have th0 := th0.below TbR.stays hq33
  have th1 := th1.below DtR.stays hq33
  have th3 := th3.below IntR.stays hq33
  have mg := mg.below hq33
  go_wp2_with fail
  refine (implFindRows Bh0 Bh1 Bh3 Bh4 x0.length dh0 x1.length dh1 x3.length dh3 x4.length dh4 x0 x1 a2 x3 x4 _ _ _ _ _ th0 th1 th3 th4 S0.out S1.out S3 (by have := S4.out; unfold szL at this; omega)).mono ?_
  rintro e y34 ⟨Ah, ch, rfl, hch, th, hq34⟩
  have hbb34 := (hbb33).trans (hq34.mono (hbb33).size)
  have tw := tw.below IntR.stays hq34
  have th0 := th0.below TbR.stays hq34
  have th1 := th1.below DtR.stays hq34
  have th3 := th3.below IntR.stays hq34
  have th4 := th4.below VlR.stays hq34
  have mg := mg.below hq34
  clear th0
  clear th1
  clear th3
  clear th4
  go_wp2_with fail
  refine (lawsEqIntL _ _ _ _ _ (findB x0 x1 a2 x3 x4) _ _ _ th tw (HLN.out)).mono ?_
  rintro e y35 ⟨rfl, hq35⟩
  have hbb35 := (hbb34).trans (hq35.mono (hbb34).size)
  have tw := tw.below IntR.stays hq35
  have th := th.below IntR.stays hq35
  have mg := mg.below hq35
  go_wp2_with fail
  refine (heldXIntL _ _ _ 1 _ mg (by have := HLN.out; omega) (by have := HLN.out; omega) (by first | rfl | omega)).mono ?_
  rintro e y36 ⟨rfl, hq36⟩
  have hbb36 := (hbb35).trans (hq36.mono (hbb35).size)
  have tw := tw.below IntR.stays hq36
  have th := th.below IntR.stays hq36
  have mg := mg.below hq36
  have hp : decide (((1 + (findB x0 x1 a2 x3 x4).length * 1 : Nat) : Int) < 0) = false := by rw [decide_eq_false_iff_not]; omega
  go_wp2_with fail
  clear hp
  go_ret
  exact ⟨rfl, hbb36⟩

set_option maxRecDepth 100000 in
theorem lifted (os : Os) (started : os.Started) (H : Type) (enc : TypeId × Value → H) :
    ReturnsInHanded {} Tryz.checked os 6 .any (Rows.fnExactFindRowsSpec.pre6 enc Tryz.prog Tryz.f6 Rows.fnExactFindRowsRow.domain false) (Rows.fnExactFindRowsSpec.post enc Tryz.prog Tryz.f6 false true false false) := by
  refine returnsInHanded_of_change (C := Tryz.checked) own started (by kernel_rfl) Tryz.func6
    (ChangeSpec.witness6 (enc := enc) (C := Tryz.checked) false ⟨#[], #[.slice none 0 0, .slice none 0 0, .int .i64 0, .slice none 0 0, .slice none 0 0], []⟩ 8 (by kernel_rfl) (by kernel_rfl) (by kernel_rfl) (by kernel_rfl)) ?_
  intro W base args ds gs before hval0 hW hcnd _
  have hval : ∀ (j : Nat) t v, Tryz.f6.params[j]? = some t → args[j]? = some v → Value.okWide Tryz.prog W .any base t v := hval0
  have hW' := hW
  obtain ⟨p, q, hA0, hV, rfl, hfz, hnd⟩ := hW
  have hA : DataW.TrodAll enc Tryz.prog W 0 (fun _ => true) true Tryz.f6.params.toList args.toList ds p := hA0
  rw [Tryz.params6] at hA hval
  obtain ⟨v0, vs0, d0, ds0, p0, q0, hargs, rfl, rfl, h0, r0⟩ := trodAll_cons hA
  obtain ⟨v1, vs1, d1, ds1, p1, q1, rfl, rfl, rfl, h1, r1⟩ := trodAll_cons r0
  obtain ⟨v2, vs2, d2, ds2, p2, q2, rfl, rfl, rfl, h2, r2⟩ := trodAll_cons r1
  obtain ⟨v3, vs3, d3, ds3, p3, q3, rfl, rfl, rfl, h3, r3⟩ := trodAll_cons r2
  obtain ⟨v4, vs4, d4, ds4, p4, q4, rfl, rfl, rfl, h4, r4⟩ := trodAll_cons r3
  obtain ⟨rfl, rfl, rfl⟩ := trodAll_nil r4
  obtain rfl : args = #[v0, v1, v2, v3, v4] := by cases args; simp_all
  obtain ⟨rfl, rfl⟩ := trodVars_none hV
  have k0' := h0
  have lt0 : ∀ x ∈ p0, x.block < W.heap.size := by obtain ⟨m, hm⟩ := k0'; exact DataW.trod_lt m _ _ _ hm
  have k1' := h1
  have lt1 : ∀ x ∈ p1, x.block < W.heap.size := by obtain ⟨m, hm⟩ := k1'; exact DataW.trod_lt m _ _ _ hm
  have k2' := h2
  have lt2 : ∀ x ∈ p2, x.block < W.heap.size := by obtain ⟨m, hm⟩ := k2'; exact DataW.trod_lt m _ _ _ hm
  have k3' := h3
  have lt3 : ∀ x ∈ p3, x.block < W.heap.size := by obtain ⟨m, hm⟩ := k3'; exact DataW.trod_lt m _ _ _ hm
  have k4' := h4
  have lt4 : ∀ x ∈ p4, x.block < W.heap.size := by obtain ⟨m, hm⟩ := k4'; exact DataW.trod_lt m _ _ _ hm
  obtain ⟨a0, len0, cap0, rfl⟩ := okWide_slice Tryz.underlying22 (hval 0 22 v0 rfl rfl)
  obtain ⟨x0, w0⟩ := (by obtain ⟨m, hm⟩ := h0; exact TableL_of_trod (by simpa [Value.cells] using hm) : ∃ ds : List Tb, Sl TbR 6 (fun _ => True) W a0 len0 ds ∧ (ds.length ≤ maxLen ∧ ∀ y ∈ ds, y.wf))
  obtain ⟨a1, len1, cap1, rfl⟩ := okWide_slice Tryz.underlying33 (hval 1 33 v1 rfl rfl)
  obtain ⟨x1, w1⟩ := (by obtain ⟨m, hm⟩ := h1; exact DataL_of_trod (by simpa [Value.cells] using hm) : ∃ ds : List Dt, Sl DtR 1 (fun _ => True) W a1 len1 ds ∧ (ds.length ≤ maxLen ∧ ∀ y ∈ ds, y.wf))
  obtain ⟨a2, rfl, rfl, rfl, w2⟩ := open_int Tryz.underlying2 (hval 2 2 v2 rfl rfl) h2
  obtain ⟨a3, len3, cap3, rfl⟩ := okWide_slice Tryz.underlying24 (hval 3 24 v3 rfl rfl)
  obtain ⟨x3, w3⟩ := (by obtain ⟨m, hm⟩ := h3; exact IntL_of_trod (by simpa [Value.cells] using hm) : ∃ ds, Sl IntR 1 (fun _ => True) W a3 len3 ds ∧ ds.length ≤ maxLen)
  obtain ⟨a4, len4, cap4, rfl⟩ := okWide_slice Tryz.underlying44 (hval 4 44 v4 rfl rfl)
  obtain ⟨x4, w4⟩ := vals_of_trod h4
  clear hA0 hval0
  refine (walk a0 len0 cap0 x0 a1 len1 cap1 x1 a2 a3 len3 cap3 x3 a4 len4 cap4 x4 W w0 w1 w2 w3 w4).mono fun e W' ⟨he, bel⟩ => ?_
  subst he
  exact ⟨_, rfl, _, _, _, [], _, [], hW', trodAll_mk1 (shut_bool Tryz.underlying4 _), (trodAll_cons_mk (Below.trod laidOut (by kernel_rfl) (of_decide_eq_true (by kernel_rfl)) k0' bel lt0) (trodAll_cons_mk (Below.trod laidOut (by kernel_rfl) (of_decide_eq_true (by kernel_rfl)) k1' bel lt1) (trodAll_cons_mk (Below.trod laidOut (by kernel_rfl) (of_decide_eq_true (by kernel_rfl)) k2' bel lt2) (trodAll_cons_mk (Below.trod laidOut (by kernel_rfl) (of_decide_eq_true (by kernel_rfl)) k3' bel lt3) (trodAll_cons_mk (Below.trod laidOut (by kernel_rfl) (of_decide_eq_true (by kernel_rfl)) k4' bel lt4) trodAll_mk0))))), rfl, bel.frame _, fun h => by cases h⟩

theorem over : Rows.fnExactFindRowsRow.holds Tryz.pinned (OpenSpec.ofChange Rows.fnExactFindRowsSpec) :=
  OpenClaim.holds_of_wide 6 Tryz.f6 rfl rfl rfl rfl rfl rfl rfl ⟨rfl, rfl, rfl, rfl, rfl⟩ rfl rfl rfl rfl rfl (by kernel_rfl) Tryz.func6 (by kernel_rfl)
    (of_decide_eq_true (by kernel_rfl)) (by unfold Func.isWrapper; first | (rw [if_pos (by decide +kernel)]; kernel_rfl) | (rw [if_neg (by decide +kernel)]; exact ⟨rfl, rfl⟩))
    (fun os started H enc _ => lifted os started H enc)

theorem proved : Rows.FnExactFindRowsSaid := over
#print axioms proved
end Go.Proofs.YtgmgjjoalpnmhaaGreat.fnExactFindRows
