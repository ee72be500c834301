/-
  IndexOf answers as the model at every schema, database, table and list of columns, in memory of its own (law FnExactIndexOf, for every input).
-/
import Derived.Test.YtemimhghhihllaaGreatUa
import Derived.Test.YtemimhghhihllaaGreatUb
import Derived.Test.YtemimhghhihllaaGreatUc
import Derived.Test.YtemimhghhihllaaGreatUd
import Derived.Test.YtemimhghhihllaaGreatUe
import Derived.Test.YtemimhghhihllaaGreatUf
namespace Go.Proofs.YtemimhghhihllaaGreat.fnExactIndexOf
open Go.ChangeShapes Go.WideShapes Go.ChangeAt Go.RowKit Go.Joins
open Go.ChangeMaps (open_string shut_string)
set_option linter.unusedVariables false

set_option maxRecDepth 100000 in
set_option maxHeartbeats 2000000 in
theorem walk (a0 : Option Addr) (len0 cap0 : Nat) (x0 : List Tb) (a1 : Option Addr) (len1 cap1 : Nat) (x1 : List Dt) (a2 : Int) (a3 : Option Addr) (len3 cap3 : Nat) (x3 : List Int) (w : World) (w0 : Sl TbR 6 (fun _ => True) w a0 len0 x0 ∧ (x0.length ≤ maxLen ∧ ∀ y ∈ x0, y.wf)) (w1 : Sl DtR 1 (fun _ => True) w a1 len1 x1 ∧ (x1.length ≤ maxLen ∧ ∀ y ∈ x1, y.wf)) (w2 : (Lit.int .i64 a2).wf = true) (w3 : Sl IntR 1 (fun _ => True) w a3 len3 x3 ∧ x3.length ≤ maxLen) :
    Calls Tryz.prog 4 #[.slice a0 len0 cap0, .slice a1 len1 cap1, .int .i64 a2, .slice a3 len3 cap3] w fun e w' => e = .returned (.bool true) ∧ Below w.heap.size w w' := by
  obtain ⟨h0, wf0⟩ := w0
  obtain rfl : x0.length = len0 := h0.1
  have WF0 := Lib.hid wf0
  clear wf0
  obtain ⟨h1, wf1⟩ := w1
  obtain rfl : x1.length = len1 := h1.1
  have WF1 := Lib.hid wf1
  clear wf1
  obtain ⟨h3, wf3⟩ := w3
  obtain rfl : x3.length = len3 := h3.1
  have hb0 := (Below.refl w.heap.size w)
  unfold maxLen at wf3
  by_cases hlong3 : (1048576 : Int) < (x3.length : Int)
  · go_enter Tryz.func4, Tryz.ntmps4
    go_wp2
    go_ret
    exact ⟨rfl, hb0⟩
  have hlong3' : decide ((1048576 : Int) < (x3.length : Int)) = false := by simpa using hlong3
  have S3 : x3.length ≤ 1048576 := by omega
  go_enter Tryz.func4, Tryz.ntmps4
  go_wp2_with fail
  refine (lawsSzTableL a0 x0.length cap0 x0 1048576 _ _ (h0.below TbR.stays hb0) WF0.out (by omega) (by omega)).mono ?_
  rintro e y1 ⟨rfl, hq1⟩
  have hbb1 := (hb0).trans (hq1.mono (hb0).size)
  rcases szR_cases 1048576 (szL Tb.sz x0) (by omega) with ⟨hno1, hv1⟩ | ⟨l1, hv1, -, h01, h11, hle1⟩
  · rw [hv1.out]
    go_wp2
    go_ret
    exact ⟨rfl, hbb1⟩
  rw [hv1.out]
  have S0 := Lib.hid (show szL Tb.sz x0 ≤ 1048576 by omega)
  clear hle1
  go_wp2_with fail
  refine (lawsSzDataL a1 x1.length cap1 x1 l1 _ _ (h1.below DtR.stays hbb1) WF1.out (by omega) (by omega)).mono ?_
  rintro e y2 ⟨rfl, hq2⟩
  have hbb2 := (hbb1).trans (hq2.mono (hbb1).size)
  rcases szR_cases l1 (szL Dt.sz x1) (by omega) with ⟨hno2, hv2⟩ | ⟨l2, hv2, -, h02, h12, hle2⟩
  · rw [hv2.out]
    go_wp2
    go_ret
    exact ⟨rfl, hbb2⟩
  rw [hv2.out]
  have S1 := Lib.hid (show szL Dt.sz x1 ≤ 1048576 by omega)
  clear hle2
  go_wp2_with fail
  have HLN := Lib.hid (ixL_sz x0 x1 a2 x3)
  have HIK := Lib.hid (ents_len (ixL_sz x0 x1 a2 x3))
  have HIL := Lib.hid (show (ixL x0 x1 a2 x3).length ≤ 1048576 by have h2 := ixL_sz x0 x1 a2 x3; unfold szL at h2; omega)
  have HMS := Lib.hid (show 1 + ((ixL x0 x1 a2 x3).map En.marks).sum ≤ 1073741824 from ents_marks (ixL_sz x0 x1 a2 x3))
  refine (lawsToTableL a0 x0.length cap0 x0 _ _ (h0.below TbR.stays hbb2) S0.out).mono ?_
  rintro e y3 ⟨Bs0, ds0, rfl, hcps0, ts0, hq3⟩
  have hbb3 := (hbb2).trans (hq3.mono (hbb2).size)
  go_wp2_with fail
  refine (lawsToDataL a1 x1.length cap1 x1 _ _ (h1.below DtR.stays hbb3) S1.out).mono ?_
  rintro e y4 ⟨Bs1, ds1, rfl, hcps1, ts1, hq4⟩
  have hbb4 := (hbb3).trans (hq4.mono (hbb3).size)
  have ts0 := ts0.below TbR.stays hq4
  go_wp2_with fail
  refine (lawsToIntL a3 x3.length cap3 x3 _ _ (h3.below IntR.stays hbb4) S3).mono ?_
  rintro e y5 ⟨Bs3, ds3, rfl, hcps3, ts3, hq5⟩
  have hbb5 := (hbb4).trans (hq5.mono (hbb4).size)
  have ts0 := ts0.below TbR.stays hq5
  have ts1 := ts1.below DtR.stays hq5
  go_wp2_with fail
  refine (specIndexOf Bs0 Bs1 Bs3 x0.length ds0 x1.length ds1 x3.length ds3 a2 x0 x1 x3 _ _ _ _ ts0 ts1 ts3 hcps0 hcps3 S0.out S1.out S3).mono ?_
  rintro e y6 ⟨vw, rfl, ow, hq6⟩
  have hbb6 := (hbb5).trans (hq6.mono (hbb5).size)
  have ts0 := ts0.below TbR.stays hq6
  have ts1 := ts1.below DtR.stays hq6
  have ts3 := ts3.below IntR.stays hq6
  obtain ⟨Aw, cw, rfl, hcw, -, tw⟩ := OwnE.sl ow
  clear ow
  clear ts0 ts1 ts3
  have hBG : w.heap.size ≤ y6.heap.size := (hbb6).size
  have HBG := Lib.hid hBG
  clear hBG
  go_wp2_with fail
  refine (lawsToTableL a0 x0.length cap0 x0 _ _ (h0.below TbR.stays hbb6) S0.out).mono ?_
  rintro e y7 ⟨Bx0, dx0, rfl, hcpx0, tx0, hq7⟩
  have hbb7 := (hbb6).trans (hq7.mono (hbb6).size)
  have tw := tw.below EnR.stays hq7
  have M0 : mayMark y6.heap.size y7.heap.size y7 (okF _ y7) := fun b hb => ⟨Nat.le_trans (Nat.le_refl _) hb.1, hb.2.1, hb.2.1, hb.2.2⟩
  have hmx : y6.heap.size ≤ y7.heap.size := (hq7).size
  go_wp2_with fail
  refine (lawsToDataL a1 x1.length cap1 x1 _ _ (h1.below DtR.stays hbb7) S1.out).mono ?_
  rintro e y8 ⟨Bx1, dx1, rfl, hcpx1, tx1, hq8⟩
  have M0 := M0.below hq8
  have hbb8 := (hbb7).trans (hq8.mono (hbb7).size)
  have tw := tw.below EnR.stays hq8
  have tx0 := tx0.below TbR.stays hq8
  have M1 : mayMark y6.heap.size y8.heap.size y8 (okF _ y8) := fun b hb => ⟨Nat.le_trans hmx hb.1, hb.2.1, hb.2.1, hb.2.2⟩
  have hmx : y6.heap.size ≤ y8.heap.size := Nat.le_trans hmx (hq8).size
  go_wp2_with fail
  refine (lawsToIntL a3 x3.length cap3 x3 _ _ (h3.below IntR.stays hbb8) S3).mono ?_
  rintro e y9 ⟨Bx3, dx3, rfl, hcpx3, tx3, hq9⟩
  have M0 := M0.below hq9
  have M1 := M1.below hq9
  have hbb9 := (hbb8).trans (hq9.mono (hbb8).size)
  have tw := tw.below EnR.stays hq9
  have tx0 := tx0.below TbR.stays hq9
  have tx1 := tx1.below DtR.stays hq9
  have M3 : mayMark y6.heap.size y9.heap.size y9 (okF _ y9) := fun b hb => ⟨Nat.le_trans hmx hb.1, hb.2.1, hb.2.1, hb.2.2⟩
  have hmx : y6.heap.size ≤ y9.heap.size := Nat.le_trans hmx (hq9).size
  go_wp2_with fail
  have M0 : mayMark y6.heap.size y9.heap.size y9 _ := fun b hb => ⟨(M0 b hb).1, (M0 b hb).2.2.1, (M0 b hb).2.2⟩
  have M1 : mayMark y6.heap.size y9.heap.size y9 _ := fun b hb => ⟨(M1 b hb).1, (M1 b hb).2.2.1, (M1 b hb).2.2⟩
  have M3 : mayMark y6.heap.size y9.heap.size y9 _ := fun b hb => ⟨(M3 b hb).1, (M3 b hb).2.2.1, (M3 b hb).2.2⟩
  have HMX := Lib.hid hmx
  clear hmx
  refine (implIndexOf Bx0 Bx1 Bx3 x0.length dx0 x1.length dx1 x3.length dx3 a2 x0 x1 x3 _ _ _ _ tx0 tx1 tx3 S0.out S1.out S3).mono ?_
  rintro e y10 ⟨vg, rfl, og, hq10⟩
  have M0 := M0.below hq10
  have M1 := M1.below hq10
  have M3 := M3.below hq10
  have hbb10 := (hbb9).trans (hq10.mono (hbb9).size)
  have tw := tw.below EnR.stays hq10
  have tx0 := tx0.below TbR.stays hq10
  have tx1 := tx1.below DtR.stays hq10
  have tx3 := tx3.below IntR.stays hq10
  obtain ⟨Ag, cg, bsg, rfl, shg, hbg⟩ := OwnE.sh og HIL.out HIK.out
  obtain ⟨Ag', cg', eg, -, -, tg⟩ := OwnE.sl og
  cases eg
  clear og
  have HBS := Lib.hid hbg
  clear hbg
  go_wp2_with fail
  refine (lawsEqEntryL _ _ _ _ _ (ixL x0 x1 a2 x3) _ _ _ tg tw HLN.out).mono ?_
  rintro e y11 ⟨rfl, hq11⟩
  have M0 := M0.below hq11
  have M1 := M1.below hq11
  have M3 := M3.below hq11
  have hbb11 := (hbb10).trans (hq11.mono (hbb10).size)
  have tw := tw.below EnR.stays hq11
  have tx0 := tx0.below TbR.stays hq11
  have tx1 := tx1.below DtR.stays hq11
  have tx3 := tx3.below IntR.stays hq11
  have tg := tg.below EnR.stays hq11
  have shg := shg.stay EnS.stay (bs' := []) (KeptL.below hq11) (fun _ _ => List.not_mem_nil)
  go_wp2_with fail
  refine (lawsToTableL a0 x0.length cap0 x0 _ _ (h0.below TbR.stays hbb11) S0.out).mono ?_
  rintro e y12 ⟨Be0, de0, rfl, -, te0, hq12⟩
  have M0 := M0.below hq12
  have M1 := M1.below hq12
  have M3 := M3.below hq12
  have hbb12 := (hbb11).trans (hq12.mono (hbb11).size)
  have tw := tw.below EnR.stays hq12
  have tx0 := tx0.below TbR.stays hq12
  have tx1 := tx1.below DtR.stays hq12
  have tx3 := tx3.below IntR.stays hq12
  have tg := tg.below EnR.stays hq12
  have shg := shg.stay EnS.stay (bs' := []) (KeptL.below hq12) (fun _ _ => List.not_mem_nil)
  go_wp2_with fail
  refine (lawsEqTableL _ _ _ _ _ x0 _ _ _ tx0 te0 S0.out).mono ?_
  rintro e y13 ⟨rfl, hq13⟩
  have M0 := M0.below hq13
  have M1 := M1.below hq13
  have M3 := M3.below hq13
  have hbb13 := (hbb12).trans (hq13.mono (hbb12).size)
  have tw := tw.below EnR.stays hq13
  have tx0 := tx0.below TbR.stays hq13
  have tx1 := tx1.below DtR.stays hq13
  have tx3 := tx3.below IntR.stays hq13
  have tg := tg.below EnR.stays hq13
  have shg := shg.stay EnS.stay (bs' := []) (KeptL.below hq13) (fun _ _ => List.not_mem_nil)
  go_wp2_with fail
  refine (lawsToDataL a1 x1.length cap1 x1 _ _ (h1.below DtR.stays hbb13) S1.out).mono ?_
  rintro e y14 ⟨Be1, de1, rfl, -, te1, hq14⟩
  have M0 := M0.below hq14
  have M1 := M1.below hq14
  have M3 := M3.below hq14
  have hbb14 := (hbb13).trans (hq14.mono (hbb13).size)
  have tw := tw.below EnR.stays hq14
  have tx0 := tx0.below TbR.stays hq14
  have tx1 := tx1.below DtR.stays hq14
  have tx3 := tx3.below IntR.stays hq14
  have tg := tg.below EnR.stays hq14
  have shg := shg.stay EnS.stay (bs' := []) (KeptL.below hq14) (fun _ _ => List.not_mem_nil)
  go_wp2_with fail
  refine (lawsEqDataL _ _ _ _ _ x1 _ _ _ tx1 te1 S1.out).mono ?_
  rintro e y15 ⟨rfl, hq15⟩
  have M0 := M0.below hq15
  have M1 := M1.below hq15
  have M3 := M3.below hq15
  have hbb15 := (hbb14).trans (hq15.mono (hbb14).size)
  have tw := tw.below EnR.stays hq15
  have tx0 := tx0.below TbR.stays hq15
  have tx1 := tx1.below DtR.stays hq15
  have tx3 := tx3.below IntR.stays hq15
  have tg := tg.below EnR.stays hq15
  have shg := shg.stay EnS.stay (bs' := []) (KeptL.below hq15) (fun _ _ => List.not_mem_nil)
  go_wp2_with fail
  refine (lawsToIntL a3 x3.length cap3 x3 _ _ (h3.below IntR.stays hbb15) S3).mono ?_
  rintro e y16 ⟨Be3, de3, rfl, -, te3, hq16⟩
  have M0 := M0.below hq16
  have M1 := M1.below hq16
  have M3 := M3.below hq16
  have hbb16 := (hbb15).trans (hq16.mono (hbb15).size)
  have tw := tw.below EnR.stays hq16
  have tx0 := tx0.below TbR.stays hq16
  have tx1 := tx1.below DtR.stays hq16
  have tx3 := tx3.below IntR.stays hq16
  have tg := tg.below EnR.stays hq16
  have shg := shg.stay EnS.stay (bs' := []) (KeptL.below hq16) (fun _ _ => List.not_mem_nil)
  go_wp2_with fail
  refine (lawsEqIntL _ _ _ _ _ x3 _ _ _ tx3 te3 S3).mono ?_
  rintro e y17 ⟨rfl, hq17⟩
  have M0 := M0.below hq17
  have M1 := M1.below hq17
  have M3 := M3.below hq17
  have hbb17 := (hbb16).trans (hq17.mono (hbb16).size)
  have tw := tw.below EnR.stays hq17
  have tx0 := tx0.below TbR.stays hq17
  have tx1 := tx1.below DtR.stays hq17
  have tx3 := tx3.below IntR.stays hq17
  have tg := tg.below EnR.stays hq17
  have shg := shg.stay EnS.stay (bs' := []) (KeptL.below hq17) (fun _ _ => List.not_mem_nil)
  go_wp2_with fail
  have hbd0 : (x0.map Tb.cnt).sum ≤ 6291456 := by have h1 := sum_le_of (f := Tb.cnt) (g := Tb.sz) 6 Tb.cnt_le x0; have h2 := S0.out; omega
  generalize hsm0 : (x0.map Tb.cnt).sum = sm0 at hbd0
  have HSM0 := Lib.hid hsm0
  clear hsm0
  have sh0 := tx0.toSh Tb.toSh (fun y hy => by have h1 := szL_mem Tb.sz x0 y hy; have h2 := S0.out; omega)
  clear tx0
  have sh1 := tx1.toSh Dt.toSh (fun y hy => by have h1 := szL_mem Dt.sz x1 y hy; have h2 := S1.out; omega)
  clear tx1
  have sh3 := tx3.toSh Int.toSh (fun _ _ => trivial)
  clear tx3
  refine (marksTableL _ _ _ _ _ y6.heap.size y9.heap.size (1) _ sh0 M0 (by rw [HSM0.out]; omega) (by have h2 := S0.out; (try unfold szL at h2); omega) (by first | rfl | omega)).mono ?_
  rintro e y18 ⟨rfl, hq18⟩
  have hbb18 := Kept.toBelow (hbb17) hq18 HBG.out (hbb17).size
  have M0 := M0.kept hq18
  have M1 := M1.kept hq18
  have M3 := M3.kept hq18
  have tw := tw.kept EnR.stays hq18 (fun b hb => Or.inl hb.2.1)
  have tg := tg.kept EnR.stays hq18 (fun b hb => Or.inr hb.1)
  have shg := shg.stay EnS.stay (KeptL.range hq18) (not_range HBS.out)
  rw [HSM0.out]
  have sh1 := sh1.shape DtSh.keeps hq18
  have sh3 := sh3.shape (ShF.keeps 1) hq18
  clear sh0
  go_wp2_with fail
  have hbd1 : (x1.map Dt.cnt).sum ≤ 6291456 := by have h1 := sum_le_of (f := Dt.cnt) (g := Dt.sz) 6 Dt.cnt_le x1; have h2 := S1.out; omega
  generalize hsm1 : (x1.map Dt.cnt).sum = sm1 at hbd1
  have HSM1 := Lib.hid hsm1
  clear hsm1
  refine (marksDataL _ _ _ _ _ y6.heap.size y9.heap.size (1 + sm0) _ sh1 M1 (by rw [HSM1.out]; omega) (by have h2 := S1.out; (try unfold szL at h2); omega) (by first | rfl | omega)).mono ?_
  rintro e y19 ⟨rfl, hq19⟩
  have hbb19 := Kept.toBelow (hbb18) hq19 HBG.out (hbb18).size
  have M0 := M0.kept hq19
  have M1 := M1.kept hq19
  have M3 := M3.kept hq19
  have tw := tw.kept EnR.stays hq19 (fun b hb => Or.inl hb.2.1)
  have tg := tg.kept EnR.stays hq19 (fun b hb => Or.inr hb.1)
  have shg := shg.stay EnS.stay (KeptL.range hq19) (not_range HBS.out)
  rw [HSM1.out]
  have sh3 := sh3.shape (ShF.keeps 1) hq19
  clear sh1
  go_wp2_with fail
  have hbd3 : (x3.map (fun _ : Int => 1)).sum ≤ 6291456 := by have h1 := sum_ones x3; have h2 := S3; omega
  generalize hsm3 : (x3.map (fun _ : Int => 1)).sum = sm3 at hbd3
  have HSM3 := Lib.hid hsm3
  clear hsm3
  refine (marksIntL _ _ _ _ _ y6.heap.size y9.heap.size (1 + sm0 + sm1) _ sh3 M3 (by rw [HSM3.out]; omega) (by have h2 := S3; (try unfold szL at h2); omega) (by first | rfl | omega)).mono ?_
  rintro e y20 ⟨rfl, hq20⟩
  have hbb20 := Kept.toBelow (hbb19) hq20 HBG.out (hbb19).size
  have M0 := M0.kept hq20
  have M1 := M1.kept hq20
  have M3 := M3.kept hq20
  have tw := tw.kept EnR.stays hq20 (fun b hb => Or.inl hb.2.1)
  have tg := tg.kept EnR.stays hq20 (fun b hb => Or.inr hb.1)
  have shg := shg.stay EnS.stay (KeptL.range hq20) (not_range HBS.out)
  rw [HSM3.out]
  clear sh3
  generalize hkk : 1 + sm0 + sm1 + sm3 = kk
  have hk1 : 1 ≤ kk := by omega
  have hk2 : (0 : Int) ≤ (kk : Int) := by omega
  have hk3 : decide ((kk : Int) < 0) = false := by rw [decide_eq_false_iff_not]; omega
  clear hkk
  go_wp2_with fail
  refine (lawsEqEntryL _ _ _ _ _ (ixL x0 x1 a2 x3) _ _ _ tg tw HLN.out).mono ?_
  rintro e y21 ⟨rfl, hq21⟩
  have M0 := M0.below hq21
  have M1 := M1.below hq21
  have M3 := M3.below hq21
  have hbb21 := (hbb20).trans (hq21.mono (hbb20).size)
  have tw := tw.below EnR.stays hq21
  have tg := tg.below EnR.stays hq21
  have shg := shg.stay EnS.stay (bs' := []) (KeptL.below hq21) (fun _ _ => List.not_mem_nil)
  go_wp2_with fail
  clear tg
  have HBX := Lib.hid (Nat.le_trans HBG.out HMX.out)
  have HSG := Lib.hid (show ∀ b ∈ bsg, w.heap.size ≤ b from fun b hb => Nat.le_trans HBX.out (HBS.out b hb))
  refine (marksOEntL _ _ _ _ _ 1 _ shg HMS.out (by first | rfl | omega)).mono ?_
  rintro e y22 ⟨rfl, hq22, mg⟩
  have hbb22 := KeptL.toBelow (hbb21) hq22 HSG.out (hbb21).size
  have tw := tw.keptL EnR.stays hq22 (fun b hb hh => by have h1 := HBS.out b hh; have h2 := hb.2.1; have h3 := HMX.out; omega)
  clear shg
  go_wp2_with fail
  refine (heldOEntL _ _ _ _ _ 1 _ mg HMS.out (by first | rfl | omega)).mono ?_
  rintro e y23 ⟨rfl, hq23⟩
  have hbb23 := (hbb22).trans (hq23.mono (hbb22).size)
  have tw := tw.below EnR.stays hq23
  have mg := mg.below EnH.stay hq23
  have hp : decide (((1 + ((ixL x0 x1 a2 x3).map En.marks).sum : Nat) : Int) < 0) = false := by rw [decide_eq_false_iff_not]; omega
  go_wp2_with fail
  clear hp
  refine (lawsToTableL a0 x0.length cap0 x0 _ _ (h0.below TbR.stays hbb23) S0.out).mono ?_
  rintro e y24 ⟨Bh0, dh0, rfl, hcph0, th0, hq24⟩
  have hbb24 := (hbb23).trans (hq24.mono (hbb23).size)
  have tw := tw.below EnR.stays hq24
  have mg := mg.below EnH.stay hq24
  go_wp2_with fail
  refine (lawsToDataL a1 x1.length cap1 x1 _ _ (h1.below DtR.stays hbb24) S1.out).mono ?_
  rintro e y25 ⟨Bh1, dh1, rfl, hcph1, th1, hq25⟩
  have hbb25 := (hbb24).trans (hq25.mono (hbb24).size)
  have tw := tw.below EnR.stays hq25
  have th0 := th0.below TbR.stays hq25
  have mg := mg.below EnH.stay hq25
  go_wp2_with fail
  refine (lawsToIntL a3 x3.length cap3 x3 _ _ (h3.below IntR.stays hbb25) S3).mono ?_
  rintro e y26 ⟨Bh3, dh3, rfl, hcph3, th3, hq26⟩
  have hbb26 := (hbb25).trans (hq26.mono (hbb25).size)
  have tw := tw.below EnR.stays hq26
  have th0 := th0.below TbR.stays hq26
  have th1 := th1.below DtR.stays hq26
  have mg := mg.below EnH.stay hq26
  go_wp2_with fail
  refine (implIndexOf Bh0 Bh1 Bh3 x0.length dh0 x1.length dh1 x3.length dh3 a2 x0 x1 x3 _ _ _ _ th0 th1 th3 S0.out S1.out S3).mono ?_
  rintro e y27 ⟨vh, rfl, oh, hq27⟩
  have hbb27 := (hbb26).trans (hq27.mono (hbb26).size)
  have tw := tw.below EnR.stays hq27
  have th0 := th0.below TbR.stays hq27
  have th1 := th1.below DtR.stays hq27
  have th3 := th3.below IntR.stays hq27
  obtain ⟨Ah, ch, rfl, -, -, th⟩ := OwnE.sl oh
  clear oh
  have mg := mg.below EnH.stay hq27
  clear th0
  clear th1
  clear th3
  go_wp2_with fail
  refine (lawsEqEntryL _ _ _ _ _ (ixL x0 x1 a2 x3) _ _ _ th tw HLN.out).mono ?_
  rintro e y28 ⟨rfl, hq28⟩
  have hbb28 := (hbb27).trans (hq28.mono (hbb27).size)
  have tw := tw.below EnR.stays hq28
  have th := th.below EnR.stays hq28
  have mg := mg.below EnH.stay hq28
  go_wp2_with fail
  refine (heldOEntL _ _ _ _ _ 1 _ mg HMS.out (by first | rfl | omega)).mono ?_
  rintro e y29 ⟨rfl, hq29⟩
  have hbb29 := (hbb28).trans (hq29.mono (hbb28).size)
  have tw := tw.below EnR.stays hq29
  have th := th.below EnR.stays hq29
  have mg := mg.below EnH.stay hq29
  have hp : decide (((1 + ((ixL x0 x1 a2 x3).map En.marks).sum : Nat) : Int) < 0) = false := by rw [decide_eq_false_iff_not]; omega
  go_wp2_with fail
  clear hp
  go_ret
  exact ⟨rfl, hbb29⟩

set_option maxRecDepth 100000 in
theorem lifted (os : Os) (started : os.Started) (H : Type) (enc : TypeId × Value → H) :
    ReturnsInHanded {} Tryz.checked os 4 .any (Rows.fnExactIndexOfSpec.pre6 enc Tryz.prog Tryz.f4 Rows.fnExactIndexOfRow.domain false) (Rows.fnExactIndexOfSpec.post enc Tryz.prog Tryz.f4 false true false false) := by
  refine returnsInHanded_of_change (C := Tryz.checked) own started (by kernel_rfl) Tryz.func4
    (ChangeSpec.witness6 (enc := enc) (C := Tryz.checked) false ⟨#[], #[.slice none 0 0, .slice none 0 0, .int .i64 0, .slice none 0 0], []⟩ 8 (by kernel_rfl) (by kernel_rfl) (by kernel_rfl) (by kernel_rfl)) ?_
  intro W base args ds gs before hval0 hW hcnd _
  have hval : ∀ (j : Nat) t v, Tryz.f4.params[j]? = some t → args[j]? = some v → Value.okWide Tryz.prog W .any base t v := hval0
  have hW' := hW
  obtain ⟨p, q, hA0, hV, rfl, hfz, hnd⟩ := hW
  have hA : DataW.TrodAll enc Tryz.prog W 0 (fun _ => true) true Tryz.f4.params.toList args.toList ds p := hA0
  rw [Tryz.params4] at hA hval
  obtain ⟨v0, vs0, d0, ds0, p0, q0, hargs, rfl, rfl, h0, r0⟩ := trodAll_cons hA
  obtain ⟨v1, vs1, d1, ds1, p1, q1, rfl, rfl, rfl, h1, r1⟩ := trodAll_cons r0
  obtain ⟨v2, vs2, d2, ds2, p2, q2, rfl, rfl, rfl, h2, r2⟩ := trodAll_cons r1
  obtain ⟨v3, vs3, d3, ds3, p3, q3, rfl, rfl, rfl, h3, r3⟩ := trodAll_cons r2
  obtain ⟨rfl, rfl, rfl⟩ := trodAll_nil r3
  obtain rfl : args = #[v0, v1, v2, v3] := by cases args; simp_all
  obtain ⟨rfl, rfl⟩ := trodVars_none hV
  have k0' := h0
  have lt0 : ∀ x ∈ p0, x.block < W.heap.size := by obtain ⟨m, hm⟩ := k0'; exact DataW.trod_lt m _ _ _ hm
  have k1' := h1
  have lt1 : ∀ x ∈ p1, x.block < W.heap.size := by obtain ⟨m, hm⟩ := k1'; exact DataW.trod_lt m _ _ _ hm
  have k2' := h2
  have lt2 : ∀ x ∈ p2, x.block < W.heap.size := by obtain ⟨m, hm⟩ := k2'; exact DataW.trod_lt m _ _ _ hm
  have k3' := h3
  have lt3 : ∀ x ∈ p3, x.block < W.heap.size := by obtain ⟨m, hm⟩ := k3'; exact DataW.trod_lt m _ _ _ hm
  obtain ⟨a0, len0, cap0, rfl⟩ := okWide_slice Tryz.underlying22 (hval 0 22 v0 rfl rfl)
  obtain ⟨x0, w0⟩ := (by obtain ⟨m, hm⟩ := h0; exact TableL_of_trod (by simpa [Value.cells] using hm) : ∃ ds : List Tb, Sl TbR 6 (fun _ => True) W a0 len0 ds ∧ (ds.length ≤ maxLen ∧ ∀ y ∈ ds, y.wf))
  obtain ⟨a1, len1, cap1, rfl⟩ := okWide_slice Tryz.underlying45 (hval 1 45 v1 rfl rfl)
  obtain ⟨x1, w1⟩ := (by obtain ⟨m, hm⟩ := h1; exact DataL_of_trod (by simpa [Value.cells] using hm) : ∃ ds : List Dt, Sl DtR 1 (fun _ => True) W a1 len1 ds ∧ (ds.length ≤ maxLen ∧ ∀ y ∈ ds, y.wf))
  obtain ⟨a2, rfl, rfl, rfl, w2⟩ := open_int Tryz.underlying2 (hval 2 2 v2 rfl rfl) h2
  obtain ⟨a3, len3, cap3, rfl⟩ := okWide_slice Tryz.underlying28 (hval 3 28 v3 rfl rfl)
  obtain ⟨x3, w3⟩ := (by obtain ⟨m, hm⟩ := h3; exact IntL_of_trod (by simpa [Value.cells] using hm) : ∃ ds, Sl IntR 1 (fun _ => True) W a3 len3 ds ∧ ds.length ≤ maxLen)
  clear hA0 hval0
  refine (walk a0 len0 cap0 x0 a1 len1 cap1 x1 a2 a3 len3 cap3 x3 W w0 w1 w2 w3).mono fun e W' ⟨he, bel⟩ => ?_
  subst he
  exact ⟨_, rfl, _, _, _, [], _, [], hW', trodAll_mk1 (shut_bool Tryz.underlying4 _), (trodAll_cons_mk (Below.trod laidOut (by kernel_rfl) (of_decide_eq_true (by kernel_rfl)) k0' bel lt0) (trodAll_cons_mk (Below.trod laidOut (by kernel_rfl) (of_decide_eq_true (by kernel_rfl)) k1' bel lt1) (trodAll_cons_mk (Below.trod laidOut (by kernel_rfl) (of_decide_eq_true (by kernel_rfl)) k2' bel lt2) (trodAll_cons_mk (Below.trod laidOut (by kernel_rfl) (of_decide_eq_true (by kernel_rfl)) k3' bel lt3) trodAll_mk0)))), rfl, bel.frame _, fun h => by cases h⟩

set_option maxRecDepth 100000 in
set_option maxHeartbeats 16000000 in
theorem facts : joinedFacts Tryz.checked.prog 4 Tryz.f4 Rows.fnExactIndexOfSpec Rows.fnExactIndexOfRow = true := by
  unfold joinedFacts
  repeat' (with_reducible refine Bool.and_eq_true_iff.2 ⟨?_, ?_⟩)
  all_goals (as_aux_lemma => kernel_rfl)

theorem over : Rows.fnExactIndexOfRow.holds Tryz.pinned (OpenSpec.ofChange Rows.fnExactIndexOfSpec) :=
  OpenClaim.holds_of_wide 4 Tryz.f4 rfl rfl rfl rfl rfl rfl rfl ⟨rfl, rfl, rfl, rfl, rfl⟩ rfl rfl rfl rfl rfl (by kernel_rfl) Tryz.func4 facts
    (of_decide_eq_true (by as_aux_lemma => kernel_rfl)) (by unfold Func.isWrapper; first | (rw [if_pos (by decide +kernel)]; kernel_rfl) | (rw [if_neg (by decide +kernel)]; exact ⟨rfl, rfl⟩))
    (fun os started H enc _ => lifted os started H enc)

theorem proved : Rows.FnExactIndexOfSaid := over
#print axioms proved
end Go.Proofs.YtemimhghhihllaaGreat.fnExactIndexOf
