/-
  Fires answers as the model at every schema, list of triggers, table, event and two rows, in memory of its own (law FnExactFires, for every input).
-/
import Derived.Test.YtemimhghhihllaaGreatVa
import Derived.Test.YtemimhghhihllaaGreatVb
import Derived.Test.YtemimhghhihllaaGreatVc
import Derived.Test.YtemimhghhihllaaGreatVd
import Derived.Test.YtemimhghhihllaaGreatVe
import Derived.Test.YtemimhghhihllaaGreatVf
namespace Go.Proofs.YtemimhghhihllaaGreat.fnExactFires
open Go.ChangeShapes Go.WideShapes Go.ChangeAt Go.RowKit Go.Joins
open Go.ChangeMaps (open_string shut_string)
set_option linter.unusedVariables false

set_option maxRecDepth 100000 in
set_option maxHeartbeats 2000000 in
theorem walk (a0 : Option Addr) (len0 cap0 : Nat) (x0 : List Tb) (a1 : Option Addr) (len1 cap1 : Nat) (x1 : List Tg) (a2 : Int) (a3 : Int) (a4 : Option Addr) (len4 cap4 : Nat) (x4 : List Vl) (a5 : Option Addr) (len5 cap5 : Nat) (x5 : List Vl) (w : World) (w0 : Sl TbR 6 (fun _ => True) w a0 len0 x0 ∧ (x0.length ≤ maxLen ∧ ∀ y ∈ x0, y.wf)) (w1 : Sl TgR 5 (fun _ => True) w a1 len1 x1 ∧ (x1.length ≤ maxLen ∧ ∀ y ∈ x1, y.wf)) (w2 : (Lit.int .i64 a2).wf = true) (w3 : (Lit.int .i64 a3).wf = true) (w4 : IsVals w a4 len4 x4) (w5 : IsVals w a5 len5 x5) :
    Calls Tryz.prog 3 #[.slice a0 len0 cap0, .slice a1 len1 cap1, .int .i64 a2, .int .i64 a3, .slice a4 len4 cap4, .slice a5 len5 cap5] w fun e w' => e = .returned (.bool true) ∧ Below w.heap.size w w' := by
  obtain ⟨h0, wf0⟩ := w0
  obtain rfl : x0.length = len0 := h0.1
  have WF0 := Lib.hid wf0
  clear wf0
  obtain ⟨h1, wf1⟩ := w1
  obtain rfl : x1.length = len1 := h1.1
  have WF1 := Lib.hid wf1
  clear wf1
  obtain ⟨h4, hl4, wf4⟩ := w4
  have h4 := Sl.of_cellz h4
  obtain rfl : x4.length = len4 := h4.1
  have WF4 := Lib.hid (And.intro hl4 wf4)
  clear hl4 wf4
  obtain ⟨h5, hl5, wf5⟩ := w5
  have h5 := Sl.of_cellz h5
  obtain rfl : x5.length = len5 := h5.1
  have WF5 := Lib.hid (And.intro hl5 wf5)
  clear hl5 wf5
  have hb0 := (Below.refl w.heap.size w)
  go_enter Tryz.func3, Tryz.ntmps3
  go_wp2_with fail
  refine (lawsSzTableL a0 x0.length cap0 x0 1048576 _ _ (h0.below TbR.stays hb0) WF0.out (by omega) (by omega)).mono ?_
  rintro e y1 ⟨rfl, hq1⟩
  have hbb1 := (hb0).trans (hq1.mono (hb0).size)
  rcases szR_cases 1048576 (szL Tb.sz x0) (by omega) with ⟨hno1, hv1⟩ | ⟨l1, hv1, -, h01, h11, hle1⟩
  · rw [hv1.out]
    go_wp2
    go_ret
    exact ⟨rfl, hbb1⟩
  rw [hv1.out]
  have S0 := Lib.hid (show szL Tb.sz x0 ≤ 1048576 by omega)
  clear hle1
  go_wp2_with fail
  refine (lawsSzTriggerL a1 x1.length cap1 x1 l1 _ _ (h1.below TgR.stays hbb1) WF1.out (by omega) (by omega)).mono ?_
  rintro e y2 ⟨rfl, hq2⟩
  have hbb2 := (hbb1).trans (hq2.mono (hbb1).size)
  rcases szR_cases l1 (szL Tg.sz x1) (by omega) with ⟨hno2, hv2⟩ | ⟨l2, hv2, -, h02, h12, hle2⟩
  · rw [hv2.out]
    go_wp2
    go_ret
    exact ⟨rfl, hbb2⟩
  rw [hv2.out]
  have S1 := Lib.hid (show szL Tg.sz x1 ≤ 1048576 by omega)
  clear hle2
  go_wp2_with fail
  refine (lawsSzValL a4 x4.length cap4 x4 l2 _ _ (h4.below VlR.stays hbb2) WF4.out (by omega) (by omega)).mono ?_
  rintro e y3 ⟨rfl, hq3⟩
  have hbb3 := (hbb2).trans (hq3.mono (hbb2).size)
  rcases szR_cases l2 (szL (fun v : Vl => v.s.size) x4) (by omega) with ⟨hno3, hv3⟩ | ⟨l3, hv3, -, h03, h13, hle3⟩
  · rw [hv3.out]
    go_wp2
    go_ret
    exact ⟨rfl, hbb3⟩
  rw [hv3.out]
  have S4 := Lib.hid (show szL (fun v : Vl => v.s.size) x4 ≤ 1048576 by omega)
  clear hle3
  go_wp2_with fail
  refine (lawsSzValL a5 x5.length cap5 x5 l3 _ _ (h5.below VlR.stays hbb3) WF5.out (by omega) (by omega)).mono ?_
  rintro e y4 ⟨rfl, hq4⟩
  have hbb4 := (hbb3).trans (hq4.mono (hbb3).size)
  rcases szR_cases l3 (szL (fun v : Vl => v.s.size) x5) (by omega) with ⟨hno4, hv4⟩ | ⟨l4, hv4, -, h04, h14, hle4⟩
  · rw [hv4.out]
    go_wp2
    go_ret
    exact ⟨rfl, hbb4⟩
  rw [hv4.out]
  have S5 := Lib.hid (show szL (fun v : Vl => v.s.size) x5 ≤ 1048576 by omega)
  clear hle4
  go_wp2_with fail
  have HLN := Lib.hid (show (firesL x0 x1 a2 a3 x4 x5).length ≤ 1048576 from Nat.le_trans (firesL_len x0 x1 a2 a3 x4 x5) (by omega))
  refine (lawsToTableL a0 x0.length cap0 x0 _ _ (h0.below TbR.stays hbb4) S0.out).mono ?_
  rintro e y5 ⟨Bs0, ds0, rfl, hcps0, ts0, hq5⟩
  have hbb5 := (hbb4).trans (hq5.mono (hbb4).size)
  go_wp2_with fail
  refine (lawsToTriggerL a1 x1.length cap1 x1 _ _ (h1.below TgR.stays hbb5) S1.out).mono ?_
  rintro e y6 ⟨Bs1, ds1, rfl, hcps1, ts1, hq6⟩
  have hbb6 := (hbb5).trans (hq6.mono (hbb5).size)
  have ts0 := ts0.below TbR.stays hq6
  go_wp2_with fail
  refine (lawsToValL a4 x4.length cap4 x4 _ _ (h4.below VlR.stays hbb6) S4.out).mono ?_
  rintro e y7 ⟨Bs4, ds4, rfl, hcps4, ts4, hq7⟩
  have hbb7 := (hbb6).trans (hq7.mono (hbb6).size)
  have ts0 := ts0.below TbR.stays hq7
  have ts1 := ts1.below TgR.stays hq7
  go_wp2_with fail
  refine (lawsToValL a5 x5.length cap5 x5 _ _ (h5.below VlR.stays hbb7) S5.out).mono ?_
  rintro e y8 ⟨Bs5, ds5, rfl, hcps5, ts5, hq8⟩
  have hbb8 := (hbb7).trans (hq8.mono (hbb7).size)
  have ts0 := ts0.below TbR.stays hq8
  have ts1 := ts1.below TgR.stays hq8
  have ts4 := ts4.below VlR.stays hq8
  go_wp2_with fail
  refine (specFiresM Bs0 Bs1 Bs4 Bs5 x0.length ds0 x1.length ds1 x4.length ds4 x5.length ds5 a2 a3 x0 x1 _ _ _ _ x4 x5 _ ts0 ts1 ts4 ts5 hcps0 S0.out S1.out (by have := S4.out; unfold szL at this; omega) (by have := S5.out; unfold szL at this; omega)).mono ?_
  rintro e y9 ⟨Aw, cw, rfl, hcw, tw, hq9⟩
  have hbb9 := (hbb8).trans (hq9.mono (hbb8).size)
  have ts0 := ts0.below TbR.stays hq9
  have ts1 := ts1.below TgR.stays hq9
  have ts4 := ts4.below VlR.stays hq9
  have ts5 := ts5.below VlR.stays hq9
  clear ts0 ts1 ts4 ts5
  have hBG : w.heap.size ≤ y9.heap.size := (hbb9).size
  have HBG := Lib.hid hBG
  clear hBG
  go_wp2_with fail
  refine (lawsToTableL a0 x0.length cap0 x0 _ _ (h0.below TbR.stays hbb9) S0.out).mono ?_
  rintro e y10 ⟨Bx0, dx0, rfl, hcpx0, tx0, hq10⟩
  have hbb10 := (hbb9).trans (hq10.mono (hbb9).size)
  have tw := tw.below IntR.stays hq10
  have M0 : mayMark y9.heap.size y10.heap.size y10 (okF _ y10) := fun b hb => ⟨Nat.le_trans (Nat.le_refl _) hb.1, hb.2.1, hb.2.1, hb.2.2⟩
  have hmx : y9.heap.size ≤ y10.heap.size := (hq10).size
  go_wp2_with fail
  refine (lawsToTriggerL a1 x1.length cap1 x1 _ _ (h1.below TgR.stays hbb10) S1.out).mono ?_
  rintro e y11 ⟨Bx1, dx1, rfl, hcpx1, tx1, hq11⟩
  have M0 := M0.below hq11
  have hbb11 := (hbb10).trans (hq11.mono (hbb10).size)
  have tw := tw.below IntR.stays hq11
  have tx0 := tx0.below TbR.stays hq11
  have M1 : mayMark y9.heap.size y11.heap.size y11 (okF _ y11) := fun b hb => ⟨Nat.le_trans hmx hb.1, hb.2.1, hb.2.1, hb.2.2⟩
  have hmx : y9.heap.size ≤ y11.heap.size := Nat.le_trans hmx (hq11).size
  go_wp2_with fail
  refine (lawsToValL a4 x4.length cap4 x4 _ _ (h4.below VlR.stays hbb11) S4.out).mono ?_
  rintro e y12 ⟨Bx4, dx4, rfl, hcpx4, tx4, hq12⟩
  have M0 := M0.below hq12
  have M1 := M1.below hq12
  have hbb12 := (hbb11).trans (hq12.mono (hbb11).size)
  have tw := tw.below IntR.stays hq12
  have tx0 := tx0.below TbR.stays hq12
  have tx1 := tx1.below TgR.stays hq12
  have M4 : mayMark y9.heap.size y12.heap.size y12 (okF _ y12) := fun b hb => ⟨Nat.le_trans hmx hb.1, hb.2.1, hb.2.1, hb.2.2⟩
  have hmx : y9.heap.size ≤ y12.heap.size := Nat.le_trans hmx (hq12).size
  go_wp2_with fail
  refine (lawsToValL a5 x5.length cap5 x5 _ _ (h5.below VlR.stays hbb12) S5.out).mono ?_
  rintro e y13 ⟨Bx5, dx5, rfl, hcpx5, tx5, hq13⟩
  have M0 := M0.below hq13
  have M1 := M1.below hq13
  have M4 := M4.below hq13
  have hbb13 := (hbb12).trans (hq13.mono (hbb12).size)
  have tw := tw.below IntR.stays hq13
  have tx0 := tx0.below TbR.stays hq13
  have tx1 := tx1.below TgR.stays hq13
  have tx4 := tx4.below VlR.stays hq13
  have M5 : mayMark y9.heap.size y13.heap.size y13 (okF _ y13) := fun b hb => ⟨Nat.le_trans hmx hb.1, hb.2.1, hb.2.1, hb.2.2⟩
  have hmx : y9.heap.size ≤ y13.heap.size := Nat.le_trans hmx (hq13).size
  go_wp2_with fail
  have M0 : mayMark y9.heap.size y13.heap.size y13 _ := fun b hb => ⟨(M0 b hb).1, (M0 b hb).2.2.1, (M0 b hb).2.2⟩
  have M1 : mayMark y9.heap.size y13.heap.size y13 _ := fun b hb => ⟨(M1 b hb).1, (M1 b hb).2.2.1, (M1 b hb).2.2⟩
  have M4 : mayMark y9.heap.size y13.heap.size y13 _ := fun b hb => ⟨(M4 b hb).1, (M4 b hb).2.2.1, (M4 b hb).2.2⟩
  have M5 : mayMark y9.heap.size y13.heap.size y13 _ := fun b hb => ⟨(M5 b hb).1, (M5 b hb).2.2.1, (M5 b hb).2.2⟩
  have HMX := Lib.hid hmx
  clear hmx
  refine (implFiresM Bx0 Bx1 Bx4 Bx5 x0.length dx0 x1.length dx1 x4.length dx4 x5.length dx5 a2 a3 x0 x1 _ _ _ _ x4 x5 _ tx0 tx1 tx4 tx5 S0.out S1.out (by have := S4.out; unfold szL at this; omega) (by have := S5.out; unfold szL at this; omega)).mono ?_
  rintro e y14 ⟨Ag, cg, rfl, hcg, tg, hq14⟩
  have M0 := M0.below hq14
  have M1 := M1.below hq14
  have M4 := M4.below hq14
  have M5 := M5.below hq14
  have hbb14 := (hbb13).trans (hq14.mono (hbb13).size)
  have tw := tw.below IntR.stays hq14
  have tx0 := tx0.below TbR.stays hq14
  have tx1 := tx1.below TgR.stays hq14
  have tx4 := tx4.below VlR.stays hq14
  have tx5 := tx5.below VlR.stays hq14
  have Mg := mayMark_okF (G := y13.heap.size) (Nat.le_refl y14.heap.size)
  go_wp2_with fail
  refine (lawsEqIntL _ _ _ _ _ (firesL x0 x1 a2 a3 x4 x5) _ _ _ tg tw (HLN.out)).mono ?_
  rintro e y15 ⟨rfl, hq15⟩
  have M0 := M0.below hq15
  have M1 := M1.below hq15
  have M4 := M4.below hq15
  have M5 := M5.below hq15
  have Mg := Mg.below hq15
  have hbb15 := (hbb14).trans (hq15.mono (hbb14).size)
  have tw := tw.below IntR.stays hq15
  have tx0 := tx0.below TbR.stays hq15
  have tx1 := tx1.below TgR.stays hq15
  have tx4 := tx4.below VlR.stays hq15
  have tx5 := tx5.below VlR.stays hq15
  have tg := tg.below IntR.stays hq15
  go_wp2_with fail
  refine (lawsToTableL a0 x0.length cap0 x0 _ _ (h0.below TbR.stays hbb15) S0.out).mono ?_
  rintro e y16 ⟨Be0, de0, rfl, -, te0, hq16⟩
  have M0 := M0.below hq16
  have M1 := M1.below hq16
  have M4 := M4.below hq16
  have M5 := M5.below hq16
  have Mg := Mg.below hq16
  have hbb16 := (hbb15).trans (hq16.mono (hbb15).size)
  have tw := tw.below IntR.stays hq16
  have tx0 := tx0.below TbR.stays hq16
  have tx1 := tx1.below TgR.stays hq16
  have tx4 := tx4.below VlR.stays hq16
  have tx5 := tx5.below VlR.stays hq16
  have tg := tg.below IntR.stays hq16
  go_wp2_with fail
  refine (lawsEqTableL _ _ _ _ _ x0 _ _ _ tx0 te0 S0.out).mono ?_
  rintro e y17 ⟨rfl, hq17⟩
  have M0 := M0.below hq17
  have M1 := M1.below hq17
  have M4 := M4.below hq17
  have M5 := M5.below hq17
  have Mg := Mg.below hq17
  have hbb17 := (hbb16).trans (hq17.mono (hbb16).size)
  have tw := tw.below IntR.stays hq17
  have tx0 := tx0.below TbR.stays hq17
  have tx1 := tx1.below TgR.stays hq17
  have tx4 := tx4.below VlR.stays hq17
  have tx5 := tx5.below VlR.stays hq17
  have tg := tg.below IntR.stays hq17
  go_wp2_with fail
  refine (lawsToTriggerL a1 x1.length cap1 x1 _ _ (h1.below TgR.stays hbb17) S1.out).mono ?_
  rintro e y18 ⟨Be1, de1, rfl, -, te1, hq18⟩
  have M0 := M0.below hq18
  have M1 := M1.below hq18
  have M4 := M4.below hq18
  have M5 := M5.below hq18
  have Mg := Mg.below hq18
  have hbb18 := (hbb17).trans (hq18.mono (hbb17).size)
  have tw := tw.below IntR.stays hq18
  have tx0 := tx0.below TbR.stays hq18
  have tx1 := tx1.below TgR.stays hq18
  have tx4 := tx4.below VlR.stays hq18
  have tx5 := tx5.below VlR.stays hq18
  have tg := tg.below IntR.stays hq18
  go_wp2_with fail
  refine (lawsEqTriggerL _ _ _ _ _ x1 _ _ _ tx1 te1 S1.out).mono ?_
  rintro e y19 ⟨rfl, hq19⟩
  have M0 := M0.below hq19
  have M1 := M1.below hq19
  have M4 := M4.below hq19
  have M5 := M5.below hq19
  have Mg := Mg.below hq19
  have hbb19 := (hbb18).trans (hq19.mono (hbb18).size)
  have tw := tw.below IntR.stays hq19
  have tx0 := tx0.below TbR.stays hq19
  have tx1 := tx1.below TgR.stays hq19
  have tx4 := tx4.below VlR.stays hq19
  have tx5 := tx5.below VlR.stays hq19
  have tg := tg.below IntR.stays hq19
  go_wp2_with fail
  refine (lawsToValL a4 x4.length cap4 x4 _ _ (h4.below VlR.stays hbb19) S4.out).mono ?_
  rintro e y20 ⟨Be4, de4, rfl, -, te4, hq20⟩
  have M0 := M0.below hq20
  have M1 := M1.below hq20
  have M4 := M4.below hq20
  have M5 := M5.below hq20
  have Mg := Mg.below hq20
  have hbb20 := (hbb19).trans (hq20.mono (hbb19).size)
  have tw := tw.below IntR.stays hq20
  have tx0 := tx0.below TbR.stays hq20
  have tx1 := tx1.below TgR.stays hq20
  have tx4 := tx4.below VlR.stays hq20
  have tx5 := tx5.below VlR.stays hq20
  have tg := tg.below IntR.stays hq20
  go_wp2_with fail
  refine (lawsEqValL _ _ _ _ _ x4 _ _ _ tx4 te4 S4.out).mono ?_
  rintro e y21 ⟨rfl, hq21⟩
  have M0 := M0.below hq21
  have M1 := M1.below hq21
  have M4 := M4.below hq21
  have M5 := M5.below hq21
  have Mg := Mg.below hq21
  have hbb21 := (hbb20).trans (hq21.mono (hbb20).size)
  have tw := tw.below IntR.stays hq21
  have tx0 := tx0.below TbR.stays hq21
  have tx1 := tx1.below TgR.stays hq21
  have tx4 := tx4.below VlR.stays hq21
  have tx5 := tx5.below VlR.stays hq21
  have tg := tg.below IntR.stays hq21
  go_wp2_with fail
  refine (lawsToValL a5 x5.length cap5 x5 _ _ (h5.below VlR.stays hbb21) S5.out).mono ?_
  rintro e y22 ⟨Be5, de5, rfl, -, te5, hq22⟩
  have M0 := M0.below hq22
  have M1 := M1.below hq22
  have M4 := M4.below hq22
  have M5 := M5.below hq22
  have Mg := Mg.below hq22
  have hbb22 := (hbb21).trans (hq22.mono (hbb21).size)
  have tw := tw.below IntR.stays hq22
  have tx0 := tx0.below TbR.stays hq22
  have tx1 := tx1.below TgR.stays hq22
  have tx4 := tx4.below VlR.stays hq22
  have tx5 := tx5.below VlR.stays hq22
  have tg := tg.below IntR.stays hq22
  go_wp2_with fail
  refine (lawsEqValL _ _ _ _ _ x5 _ _ _ tx5 te5 S5.out).mono ?_
  rintro e y23 ⟨rfl, hq23⟩
  have M0 := M0.below hq23
  have M1 := M1.below hq23
  have M4 := M4.below hq23
  have M5 := M5.below hq23
  have Mg := Mg.below hq23
  have hbb23 := (hbb22).trans (hq23.mono (hbb22).size)
  have tw := tw.below IntR.stays hq23
  have tx0 := tx0.below TbR.stays hq23
  have tx1 := tx1.below TgR.stays hq23
  have tx4 := tx4.below VlR.stays hq23
  have tx5 := tx5.below VlR.stays hq23
  have tg := tg.below IntR.stays hq23
  go_wp2_with fail
  have hbd0 : (x0.map Tb.cnt).sum ≤ 6291456 := by have h1 := sum_le_of (f := Tb.cnt) (g := Tb.sz) 6 Tb.cnt_le x0; have h2 := S0.out; omega
  generalize hsm0 : (x0.map Tb.cnt).sum = sm0 at hbd0
  have HSM0 := Lib.hid hsm0
  clear hsm0
  have sh0 := tx0.toSh Tb.toSh (fun y hy => by have h1 := szL_mem Tb.sz x0 y hy; have h2 := S0.out; omega)
  clear tx0
  have sh1 := tx1.toSh Tg.toSh (fun y hy => by have h1 := szL_mem Tg.sz x1 y hy; have h2 := S1.out; omega)
  clear tx1
  have sh4 := tx4.toSh Vl.toSh (fun _ _ => trivial)
  clear tx4
  have sh5 := tx5.toSh Vl.toSh (fun _ _ => trivial)
  clear tx5
  refine (marksTableL _ _ _ _ _ y9.heap.size y13.heap.size (1) _ sh0 M0 (by rw [HSM0.out]; omega) (by have h2 := S0.out; (try unfold szL at h2); omega) (by first | rfl | omega)).mono ?_
  rintro e y24 ⟨rfl, hq24⟩
  have hbb24 := Kept.toBelow (hbb23) hq24 HBG.out (hbb23).size
  have M0 := M0.kept hq24
  have M1 := M1.kept hq24
  have M4 := M4.kept hq24
  have M5 := M5.kept hq24
  have Mg := Mg.kept hq24
  have tw := tw.kept IntR.stays hq24 (fun b hb => Or.inl hb.2.1)
  have tg := tg.kept IntR.stays hq24 (fun b hb => Or.inr hb.1)
  rw [HSM0.out]
  have sh1 := sh1.shape TgSh.keeps hq24
  have sh4 := sh4.shape (ShF.keeps 3) hq24
  have sh5 := sh5.shape (ShF.keeps 3) hq24
  clear sh0
  go_wp2_with fail
  have hbd1 : (x1.map Tg.cnt).sum ≤ 6291456 := by have h1 := sum_le_of (f := Tg.cnt) (g := Tg.sz) 6 Tg.cnt_le x1; have h2 := S1.out; omega
  generalize hsm1 : (x1.map Tg.cnt).sum = sm1 at hbd1
  have HSM1 := Lib.hid hsm1
  clear hsm1
  refine (marksTriggerL _ _ _ _ _ y9.heap.size y13.heap.size (1 + sm0) _ sh1 M1 (by rw [HSM1.out]; omega) (by have h2 := S1.out; (try unfold szL at h2); omega) (by first | rfl | omega)).mono ?_
  rintro e y25 ⟨rfl, hq25⟩
  have hbb25 := Kept.toBelow (hbb24) hq25 HBG.out (hbb24).size
  have M0 := M0.kept hq25
  have M1 := M1.kept hq25
  have M4 := M4.kept hq25
  have M5 := M5.kept hq25
  have Mg := Mg.kept hq25
  have tw := tw.kept IntR.stays hq25 (fun b hb => Or.inl hb.2.1)
  have tg := tg.kept IntR.stays hq25 (fun b hb => Or.inr hb.1)
  rw [HSM1.out]
  have sh4 := sh4.shape (ShF.keeps 3) hq25
  have sh5 := sh5.shape (ShF.keeps 3) hq25
  clear sh1
  go_wp2_with fail
  have hbd4 : (x4.map (fun _ : Vl => 3)).sum ≤ 6291456 := by have h1 := sum_le_of (f := (fun _ : Vl => 3)) (g := fun v : Vl => v.s.size) 6 (fun _ => by omega) x4; have h2 := S4.out; omega
  generalize hsm4 : (x4.map (fun _ : Vl => 3)).sum = sm4 at hbd4
  have HSM4 := Lib.hid hsm4
  clear hsm4
  refine (marksValL _ _ _ _ _ y9.heap.size y13.heap.size (1 + sm0 + sm1) _ sh4 M4 (by rw [HSM4.out]; omega) (by have h2 := S4.out; (try unfold szL at h2); omega) (by first | rfl | omega)).mono ?_
  rintro e y26 ⟨rfl, hq26⟩
  have hbb26 := Kept.toBelow (hbb25) hq26 HBG.out (hbb25).size
  have M0 := M0.kept hq26
  have M1 := M1.kept hq26
  have M4 := M4.kept hq26
  have M5 := M5.kept hq26
  have Mg := Mg.kept hq26
  have tw := tw.kept IntR.stays hq26 (fun b hb => Or.inl hb.2.1)
  have tg := tg.kept IntR.stays hq26 (fun b hb => Or.inr hb.1)
  rw [HSM4.out]
  have sh5 := sh5.shape (ShF.keeps 3) hq26
  clear sh4
  go_wp2_with fail
  have hbd5 : (x5.map (fun _ : Vl => 3)).sum ≤ 6291456 := by have h1 := sum_le_of (f := (fun _ : Vl => 3)) (g := fun v : Vl => v.s.size) 6 (fun _ => by omega) x5; have h2 := S5.out; omega
  generalize hsm5 : (x5.map (fun _ : Vl => 3)).sum = sm5 at hbd5
  have HSM5 := Lib.hid hsm5
  clear hsm5
  refine (marksValL _ _ _ _ _ y9.heap.size y13.heap.size (1 + sm0 + sm1 + sm4) _ sh5 M5 (by rw [HSM5.out]; omega) (by have h2 := S5.out; (try unfold szL at h2); omega) (by first | rfl | omega)).mono ?_
  rintro e y27 ⟨rfl, hq27⟩
  have hbb27 := Kept.toBelow (hbb26) hq27 HBG.out (hbb26).size
  have M0 := M0.kept hq27
  have M1 := M1.kept hq27
  have M4 := M4.kept hq27
  have M5 := M5.kept hq27
  have Mg := Mg.kept hq27
  have tw := tw.kept IntR.stays hq27 (fun b hb => Or.inl hb.2.1)
  have tg := tg.kept IntR.stays hq27 (fun b hb => Or.inr hb.1)
  rw [HSM5.out]
  clear sh5
  generalize hkk : 1 + sm0 + sm1 + sm4 + sm5 = kk
  have hk1 : 1 ≤ kk := by omega
  have hk2 : (0 : Int) ≤ (kk : Int) := by omega
  have hk3 : decide ((kk : Int) < 0) = false := by rw [decide_eq_false_iff_not]; omega
  clear hkk
  go_wp2_with fail
  refine (lawsEqIntL _ _ _ _ _ (firesL x0 x1 a2 a3 x4 x5) _ _ _ tg tw (HLN.out)).mono ?_
  rintro e y28 ⟨rfl, hq28⟩
  have M0 := M0.below hq28
  have M1 := M1.below hq28
  have M4 := M4.below hq28
  have M5 := M5.below hq28
  have Mg := Mg.below hq28
  have hbb28 := (hbb27).trans (hq28.mono (hbb27).size)
  have tw := tw.below IntR.stays hq28
  have tg := tg.below IntR.stays hq28
  go_wp2_with fail
  have shg := tg.toSh Int.toSh (fun _ _ => trivial)
  have HBX := Lib.hid (Nat.le_trans HBG.out HMX.out)
  clear tg
  have HBG := HBX
  refine (marksXIntL _ _ _ _ _ y13.heap.size _ 1 _ shg Mg (by have := HLN.out; omega) (by have := HLN.out; omega) (by first | rfl | omega)).mono ?_
  rintro e y29 ⟨rfl, hq29, mg⟩
  have hbb29 := Kept.toBelow (hbb28) hq29 HBG.out (hbb28).size
  have M0 := M0.kept hq29
  have M1 := M1.kept hq29
  have M4 := M4.kept hq29
  have M5 := M5.kept hq29
  have Mg := Mg.kept hq29
  have tw := tw.kept IntR.stays hq29 (fun b hb => Or.inl (Nat.lt_of_lt_of_le hb.2.1 HMX.out))
  clear shg
  go_wp2_with fail
  refine (heldXIntL _ _ _ 1 _ mg (by have := HLN.out; omega) (by have := HLN.out; omega) (by first | rfl | omega)).mono ?_
  rintro e y30 ⟨rfl, hq30⟩
  have M0 := M0.below hq30
  have M1 := M1.below hq30
  have M4 := M4.below hq30
  have M5 := M5.below hq30
  have Mg := Mg.below hq30
  have hbb30 := (hbb29).trans (hq30.mono (hbb29).size)
  have tw := tw.below IntR.stays hq30
  have mg := mg.below hq30
  have hp : decide (((1 + (firesL x0 x1 a2 a3 x4 x5).length * 1 : Nat) : Int) < 0) = false := by rw [decide_eq_false_iff_not]; omega
  go_wp2_with fail
  clear hp
  refine (lawsToTableL a0 x0.length cap0 x0 _ _ (h0.below TbR.stays hbb30) S0.out).mono ?_
  rintro e y31 ⟨Bh0, dh0, rfl, hcph0, th0, hq31⟩
  have hbb31 := (hbb30).trans (hq31.mono (hbb30).size)
  have tw := tw.below IntR.stays hq31
  have mg := mg.below hq31
  go_wp2_with fail
  refine (lawsToTriggerL a1 x1.length cap1 x1 _ _ (h1.below TgR.stays hbb31) S1.out).mono ?_
  rintro e y32 ⟨Bh1, dh1, rfl, hcph1, th1, hq32⟩
  have hbb32 := (hbb31).trans (hq32.mono (hbb31).size)
  have tw := tw.below IntR.stays hq32
  have th0 := th0.below TbR.stays hq32
  have mg := mg.below hq32
  go_wp2_with fail
  refine (lawsToValL a4 x4.length cap4 x4 _ _ (h4.below VlR.stays hbb32) S4.out).mono ?_
  rintro e y33 ⟨Bh4, dh4, rfl, hcph4, th4, hq33⟩
  have hbb33 := (hbb32).trans (hq33.mono (hbb32).size)
  have tw := tw.below IntR.stays hq33
  have th0 := th0.below TbR.stays hq33
  have th1 := th1.below TgR.stays hq33
  have mg := mg.below hq33
  go_wp2_with fail
  refine (lawsToValL a5 x5.length cap5 x5 _ _ (h5.below VlR.stays hbb33) S5.out).mono ?_
  rintro e y34 ⟨Bh5, dh5, rfl, hcph5, th5, hq34⟩
  have hbb34 := (hbb33).trans (hq34.mono (hbb33).size)
  have tw := tw.below IntR.stays hq34
  have th0 := th0.below TbR.stays hq34
  have th1 := th1.below TgR.stays hq34
  have th4 := th4.below VlR.stays hq34
  have mg := mg.below hq34
  go_wp2_with fail
  refine (implFiresM Bh0 Bh1 Bh4 Bh5 x0.length dh0 x1.length dh1 x4.length dh4 x5.length dh5 a2 a3 x0 x1 _ _ _ _ x4 x5 _ th0 th1 th4 th5 S0.out S1.out (by have := S4.out; unfold szL at this; omega) (by have := S5.out; unfold szL at this; omega)).mono ?_
  rintro e y35 ⟨Ah, ch, rfl, hch, th, hq35⟩
  have hbb35 := (hbb34).trans (hq35.mono (hbb34).size)
  have tw := tw.below IntR.stays hq35
  have th0 := th0.below TbR.stays hq35
  have th1 := th1.below TgR.stays hq35
  have th4 := th4.below VlR.stays hq35
  have th5 := th5.below VlR.stays hq35
  have mg := mg.below hq35
  clear th0
  clear th1
  clear th4
  clear th5
  go_wp2_with fail
  refine (lawsEqIntL _ _ _ _ _ (firesL x0 x1 a2 a3 x4 x5) _ _ _ th tw (HLN.out)).mono ?_
  rintro e y36 ⟨rfl, hq36⟩
  have hbb36 := (hbb35).trans (hq36.mono (hbb35).size)
  have tw := tw.below IntR.stays hq36
  have th := th.below IntR.stays hq36
  have mg := mg.below hq36
  go_wp2_with fail
  refine (heldXIntL _ _ _ 1 _ mg (by have := HLN.out; omega) (by have := HLN.out; omega) (by first | rfl | omega)).mono ?_
  rintro e y37 ⟨rfl, hq37⟩
  have hbb37 := (hbb36).trans (hq37.mono (hbb36).size)
  have tw := tw.below IntR.stays hq37
  have th := th.below IntR.stays hq37
  have mg := mg.below hq37
  have hp : decide (((1 + (firesL x0 x1 a2 a3 x4 x5).length * 1 : Nat) : Int) < 0) = false := by rw [decide_eq_false_iff_not]; omega
  go_wp2_with fail
  clear hp
  go_ret
  exact ⟨rfl, hbb37⟩

set_option maxRecDepth 100000 in
theorem lifted (os : Os) (started : os.Started) (H : Type) (enc : TypeId × Value → H) :
    ReturnsInHanded {} Tryz.checked os 3 .any (Rows.fnExactFiresSpec.pre6 enc Tryz.prog Tryz.f3 Rows.fnExactFiresRow.domain false) (Rows.fnExactFiresSpec.post enc Tryz.prog Tryz.f3 false true false false) := by
  refine returnsInHanded_of_change (C := Tryz.checked) own started (by kernel_rfl) Tryz.func3
    (ChangeSpec.witness6 (enc := enc) (C := Tryz.checked) false ⟨#[], #[.slice none 0 0, .slice none 0 0, .int .i64 0, .int .i64 0, .slice none 0 0, .slice none 0 0], []⟩ 8 (by kernel_rfl) (by kernel_rfl) (by kernel_rfl) (by kernel_rfl)) ?_
  intro W base args ds gs before hval0 hW hcnd _
  have hval : ∀ (j : Nat) t v, Tryz.f3.params[j]? = some t → args[j]? = some v → Value.okWide Tryz.prog W .any base t v := hval0
  have hW' := hW
  obtain ⟨p, q, hA0, hV, rfl, hfz, hnd⟩ := hW
  have hA : DataW.TrodAll enc Tryz.prog W 0 (fun _ => true) true Tryz.f3.params.toList args.toList ds p := hA0
  rw [Tryz.params3] at hA hval
  obtain ⟨v0, vs0, d0, ds0, p0, q0, hargs, rfl, rfl, h0, r0⟩ := trodAll_cons hA
  obtain ⟨v1, vs1, d1, ds1, p1, q1, rfl, rfl, rfl, h1, r1⟩ := trodAll_cons r0
  obtain ⟨v2, vs2, d2, ds2, p2, q2, rfl, rfl, rfl, h2, r2⟩ := trodAll_cons r1
  obtain ⟨v3, vs3, d3, ds3, p3, q3, rfl, rfl, rfl, h3, r3⟩ := trodAll_cons r2
  obtain ⟨v4, vs4, d4, ds4, p4, q4, rfl, rfl, rfl, h4, r4⟩ := trodAll_cons r3
  obtain ⟨v5, vs5, d5, ds5, p5, q5, rfl, rfl, rfl, h5, r5⟩ := trodAll_cons r4
  obtain ⟨rfl, rfl, rfl⟩ := trodAll_nil r5
  obtain rfl : args = #[v0, v1, v2, v3, v4, v5] := by cases args; simp_all
  obtain ⟨rfl, rfl⟩ := trodVars_none hV
  have k0' := h0
  have lt0 : ∀ x ∈ p0, x.block < W.heap.size := by obtain ⟨m, hm⟩ := k0'; exact DataW.trod_lt m _ _ _ hm
  have k1' := h1
  have lt1 : ∀ x ∈ p1, x.block < W.heap.size := by obtain ⟨m, hm⟩ := k1'; exact DataW.trod_lt m _ _ _ hm
  have k2' := h2
  have lt2 : ∀ x ∈ p2, x.block < W.heap.size := by obtain ⟨m, hm⟩ := k2'; exact DataW.trod_lt m _ _ _ hm
  have k3' := h3
  have lt3 : ∀ x ∈ p3, x.block < W.heap.size := by obtain ⟨m, hm⟩ := k3'; exact DataW.trod_lt m _ _ _ hm
  have k4' := h4
  have lt4 : ∀ x ∈ p4, x.block < W.heap.size := by obtain ⟨m, hm⟩ := k4'; exact DataW.trod_lt m _ _ _ hm
  have k5' := h5
  have lt5 : ∀ x ∈ p5, x.block < W.heap.size := by obtain ⟨m, hm⟩ := k5'; exact DataW.trod_lt m _ _ _ hm
  obtain ⟨a0, len0, cap0, rfl⟩ := okWide_slice Tryz.underlying22 (hval 0 22 v0 rfl rfl)
  obtain ⟨x0, w0⟩ := (by obtain ⟨m, hm⟩ := h0; exact TableL_of_trod (by simpa [Value.cells] using hm) : ∃ ds : List Tb, Sl TbR 6 (fun _ => True) W a0 len0 ds ∧ (ds.length ≤ maxLen ∧ ∀ y ∈ ds, y.wf))
  obtain ⟨a1, len1, cap1, rfl⟩ := okWide_slice Tryz.underlying23 (hval 1 23 v1 rfl rfl)
  obtain ⟨x1, w1⟩ := (by obtain ⟨m, hm⟩ := h1; exact TriggerL_of_trod (by simpa [Value.cells] using hm) : ∃ ds : List Tg, Sl TgR 5 (fun _ => True) W a1 len1 ds ∧ (ds.length ≤ maxLen ∧ ∀ y ∈ ds, y.wf))
  obtain ⟨a2, rfl, rfl, rfl, w2⟩ := open_int Tryz.underlying2 (hval 2 2 v2 rfl rfl) h2
  obtain ⟨a3, rfl, rfl, rfl, w3⟩ := open_int Tryz.underlying2 (hval 3 2 v3 rfl rfl) h3
  obtain ⟨a4, len4, cap4, rfl⟩ := okWide_slice Tryz.underlying24 (hval 4 24 v4 rfl rfl)
  obtain ⟨x4, w4⟩ := vals_of_trod h4
  obtain ⟨a5, len5, cap5, rfl⟩ := okWide_slice Tryz.underlying24 (hval 5 24 v5 rfl rfl)
  obtain ⟨x5, w5⟩ := vals_of_trod h5
  clear hA0 hval0
  refine (walk a0 len0 cap0 x0 a1 len1 cap1 x1 a2 a3 a4 len4 cap4 x4 a5 len5 cap5 x5 W w0 w1 w2 w3 w4 w5).mono fun e W' ⟨he, bel⟩ => ?_
  subst he
  exact ⟨_, rfl, _, _, _, [], _, [], hW', trodAll_mk1 (shut_bool Tryz.underlying4 _), (trodAll_cons_mk (Below.trod laidOut (by kernel_rfl) (of_decide_eq_true (by kernel_rfl)) k0' bel lt0) (trodAll_cons_mk (Below.trod laidOut (by kernel_rfl) (of_decide_eq_true (by kernel_rfl)) k1' bel lt1) (trodAll_cons_mk (Below.trod laidOut (by kernel_rfl) (of_decide_eq_true (by kernel_rfl)) k2' bel lt2) (trodAll_cons_mk (Below.trod laidOut (by kernel_rfl) (of_decide_eq_true (by kernel_rfl)) k3' bel lt3) (trodAll_cons_mk (Below.trod laidOut (by kernel_rfl) (of_decide_eq_true (by kernel_rfl)) k4' bel lt4) (trodAll_cons_mk (Below.trod laidOut (by kernel_rfl) (of_decide_eq_true (by kernel_rfl)) k5' bel lt5) trodAll_mk0)))))), rfl, bel.frame _, fun h => by cases h⟩

set_option maxRecDepth 100000 in
set_option maxHeartbeats 16000000 in
theorem facts : joinedFacts Tryz.checked.prog 3 Tryz.f3 Rows.fnExactFiresSpec Rows.fnExactFiresRow = true := by
  unfold joinedFacts
  repeat' (with_reducible refine Bool.and_eq_true_iff.2 ⟨?_, ?_⟩)
  all_goals (as_aux_lemma => kernel_rfl)

theorem over : Rows.fnExactFiresRow.holds Tryz.pinned (OpenSpec.ofChange Rows.fnExactFiresSpec) :=
  OpenClaim.holds_of_wide 3 Tryz.f3 rfl rfl rfl rfl rfl rfl rfl ⟨rfl, rfl, rfl, rfl, rfl⟩ rfl rfl rfl rfl rfl (by kernel_rfl) Tryz.func3 facts
    (of_decide_eq_true (by as_aux_lemma => kernel_rfl)) (by unfold Func.isWrapper; first | (rw [if_pos (by decide +kernel)]; kernel_rfl) | (rw [if_neg (by decide +kernel)]; exact ⟨rfl, rfl⟩))
    (fun os started H enc _ => lifted os started H enc)

theorem proved : Rows.FnExactFiresSaid := over
#print axioms proved
end Go.Proofs.YtemimhghhihllaaGreat.fnExactFires
