/-
  SessionNew answers as the model at every schema, in memory of its own (law FnExactSessionNew, for every input).
-/
import Derived.Test.YthamekdjfoepmaaGreatAa
import Derived.Test.YthamekdjfoepmaaGreatAb
import Derived.Test.YthamekdjfoepmaaGreatAc
import Derived.Test.YthamekdjfoepmaaGreatAd
namespace Go.Proofs.YthamekdjfoepmaaGreat.fnExactSessionNew
open Go.ChangeShapes Go.WideShapes Go.ChangeAt Go.RowKit Go.Joins
open Go.ChangeMaps (open_string shut_string)
set_option linter.unusedSimpArgs false
set_option linter.unusedVariables false

set_option maxRecDepth 100000 in
set_option maxHeartbeats 4000000 in
theorem walk (a0 : Option Addr) (len0 cap0 : Nat) (x0 : List Tb) (w : World) (w0 : Sl TbR 6 (fun _ => True) w a0 len0 x0 ∧ (x0.length ≤ maxLen ∧ ∀ y ∈ x0, y.wf)) :
    Calls Tryz.prog 3 #[.slice a0 len0 cap0] w fun e w' => e = .returned (.bool true) ∧ Below w.heap.size w w' := by
  obtain ⟨h0, wf0⟩ := w0
  obtain rfl : x0.length = len0 := h0.1
  have WF0 := Lib.hid wf0
  clear wf0
  have hbb0 := (Below.refl w.heap.size w)
  go_enter Tryz.func3, Tryz.ntmps3
  go_wp2_with fail
  refine (lawsSzTableL a0 x0.length cap0 x0 1048576 _ _ (h0.below TbR.stays hbb0) WF0.out (by omega) (by omega)).mono ?_
  rintro e y1 ⟨rfl, hq1⟩
  have hbb1 := (hbb0).trans (hq1.mono (hbb0).size)
  rcases szR_cases 1048576 (szL Tb.sz x0) (by omega) with ⟨hno1, hv1⟩ | ⟨l1, hv1, -, h01, h11, hle1⟩
  · rw [hv1.out]
    go_wp2
    go_ret
    exact ⟨rfl, hbb1⟩
  rw [hv1.out]
  have S0 := Lib.hid (show szL Tb.sz x0 ≤ 1048576 by omega)
  clear hle1
  obtain ⟨aw, haw⟩ : ∃ g, g = sessIf (schemaB x0) x0 := ⟨_, rfl⟩
  have FIT := Lib.hid (show aw.fits by rw [haw]; exact sessIf_fits _ _ S0.out)
  have HAW := Lib.hid haw
  have hop : aw.isOpen = false := by rw [haw]; exact sessIf_open _ _
  have hst : aw.start = [] := by rw [haw]; exact sessIf_start _ _
  have hsv : aw.saves = [] := by rw [haw]; exact sessIf_saves _ _
  have HOP := Lib.hid hop
  have HST := Lib.hid hst
  have HSV := Lib.hid hsv
  clear haw hop hst hsv
  go_wp2_with fail
  refine (lawsToTableL a0 x0.length cap0 x0 _ _ (h0.below TbR.stays hbb1) S0.out).mono ?_
  rintro e y2 ⟨Bs0, ds0, rfl, hcps0, ts0, hq2⟩
  have hbb2 := (hbb1).trans (hq2.mono (hbb1).size)
  go_wp2_with fail
  refine (specSessionNew Bs0 x0.length ds0 x0 _ _ ts0 hcps0 S0.out).mono ?_
  rintro e y3 ⟨A0, m0, c0, A1, m1, c1, rfl, tw0, tw1, hq3⟩
  rw [← HAW.out] at tw0 tw1
  obtain rfl : aw.schema.length = m0 := tw0.1
  obtain rfl : aw.db.length = m1 := tw1.1
  clear ts0
  have hbb3 := (hbb2).trans (hq3.mono (hbb2).size)
  have hal : Below y3.heap.size y3 (y3.alloc (.cells #[.slice A0 aw.schema.length c0, .slice A1 aw.db.length c1, .bool false, .slice none 0 0, .slice none 0 0] 28)) := (Below.refl _ _).alloc (Nat.le_refl _) _
  have rw_ := Row.new y3 28 #[.slice A0 aw.schema.length c0, .slice A1 aw.db.length c1, .bool false, .slice none 0 0, .slice none 0 0]
  have tw0 := tw0.below TbR.stays hal
  have tw1 := tw1.below DtR.stays hal
  have hbb4 := (hbb3).trans (hal.mono (hbb3).size)
  have hlt_rw_ : y3.heap.size < (y3.alloc (.cells #[.slice A0 aw.schema.length c0, .slice A1 aw.db.length c1, .bool false, .slice none 0 0, .slice none 0 0] 28)).heap.size := lt_of_block rw_
  go_wp2_with fail
  generalize hz : y3.alloc (.cells #[.slice A0 aw.schema.length c0, .slice A1 aw.db.length c1, .bool false, .slice none 0 0, .slice none 0 0] 28) = y4 at *
  clear hz hal
  have HBG := Lib.hid (show w.heap.size ≤ y4.heap.size from hbb4.size)
  refine (lawsToTableL a0 x0.length cap0 x0 _ _ (h0.below TbR.stays hbb4) S0.out).mono ?_
  rintro e y5 ⟨Bx0, dx0, rfl, hcpx0, tx, hq5⟩
  have hbb5 := (hbb4).trans (hq5.mono (hbb4).size)
  have tw0 := tw0.below TbR.stays hq5
  have tw1 := tw1.below DtR.stays hq5
  have rw_ := Row.below rw_ hq5
  have M0 : mayMark y4.heap.size y5.heap.size y5 (okF _ y5) := fun b hb => ⟨Nat.le_trans (Nat.le_refl _) hb.1, hb.2.1, hb.2.1, hb.2.2⟩
  have hm45 : y4.heap.size ≤ y5.heap.size := hq5.size
  have M0 : mayMark y4.heap.size y5.heap.size y5 _ := fun b hb => ⟨(M0 b hb).1, (M0 b hb).2.2.1, (M0 b hb).2.2⟩
  go_wp2_with fail
  refine (implSessionNew Bx0 x0.length dx0 x0 _ _ tx S0.out).mono ?_
  rintro e y6 ⟨cs, bs, rfl, so, hq6⟩
  rw [← HAW.out] at so
  obtain ⟨G0, e0, G1, e1, G3, e3, G4, e4, rfl⟩ := so.form FIT.out
  have so : SsO y6 y5.heap.size [.slice G0 aw.schema.length e0, .slice G1 aw.db.length e1, .bool false, .slice G3 0 e3, .slice G4 0 e4] aw bs := by have := so; rw [HOP.out, HST.out, HSV.out] at this; exact this
  rw [HOP.out, HST.out, HSV.out]
  simp only [List.length_nil]
  have hbb6 := (hbb5).trans (hq6.mono (hbb5).size)
  have tw0 := tw0.below TbR.stays hq6
  have tw1 := tw1.below DtR.stays hq6
  have rw_ := Row.below rw_ hq6
  have tx := tx.below TbR.stays hq6
  have M0 := M0.below hq6
  have hbs6 : ∀ b ∈ bs, b < y6.heap.size := fun b hb => (so.lt b hb).2
  have hb56 : y5.heap.size ≤ y6.heap.size := hq6.size
  have hal : Below y6.heap.size y6 (y6.alloc (.cells #[.slice G0 aw.schema.length e0, .slice G1 aw.db.length e1, .bool false, .slice G3 0 e3, .slice G4 0 e4] 28)) := (Below.refl _ _).alloc (Nat.le_refl _) _
  have rg_ := Row.new y6 28 #[.slice G0 aw.schema.length e0, .slice G1 aw.db.length e1, .bool false, .slice G3 0 e3, .slice G4 0 e4]
  have tw0 := tw0.below TbR.stays hal
  have tw1 := tw1.below DtR.stays hal
  have rw_ := Row.below rw_ hal
  have tx := tx.below TbR.stays hal
  have M0 := M0.below hal
  have so := SsO.below so hal
  have hbb7 := (hbb6).trans (hal.mono (hbb6).size)
  have hlt_rg_ : y6.heap.size < (y6.alloc (.cells #[.slice G0 aw.schema.length e0, .slice G1 aw.db.length e1, .bool false, .slice G3 0 e3, .slice G4 0 e4] 28)).heap.size := lt_of_block rg_
  obtain ⟨⟨krw_0, krw_1, krw_2, krw_3, krw_4⟩, -⟩ := rw_.five
  obtain ⟨⟨krg_0, krg_1, krg_2, krg_3, krg_4⟩, -⟩ := rg_.five
  go_wp2_with fail
  clear krw_0 krw_1 krw_2 krw_3 krw_4 krg_0 krg_1 krg_2 krg_3 krg_4
  generalize hz : y6.alloc (.cells #[.slice G0 aw.schema.length e0, .slice G1 aw.db.length e1, .bool false, .slice G3 0 e3, .slice G4 0 e4] 28) = y7 at *
  clear hz hal
  have EQ := lawsEqSessM aw G0 A0 aw.schema.length e0 c0 G1 A1 aw.db.length e1 c1 G3 none aw.start.length e3 0 G4 none aw.saves.length e4 0 _ _ _ (so.reads FIT.out).1 (so.reads FIT.out).2.1 (by have := (so.reads FIT.out).2.2.1; rw [HST.out] at this ⊢; exact this) (by have := (so.reads FIT.out).2.2.2; rw [HSV.out] at this ⊢; exact this) tw0 tw1 (by rw [HST.out]; exact ⟨rfl, fun hn => by simp at hn⟩) (by rw [HSV.out]; exact ⟨rfl, fun hn => by simp at hn⟩) FIT.out
  rw [HOP.out, HST.out, HSV.out] at EQ
  simp only [List.length_nil] at EQ
  refine EQ.mono ?_
  clear EQ
  rintro e y8 ⟨rfl, hq8⟩
  have hbb8 := (hbb7).trans (hq8.mono (hbb7).size)
  have tw0 := tw0.below TbR.stays hq8
  have tw1 := tw1.below DtR.stays hq8
  have rw_ := Row.below rw_ hq8
  have tx := tx.below TbR.stays hq8
  have M0 := M0.below hq8
  have so := SsO.below so hq8
  have rg_ := Row.below rg_ hq8
  obtain ⟨⟨krw_0, krw_1, krw_2, krw_3, krw_4⟩, -⟩ := rw_.five
  obtain ⟨⟨krg_0, krg_1, krg_2, krg_3, krg_4⟩, -⟩ := rg_.five
  go_wp2_with fail
  clear krw_0 krw_1 krw_2 krw_3 krw_4 krg_0 krg_1 krg_2 krg_3 krg_4
  refine (lawsToTableL a0 x0.length cap0 x0 _ _ (h0.below TbR.stays hbb8) S0.out).mono ?_
  rintro e y9 ⟨Be0, de0, rfl, -, te0, hq9⟩
  have hbb9 := (hbb8).trans (hq9.mono (hbb8).size)
  have tw0 := tw0.below TbR.stays hq9
  have tw1 := tw1.below DtR.stays hq9
  have rw_ := Row.below rw_ hq9
  have tx := tx.below TbR.stays hq9
  have M0 := M0.below hq9
  have so := SsO.below so hq9
  have rg_ := Row.below rg_ hq9
  go_wp2_with fail
  refine (lawsEqTableL _ _ _ _ _ x0 _ _ _ tx te0 S0.out).mono ?_
  rintro e y10 ⟨rfl, hq10⟩
  clear te0
  have hbb10 := (hbb9).trans (hq10.mono (hbb9).size)
  have tw0 := tw0.below TbR.stays hq10
  have tw1 := tw1.below DtR.stays hq10
  have rw_ := Row.below rw_ hq10
  have tx := tx.below TbR.stays hq10
  have M0 := M0.below hq10
  have so := SsO.below so hq10
  have rg_ := Row.below rg_ hq10
  go_wp2_with fail
  have hbd0 : (x0.map Tb.cnt).sum ≤ 6291456 := by have h1 := sum_le_of (f := Tb.cnt) (g := Tb.sz) 6 Tb.cnt_le x0; have h2 := S0.out; omega
  generalize hsm0 : (x0.map Tb.cnt).sum = sm0 at hbd0
  have HSM0 := Lib.hid hsm0
  clear hsm0
  have sh0 := tx.toSh Tb.toSh (fun y hy => by have h1 := szL_mem Tb.sz x0 y hy; have h2 := S0.out; omega)
  clear tx
  refine (marksTableL _ _ _ _ _ y4.heap.size y5.heap.size (1) _ sh0 M0 (by rw [HSM0.out]; omega) (by have h2 := S0.out; (try unfold szL at h2); omega) (by first | rfl | omega)).mono ?_
  rintro e y11 ⟨rfl, hq11⟩
  have hbb11 := Kept.toBelow (hbb10) hq11 HBG.out (hbb10).size
  have tw0 := tw0.kept TbR.stays hq11 (fun b hb => Or.inl (Nat.lt_trans hb.2.1 hlt_rw_))
  have tw1 := tw1.kept DtR.stays hq11 (fun b hb => Or.inl (Nat.lt_trans hb.2.1 hlt_rw_))
  have rw_ := Row.keptK rw_ hq11 (Or.inl hlt_rw_)
  have so := so.kept hq11 (Nat.le_refl _)
  have rg_ := Row.keptK rg_ hq11 (Or.inr hb56)
  rw [HSM0.out]
  clear sh0 M0
  generalize hkk : 1 + sm0 = kk
  have hk1 : 1 ≤ kk := by omega
  have hk2 : (0 : Int) ≤ (kk : Int) := by omega
  have hk3 : decide ((kk : Int) < 0) = false := by rw [decide_eq_false_iff_not]; omega
  clear hkk
  obtain ⟨⟨krw_0, krw_1, krw_2, krw_3, krw_4⟩, -⟩ := rw_.five
  obtain ⟨⟨krg_0, krg_1, krg_2, krg_3, krg_4⟩, -⟩ := rg_.five
  go_wp2_with fail
  clear krw_0 krw_1 krw_2 krw_3 krw_4 krg_0 krg_1 krg_2 krg_3 krg_4
  have EQ := lawsEqSessM aw G0 A0 aw.schema.length e0 c0 G1 A1 aw.db.length e1 c1 G3 none aw.start.length e3 0 G4 none aw.saves.length e4 0 _ _ _ (so.reads FIT.out).1 (so.reads FIT.out).2.1 (by have := (so.reads FIT.out).2.2.1; rw [HST.out] at this ⊢; exact this) (by have := (so.reads FIT.out).2.2.2; rw [HSV.out] at this ⊢; exact this) tw0 tw1 (by rw [HST.out]; exact ⟨rfl, fun hn => by simp at hn⟩) (by rw [HSV.out]; exact ⟨rfl, fun hn => by simp at hn⟩) FIT.out
  rw [HOP.out, HST.out, HSV.out] at EQ
  simp only [List.length_nil] at EQ
  refine EQ.mono ?_
  clear EQ
  rintro e y12 ⟨rfl, hq12⟩
  have hbb12 := (hbb11).trans (hq12.mono (hbb11).size)
  have tw0 := tw0.below TbR.stays hq12
  have tw1 := tw1.below DtR.stays hq12
  have rw_ := Row.below rw_ hq12
  have so := SsO.below so hq12
  have rg_ := Row.below rg_ hq12
  obtain ⟨⟨krw_0, krw_1, krw_2, krw_3, krw_4⟩, -⟩ := rw_.five
  obtain ⟨⟨krg_0, krg_1, krg_2, krg_3, krg_4⟩, -⟩ := rg_.five
  go_wp2_with fail
  clear krw_0 krw_1 krw_2 krw_3 krw_4 krg_0 krg_1 krg_2 krg_3 krg_4
  obtain ⟨b0, b1, b3, b4, ⟨s0, s1, s3, s4⟩, hAp, hbsf⟩ := so.shapes FIT.out
  have hc0 : (aw.schema.map Tb.cnt).sum ≤ 6291456 := by have h1 := sum_le_of (f := Tb.cnt) (g := Tb.sz) 6 Tb.cnt_le aw.schema; have h2 := FIT.out.1; omega
  have hc1 : (aw.db.map Dt.cnt).sum ≤ 6291456 := by have h1 := sum_le_of (f := Dt.cnt) (g := Dt.sz) 6 Dt.cnt_le aw.db; have h2 := FIT.out.2.1; omega
  have hc3 : (aw.start.map Dt.cnt).sum = 0 := by rw [HST.out]; rfl
  have hc4 : (aw.saves.map Sv.cnt).sum = 0 := by rw [HSV.out]; rfl
  generalize haa0 : aw.schema.map Tb.cnt = aa0 at *
  generalize haa1 : aw.db.map Dt.cnt = aa1 at *
  generalize haa3 : aw.start.map Dt.cnt = aa3 at *
  generalize haa4 : aw.saves.map Sv.cnt = aa4 at *
  clear haa0 haa1 haa3 haa4
  have hnw : y3.heap.size ∉ [b0, b1, b3, b4].flatten := fun hh => by rw [← hbsf] at hh; have := (so.lt _ hh).1; omega
  have hng : y6.heap.size ∉ [b0, b1, b3, b4].flatten := fun hh => by rw [← hbsf] at hh; have := hbs6 _ hh; omega
  have hnt : ∀ b, b < y3.heap.size → b ∉ [b0, b1, b3, b4].flatten := fun b hb hh => by rw [← hbsf] at hh; have := (so.lt _ hh).1; omega
  have hbl : ∀ b ∈ [b0, b1, b3, b4].flatten, w.heap.size ≤ b := fun b hh => by rw [← hbsf] at hh; have h1 := (so.lt _ hh).1; have h2 := HBG.out; omega
  refine (marksSess G0 aw.schema.length e0 aa0 b0 G1 aw.db.length e1 aa1 b1 G3 0 e3 aa3 b3 G4 0 e4 aa4 b4 false 1 _ s0 s1 s3 s4 hAp (fun b hb => by rw [← hbsf] at hb; exact (so.lt b hb).2) (by omega) rfl).mono ?_
  rintro e y13 ⟨rfl, hq13, d0, d1, d3, d4⟩
  have hbb13 := KeptL.toBelow hbb12 hq13 hbl hbb12.size
  have tw0 := tw0.keptS TbR.stays hq13 (fun b hb => hnt b hb.2.1)
  have tw1 := tw1.keptS DtR.stays hq13 (fun b hb => hnt b hb.2.1)
  have rw_ := Row.keptS rw_ hq13 hnw
  have rg_ := Row.keptS rg_ hq13 hng
  generalize hkm : 1 + aa0.sum + aa1.sum + aa3.sum + aa4.sum = km
  have hkm1 : (0 : Int) ≤ (km : Int) := by omega
  have hkm2 : decide ((km : Int) < 0) = false := by rw [decide_eq_false_iff_not]; omega
  have HKM := Lib.hid hkm
  clear s0 s1 s3 s4 so hkm
  obtain ⟨⟨krw_0, krw_1, krw_2, krw_3, krw_4⟩, -⟩ := rw_.five
  obtain ⟨⟨krg_0, krg_1, krg_2, krg_3, krg_4⟩, -⟩ := rg_.five
  go_wp2_with fail
  clear krw_0 krw_1 krw_2 krw_3 krw_4 krg_0 krg_1 krg_2 krg_3 krg_4
  refine (heldSess G0 aw.schema.length e0 aa0 b0 G1 aw.db.length e1 aa1 b1 G3 0 e3 aa3 b3 G4 0 e4 aa4 b4 false 1 _ d0 d1 d3 d4 (by omega) rfl).mono ?_
  rintro e y14 ⟨rfl, hq14⟩
  rw [HKM.out]
  have hbb14 := (hbb13).trans (hq14.mono (hbb13).size)
  have tw0 := tw0.below TbR.stays hq14
  have tw1 := tw1.below DtR.stays hq14
  have rw_ := Row.below rw_ hq14
  have rg_ := Row.below rg_ hq14
  have d0 := d0.below TbH.stay hq14
  have d1 := d1.below DtH.stay hq14
  have d3 := d3.below DtH.stay hq14
  have d4 := d4.below SvH.stay hq14
  obtain ⟨⟨krw_0, krw_1, krw_2, krw_3, krw_4⟩, -⟩ := rw_.five
  obtain ⟨⟨krg_0, krg_1, krg_2, krg_3, krg_4⟩, -⟩ := rg_.five
  go_wp2_with fail
  clear krw_0 krw_1 krw_2 krw_3 krw_4 krg_0 krg_1 krg_2 krg_3 krg_4
  refine (lawsToTableL a0 x0.length cap0 x0 _ _ (h0.below TbR.stays hbb14) S0.out).mono ?_
  rintro e y15 ⟨Bh0, dh0, rfl, hcph0, th0, hq15⟩
  have hbb15 := (hbb14).trans (hq15.mono (hbb14).size)
  have tw0 := tw0.below TbR.stays hq15
  have tw1 := tw1.below DtR.stays hq15
  have rw_ := Row.below rw_ hq15
  have rg_ := Row.below rg_ hq15
  have d0 := d0.below TbH.stay hq15
  have d1 := d1.below DtH.stay hq15
  have d3 := d3.below DtH.stay hq15
  have d4 := d4.below SvH.stay hq15
  go_wp2_with fail
  refine (implSessionNew Bh0 x0.length dh0 x0 _ _ th0 S0.out).mono ?_
  rintro e y16 ⟨ch, bh, rfl, sh, hq16⟩
  rw [← HAW.out] at sh
  obtain ⟨H0, i0, H1, i1, H3, i3, H4, i4, rfl⟩ := sh.form FIT.out
  have sh : SsO y16 y15.heap.size [.slice H0 aw.schema.length i0, .slice H1 aw.db.length i1, .bool false, .slice H3 0 i3, .slice H4 0 i4] aw bh := by have := sh; rw [HOP.out, HST.out, HSV.out] at this; exact this
  rw [HOP.out, HST.out, HSV.out]
  simp only [List.length_nil]
  clear th0
  have hbb16 := (hbb15).trans (hq16.mono (hbb15).size)
  have tw0 := tw0.below TbR.stays hq16
  have tw1 := tw1.below DtR.stays hq16
  have rw_ := Row.below rw_ hq16
  have rg_ := Row.below rg_ hq16
  have d0 := d0.below TbH.stay hq16
  have d1 := d1.below DtH.stay hq16
  have d3 := d3.below DtH.stay hq16
  have d4 := d4.below SvH.stay hq16
  have hal : Below y16.heap.size y16 (y16.alloc (.cells #[.slice H0 aw.schema.length i0, .slice H1 aw.db.length i1, .bool false, .slice H3 0 i3, .slice H4 0 i4] 28)) := (Below.refl _ _).alloc (Nat.le_refl _) _
  have rh_ := Row.new y16 28 #[.slice H0 aw.schema.length i0, .slice H1 aw.db.length i1, .bool false, .slice H3 0 i3, .slice H4 0 i4]
  have tw0 := tw0.below TbR.stays hal
  have tw1 := tw1.below DtR.stays hal
  have rw_ := Row.below rw_ hal
  have rg_ := Row.below rg_ hal
  have d0 := d0.below TbH.stay hal
  have d1 := d1.below DtH.stay hal
  have d3 := d3.below DtH.stay hal
  have d4 := d4.below SvH.stay hal
  have sh := SsO.below sh hal
  have hbb17 := (hbb16).trans (hal.mono (hbb16).size)
  have hlt_rh_ : y16.heap.size < (y16.alloc (.cells #[.slice H0 aw.schema.length i0, .slice H1 aw.db.length i1, .bool false, .slice H3 0 i3, .slice H4 0 i4] 28)).heap.size := lt_of_block rh_
  obtain ⟨⟨krw_0, krw_1, krw_2, krw_3, krw_4⟩, -⟩ := rw_.five
  obtain ⟨⟨krh_0, krh_1, krh_2, krh_3, krh_4⟩, -⟩ := rh_.five
  go_wp2_with fail
  clear krw_0 krw_1 krw_2 krw_3 krw_4 krh_0 krh_1 krh_2 krh_3 krh_4
  generalize hz : y16.alloc (.cells #[.slice H0 aw.schema.length i0, .slice H1 aw.db.length i1, .bool false, .slice H3 0 i3, .slice H4 0 i4] 28) = y17 at *
  clear hz hal
  have EQ := lawsEqSessM aw H0 A0 aw.schema.length i0 c0 H1 A1 aw.db.length i1 c1 H3 none aw.start.length i3 0 H4 none aw.saves.length i4 0 _ _ _ (sh.reads FIT.out).1 (sh.reads FIT.out).2.1 (by have := (sh.reads FIT.out).2.2.1; rw [HST.out] at this ⊢; exact this) (by have := (sh.reads FIT.out).2.2.2; rw [HSV.out] at this ⊢; exact this) tw0 tw1 (by rw [HST.out]; exact ⟨rfl, fun hn => by simp at hn⟩) (by rw [HSV.out]; exact ⟨rfl, fun hn => by simp at hn⟩) FIT.out
  rw [HOP.out, HST.out, HSV.out] at EQ
  simp only [List.length_nil] at EQ
  refine EQ.mono ?_
  clear EQ
  rintro e y18 ⟨rfl, hq18⟩
  have hbb18 := (hbb17).trans (hq18.mono (hbb17).size)
  have tw0 := tw0.below TbR.stays hq18
  have tw1 := tw1.below DtR.stays hq18
  have rw_ := Row.below rw_ hq18
  have rg_ := Row.below rg_ hq18
  have d0 := d0.below TbH.stay hq18
  have d1 := d1.below DtH.stay hq18
  have d3 := d3.below DtH.stay hq18
  have d4 := d4.below SvH.stay hq18
  have sh := SsO.below sh hq18
  have rh_ := Row.below rh_ hq18
  obtain ⟨⟨krw_0, krw_1, krw_2, krw_3, krw_4⟩, -⟩ := rw_.five
  obtain ⟨⟨krg_0, krg_1, krg_2, krg_3, krg_4⟩, -⟩ := rg_.five
  obtain ⟨⟨krh_0, krh_1, krh_2, krh_3, krh_4⟩, -⟩ := rh_.five
  go_wp2_with fail
  clear krw_0 krw_1 krw_2 krw_3 krw_4 krg_0 krg_1 krg_2 krg_3 krg_4 krh_0 krh_1 krh_2 krh_3 krh_4
  refine (heldSess G0 aw.schema.length e0 aa0 b0 G1 aw.db.length e1 aa1 b1 G3 0 e3 aa3 b3 G4 0 e4 aa4 b4 false 1 _ d0 d1 d3 d4 (by omega) rfl).mono ?_
  rintro e y19 ⟨rfl, hq19⟩
  rw [HKM.out]
  have hbb19 := (hbb18).trans (hq19.mono (hbb18).size)
  have tw0 := tw0.below TbR.stays hq19
  have tw1 := tw1.below DtR.stays hq19
  have rw_ := Row.below rw_ hq19
  have rg_ := Row.below rg_ hq19
  have d0 := d0.below TbH.stay hq19
  have d1 := d1.below DtH.stay hq19
  have d3 := d3.below DtH.stay hq19
  have d4 := d4.below SvH.stay hq19
  have sh := SsO.below sh hq19
  have rh_ := Row.below rh_ hq19
  go_wp2_with fail
  go_ret
  exact ⟨rfl, hbb19⟩

set_option maxRecDepth 100000 in
theorem lifted (os : Os) (started : os.Started) (H : Type) (enc : TypeId × Value → H) :
    ReturnsInHanded {} Tryz.checked os 3 .any (Rows.fnExactSessionNewSpec.pre6 enc Tryz.prog Tryz.f3 Rows.fnExactSessionNewRow.domain false) (Rows.fnExactSessionNewSpec.post enc Tryz.prog Tryz.f3 false true false false) := by
  refine returnsInHanded_of_change (C := Tryz.checked) own started (by kernel_rfl) Tryz.func3
    (ChangeSpec.witness6 (enc := enc) (C := Tryz.checked) false ⟨#[], #[.slice none 0 0], []⟩ 8 (by kernel_rfl) (by kernel_rfl) (by kernel_rfl) (by kernel_rfl)) ?_
  intro W base args ds gs before hval0 hW hcnd _
  have hval : ∀ (j : Nat) t v, Tryz.f3.params[j]? = some t → args[j]? = some v → Value.okWide Tryz.prog W .any base t v := hval0
  have hW' := hW
  obtain ⟨p, q, hA0, hV, rfl, hfz, hnd⟩ := hW
  have hA : DataW.TrodAll enc Tryz.prog W 0 (fun _ => true) true Tryz.f3.params.toList args.toList ds p := hA0
  rw [Tryz.params3] at hA hval
  obtain ⟨v0, vs0, d0, ds0, p0, q0, hargs, rfl, rfl, h0, r0⟩ := trodAll_cons hA
  obtain ⟨rfl, rfl, rfl⟩ := trodAll_nil r0
  obtain rfl : args = #[v0] := by cases args; simp_all
  obtain ⟨rfl, rfl⟩ := trodVars_none hV
  have k0' := h0
  have lt0 : ∀ x ∈ p0, x.block < W.heap.size := by obtain ⟨m, hm⟩ := k0'; exact DataW.trod_lt m _ _ _ hm
  obtain ⟨a0, len0, cap0, rfl⟩ := okWide_slice Tryz.underlying22 (hval 0 22 v0 rfl rfl)
  obtain ⟨x0, w0⟩ := (by obtain ⟨m, hm⟩ := h0; exact TableL_of_trod (by simpa [Value.cells] using hm) : ∃ ds : List Tb, Sl TbR 6 (fun _ => True) W a0 len0 ds ∧ (ds.length ≤ maxLen ∧ ∀ y ∈ ds, y.wf))
  clear hA0 hval0
  refine (walk a0 len0 cap0 x0 W w0).mono fun e W' ⟨he, bel⟩ => ?_
  subst he
  exact ⟨_, rfl, _, _, _, [], _, [], hW', trodAll_mk1 (shut_bool Tryz.underlying4 _), (trodAll_cons_mk (Below.trod laidOut (by kernel_rfl) (of_decide_eq_true (by kernel_rfl)) k0' bel lt0) trodAll_mk0), rfl, bel.frame _, fun h => by cases h⟩

set_option maxRecDepth 100000 in
set_option maxHeartbeats 16000000 in
theorem facts : joinedFacts Tryz.checked.prog 3 Tryz.f3 Rows.fnExactSessionNewSpec Rows.fnExactSessionNewRow = true := by
  unfold joinedFacts
  repeat' (with_reducible refine Bool.and_eq_true_iff.2 ⟨?_, ?_⟩)
  all_goals (as_aux_lemma => kernel_rfl)

theorem over : Rows.fnExactSessionNewRow.holds Tryz.pinned (OpenSpec.ofChange Rows.fnExactSessionNewSpec) :=
  OpenClaim.holds_of_wide 3 Tryz.f3 rfl rfl rfl rfl rfl rfl rfl ⟨rfl, rfl, rfl, rfl, rfl⟩ rfl rfl rfl rfl rfl (by kernel_rfl) Tryz.func3 facts
    (of_decide_eq_true (by as_aux_lemma => kernel_rfl)) (by unfold Func.isWrapper; first | (rw [if_pos (by decide +kernel)]; kernel_rfl) | (rw [if_neg (by decide +kernel)]; exact ⟨rfl, rfl⟩))
    (fun os started H enc _ => lifted os started H enc)

theorem proved : Rows.FnExactSessionNewSaid := over
#print axioms proved
end Go.Proofs.YthamekdjfoepmaaGreat.fnExactSessionNew
