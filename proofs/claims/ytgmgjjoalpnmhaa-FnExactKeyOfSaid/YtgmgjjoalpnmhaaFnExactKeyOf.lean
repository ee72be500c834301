/-
  KeyOf answers as the model at every list of columns and every row, in memory of its own (law FnExactKeyOf, for every input).
-/
import Derived.Test.YtgmgjjoalpnmhaaBase
import Derived.Test.YtgmgjjoalpnmhaaKeySpec
import Derived.Test.YtgmgjjoalpnmhaaMarkX
import Derived.Test.YtgmgjjoalpnmhaaEq
import Derived.Test.YtgmgjjoalpnmhaaTrod
import Derived.Test.YtgmgjjoalpnmhaaSz
namespace Go.Proofs.Ytgmgjjoalpnmhaa.fnExactKeyOf
open Go.ChangeShapes Go.WideShapes Go.ChangeAt Go.RowKit Go.Joins
open Go.ChangeMaps (open_string shut_string)
set_option linter.unusedVariables false

set_option maxRecDepth 100000 in
set_option maxHeartbeats 2000000 in
theorem walk (a0 : Option Addr) (len0 cap0 : Nat) (x0 : List Int) (a1 : Option Addr) (len1 cap1 : Nat) (x1 : List Vl) (w : World) (w0 : Sl IntR 1 (fun _ => True) w a0 len0 x0 ∧ x0.length ≤ maxLen) (w1 : IsVals w a1 len1 x1) :
    Calls Try.prog 3 #[.slice a0 len0 cap0, .slice a1 len1 cap1] w fun e w' => e = .returned (.bool true) ∧ Below w.heap.size w w' := by
  obtain ⟨h0, wf0⟩ := w0
  obtain rfl : x0.length = len0 := h0.1
  obtain ⟨h1, hl1, wf1⟩ := w1
  have h1 := Sl.of_cellz h1
  obtain rfl : x1.length = len1 := h1.1
  have WF1 := Lib.hid (And.intro hl1 wf1)
  clear hl1 wf1
  have hb0 := (Below.refl w.heap.size w)
  unfold maxLen at wf0
  by_cases hlong0 : (1048576 : Int) < (x0.length : Int)
  · go_enter Try.func3, Try.ntmps3
    go_wp2
    go_ret
    exact ⟨rfl, hb0⟩
  have hlong0' : decide ((1048576 : Int) < (x0.length : Int)) = false := by simpa using hlong0
  have S0 : x0.length ≤ 1048576 := by omega
  go_enter Try.func3, Try.ntmps3
  go_wp2_with fail
  refine (lawsSzValL a1 x1.length cap1 x1 1048576 _ _ (h1.below VlR.stays hb0) WF1.out (by omega) (by omega)).mono ?_
  rintro e y1 ⟨rfl, hq1⟩
  have hbb1 := (hb0).trans (hq1.mono (hb0).size)
  rcases szR_cases 1048576 (szL (fun v : Vl => v.s.size) x1) (by omega) with ⟨hno1, hv1⟩ | ⟨l1, hv1, -, h01, h11, hle1⟩
  · rw [hv1.out]
    go_wp2
    go_ret
    exact ⟨rfl, hbb1⟩
  rw [hv1.out]
  have S1 := Lib.hid (show szL (fun v : Vl => v.s.size) x1 ≤ 1048576 by omega)
  clear hle1
  go_wp2_with fail
  have HLN := Lib.hid (show (keyOf x0 x1).length ≤ 1048576 by have h1 := keyOf_len x0 x1; have h2 := S0; omega)
  refine (lawsToIntL a0 x0.length cap0 x0 _ _ (h0.below IntR.stays hbb1) S0).mono ?_
  rintro e y2 ⟨Bs0, ds0, rfl, hcps0, ts0, hq2⟩
  have hbb2 := (hbb1).trans (hq2.mono (hbb1).size)
  go_wp2_with fail
  refine (lawsToValL a1 x1.length cap1 x1 _ _ (h1.below VlR.stays hbb2) S1.out).mono ?_
  rintro e y3 ⟨Bs1, ds1, rfl, hcps1, ts1, hq3⟩
  have hbb3 := (hbb2).trans (hq3.mono (hbb2).size)
  have ts0 := ts0.below IntR.stays hq3
  go_wp2_with fail
  refine (specKeyOf Bs0 Bs1 x0.length ds0 x1.length ds1 x0 x1 _ _ _ ts0 ts1 S0 (by have := S1.out; unfold szL at this; omega)).mono ?_
  rintro e y4 ⟨Aw, cw, rfl, hcw, tw, hq4⟩
  have hbb4 := (hbb3).trans (hq4.mono (hbb3).size)
  have ts0 := ts0.below IntR.stays hq4
  have ts1 := ts1.below VlR.stays hq4
  clear ts0 ts1
  have hBG : w.heap.size ≤ y4.heap.size := (hbb4).size
  have HBG := Lib.hid hBG
  clear hBG
  go_wp2_with fail
  refine (lawsToIntL a0 x0.length cap0 x0 _ _ (h0.below IntR.stays hbb4) S0).mono ?_
  rintro e y5 ⟨Bx0, dx0, rfl, hcpx0, tx0, hq5⟩
  have hbb5 := (hbb4).trans (hq5.mono (hbb4).size)
  have tw := tw.below VlR.stays hq5
  have M0 : mayMark y4.heap.size y5.heap.size y5 (okF _ y5) := fun b hb => ⟨Nat.le_trans (Nat.le_refl _) hb.1, hb.2.1, hb.2.1, hb.2.2⟩
  have hmx : y4.heap.size ≤ y5.heap.size := (hq5).size
  go_wp2_with fail
  refine (lawsToValL a1 x1.length cap1 x1 _ _ (h1.below VlR.stays hbb5) S1.out).mono ?_
  rintro e y6 ⟨Bx1, dx1, rfl, hcpx1, tx1, hq6⟩
  have M0 := M0.below hq6
  have hbb6 := (hbb5).trans (hq6.mono (hbb5).size)
  have tw := tw.below VlR.stays hq6
  have tx0 := tx0.below IntR.stays hq6
  have M1 : mayMark y4.heap.size y6.heap.size y6 (okF _ y6) := fun b hb => ⟨Nat.le_trans hmx hb.1, hb.2.1, hb.2.1, hb.2.2⟩
  have hmx : y4.heap.size ≤ y6.heap.size := Nat.le_trans hmx (hq6).size
  go_wp2_with fail
  have M0 : mayMark y4.heap.size y6.heap.size y6 _ := fun b hb => ⟨(M0 b hb).1, (M0 b hb).2.2.1, (M0 b hb).2.2⟩
  have M1 : mayMark y4.heap.size y6.heap.size y6 _ := fun b hb => ⟨(M1 b hb).1, (M1 b hb).2.2.1, (M1 b hb).2.2⟩
  have HMX := Lib.hid hmx
  clear hmx
  refine (implKeyOf Bx0 Bx1 x0.length dx0 x1.length dx1 x0 x1 _ _ _ tx0 tx1 S0 (by have := S1.out; unfold szL at this; omega)).mono ?_
  rintro e y7 ⟨Ag, cg, rfl, hcg, tg, hq7⟩
  have M0 := M0.below hq7
  have M1 := M1.below hq7
  have hbb7 := (hbb6).trans (hq7.mono (hbb6).size)
  have tw := tw.below VlR.stays hq7
  have tx0 := tx0.below IntR.stays hq7
  have tx1 := tx1.below VlR.stays hq7
  have Mg := mayMark_okF (G := y6.heap.size) (Nat.le_refl y7.heap.size)
  go_wp2_with fail
  refine (lawsEqVals _ _ _ _ _ (keyOf x0 x1) _ (Sl.cellz (fun _ => rfl) tg) (Sl.cellz (fun _ => rfl) tw) (HLN.out)).mono ?_
  rintro e y8 ⟨rfl, hq8⟩
  have M0 := M0.below hq8
  have M1 := M1.below hq8
  have Mg := Mg.below hq8
  have hbb8 := (hbb7).trans (hq8.mono (hbb7).size)
  have tw := tw.below VlR.stays hq8
  have tx0 := tx0.below IntR.stays hq8
  have tx1 := tx1.below VlR.stays hq8
  have tg := tg.below VlR.stays hq8
  go_wp2_with fail
  refine (lawsToIntL a0 x0.length cap0 x0 _ _ (h0.below IntR.stays hbb8) S0).mono ?_
  rintro e y9 ⟨Be0, de0, rfl, -, te0, hq9⟩
  have M0 := M0.below hq9
  have M1 := M1.below hq9
  have Mg := Mg.below hq9
  have hbb9 := (hbb8).trans (hq9.mono (hbb8).size)
  have tw := tw.below VlR.stays hq9
  have tx0 := tx0.below IntR.stays hq9
  have tx1 := tx1.below VlR.stays hq9
  have tg := tg.below VlR.stays hq9
  go_wp2_with fail
  refine (lawsEqIntL _ _ _ _ _ x0 _ _ _ tx0 te0 S0).mono ?_
  rintro e y10 ⟨rfl, hq10⟩
  have M0 := M0.below hq10
  have M1 := M1.below hq10
  have Mg := Mg.below hq10
  have hbb10 := (hbb9).trans (hq10.mono (hbb9).size)
  have tw := tw.below VlR.stays hq10
  have tx0 := tx0.below IntR.stays hq10
  have tx1 := tx1.below VlR.stays hq10
  have tg := tg.below VlR.stays hq10
  go_wp2_with fail
  refine (lawsToValL a1 x1.length cap1 x1 _ _ (h1.below VlR.stays hbb10) S1.out).mono ?_
  rintro e y11 ⟨Be1, de1, rfl, -, te1, hq11⟩
  have M0 := M0.below hq11
  have M1 := M1.below hq11
  have Mg := Mg.below hq11
  have hbb11 := (hbb10).trans (hq11.mono (hbb10).size)
  have tw := tw.below VlR.stays hq11
  have tx0 := tx0.below IntR.stays hq11
  have tx1 := tx1.below VlR.stays hq11
  have tg := tg.below VlR.stays hq11
  go_wp2_with fail
  refine (lawsEqValL _ _ _ _ _ x1 _ _ _ tx1 te1 S1.out).mono ?_
  rintro e y12 ⟨rfl, hq12⟩
  have M0 := M0.below hq12
  have M1 := M1.below hq12
  have Mg := Mg.below hq12
  have hbb12 := (hbb11).trans (hq12.mono (hbb11).size)
  have tw := tw.below VlR.stays hq12
  have tx0 := tx0.below IntR.stays hq12
  have tx1 := tx1.below VlR.stays hq12
  have tg := tg.below VlR.stays hq12
  go_wp2_with fail
  have hbd0 : (x0.map (fun _ : Int => 1)).sum ≤ 6291456 := by have h1 := sum_ones x0; have h2 := S0; omega
  generalize hsm0 : (x0.map (fun _ : Int => 1)).sum = sm0 at hbd0
  have HSM0 := Lib.hid hsm0
  clear hsm0
  have sh0 := tx0.toSh Int.toSh (fun _ _ => trivial)
  clear tx0
  have sh1 := tx1.toSh Vl.toSh (fun _ _ => trivial)
  clear tx1
  refine (marksIntL _ _ _ _ _ y4.heap.size y6.heap.size (1) _ sh0 M0 (by rw [HSM0.out]; omega) (by have h2 := S0; (try unfold szL at h2); omega) (by first | rfl | omega)).mono ?_
  rintro e y13 ⟨rfl, hq13⟩
  have hbb13 := Kept.toBelow (hbb12) hq13 HBG.out (hbb12).size
  have M0 := M0.kept hq13
  have M1 := M1.kept hq13
  have Mg := Mg.kept hq13
  have tw := tw.kept VlR.stays hq13 (fun b hb => Or.inl hb.2.1)
  have tg := tg.kept VlR.stays hq13 (fun b hb => Or.inr hb.1)
  rw [HSM0.out]
  have sh1 := sh1.shape (ShF.keeps 3) hq13
  clear sh0
  go_wp2_with fail
  have hbd1 : (x1.map (fun _ : Vl => 3)).sum ≤ 6291456 := by have h1 := sum_le_of (f := (fun _ : Vl => 3)) (g := fun v : Vl => v.s.size) 6 (fun _ => by omega) x1; have h2 := S1.out; omega
  generalize hsm1 : (x1.map (fun _ : Vl => 3)).sum = sm1 at hbd1
  have HSM1 := Lib.hid hsm1
  clear hsm1
  refine (marksValL _ _ _ _ _ y4.heap.size y6.heap.size (1 + sm0) _ sh1 M1 (by rw [HSM1.out]; omega) (by have h2 := S1.out; (try unfold szL at h2); omega) (by first | rfl | omega)).mono ?_
  rintro e y14 ⟨rfl, hq14⟩
  have hbb14 := Kept.toBelow (hbb13) hq14 HBG.out (hbb13).size
  have M0 := M0.kept hq14
  have M1 := M1.kept hq14
  have Mg := Mg.kept hq14
  have tw := tw.kept VlR.stays hq14 (fun b hb => Or.inl hb.2.1)
  have tg := tg.kept VlR.stays hq14 (fun b hb => Or.inr hb.1)
  rw [HSM1.out]
  clear sh1
  generalize hkk : 1 + sm0 + sm1 = kk
  have hk1 : 1 ≤ kk := by omega
  have hk2 : (0 : Int) ≤ (kk : Int) := by omega
  have hk3 : decide ((kk : Int) < 0) = false := by rw [decide_eq_false_iff_not]; omega
  clear hkk
  go_wp2_with fail
  refine (lawsEqVals _ _ _ _ _ (keyOf x0 x1) _ (Sl.cellz (fun _ => rfl) tg) (Sl.cellz (fun _ => rfl) tw) (HLN.out)).mono ?_
  rintro e y15 ⟨rfl, hq15⟩
  have M0 := M0.below hq15
  have M1 := M1.below hq15
  have Mg := Mg.below hq15
  have hbb15 := (hbb14).trans (hq15.mono (hbb14).size)
  have tw := tw.below VlR.stays hq15
  have tg := tg.below VlR.stays hq15
  go_wp2_with fail
  have shg := tg.toSh Vl.toSh (fun _ _ => trivial)
  have HBX := Lib.hid (Nat.le_trans HBG.out HMX.out)
  clear tg
  have HBG := HBX
  refine (marksXValL _ _ _ _ _ y6.heap.size _ 1 _ shg Mg (by have := HLN.out; omega) (by have := HLN.out; omega) (by first | rfl | omega)).mono ?_
  rintro e y16 ⟨rfl, hq16, mg⟩
  have hbb16 := Kept.toBelow (hbb15) hq16 HBG.out (hbb15).size
  have M0 := M0.kept hq16
  have M1 := M1.kept hq16
  have Mg := Mg.kept hq16
  have tw := tw.kept VlR.stays hq16 (fun b hb => Or.inl (Nat.lt_of_lt_of_le hb.2.1 HMX.out))
  clear shg
  go_wp2_with fail
  refine (heldXValL _ _ _ 1 _ mg (by have := HLN.out; omega) (by have := HLN.out; omega) (by first | rfl | omega)).mono ?_
  rintro e y17 ⟨rfl, hq17⟩
  have M0 := M0.below hq17
  have M1 := M1.below hq17
  have Mg := Mg.below hq17
  have hbb17 := (hbb16).trans (hq17.mono (hbb16).size)
  have tw := tw.below VlR.stays hq17
  have mg := mg.below hq17
  have hp : decide (((1 + (keyOf x0 x1).length * 3 : Nat) : Int) < 0) = false := by rw [decide_eq_false_iff_not]; omega
  go_wp2_with fail
  clear hp
  refine (lawsToIntL a0 x0.length cap0 x0 _ _ (h0.below IntR.stays hbb17) S0).mono ?_
  rintro e y18 ⟨Bh0, dh0, rfl, hcph0, th0, hq18⟩
  have hbb18 := (hbb17).trans (hq18.mono (hbb17).size)
  have tw := tw.below VlR.stays hq18
  have mg := mg.below hq18
  go_wp2_with fail
  refine (lawsToValL a1 x1.length cap1 x1 _ _ (h1.below VlR.stays hbb18) S1.out).mono ?_
  rintro e y19 ⟨Bh1, dh1, rfl, hcph1, th1, hq19⟩
  have hbb19 := (hbb18).trans (hq19.mono (hbb18).size)
  have tw := tw.below VlR.stays hq19
  have th0 := th0.below IntR.stays hq19
  have mg := mg.below hq19
  go_wp2_with fail
  refine (implKeyOf Bh0 Bh1 x0.length dh0 x1.length dh1 x0 x1 _ _ _ th0 th1 S0 (by have := S1.out; unfold szL at this; omega)).mono ?_
  rintro e y20 ⟨Ah, ch, rfl, hch, th, hq20⟩
  have hbb20 := (hbb19).trans (hq20.mono (hbb19).size)
  have tw := tw.below VlR.stays hq20
  have th0 := th0.below IntR.stays hq20
  have th1 := th1.below VlR.stays hq20
  have mg := mg.below hq20
  clear th0
  clear th1
  go_wp2_with fail
  refine (lawsEqVals _ _ _ _ _ (keyOf x0 x1) _ (Sl.cellz (fun _ => rfl) th) (Sl.cellz (fun _ => rfl) tw) (HLN.out)).mono ?_
  rintro e y21 ⟨rfl, hq21⟩
  have hbb21 := (hbb20).trans (hq21.mono (hbb20).size)
  have tw := tw.below VlR.stays hq21
  have th := th.below VlR.stays hq21
  have mg := mg.below hq21
  go_wp2_with fail
  refine (heldXValL _ _ _ 1 _ mg (by have := HLN.out; omega) (by have := HLN.out; omega) (by first | rfl | omega)).mono ?_
  rintro e y22 ⟨rfl, hq22⟩
  have hbb22 := (hbb21).trans (hq22.mono (hbb21).size)
  have tw := tw.below VlR.stays hq22
  have th := th.below VlR.stays hq22
  have mg := mg.below hq22
  have hp : decide (((1 + (keyOf x0 x1).length * 3 : Nat) : Int) < 0) = false := by rw [decide_eq_false_iff_not]; omega
  go_wp2_with fail
  clear hp
  go_ret
  exact ⟨rfl, hbb22⟩

set_option maxRecDepth 100000 in
theorem lifted (os : Os) (started : os.Started) (H : Type) (enc : TypeId × Value → H) :
    ReturnsInHanded {} Try.checked os 3 .any (Rows.fnExactKeyOfSpec.pre6 enc Try.prog Try.f3 Rows.fnExactKeyOfRow.domain false) (Rows.fnExactKeyOfSpec.post enc Try.prog Try.f3 false true false false) := by
  refine returnsInHanded_of_change (C := Try.checked) own started (by kernel_rfl) Try.func3
    (ChangeSpec.witness6 (enc := enc) (C := Try.checked) false ⟨#[], #[.slice none 0 0, .slice none 0 0], []⟩ 8 (by kernel_rfl) (by kernel_rfl) (by kernel_rfl) (by kernel_rfl)) ?_
  intro W base args ds gs before hval0 hW hcnd _
  have hval : ∀ (j : Nat) t v, Try.f3.params[j]? = some t → args[j]? = some v → Value.okWide Try.prog W .any base t v := hval0
  have hW' := hW
  obtain ⟨p, q, hA0, hV, rfl, hfz, hnd⟩ := hW
  have hA : DataW.TrodAll enc Try.prog W 0 (fun _ => true) true Try.f3.params.toList args.toList ds p := hA0
  rw [Try.params3] at hA hval
  obtain ⟨v0, vs0, d0, ds0, p0, q0, hargs, rfl, rfl, h0, r0⟩ := trodAll_cons hA
  obtain ⟨v1, vs1, d1, ds1, p1, q1, rfl, rfl, rfl, h1, r1⟩ := trodAll_cons r0
  obtain ⟨rfl, rfl, rfl⟩ := trodAll_nil r1
  obtain rfl : args = #[v0, v1] := by cases args; simp_all
  obtain ⟨rfl, rfl⟩ := trodVars_none hV
  have k0' := h0
  have lt0 : ∀ x ∈ p0, x.block < W.heap.size := by obtain ⟨m, hm⟩ := k0'; exact DataW.trod_lt m _ _ _ hm
  have k1' := h1
  have lt1 : ∀ x ∈ p1, x.block < W.heap.size := by obtain ⟨m, hm⟩ := k1'; exact DataW.trod_lt m _ _ _ hm
  obtain ⟨a0, len0, cap0, rfl⟩ := okWide_slice Try.underlying22 (hval 0 22 v0 rfl rfl)
  obtain ⟨x0, w0⟩ := (by obtain ⟨m, hm⟩ := h0; exact IntL_of_trod (by simpa [Value.cells] using hm) : ∃ ds, Sl IntR 1 (fun _ => True) W a0 len0 ds ∧ ds.length ≤ maxLen)
  obtain ⟨a1, len1, cap1, rfl⟩ := okWide_slice Try.underlying23 (hval 1 23 v1 rfl rfl)
  obtain ⟨x1, w1⟩ := vals_of_trod h1
  clear hA0 hval0
  refine (walk a0 len0 cap0 x0 a1 len1 cap1 x1 W w0 w1).mono fun e W' ⟨he, bel⟩ => ?_
  subst he
  exact ⟨_, rfl, _, _, _, [], _, [], hW', trodAll_mk1 (shut_bool Try.underlying4 _), (trodAll_cons_mk (Below.trod laidOut (by kernel_rfl) (of_decide_eq_true (by kernel_rfl)) k0' bel lt0) (trodAll_cons_mk (Below.trod laidOut (by kernel_rfl) (of_decide_eq_true (by kernel_rfl)) k1' bel lt1) trodAll_mk0)), rfl, bel.frame _, fun h => by cases h⟩

theorem over : Rows.fnExactKeyOfRow.holds Try.pinned (OpenSpec.ofChange Rows.fnExactKeyOfSpec) :=
  OpenClaim.holds_of_wide 3 Try.f3 rfl rfl rfl rfl rfl rfl rfl ⟨rfl, rfl, rfl, rfl, rfl⟩ rfl rfl rfl rfl rfl (by kernel_rfl) Try.func3 (by kernel_rfl)
    (of_decide_eq_true (by kernel_rfl)) (by unfold Func.isWrapper; first | (rw [if_pos (by decide +kernel)]; kernel_rfl) | (rw [if_neg (by decide +kernel)]; exact ⟨rfl, rfl⟩))
    (fun os started H enc _ => lifted os started H enc)

theorem proved : Rows.FnExactKeyOfSaid := over
#print axioms proved
end Go.Proofs.Ytgmgjjoalpnmhaa.fnExactKeyOf
