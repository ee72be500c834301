/-
  Inverse answers as the model at every list of changes, in memory of its own (law FnExactInverse, for every input).
-/
import Derived.Test.YtlpfpcnafejkoaaBase
import Derived.Test.YtlpfpcnafejkoaaInvSpec
import Derived.Test.YtlpfpcnafejkoaaInvImpl
import Derived.Test.YtlpfpcnafejkoaaOwnLaw
import Derived.Test.YtlpfpcnafejkoaaMarkX
import Derived.Test.YtlpfpcnafejkoaaEq
import Derived.Test.YtlpfpcnafejkoaaTrod
import Derived.Test.YtlpfpcnafejkoaaSz
namespace Go.Proofs.Ytlpfpcnafejkoaa.fnExactInverse
open Go.ChangeShapes Go.WideShapes Go.ChangeAt Go.RowKit Go.Joins
open Go.ChangeMaps (open_string shut_string)
set_option linter.unusedVariables false

set_option maxRecDepth 100000 in
set_option maxHeartbeats 2000000 in
theorem walk (a0 : Option Addr) (len0 cap0 : Nat) (x0 : List Ch) (w : World) (w0 : Sl ChR 4 (fun _ => True) w a0 len0 x0 ∧ (x0.length ≤ maxLen ∧ ∀ y ∈ x0, y.wf)) :
    Calls Try.prog 3 #[.slice a0 len0 cap0] w fun e w' => e = .returned (.bool true) ∧ Below w.heap.size w w' := by
  obtain ⟨h0, wf0⟩ := w0
  obtain rfl : x0.length = len0 := h0.1
  have WF0 := Lib.hid wf0
  clear wf0
  have hb0 := (Below.refl w.heap.size w)
  go_enter Try.func3, Try.ntmps3
  go_wp2_with fail
  refine (lawsSzChangeL a0 x0.length cap0 x0 1048576 _ _ (h0.below ChR.stays hb0) WF0.out (by omega) (by omega)).mono ?_
  rintro e y1 ⟨rfl, hq1⟩
  have hbb1 := (hb0).trans (hq1.mono (hb0).size)
  rcases szR_cases 1048576 (szL Ch.sz x0) (by omega) with ⟨hno1, hv1⟩ | ⟨l1, hv1, -, h01, h11, hle1⟩
  · rw [hv1.out]
    go_wp2
    go_ret
    exact ⟨rfl, hbb1⟩
  rw [hv1.out]
  have S0 := Lib.hid (show szL Ch.sz x0 ≤ 1048576 by omega)
  clear hle1
  go_wp2_with fail
  have HXN := Lib.hid (show x0.length ≤ 1048576 by have h2 := S0.out; unfold szL at h2; omega)
  have HXK := Lib.hid (chs_len S0.out)
  have HIK := Lib.hid (chs_len (invB_sz S0.out))
  have HIL := Lib.hid (show (invB x0).length ≤ 1048576 by rw [invB_len]; exact HXN.out)
  have HLN := Lib.hid (invB_sz S0.out)
  have HMS := Lib.hid (show 1 + ((invB x0).map Ch.marks).sum ≤ 1073741824 from chs_marks (invB_sz S0.out))
  refine (lawsToChangeL a0 x0.length cap0 x0 _ _ (h0.below ChR.stays hbb1) S0.out).mono ?_
  rintro e y2 ⟨Bs0, ds0, rfl, hcps0, ts0, hq2⟩
  have hbb2 := (hbb1).trans (hq2.mono (hbb1).size)
  go_wp2_with fail
  refine (specInverse Bs0 x0.length ds0 x0 _ _ ts0 HXK.out HXN.out).mono ?_
  rintro e y3 ⟨vw, rfl, ow, hq3⟩
  have hbb3 := (hbb2).trans (hq3.mono (hbb2).size)
  have ts0 := ts0.below ChR.stays hq3
  obtain ⟨Aw, cw, rfl, hcw, -, tw⟩ := OwnL.sl ChO.good ow (fun _ _ _ h => ChO.toR h)
  clear ow
  clear ts0
  have hBG : w.heap.size ≤ y3.heap.size := (hbb3).size
  have HBG := Lib.hid hBG
  clear hBG
  go_wp2_with fail
  refine (lawsToChangeL a0 x0.length cap0 x0 _ _ (h0.below ChR.stays hbb3) S0.out).mono ?_
  rintro e y4 ⟨Bx0, dx0, rfl, hcpx0, tx0, hq4⟩
  have hbb4 := (hbb3).trans (hq4.mono (hbb3).size)
  have tw := tw.below ChR.stays hq4
  have M0 : mayMark y3.heap.size y4.heap.size y4 (okF _ y4) := fun b hb => ⟨Nat.le_trans (Nat.le_refl _) hb.1, hb.2.1, hb.2.1, hb.2.2⟩
  have hmx : y3.heap.size ≤ y4.heap.size := (hq4).size
  go_wp2_with fail
  have M0 : mayMark y3.heap.size y4.heap.size y4 _ := fun b hb => ⟨(M0 b hb).1, (M0 b hb).2.2.1, (M0 b hb).2.2⟩
  have HMX := Lib.hid hmx
  clear hmx
  refine (implInverse Bx0 x0.length dx0 x0 _ _ tx0 HXK.out HXN.out).mono ?_
  rintro e y5 ⟨vg, rfl, og, hq5⟩
  have M0 := M0.below hq5
  have hbb5 := (hbb4).trans (hq5.mono (hbb4).size)
  have tw := tw.below ChR.stays hq5
  have tx0 := tx0.below ChR.stays hq5
  obtain ⟨Ag, cg, bsg, rfl, shg, hbg⟩ := OwnL.sh ChO.good ChO.out (cnt := Ch.marks) og (by have := HIL.out; omega) (fun _ x _ hx h => ChO.toS h (HIK.out x hx).1 (HIK.out x hx).2)
  obtain ⟨Ag', cg', eg, -, -, tg⟩ := OwnL.sl ChO.good og (fun _ _ _ h => ChO.toR h)
  cases eg
  clear og
  have HBS := Lib.hid hbg
  clear hbg
  go_wp2_with fail
  refine (lawsEqChangeL _ _ _ _ _ (invB x0) _ _ _ tg tw HLN.out).mono ?_
  rintro e y6 ⟨rfl, hq6⟩
  have M0 := M0.below hq6
  have hbb6 := (hbb5).trans (hq6.mono (hbb5).size)
  have tw := tw.below ChR.stays hq6
  have tx0 := tx0.below ChR.stays hq6
  have tg := tg.below ChR.stays hq6
  have shg := shg.stay ChS.stay (bs' := []) (KeptL.below hq6) (fun _ _ => List.not_mem_nil)
  go_wp2_with fail
  refine (lawsToChangeL a0 x0.length cap0 x0 _ _ (h0.below ChR.stays hbb6) S0.out).mono ?_
  rintro e y7 ⟨Be0, de0, rfl, -, te0, hq7⟩
  have M0 := M0.below hq7
  have hbb7 := (hbb6).trans (hq7.mono (hbb6).size)
  have tw := tw.below ChR.stays hq7
  have tx0 := tx0.below ChR.stays hq7
  have tg := tg.below ChR.stays hq7
  have shg := shg.stay ChS.stay (bs' := []) (KeptL.below hq7) (fun _ _ => List.not_mem_nil)
  go_wp2_with fail
  refine (lawsEqChangeL _ _ _ _ _ x0 _ _ _ tx0 te0 S0.out).mono ?_
  rintro e y8 ⟨rfl, hq8⟩
  have M0 := M0.below hq8
  have hbb8 := (hbb7).trans (hq8.mono (hbb7).size)
  have tw := tw.below ChR.stays hq8
  have tx0 := tx0.below ChR.stays hq8
  have tg := tg.below ChR.stays hq8
  have shg := shg.stay ChS.stay (bs' := []) (KeptL.below hq8) (fun _ _ => List.not_mem_nil)
  go_wp2_with fail
  have hbd0 : (x0.map Ch.cnt).sum ≤ 6291456 := by have h1 := sum_le_of (f := Ch.cnt) (g := Ch.sz) 6 Ch.cnt_le x0; have h2 := S0.out; omega
  generalize hsm0 : (x0.map Ch.cnt).sum = sm0 at hbd0
  have HSM0 := Lib.hid hsm0
  clear hsm0
  have sh0 := tx0.toSh Ch.toSh (fun y hy => by have h1 := szL_mem Ch.sz x0 y hy; have h2 := S0.out; omega)
  clear tx0
  refine (marksChangeL _ _ _ _ _ y3.heap.size y4.heap.size (1) _ sh0 M0 (by rw [HSM0.out]; omega) (by have h2 := S0.out; (try unfold szL at h2); omega) (by first | rfl | omega)).mono ?_
  rintro e y9 ⟨rfl, hq9⟩
  have hbb9 := Kept.toBelow (hbb8) hq9 HBG.out (hbb8).size
  have M0 := M0.kept hq9
  have tw := tw.kept ChR.stays hq9 (fun b hb => Or.inl hb.2.1)
  have tg := tg.kept ChR.stays hq9 (fun b hb => Or.inr hb.1)
  have shg := shg.stay ChS.stay (KeptL.range hq9) (not_range HBS.out)
  rw [HSM0.out]
  clear sh0
  generalize hkk : 1 + sm0 = kk
  have hk1 : 1 ≤ kk := by omega
  have hk2 : (0 : Int) ≤ (kk : Int) := by omega
  have hk3 : decide ((kk : Int) < 0) = false := by rw [decide_eq_false_iff_not]; omega
  clear hkk
  go_wp2_with fail
  refine (lawsEqChangeL _ _ _ _ _ (invB x0) _ _ _ tg tw HLN.out).mono ?_
  rintro e y10 ⟨rfl, hq10⟩
  have M0 := M0.below hq10
  have hbb10 := (hbb9).trans (hq10.mono (hbb9).size)
  have tw := tw.below ChR.stays hq10
  have tg := tg.below ChR.stays hq10
  have shg := shg.stay ChS.stay (bs' := []) (KeptL.below hq10) (fun _ _ => List.not_mem_nil)
  go_wp2_with fail
  clear tg
  have HBX := Lib.hid (Nat.le_trans HBG.out HMX.out)
  have HSG := Lib.hid (show ∀ b ∈ bsg, w.heap.size ≤ b from fun b hb => Nat.le_trans HBX.out (HBS.out b hb))
  refine (marksOChL _ _ _ _ _ 1 _ shg HMS.out (by first | rfl | omega)).mono ?_
  rintro e y11 ⟨rfl, hq11, mg⟩
  have hbb11 := KeptL.toBelow (hbb10) hq11 HSG.out (hbb10).size
  have tw := tw.keptL ChR.stays hq11 (fun b hb hh => by have h1 := HBS.out b hh; have h2 := hb.2.1; have h3 := HMX.out; omega)
  clear shg
  go_wp2_with fail
  refine (heldOChL _ _ _ _ _ 1 _ mg HMS.out (by first | rfl | omega)).mono ?_
  rintro e y12 ⟨rfl, hq12⟩
  have hbb12 := (hbb11).trans (hq12.mono (hbb11).size)
  have tw := tw.below ChR.stays hq12
  have mg := mg.below ChH.stay hq12
  have hp : decide (((1 + ((invB x0).map Ch.marks).sum : Nat) : Int) < 0) = false := by rw [decide_eq_false_iff_not]; omega
  go_wp2_with fail
  clear hp
  refine (lawsToChangeL a0 x0.length cap0 x0 _ _ (h0.below ChR.stays hbb12) S0.out).mono ?_
  rintro e y13 ⟨Bh0, dh0, rfl, hcph0, th0, hq13⟩
  have hbb13 := (hbb12).trans (hq13.mono (hbb12).size)
  have tw := tw.below ChR.stays hq13
  have mg := mg.below ChH.stay hq13
  go_wp2_with fail
  refine (implInverse Bh0 x0.length dh0 x0 _ _ th0 HXK.out HXN.out).mono ?_
  rintro e y14 ⟨vh, rfl, oh, hq14⟩
  have hbb14 := (hbb13).trans (hq14.mono (hbb13).size)
  have tw := tw.below ChR.stays hq14
  have th0 := th0.below ChR.stays hq14
  obtain ⟨Ah, ch, rfl, -, -, th⟩ := OwnL.sl ChO.good oh (fun _ _ _ h => ChO.toR h)
  clear oh
  have mg := mg.below ChH.stay hq14
  clear th0
  go_wp2_with fail
  refine (lawsEqChangeL _ _ _ _ _ (invB x0) _ _ _ th tw HLN.out).mono ?_
  rintro e y15 ⟨rfl, hq15⟩
  have hbb15 := (hbb14).trans (hq15.mono (hbb14).size)
  have tw := tw.below ChR.stays hq15
  have th := th.below ChR.stays hq15
  have mg := mg.below ChH.stay hq15
  go_wp2_with fail
  refine (heldOChL _ _ _ _ _ 1 _ mg HMS.out (by first | rfl | omega)).mono ?_
  rintro e y16 ⟨rfl, hq16⟩
  have hbb16 := (hbb15).trans (hq16.mono (hbb15).size)
  have tw := tw.below ChR.stays hq16
  have th := th.below ChR.stays hq16
  have mg := mg.below ChH.stay hq16
  have hp : decide (((1 + ((invB x0).map Ch.marks).sum : Nat) : Int) < 0) = false := by rw [decide_eq_false_iff_not]; omega
  go_wp2_with fail
  clear hp
  go_ret
  exact ⟨rfl, hbb16⟩

set_option maxRecDepth 100000 in
theorem lifted (os : Os) (started : os.Started) (H : Type) (enc : TypeId × Value → H) :
    ReturnsInHanded {} Try.checked os 3 .any (Rows.fnExactInverseSpec.pre6 enc Try.prog Try.f3 Rows.fnExactInverseRow.domain false) (Rows.fnExactInverseSpec.post enc Try.prog Try.f3 false true false false) := by
  refine returnsInHanded_of_change (C := Try.checked) own started (by kernel_rfl) Try.func3
    (ChangeSpec.witness6 (enc := enc) (C := Try.checked) false ⟨#[], #[.slice none 0 0], []⟩ 8 (by kernel_rfl) (by kernel_rfl) (by kernel_rfl) (by kernel_rfl)) ?_
  intro W base args ds gs before hval0 hW hcnd _
  have hval : ∀ (j : Nat) t v, Try.f3.params[j]? = some t → args[j]? = some v → Value.okWide Try.prog W .any base t v := hval0
  have hW' := hW
  obtain ⟨p, q, hA0, hV, rfl, hfz, hnd⟩ := hW
  have hA : DataW.TrodAll enc Try.prog W 0 (fun _ => true) true Try.f3.params.toList args.toList ds p := hA0
  rw [Try.params3] at hA hval
  obtain ⟨v0, vs0, d0, ds0, p0, q0, hargs, rfl, rfl, h0, r0⟩ := trodAll_cons hA
  obtain ⟨rfl, rfl, rfl⟩ := trodAll_nil r0
  obtain rfl : args = #[v0] := by cases args; simp_all
  obtain ⟨rfl, rfl⟩ := trodVars_none hV
  have k0' := h0
  have lt0 : ∀ x ∈ p0, x.block < W.heap.size := by obtain ⟨m, hm⟩ := k0'; exact DataW.trod_lt m _ _ _ hm
  obtain ⟨a0, len0, cap0, rfl⟩ := okWide_slice Try.underlying22 (hval 0 22 v0 rfl rfl)
  obtain ⟨x0, w0⟩ := (by obtain ⟨m, hm⟩ := h0; exact ChangeL_of_trod (by simpa [Value.cells] using hm) : ∃ ds : List Ch, Sl ChR 4 (fun _ => True) W a0 len0 ds ∧ (ds.length ≤ maxLen ∧ ∀ y ∈ ds, y.wf))
  clear hA0 hval0
  refine (walk a0 len0 cap0 x0 W w0).mono fun e W' ⟨he, bel⟩ => ?_
  subst he
  exact ⟨_, rfl, _, _, _, [], _, [], hW', trodAll_mk1 (shut_bool Try.underlying4 _), (trodAll_cons_mk (Below.trod laidOut (by kernel_rfl) (of_decide_eq_true (by kernel_rfl)) k0' bel lt0) trodAll_mk0), rfl, bel.frame _, fun h => by cases h⟩

set_option maxRecDepth 100000 in
set_option maxHeartbeats 16000000 in
theorem facts : joinedFacts Try.checked.prog 3 Try.f3 Rows.fnExactInverseSpec Rows.fnExactInverseRow = true := by
  unfold joinedFacts
  repeat' (with_reducible refine Bool.and_eq_true_iff.2 ⟨?_, ?_⟩)
  all_goals (as_aux_lemma => kernel_rfl)

theorem over : Rows.fnExactInverseRow.holds Try.pinned (OpenSpec.ofChange Rows.fnExactInverseSpec) :=
  OpenClaim.holds_of_wide 3 Try.f3 rfl rfl rfl rfl rfl rfl rfl ⟨rfl, rfl, rfl, rfl, rfl⟩ rfl rfl rfl rfl rfl (by kernel_rfl) Try.func3 facts
    (of_decide_eq_true (by as_aux_lemma => kernel_rfl)) (by unfold Func.isWrapper; first | (rw [if_pos (by decide +kernel)]; kernel_rfl) | (rw [if_neg (by decide +kernel)]; exact ⟨rfl, rfl⟩))
    (fun os started H enc _ => lifted os started H enc)

theorem proved : Rows.FnExactInverseSaid := over
#print axioms proved
end Go.Proofs.Ytlpfpcnafejkoaa.fnExactInverse
