/-
  Truth answers as the model at every expression and row (law FnExactTruth, for every input).
-/
import Derived.Test.YtjpnbjjgpcmcgaaBase
import Derived.Test.YtjpnbjjgpcmcgaaSpecEval
namespace Go.Proofs.Ytjpnbjjgpcmcgaa.fnExactTruth
open Go.ChangeShapes Go.WideShapes Go.ChangeAt Go.RowKit Go.Joins
open Go.ChangeMaps (open_string shut_string)
set_option linter.unusedVariables false

set_option maxRecDepth 100000 in
set_option maxHeartbeats 1000000 in
theorem walk (a0 : Option Addr) (len0 cap0 : Nat) (x0 : List Tk) (a1 : Option Addr) (len1 cap1 : Nat) (x1 : List Vl) (w : World) (w0 : IsToks w a0 len0 x0) (w1 : IsVals w a1 len1 x1) :
    Calls Try.prog 8 #[.slice a0 len0 cap0, .slice a1 len1 cap1] w fun e w' => e = .returned (.bool true) ∧ Below w.heap.size w w' := by
  obtain ⟨ht, hlen, hs⟩ := w0
  obtain ⟨hv, hlenv, hsv⟩ := w1
  go_enter Try.func8, Try.ntmps8
  go_wp2_with fail
  refine (lawsSzToks a0 len0 cap0 x0 _ _ ht hlen (by omega) (by omega) hs).mono ?_
  rintro e y1 ⟨m, rfl, hm, hm2, hb1⟩
  by_cases hneg : m < 0
  · go_wp2
    go_ret
    exact ⟨rfl, hb1⟩
  have hneg' : decide (m < 0) = false := by simpa using hneg
  obtain ⟨hl2, -⟩ := hm2 (by omega)
  go_wp2_with fail
  refine (lawsSzVals a1 len1 cap1 x1 _ _ (hv.below hb1) hlenv (by omega) (by omega) hsv).mono ?_
  rintro e y2 ⟨m', rfl, hm', hm2', hb2⟩
  have hb12 := hb1.trans (hb2.mono hb1.size)
  by_cases hneg2 : m' < 0
  · go_wp2
    go_ret
    exact ⟨rfl, hb12⟩
  have hneg2' : decide (m' < 0) = false := by simpa using hneg2
  obtain ⟨hl2', -⟩ := hm2' (by omega)
  obtain rfl : len0 = x0.length := ht.len.symm
  obtain rfl : len1 = x1.length := hv.len.symm
  have HT := Lib.hid ht
  have HV := Lib.hid hv
  clear hneg hneg2 ht hv hs hsv hb1 hb2 hm2 hm2'
  go_wp2_with fail
  refine (lawsToToks _ _ _ x0 _ (HT.out.below hb12) (by omega)).mono ?_
  rintro e y3 ⟨A1, c1, rfl, ht1, hb3⟩
  have hb13 := hb12.trans (hb3.mono hb12.size)
  go_wp2_with fail
  refine (lawsToVals _ _ _ x1 _ (HV.out.below hb13) (by omega)).mono ?_
  rintro e y4 ⟨A2, c2, rfl, hv1, hb4⟩
  have hb14 := hb13.trans (hb4.mono hb13.size)
  have HT1 := Lib.hid (ht1.below hb4)
  clear ht1
  go_wp2_with fail
  refine (specTruth _ _ _ _ _ _ x0 x1 _ HT1.out hv1 hlen hlenv).mono ?_
  rintro e y5 ⟨rfl, hb5⟩
  have hb15 := hb14.trans (hb5.mono hb14.size)
  clear hv1
  have HVV := Lib.hid (rfl : truthB x0 x1 = truthB x0 x1)
  clear HVV
  go_wp2_with fail
  refine (lawsToToks _ _ _ x0 _ (HT.out.below hb15) (by omega)).mono ?_
  rintro e y6 ⟨A3, c3, rfl, ht2, hb6⟩
  have hb16 := hb15.trans (hb6.mono hb15.size)
  go_wp2_with fail
  refine (lawsToVals _ _ _ x1 _ (HV.out.below hb16) (by omega)).mono ?_
  rintro e y7 ⟨A4, c4, rfl, hv2, hb7⟩
  have hb17 := hb16.trans (hb7.mono hb16.size)
  have HT2 := Lib.hid (ht2.below hb7)
  clear ht2
  go_wp2_with fail
  refine (implTruth _ _ _ _ _ _ x0 x1 _ HT2.out hv2 hlen hlenv).mono ?_
  rintro e y8 ⟨rfl, hb8⟩
  have hb18 := hb17.trans (hb8.mono hb17.size)
  have HT3 := Lib.hid (HT2.out.below hb8)
  have HV3 := Lib.hid (hv2.below hb8)
  clear hv2
  go_wp2_with fail
  refine (lawsToToks _ _ _ x0 _ (HT.out.below hb18) (by omega)).mono ?_
  rintro e y9 ⟨A5, c5, rfl, ht4, hb9⟩
  have hb19 := hb18.trans (hb9.mono hb18.size)
  go_wp2_with fail
  refine (lawsEqToks _ _ _ _ _ x0 _ (HT3.out.below hb9) ht4 (by omega)).mono ?_
  rintro e y10 ⟨rfl, hb10⟩
  have hb20 := hb19.trans (hb10.mono hb19.size)
  have HV4 := Lib.hid ((HV3.out.below hb9).below hb10)
  clear ht4
  go_wp2_with fail
  refine (lawsToVals _ _ _ x1 _ (HV.out.below hb20) (by omega)).mono ?_
  rintro e y11 ⟨A6, c6, rfl, hv5, hb11⟩
  have hb21 := hb20.trans (hb11.mono hb20.size)
  go_wp2_with fail
  refine (lawsEqVals _ _ _ _ _ x1 _ (HV4.out.below hb11) hv5 (by omega)).mono ?_
  rintro e y12 ⟨rfl, hb12'⟩
  have hb22 := hb21.trans (hb12'.mono hb21.size)
  go_wp2
  go_ret
  exact ⟨rfl, hb22⟩

set_option maxRecDepth 100000 in
theorem lifted (os : Os) (started : os.Started) (H : Type) (enc : TypeId × Value → H) :
    ReturnsInHanded {} Try.checked os 8 .any (Rows.fnExactTruthSpec.pre6 enc Try.prog Try.f8 Rows.fnExactTruthRow.domain false) (Rows.fnExactTruthSpec.post enc Try.prog Try.f8 false true false false) := by
  refine returnsInHanded_of_change (C := Try.checked) own started (by kernel_rfl) Try.func8
    (ChangeSpec.witness6 (enc := enc) (C := Try.checked) false ⟨#[], #[.slice none 0 0, .slice none 0 0], []⟩ 8 (by kernel_rfl) (by kernel_rfl) (by kernel_rfl) (by kernel_rfl)) ?_
  intro W base args ds gs before hval0 hW hcnd _
  have hval : ∀ (j : Nat) t v, Try.f8.params[j]? = some t → args[j]? = some v → Value.okWide Try.prog W .any base t v := hval0
  have hW' := hW
  obtain ⟨p, q, hA0, hV, rfl, hfz, hnd⟩ := hW
  have hA : DataW.TrodAll enc Try.prog W 0 (fun _ => true) true Try.f8.params.toList args.toList ds p := hA0
  rw [Try.params8] at hA hval
  obtain ⟨v0, vs0, d0, ds0, p0, q0, hargs, rfl, rfl, h0, r0⟩ := trodAll_cons hA
  obtain ⟨v1, vs1, d1, ds1, p1, q1, rfl, rfl, rfl, h1, r1⟩ := trodAll_cons r0
  obtain ⟨rfl, rfl, rfl⟩ := trodAll_nil r1
  obtain rfl : args = #[v0, v1] := by cases args; simp_all
  obtain ⟨rfl, rfl⟩ := trodVars_none hV
  have k0' := h0
  have lt0 : ∀ x ∈ p0, x.block < W.heap.size := by obtain ⟨m, hm⟩ := k0'; exact DataW.trod_lt m _ _ _ hm
  have k1' := h1
  have lt1 : ∀ x ∈ p1, x.block < W.heap.size := by obtain ⟨m, hm⟩ := k1'; exact DataW.trod_lt m _ _ _ hm
  obtain ⟨a0, len0, cap0, rfl⟩ := okWide_slice Try.underlying55 (hval 0 55 v0 rfl rfl)
  obtain ⟨x0, w0⟩ := toks_of_trod h0
  obtain ⟨a1, len1, cap1, rfl⟩ := okWide_slice Try.underlying44 (hval 1 44 v1 rfl rfl)
  obtain ⟨x1, w1⟩ := vals_of_trod h1
  clear hA0 hval0
  refine (walk a0 len0 cap0 x0 a1 len1 cap1 x1 W w0 w1).mono fun e W' ⟨he, bel⟩ => ?_
  subst he
  exact ⟨_, rfl, _, _, _, [], _, [], hW', trodAll_mk1 (shut_bool Try.underlying4 _), (trodAll_cons_mk (Below.trod laidOut (by kernel_rfl) (of_decide_eq_true (by kernel_rfl)) k0' bel lt0) (trodAll_cons_mk (Below.trod laidOut (by kernel_rfl) (of_decide_eq_true (by kernel_rfl)) k1' bel lt1) trodAll_mk0)), rfl, bel.frame _, fun h => by cases h⟩

theorem over : Rows.fnExactTruthRow.holds Try.pinned (OpenSpec.ofChange Rows.fnExactTruthSpec) :=
  OpenClaim.holds_of_wide 8 Try.f8 rfl rfl rfl rfl rfl rfl rfl ⟨rfl, rfl, rfl, rfl, rfl⟩ rfl rfl rfl rfl rfl (by kernel_rfl) Try.func8 (by kernel_rfl)
    (of_decide_eq_true (by kernel_rfl)) (by unfold Func.isWrapper; first | (rw [if_pos (by decide +kernel)]; kernel_rfl) | (rw [if_neg (by decide +kernel)]; exact ⟨rfl, rfl⟩))
    (fun os started H enc _ => lifted os started H enc)

theorem proved : Rows.FnExactTruthSaid := over
#print axioms proved
end Go.Proofs.Ytjpnbjjgpcmcgaa.fnExactTruth
