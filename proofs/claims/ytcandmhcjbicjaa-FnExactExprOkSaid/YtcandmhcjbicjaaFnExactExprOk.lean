/-
  ExprOk answers as the model at every expression and number of columns (law FnExactExprOk, for every input).
-/
import Derived.Test.YtcandmhcjbicjaaBase
import Derived.Test.YtcandmhcjbicjaaLawToks
namespace Go.Proofs.Ytcandmhcjbicjaa.fnExactExprOk
open Go.ChangeShapes Go.WideShapes Go.ChangeAt Go.RowKit Go.Joins
open Go.ChangeMaps (open_string shut_string)
set_option linter.unusedVariables false

set_option maxRecDepth 100000 in
set_option maxHeartbeats 1000000 in
theorem walk (a0 : Option Addr) (len0 cap0 : Nat) (x0 : List Tk) (a1 : Int) (w : World) (w0 : IsToks w a0 len0 x0) (w1 : (Lit.int .i64 a1).wf = true) :
    Calls Try.prog 4 #[.slice a0 len0 cap0, .int .i64 a1] w fun e w' => e = .returned (.bool true) ∧ Below w.heap.size w w' := by
  obtain ⟨ht, hlen, hs⟩ := w0
  go_enter Try.func4, Try.ntmps4
  go_wp2_with fail
  refine (lawsSzToks a0 len0 cap0 x0 _ _ ht hlen (by omega) (by omega) hs).mono ?_
  rintro e w1' ⟨m, rfl, hm, hm2, hb1⟩
  by_cases hneg : m < 0
  · go_wp2
    go_ret
    exact ⟨rfl, hb1⟩
  have hneg' : decide (m < 0) = false := by simpa using hneg
  obtain ⟨hl2, hv2⟩ := hm2 (by omega)
  obtain rfl : len0 = x0.length := ht.len.symm
  have HV := Lib.hid hv2
  have HT := Lib.hid ht
  have HS := Lib.hid hs
  clear hneg hv2 ht hs
  go_wp2_with fail
  refine (lawsToToks _ _ _ x0 _ (HT.out.below hb1) (by omega)).mono ?_
  rintro e w2 ⟨A1, c1, rfl, ht1, hb2⟩
  go_wp2_with fail
  refine (specExprOk _ _ _ x0 _ _ ht1 hlen).mono ?_
  rintro e w3 ⟨rfl, hb3⟩
  have hb12 := hb1.trans (hb2.mono hb1.size)
  have hb13 := hb12.trans (hb3.mono hb12.size)
  clear ht1
  go_wp2_with fail
  refine (lawsToToks _ _ _ x0 _ (HT.out.below hb13) (by omega)).mono ?_
  rintro e w4 ⟨A2, c2, rfl, ht2, hb4⟩
  have hb14 := hb13.trans (hb4.mono hb13.size)
  go_wp2_with fail
  refine (implExprOk _ _ _ x0 _ _ ht2 hlen).mono ?_
  rintro e w5 ⟨rfl, hb5⟩
  have hb15 := hb14.trans (hb5.mono hb14.size)
  have HT2 := Lib.hid (ht2.below hb5)
  clear ht2
  go_wp2_with fail
  refine (lawsToToks _ _ _ x0 _ (HT.out.below hb15) (by omega)).mono ?_
  rintro e w6 ⟨A3, c3, rfl, ht3, hb6⟩
  have hb16 := hb15.trans (hb6.mono hb15.size)
  go_wp2_with fail
  refine (lawsEqToks _ _ _ _ _ x0 _ (HT2.out.below hb6) ht3 (by omega)).mono ?_
  rintro e w7 ⟨rfl, hb7⟩
  have hb17 := hb16.trans (hb7.mono hb16.size)
  go_wp2
  go_ret
  exact ⟨rfl, hb17⟩

set_option maxRecDepth 100000 in
theorem lifted (os : Os) (started : os.Started) (H : Type) (enc : TypeId × Value → H) :
    ReturnsInHanded {} Try.checked os 4 .any (Rows.fnExactExprOkSpec.pre6 enc Try.prog Try.f4 Rows.fnExactExprOkRow.domain false) (Rows.fnExactExprOkSpec.post enc Try.prog Try.f4 false true false false) := by
  refine returnsInHanded_of_change (C := Try.checked) own started (by kernel_rfl) Try.func4
    (ChangeSpec.witness6 (enc := enc) (C := Try.checked) false ⟨#[], #[.slice none 0 0, .int .i64 0], []⟩ 8 (by kernel_rfl) (by kernel_rfl) (by kernel_rfl) (by kernel_rfl)) ?_
  intro W base args ds gs before hval0 hW hcnd _
  have hval : ∀ (j : Nat) t v, Try.f4.params[j]? = some t → args[j]? = some v → Value.okWide Try.prog W .any base t v := hval0
  have hW' := hW
  obtain ⟨p, q, hA0, hV, rfl, hfz, hnd⟩ := hW
  have hA : DataW.TrodAll enc Try.prog W 0 (fun _ => true) true Try.f4.params.toList args.toList ds p := hA0
  rw [Try.params4] at hA hval
  obtain ⟨v0, vs0, d0, ds0, p0, q0, hargs, rfl, rfl, h0, r0⟩ := trodAll_cons hA
  obtain ⟨v1, vs1, d1, ds1, p1, q1, rfl, rfl, rfl, h1, r1⟩ := trodAll_cons r0
  obtain ⟨rfl, rfl, rfl⟩ := trodAll_nil r1
  obtain rfl : args = #[v0, v1] := by cases args; simp_all
  obtain ⟨rfl, rfl⟩ := trodVars_none hV
  have k0' := h0
  have lt0 : ∀ x ∈ p0, x.block < W.heap.size := by obtain ⟨m, hm⟩ := k0'; exact DataW.trod_lt m _ _ _ hm
  have k1' := h1
  have lt1 : ∀ x ∈ p1, x.block < W.heap.size := by obtain ⟨m, hm⟩ := k1'; exact DataW.trod_lt m _ _ _ hm
  obtain ⟨a0, len0, cap0, rfl⟩ := okWide_slice Try.underlying29 (hval 0 29 v0 rfl rfl)
  obtain ⟨x0, w0⟩ := toks_of_trod h0
  obtain ⟨a1, rfl, rfl, rfl, w1⟩ := open_int Try.underlying2 (hval 1 2 v1 rfl rfl) h1
  clear hA0 hval0
  refine (walk a0 len0 cap0 x0 a1 W w0 w1).mono fun e W' ⟨he, bel⟩ => ?_
  subst he
  exact ⟨_, rfl, _, _, _, [], _, [], hW', trodAll_mk1 (shut_bool Try.underlying4 _), (trodAll_cons_mk (Below.trod laidOut (by kernel_rfl) (of_decide_eq_true (by kernel_rfl)) k0' bel lt0) (trodAll_cons_mk (Below.trod laidOut (by kernel_rfl) (of_decide_eq_true (by kernel_rfl)) k1' bel lt1) trodAll_mk0)), rfl, bel.frame _, fun h => by cases h⟩

theorem over : Rows.fnExactExprOkRow.holds Try.pinned (OpenSpec.ofChange Rows.fnExactExprOkSpec) :=
  OpenClaim.holds_of_wide 4 Try.f4 rfl rfl rfl rfl rfl rfl rfl ⟨rfl, rfl, rfl, rfl, rfl⟩ rfl rfl rfl rfl rfl (by kernel_rfl) Try.func4 (by kernel_rfl)
    (of_decide_eq_true (by kernel_rfl)) (by unfold Func.isWrapper; first | (rw [if_pos (by decide +kernel)]; kernel_rfl) | (rw [if_neg (by decide +kernel)]; exact ⟨rfl, rfl⟩))
    (fun os started H enc _ => lifted os started H enc)

theorem proved : Rows.FnExactExprOkSaid := over
#print axioms proved
end Go.Proofs.Ytcandmhcjbicjaa.fnExactExprOk
