/-
  SchemaOk answers as the model at every schema (law FnExactSchemaOk, for every input).
-/
import Derived.Test.YtlneglnbiacabaaGreatBase
import Derived.Test.YtlneglnbiacabaaGreatSpecSchema
import Derived.Test.YtlneglnbiacabaaGreatSchemaImpl2
import Derived.Test.YtlneglnbiacabaaGreatTrod
import Derived.Test.YtlneglnbiacabaaGreatSz
namespace Go.Proofs.YtlneglnbiacabaaGreat.fnExactSchemaOk
open Go.ChangeShapes Go.WideShapes Go.ChangeAt Go.RowKit Go.Joins
open Go.ChangeMaps (open_string shut_string)
set_option linter.unusedVariables false

set_option maxRecDepth 100000 in
set_option maxHeartbeats 2000000 in
theorem walk (a0 : Option Addr) (len0 cap0 : Nat) (x0 : List Tb) (w : World) (w0 : Sl TbR 6 (fun _ => True) w a0 len0 x0 ∧ (x0.length ≤ maxLen ∧ ∀ y ∈ x0, y.wf)) :
    Calls Tryz.prog 3 #[.slice a0 len0 cap0] w fun e w' => e = .returned (.bool true) ∧ Below w.heap.size w w' := by
  obtain ⟨h0, wf0⟩ := w0
  obtain rfl : x0.length = len0 := h0.1
  have WF0 := Lib.hid wf0
  clear wf0
  have hb0 := (Below.refl w.heap.size w)
  go_enter Tryz.func3, Tryz.ntmps3
  go_wp2_with fail
  refine (lawsSzTableL a0 x0.length cap0 x0 1048576 _ _ (h0.below TbR.stays hb0) WF0.out (by omega) (by omega)).mono ?_
  rintro e y1 ⟨rfl, hq1⟩
  have hbb1 := (hb0).trans (hq1.mono (hb0).size)
  rcases szR_cases 1048576 (szL Tb.sz x0) (by omega) with ⟨hno1, hv1⟩ | ⟨l1, hv1, -, h01, h11, hle1⟩
  · rw [hv1.out]
    go_wp2
    go_ret
    exact ⟨rfl, hbb1⟩
  rw [hv1.out]
  have S0 := Lib.hid (show szL Tb.sz x0 ≤ 1048576 by omega)
  clear hle1
  go_wp2_with fail
  refine (lawsToTableL a0 x0.length cap0 x0 _ _ (h0.below TbR.stays hbb1) S0.out).mono ?_
  rintro e y2 ⟨Bs0, ds0, rfl, hcps0, ts0, hq2⟩
  have hbb2 := (hbb1).trans (hq2.mono (hbb1).size)
  go_wp2_with fail
  refine (specSchemaOk Bs0 x0.length ds0 x0 _ _ ts0 hcps0 S0.out).mono ?_
  rintro e y3 ⟨rfl, hq3⟩
  have hbb3 := (hbb2).trans (hq3.mono (hbb2).size)
  have ts0 := ts0.below TbR.stays hq3
  clear ts0
  go_wp2_with fail
  refine (lawsToTableL a0 x0.length cap0 x0 _ _ (h0.below TbR.stays hbb3) S0.out).mono ?_
  rintro e y4 ⟨Bx0, dx0, rfl, hcpx0, tx0, hq4⟩
  have hbb4 := (hbb3).trans (hq4.mono (hbb3).size)
  go_wp2_with fail
  refine (implSchemaOk Bx0 x0.length dx0 x0 _ _ tx0 S0.out).mono ?_
  rintro e y5 ⟨rfl, hq5⟩
  have hbb5 := (hbb4).trans (hq5.mono (hbb4).size)
  have tx0 := tx0.below TbR.stays hq5
  go_wp2_with fail
  refine (lawsToTableL a0 x0.length cap0 x0 _ _ (h0.below TbR.stays hbb5) S0.out).mono ?_
  rintro e y6 ⟨Be0, de0, rfl, -, te0, hq6⟩
  have hbb6 := (hbb5).trans (hq6.mono (hbb5).size)
  have tx0 := tx0.below TbR.stays hq6
  go_wp2_with fail
  refine (lawsEqTableL _ _ _ _ _ x0 _ _ _ tx0 te0 S0.out).mono ?_
  rintro e y7 ⟨rfl, hq7⟩
  have hbb7 := (hbb6).trans (hq7.mono (hbb6).size)
  have tx0 := tx0.below TbR.stays hq7
  go_wp2_with fail
  go_ret
  exact ⟨rfl, hbb7⟩

set_option maxRecDepth 100000 in
theorem lifted (os : Os) (started : os.Started) (H : Type) (enc : TypeId × Value → H) :
    ReturnsInHanded {} Tryz.checked os 3 .any (Rows.fnExactSchemaOkSpec.pre6 enc Tryz.prog Tryz.f3 Rows.fnExactSchemaOkRow.domain false) (Rows.fnExactSchemaOkSpec.post enc Tryz.prog Tryz.f3 false true false false) := by
  refine returnsInHanded_of_change (C := Tryz.checked) own started (by kernel_rfl) Tryz.func3
    (ChangeSpec.witness6 (enc := enc) (C := Tryz.checked) false ⟨#[], #[.slice none 0 0], []⟩ 8 (by kernel_rfl) (by kernel_rfl) (by kernel_rfl) (by kernel_rfl)) ?_
  intro W base args ds gs before hval0 hW hcnd _
  have hval : ∀ (j : Nat) t v, Tryz.f3.params[j]? = some t → args[j]? = some v → Value.okWide Tryz.prog W .any base t v := hval0
  have hW' := hW
  obtain ⟨p, q, hA0, hV, rfl, hfz, hnd⟩ := hW
  have hA : DataW.TrodAll enc Tryz.prog W 0 (fun _ => true) true Tryz.f3.params.toList args.toList ds p := hA0
  rw [Tryz.params3] at hA hval
  obtain ⟨v0, vs0, d0, ds0, p0, q0, hargs, rfl, rfl, h0, r0⟩ := trodAll_cons hA
  obtain ⟨rfl, rfl, rfl⟩ := trodAll_nil r0
  obtain rfl : args = #[v0] := by cases args; simp_all
  obtain ⟨rfl, rfl⟩ := trodVars_none hV
  have k0' := h0
  have lt0 : ∀ x ∈ p0, x.block < W.heap.size := by obtain ⟨m, hm⟩ := k0'; exact DataW.trod_lt m _ _ _ hm
  obtain ⟨a0, len0, cap0, rfl⟩ := okWide_slice Tryz.underlying22 (hval 0 22 v0 rfl rfl)
  obtain ⟨x0, w0⟩ := (by obtain ⟨m, hm⟩ := h0; exact TableL_of_trod (by simpa [Value.cells] using hm) : ∃ ds : List Tb, Sl TbR 6 (fun _ => True) W a0 len0 ds ∧ (ds.length ≤ maxLen ∧ ∀ y ∈ ds, y.wf))
  clear hA0 hval0
  refine (walk a0 len0 cap0 x0 W w0).mono fun e W' ⟨he, bel⟩ => ?_
  subst he
  exact ⟨_, rfl, _, _, _, [], _, [], hW', trodAll_mk1 (shut_bool Tryz.underlying4 _), (trodAll_cons_mk (Below.trod laidOut (by kernel_rfl) (of_decide_eq_true (by kernel_rfl)) k0' bel lt0) trodAll_mk0), rfl, bel.frame _, fun h => by cases h⟩

theorem over : Rows.fnExactSchemaOkRow.holds Tryz.pinned (OpenSpec.ofChange Rows.fnExactSchemaOkSpec) :=
  OpenClaim.holds_of_wide 3 Tryz.f3 rfl rfl rfl rfl rfl rfl rfl ⟨rfl, rfl, rfl, rfl, rfl⟩ rfl rfl rfl rfl rfl (by kernel_rfl) Tryz.func3 (by kernel_rfl)
    (of_decide_eq_true (by kernel_rfl)) (by unfold Func.isWrapper; first | (rw [if_pos (by decide +kernel)]; kernel_rfl) | (rw [if_neg (by decide +kernel)]; exact ⟨rfl, rfl⟩))
    (fun os started H enc _ => lifted os started H enc)

theorem proved : Rows.FnExactSchemaOkSaid := over
#print axioms proved
end Go.Proofs.YtlneglnbiacabaaGreat.fnExactSchemaOk
