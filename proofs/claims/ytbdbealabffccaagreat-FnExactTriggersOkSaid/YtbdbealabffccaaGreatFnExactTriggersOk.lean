/-
  TriggersOk answers as the model at every schema and list of triggers (law FnExactTriggersOk, for every input).
-/
import Derived.Test.YtbdbealabffccaaGreatBase
import Derived.Test.YtbdbealabffccaaGreatTrigAll
import Derived.Test.YtbdbealabffccaaGreatTrod
import Derived.Test.YtbdbealabffccaaGreatSz
namespace Go.Proofs.YtbdbealabffccaaGreat.fnExactTriggersOk
open Go.ChangeShapes Go.WideShapes Go.ChangeAt Go.RowKit Go.Joins
open Go.ChangeMaps (open_string shut_string)
set_option linter.unusedVariables false

set_option maxRecDepth 100000 in
set_option maxHeartbeats 2000000 in
theorem walk (a0 : Option Addr) (len0 cap0 : Nat) (x0 : List Tb) (a1 : Option Addr) (len1 cap1 : Nat) (x1 : List Tg) (w : World) (w0 : Sl TbR 6 (fun _ => True) w a0 len0 x0 ∧ (x0.length ≤ maxLen ∧ ∀ y ∈ x0, y.wf)) (w1 : Sl TgR 5 (fun _ => True) w a1 len1 x1 ∧ (x1.length ≤ maxLen ∧ ∀ y ∈ x1, y.wf)) :
    Calls Tryz.prog 4 #[.slice a0 len0 cap0, .slice a1 len1 cap1] w fun e w' => e = .returned (.bool true) ∧ Below w.heap.size w w' := by
  obtain ⟨h0, wf0⟩ := w0
  obtain rfl : x0.length = len0 := h0.1
  have WF0 := Lib.hid wf0
  clear wf0
  obtain ⟨h1, wf1⟩ := w1
  obtain rfl : x1.length = len1 := h1.1
  have WF1 := Lib.hid wf1
  clear wf1
  have hb0 := (Below.refl w.heap.size w)
  go_enter Tryz.func4, Tryz.ntmps4
  go_wp2_with fail
  refine (lawsSzTableL a0 x0.length cap0 x0 1048576 _ _ (h0.below TbR.stays hb0) WF0.out (by omega) (by omega)).mono ?_
  rintro e y1 ⟨rfl, hq1⟩
  have hbb1 := (hb0).trans (hq1.mono (hb0).size)
  rcases szR_cases 1048576 (szL Tb.sz x0) (by omega) with ⟨hno1, hv1⟩ | ⟨l1, hv1, -, h01, h11, hle1⟩
  · rw [hv1.out]
    go_wp2
    go_ret
    exact ⟨rfl, hbb1⟩
  rw [hv1.out]
  have S0 := Lib.hid (show szL Tb.sz x0 ≤ 1048576 by omega)
  clear hle1
  go_wp2_with fail
  refine (lawsSzTriggerL a1 x1.length cap1 x1 l1 _ _ (h1.below TgR.stays hbb1) WF1.out (by omega) (by omega)).mono ?_
  rintro e y2 ⟨rfl, hq2⟩
  have hbb2 := (hbb1).trans (hq2.mono (hbb1).size)
  rcases szR_cases l1 (szL Tg.sz x1) (by omega) with ⟨hno2, hv2⟩ | ⟨l2, hv2, -, h02, h12, hle2⟩
  · rw [hv2.out]
    go_wp2
    go_ret
    exact ⟨rfl, hbb2⟩
  rw [hv2.out]
  have S1 := Lib.hid (show szL Tg.sz x1 ≤ 1048576 by omega)
  clear hle2
  go_wp2_with fail
  refine (lawsToTableL a0 x0.length cap0 x0 _ _ (h0.below TbR.stays hbb2) S0.out).mono ?_
  rintro e y3 ⟨Bs0, ds0, rfl, hcps0, ts0, hq3⟩
  have hbb3 := (hbb2).trans (hq3.mono (hbb2).size)
  go_wp2_with fail
  refine (lawsToTriggerL a1 x1.length cap1 x1 _ _ (h1.below TgR.stays hbb3) S1.out).mono ?_
  rintro e y4 ⟨Bs1, ds1, rfl, hcps1, ts1, hq4⟩
  have hbb4 := (hbb3).trans (hq4.mono (hbb3).size)
  have ts0 := ts0.below TbR.stays hq4
  go_wp2_with fail
  refine (specTriggersOk Bs0 Bs1 x0.length ds0 x1.length ds1 x0 x1 _ _ _ ts0 ts1 hcps0 S0.out S1.out).mono ?_
  rintro e y5 ⟨rfl, hq5⟩
  have hbb5 := (hbb4).trans (hq5.mono (hbb4).size)
  have ts0 := ts0.below TbR.stays hq5
  have ts1 := ts1.below TgR.stays hq5
  clear ts0 ts1
  go_wp2_with fail
  refine (lawsToTableL a0 x0.length cap0 x0 _ _ (h0.below TbR.stays hbb5) S0.out).mono ?_
  rintro e y6 ⟨Bx0, dx0, rfl, hcpx0, tx0, hq6⟩
  have hbb6 := (hbb5).trans (hq6.mono (hbb5).size)
  go_wp2_with fail
  refine (lawsToTriggerL a1 x1.length cap1 x1 _ _ (h1.below TgR.stays hbb6) S1.out).mono ?_
  rintro e y7 ⟨Bx1, dx1, rfl, hcpx1, tx1, hq7⟩
  have hbb7 := (hbb6).trans (hq7.mono (hbb6).size)
  have tx0 := tx0.below TbR.stays hq7
  go_wp2_with fail
  refine (implTriggersOk Bx0 Bx1 x0.length dx0 x1.length dx1 x0 x1 _ _ _ tx0 tx1 S0.out S1.out).mono ?_
  rintro e y8 ⟨rfl, hq8⟩
  have hbb8 := (hbb7).trans (hq8.mono (hbb7).size)
  have tx0 := tx0.below TbR.stays hq8
  have tx1 := tx1.below TgR.stays hq8
  go_wp2_with fail
  refine (lawsToTableL a0 x0.length cap0 x0 _ _ (h0.below TbR.stays hbb8) S0.out).mono ?_
  rintro e y9 ⟨Be0, de0, rfl, -, te0, hq9⟩
  have hbb9 := (hbb8).trans (hq9.mono (hbb8).size)
  have tx0 := tx0.below TbR.stays hq9
  have tx1 := tx1.below TgR.stays hq9
  go_wp2_with fail
  refine (lawsEqTableL _ _ _ _ _ x0 _ _ _ tx0 te0 S0.out).mono ?_
  rintro e y10 ⟨rfl, hq10⟩
  have hbb10 := (hbb9).trans (hq10.mono (hbb9).size)
  have tx0 := tx0.below TbR.stays hq10
  have tx1 := tx1.below TgR.stays hq10
  go_wp2_with fail
  refine (lawsToTriggerL a1 x1.length cap1 x1 _ _ (h1.below TgR.stays hbb10) S1.out).mono ?_
  rintro e y11 ⟨Be1, de1, rfl, -, te1, hq11⟩
  have hbb11 := (hbb10).trans (hq11.mono (hbb10).size)
  have tx0 := tx0.below TbR.stays hq11
  have tx1 := tx1.below TgR.stays hq11
  go_wp2_with fail
  refine (lawsEqTriggerL _ _ _ _ _ x1 _ _ _ tx1 te1 S1.out).mono ?_
  rintro e y12 ⟨rfl, hq12⟩
  have hbb12 := (hbb11).trans (hq12.mono (hbb11).size)
  have tx0 := tx0.below TbR.stays hq12
  have tx1 := tx1.below TgR.stays hq12
  go_wp2_with fail
  go_ret
  exact ⟨rfl, hbb12⟩

set_option maxRecDepth 100000 in
theorem lifted (os : Os) (started : os.Started) (H : Type) (enc : TypeId × Value → H) :
    ReturnsInHanded {} Tryz.checked os 4 .any (Rows.fnExactTriggersOkSpec.pre6 enc Tryz.prog Tryz.f4 Rows.fnExactTriggersOkRow.domain false) (Rows.fnExactTriggersOkSpec.post enc Tryz.prog Tryz.f4 false true false false) := by
  refine returnsInHanded_of_change (C := Tryz.checked) own started (by kernel_rfl) Tryz.func4
    (ChangeSpec.witness6 (enc := enc) (C := Tryz.checked) false ⟨#[], #[.slice none 0 0, .slice none 0 0], []⟩ 8 (by kernel_rfl) (by kernel_rfl) (by kernel_rfl) (by kernel_rfl)) ?_
  intro W base args ds gs before hval0 hW hcnd _
  have hval : ∀ (j : Nat) t v, Tryz.f4.params[j]? = some t → args[j]? = some v → Value.okWide Tryz.prog W .any base t v := hval0
  have hW' := hW
  obtain ⟨p, q, hA0, hV, rfl, hfz, hnd⟩ := hW
  have hA : DataW.TrodAll enc Tryz.prog W 0 (fun _ => true) true Tryz.f4.params.toList args.toList ds p := hA0
  rw [Tryz.params4] at hA hval
  obtain ⟨v0, vs0, d0, ds0, p0, q0, hargs, rfl, rfl, h0, r0⟩ := trodAll_cons hA
  obtain ⟨v1, vs1, d1, ds1, p1, q1, rfl, rfl, rfl, h1, r1⟩ := trodAll_cons r0
  obtain ⟨rfl, rfl, rfl⟩ := trodAll_nil r1
  obtain rfl : args = #[v0, v1] := by cases args; simp_all
  obtain ⟨rfl, rfl⟩ := trodVars_none hV
  have k0' := h0
  have lt0 : ∀ x ∈ p0, x.block < W.heap.size := by obtain ⟨m, hm⟩ := k0'; exact DataW.trod_lt m _ _ _ hm
  have k1' := h1
  have lt1 : ∀ x ∈ p1, x.block < W.heap.size := by obtain ⟨m, hm⟩ := k1'; exact DataW.trod_lt m _ _ _ hm
  obtain ⟨a0, len0, cap0, rfl⟩ := okWide_slice Tryz.underlying22 (hval 0 22 v0 rfl rfl)
  obtain ⟨x0, w0⟩ := (by obtain ⟨m, hm⟩ := h0; exact TableL_of_trod (by simpa [Value.cells] using hm) : ∃ ds : List Tb, Sl TbR 6 (fun _ => True) W a0 len0 ds ∧ (ds.length ≤ maxLen ∧ ∀ y ∈ ds, y.wf))
  obtain ⟨a1, len1, cap1, rfl⟩ := okWide_slice Tryz.underlying41 (hval 1 41 v1 rfl rfl)
  obtain ⟨x1, w1⟩ := (by obtain ⟨m, hm⟩ := h1; exact TriggerL_of_trod (by simpa [Value.cells] using hm) : ∃ ds : List Tg, Sl TgR 5 (fun _ => True) W a1 len1 ds ∧ (ds.length ≤ maxLen ∧ ∀ y ∈ ds, y.wf))
  clear hA0 hval0
  refine (walk a0 len0 cap0 x0 a1 len1 cap1 x1 W w0 w1).mono fun e W' ⟨he, bel⟩ => ?_
  subst he
  exact ⟨_, rfl, _, _, _, [], _, [], hW', trodAll_mk1 (shut_bool Tryz.underlying4 _), (trodAll_cons_mk (Below.trod laidOut (by kernel_rfl) (of_decide_eq_true (by kernel_rfl)) k0' bel lt0) (trodAll_cons_mk (Below.trod laidOut (by kernel_rfl) (of_decide_eq_true (by kernel_rfl)) k1' bel lt1) trodAll_mk0)), rfl, bel.frame _, fun h => by cases h⟩

set_option maxRecDepth 100000 in
set_option maxHeartbeats 16000000 in
theorem facts : joinedFacts Tryz.checked.prog 4 Tryz.f4 Rows.fnExactTriggersOkSpec Rows.fnExactTriggersOkRow = true := by
  unfold joinedFacts
  repeat' (with_reducible refine Bool.and_eq_true_iff.2 ⟨?_, ?_⟩)
  all_goals (as_aux_lemma => kernel_rfl)

theorem over : Rows.fnExactTriggersOkRow.holds Tryz.pinned (OpenSpec.ofChange Rows.fnExactTriggersOkSpec) :=
  OpenClaim.holds_of_wide 4 Tryz.f4 rfl rfl rfl rfl rfl rfl rfl ⟨rfl, rfl, rfl, rfl, rfl⟩ rfl rfl rfl rfl rfl (by kernel_rfl) Tryz.func4 facts
    (of_decide_eq_true (by as_aux_lemma => kernel_rfl)) (by unfold Func.isWrapper; first | (rw [if_pos (by decide +kernel)]; kernel_rfl) | (rw [if_neg (by decide +kernel)]; exact ⟨rfl, rfl⟩))
    (fun os started H enc _ => lifted os started H enc)

theorem proved : Rows.FnExactTriggersOkSaid := over
#print axioms proved
end Go.Proofs.YtbdbealabffccaaGreat.fnExactTriggersOk
