/-
  IndexOk answers as the model at every schema, database, table, list of columns and index (law FnExactIndexOk, for every input).
-/
import Derived.Test.YtemimhghhihllaaGreatUa
import Derived.Test.YtemimhghhihllaaGreatUb
import Derived.Test.YtemimhghhihllaaGreatUc
import Derived.Test.YtemimhghhihllaaGreatUd
import Derived.Test.YtemimhghhihllaaGreatUe
import Derived.Test.YtemimhghhihllaaGreatUf
namespace Go.Proofs.YtemimhghhihllaaGreat.fnExactIndexOk
open Go.ChangeShapes Go.WideShapes Go.ChangeAt Go.RowKit Go.Joins
open Go.ChangeMaps (open_string shut_string)
set_option linter.unusedVariables false

set_option maxRecDepth 100000 in
set_option maxHeartbeats 2000000 in
theorem walk (a0 : Option Addr) (len0 cap0 : Nat) (x0 : List Tb) (a1 : Option Addr) (len1 cap1 : Nat) (x1 : List Dt) (a2 : Int) (a3 : Option Addr) (len3 cap3 : Nat) (x3 : List Int) (a4 : Option Addr) (len4 cap4 : Nat) (x4 : List En) (w : World) (w0 : Sl TbR 6 (fun _ => True) w a0 len0 x0 ∧ (x0.length ≤ maxLen ∧ ∀ y ∈ x0, y.wf)) (w1 : Sl DtR 1 (fun _ => True) w a1 len1 x1 ∧ (x1.length ≤ maxLen ∧ ∀ y ∈ x1, y.wf)) (w2 : (Lit.int .i64 a2).wf = true) (w3 : Sl IntR 1 (fun _ => True) w a3 len3 x3 ∧ x3.length ≤ maxLen) (w4 : Sl EnR 2 (fun _ => True) w a4 len4 x4 ∧ (x4.length ≤ maxLen ∧ ∀ y ∈ x4, y.wf)) :
    Calls Tryz.prog 5 #[.slice a0 len0 cap0, .slice a1 len1 cap1, .int .i64 a2, .slice a3 len3 cap3, .slice a4 len4 cap4] w fun e w' => e = .returned (.bool true) ∧ Below w.heap.size w w' := by
  obtain ⟨h0, wf0⟩ := w0
  obtain rfl : x0.length = len0 := h0.1
  have WF0 := Lib.hid wf0
  clear wf0
  obtain ⟨h1, wf1⟩ := w1
  obtain rfl : x1.length = len1 := h1.1
  have WF1 := Lib.hid wf1
  clear wf1
  obtain ⟨h3, wf3⟩ := w3
  obtain rfl : x3.length = len3 := h3.1
  obtain ⟨h4, wf4⟩ := w4
  obtain rfl : x4.length = len4 := h4.1
  have WF4 := Lib.hid wf4
  clear wf4
  have hb0 := (Below.refl w.heap.size w)
  unfold maxLen at wf3
  by_cases hlong3 : (1048576 : Int) < (x3.length : Int)
  · go_enter Tryz.func5, Tryz.ntmps5
    go_wp2
    go_ret
    exact ⟨rfl, hb0⟩
  have hlong3' : decide ((1048576 : Int) < (x3.length : Int)) = false := by simpa using hlong3
  have S3 : x3.length ≤ 1048576 := by omega
  go_enter Tryz.func5, Tryz.ntmps5
  go_wp2_with fail
  refine (lawsSzTableL a0 x0.length cap0 x0 1048576 _ _ (h0.below TbR.stays hb0) WF0.out (by omega) (by omega)).mono ?_
  rintro e y1 ⟨rfl, hq1⟩
  have hbb1 := (hb0).trans (hq1.mono (hb0).size)
  rcases szR_cases 1048576 (szL Tb.sz x0) (by omega) with ⟨hno1, hv1⟩ | ⟨l1, hv1, -, h01, h11, hle1⟩
  · rw [hv1.out]
    go_wp2
    go_ret
    exact ⟨rfl, hbb1⟩
  rw [hv1.out]
  have S0 := Lib.hid (show szL Tb.sz x0 ≤ 1048576 by omega)
  clear hle1
  go_wp2_with fail
  refine (lawsSzDataL a1 x1.length cap1 x1 l1 _ _ (h1.below DtR.stays hbb1) WF1.out (by omega) (by omega)).mono ?_
  rintro e y2 ⟨rfl, hq2⟩
  have hbb2 := (hbb1).trans (hq2.mono (hbb1).size)
  rcases szR_cases l1 (szL Dt.sz x1) (by omega) with ⟨hno2, hv2⟩ | ⟨l2, hv2, -, h02, h12, hle2⟩
  · rw [hv2.out]
    go_wp2
    go_ret
    exact ⟨rfl, hbb2⟩
  rw [hv2.out]
  have S1 := Lib.hid (show szL Dt.sz x1 ≤ 1048576 by omega)
  clear hle2
  go_wp2_with fail
  refine (lawsSzEntryL a4 x4.length cap4 x4 l2 _ _ (h4.below EnR.stays hbb2) WF4.out (by omega) (by omega)).mono ?_
  rintro e y3 ⟨rfl, hq3⟩
  have hbb3 := (hbb2).trans (hq3.mono (hbb2).size)
  rcases szR_cases l2 (szL En.sz x4) (by omega) with ⟨hno3, hv3⟩ | ⟨l3, hv3, -, h03, h13, hle3⟩
  · rw [hv3.out]
    go_wp2
    go_ret
    exact ⟨rfl, hbb3⟩
  rw [hv3.out]
  have S4 := Lib.hid (show szL En.sz x4 ≤ 1048576 by omega)
  clear hle3
  go_wp2_with fail
  refine (lawsToTableL a0 x0.length cap0 x0 _ _ (h0.below TbR.stays hbb3) S0.out).mono ?_
  rintro e y4 ⟨Bs0, ds0, rfl, hcps0, ts0, hq4⟩
  have hbb4 := (hbb3).trans (hq4.mono (hbb3).size)
  go_wp2_with fail
  refine (lawsToDataL a1 x1.length cap1 x1 _ _ (h1.below DtR.stays hbb4) S1.out).mono ?_
  rintro e y5 ⟨Bs1, ds1, rfl, hcps1, ts1, hq5⟩
  have hbb5 := (hbb4).trans (hq5.mono (hbb4).size)
  have ts0 := ts0.below TbR.stays hq5
  go_wp2_with fail
  refine (lawsToIntL a3 x3.length cap3 x3 _ _ (h3.below IntR.stays hbb5) S3).mono ?_
  rintro e y6 ⟨Bs3, ds3, rfl, hcps3, ts3, hq6⟩
  have hbb6 := (hbb5).trans (hq6.mono (hbb5).size)
  have ts0 := ts0.below TbR.stays hq6
  have ts1 := ts1.below DtR.stays hq6
  go_wp2_with fail
  refine (lawsToEntryL a4 x4.length cap4 x4 _ _ (h4.below EnR.stays hbb6) S4.out).mono ?_
  rintro e y7 ⟨Bs4, ds4, rfl, hcps4, ts4, hq7⟩
  have hbb7 := (hbb6).trans (hq7.mono (hbb6).size)
  have ts0 := ts0.below TbR.stays hq7
  have ts1 := ts1.below DtR.stays hq7
  have ts3 := ts3.below IntR.stays hq7
  go_wp2_with fail
  refine (specIndexOk Bs0 Bs1 Bs3 Bs4 x0.length ds0 x1.length ds1 x3.length ds3 x4.length ds4 a2 x0 x1 x3 x4 _ _ _ _ _ ts0 ts1 ts3 ts4 hcps0 hcps3 S0.out S1.out S3 S4.out).mono ?_
  rintro e y8 ⟨rfl, hq8⟩
  have hbb8 := (hbb7).trans (hq8.mono (hbb7).size)
  have ts0 := ts0.below TbR.stays hq8
  have ts1 := ts1.below DtR.stays hq8
  have ts3 := ts3.below IntR.stays hq8
  have ts4 := ts4.below EnR.stays hq8
  clear ts0 ts1 ts3 ts4
  go_wp2_with fail
  refine (lawsToTableL a0 x0.length cap0 x0 _ _ (h0.below TbR.stays hbb8) S0.out).mono ?_
  rintro e y9 ⟨Bx0, dx0, rfl, hcpx0, tx0, hq9⟩
  have hbb9 := (hbb8).trans (hq9.mono (hbb8).size)
  go_wp2_with fail
  refine (lawsToDataL a1 x1.length cap1 x1 _ _ (h1.below DtR.stays hbb9) S1.out).mono ?_
  rintro e y10 ⟨Bx1, dx1, rfl, hcpx1, tx1, hq10⟩
  have hbb10 := (hbb9).trans (hq10.mono (hbb9).size)
  have tx0 := tx0.below TbR.stays hq10
  go_wp2_with fail
  refine (lawsToIntL a3 x3.length cap3 x3 _ _ (h3.below IntR.stays hbb10) S3).mono ?_
  rintro e y11 ⟨Bx3, dx3, rfl, hcpx3, tx3, hq11⟩
  have hbb11 := (hbb10).trans (hq11.mono (hbb10).size)
  have tx0 := tx0.below TbR.stays hq11
  have tx1 := tx1.below DtR.stays hq11
  go_wp2_with fail
  refine (lawsToEntryL a4 x4.length cap4 x4 _ _ (h4.below EnR.stays hbb11) S4.out).mono ?_
  rintro e y12 ⟨Bx4, dx4, rfl, hcpx4, tx4, hq12⟩
  have hbb12 := (hbb11).trans (hq12.mono (hbb11).size)
  have tx0 := tx0.below TbR.stays hq12
  have tx1 := tx1.below DtR.stays hq12
  have tx3 := tx3.below IntR.stays hq12
  go_wp2_with fail
  refine (implIndexOk Bx0 Bx1 Bx3 Bx4 x0.length dx0 x1.length dx1 x3.length dx3 x4.length dx4 a2 x0 x1 x3 x4 _ _ _ _ _ tx0 tx1 tx3 tx4 S0.out S1.out S3 S4.out).mono ?_
  rintro e y13 ⟨rfl, hq13⟩
  have hbb13 := (hbb12).trans (hq13.mono (hbb12).size)
  have tx0 := tx0.below TbR.stays hq13
  have tx1 := tx1.below DtR.stays hq13
  have tx3 := tx3.below IntR.stays hq13
  have tx4 := tx4.below EnR.stays hq13
  go_wp2_with fail
  refine (lawsToTableL a0 x0.length cap0 x0 _ _ (h0.below TbR.stays hbb13) S0.out).mono ?_
  rintro e y14 ⟨Be0, de0, rfl, -, te0, hq14⟩
  have hbb14 := (hbb13).trans (hq14.mono (hbb13).size)
  have tx0 := tx0.below TbR.stays hq14
  have tx1 := tx1.below DtR.stays hq14
  have tx3 := tx3.below IntR.stays hq14
  have tx4 := tx4.below EnR.stays hq14
  go_wp2_with fail
  refine (lawsEqTableL _ _ _ _ _ x0 _ _ _ tx0 te0 S0.out).mono ?_
  rintro e y15 ⟨rfl, hq15⟩
  have hbb15 := (hbb14).trans (hq15.mono (hbb14).size)
  have tx0 := tx0.below TbR.stays hq15
  have tx1 := tx1.below DtR.stays hq15
  have tx3 := tx3.below IntR.stays hq15
  have tx4 := tx4.below EnR.stays hq15
  go_wp2_with fail
  refine (lawsToDataL a1 x1.length cap1 x1 _ _ (h1.below DtR.stays hbb15) S1.out).mono ?_
  rintro e y16 ⟨Be1, de1, rfl, -, te1, hq16⟩
  have hbb16 := (hbb15).trans (hq16.mono (hbb15).size)
  have tx0 := tx0.below TbR.stays hq16
  have tx1 := tx1.below DtR.stays hq16
  have tx3 := tx3.below IntR.stays hq16
  have tx4 := tx4.below EnR.stays hq16
  go_wp2_with fail
  refine (lawsEqDataL _ _ _ _ _ x1 _ _ _ tx1 te1 S1.out).mono ?_
  rintro e y17 ⟨rfl, hq17⟩
  have hbb17 := (hbb16).trans (hq17.mono (hbb16).size)
  have tx0 := tx0.below TbR.stays hq17
  have tx1 := tx1.below DtR.stays hq17
  have tx3 := tx3.below IntR.stays hq17
  have tx4 := tx4.below EnR.stays hq17
  go_wp2_with fail
  refine (lawsToIntL a3 x3.length cap3 x3 _ _ (h3.below IntR.stays hbb17) S3).mono ?_
  rintro e y18 ⟨Be3, de3, rfl, -, te3, hq18⟩
  have hbb18 := (hbb17).trans (hq18.mono (hbb17).size)
  have tx0 := tx0.below TbR.stays hq18
  have tx1 := tx1.below DtR.stays hq18
  have tx3 := tx3.below IntR.stays hq18
  have tx4 := tx4.below EnR.stays hq18
  go_wp2_with fail
  refine (lawsEqIntL _ _ _ _ _ x3 _ _ _ tx3 te3 S3).mono ?_
  rintro e y19 ⟨rfl, hq19⟩
  have hbb19 := (hbb18).trans (hq19.mono (hbb18).size)
  have tx0 := tx0.below TbR.stays hq19
  have tx1 := tx1.below DtR.stays hq19
  have tx3 := tx3.below IntR.stays hq19
  have tx4 := tx4.below EnR.stays hq19
  go_wp2_with fail
  refine (lawsToEntryL a4 x4.length cap4 x4 _ _ (h4.below EnR.stays hbb19) S4.out).mono ?_
  rintro e y20 ⟨Be4, de4, rfl, -, te4, hq20⟩
  have hbb20 := (hbb19).trans (hq20.mono (hbb19).size)
  have tx0 := tx0.below TbR.stays hq20
  have tx1 := tx1.below DtR.stays hq20
  have tx3 := tx3.below IntR.stays hq20
  have tx4 := tx4.below EnR.stays hq20
  go_wp2_with fail
  refine (lawsEqEntryL _ _ _ _ _ x4 _ _ _ tx4 te4 S4.out).mono ?_
  rintro e y21 ⟨rfl, hq21⟩
  have hbb21 := (hbb20).trans (hq21.mono (hbb20).size)
  have tx0 := tx0.below TbR.stays hq21
  have tx1 := tx1.below DtR.stays hq21
  have tx3 := tx3.below IntR.stays hq21
  have tx4 := tx4.below EnR.stays hq21
  go_wp2_with fail
  go_ret
  exact ⟨rfl, hbb21⟩

set_option maxRecDepth 100000 in
theorem lifted (os : Os) (started : os.Started) (H : Type) (enc : TypeId × Value → H) :
    ReturnsInHanded {} Tryz.checked os 5 .any (Rows.fnExactIndexOkSpec.pre6 enc Tryz.prog Tryz.f5 Rows.fnExactIndexOkRow.domain false) (Rows.fnExactIndexOkSpec.post enc Tryz.prog Tryz.f5 false true false false) := by
  refine returnsInHanded_of_change (C := Tryz.checked) own started (by kernel_rfl) Tryz.func5
    (ChangeSpec.witness6 (enc := enc) (C := Tryz.checked) false ⟨#[], #[.slice none 0 0, .slice none 0 0, .int .i64 0, .slice none 0 0, .slice none 0 0], []⟩ 8 (by kernel_rfl) (by kernel_rfl) (by kernel_rfl) (by kernel_rfl)) ?_
  intro W base args ds gs before hval0 hW hcnd _
  have hval : ∀ (j : Nat) t v, Tryz.f5.params[j]? = some t → args[j]? = some v → Value.okWide Tryz.prog W .any base t v := hval0
  have hW' := hW
  obtain ⟨p, q, hA0, hV, rfl, hfz, hnd⟩ := hW
  have hA : DataW.TrodAll enc Tryz.prog W 0 (fun _ => true) true Tryz.f5.params.toList args.toList ds p := hA0
  rw [Tryz.params5] at hA hval
  obtain ⟨v0, vs0, d0, ds0, p0, q0, hargs, rfl, rfl, h0, r0⟩ := trodAll_cons hA
  obtain ⟨v1, vs1, d1, ds1, p1, q1, rfl, rfl, rfl, h1, r1⟩ := trodAll_cons r0
  obtain ⟨v2, vs2, d2, ds2, p2, q2, rfl, rfl, rfl, h2, r2⟩ := trodAll_cons r1
  obtain ⟨v3, vs3, d3, ds3, p3, q3, rfl, rfl, rfl, h3, r3⟩ := trodAll_cons r2
  obtain ⟨v4, vs4, d4, ds4, p4, q4, rfl, rfl, rfl, h4, r4⟩ := trodAll_cons r3
  obtain ⟨rfl, rfl, rfl⟩ := trodAll_nil r4
  obtain rfl : args = #[v0, v1, v2, v3, v4] := by cases args; simp_all
  obtain ⟨rfl, rfl⟩ := trodVars_none hV
  have k0' := h0
  have lt0 : ∀ x ∈ p0, x.block < W.heap.size := by obtain ⟨m, hm⟩ := k0'; exact DataW.trod_lt m _ _ _ hm
  have k1' := h1
  have lt1 : ∀ x ∈ p1, x.block < W.heap.size := by obtain ⟨m, hm⟩ := k1'; exact DataW.trod_lt m _ _ _ hm
  have k2' := h2
  have lt2 : ∀ x ∈ p2, x.block < W.heap.size := by obtain ⟨m, hm⟩ := k2'; exact DataW.trod_lt m _ _ _ hm
  have k3' := h3
  have lt3 : ∀ x ∈ p3, x.block < W.heap.size := by obtain ⟨m, hm⟩ := k3'; exact DataW.trod_lt m _ _ _ hm
  have k4' := h4
  have lt4 : ∀ x ∈ p4, x.block < W.heap.size := by obtain ⟨m, hm⟩ := k4'; exact DataW.trod_lt m _ _ _ hm
  obtain ⟨a0, len0, cap0, rfl⟩ := okWide_slice Tryz.underlying22 (hval 0 22 v0 rfl rfl)
  obtain ⟨x0, w0⟩ := (by obtain ⟨m, hm⟩ := h0; exact TableL_of_trod (by simpa [Value.cells] using hm) : ∃ ds : List Tb, Sl TbR 6 (fun _ => True) W a0 len0 ds ∧ (ds.length ≤ maxLen ∧ ∀ y ∈ ds, y.wf))
  obtain ⟨a1, len1, cap1, rfl⟩ := okWide_slice Tryz.underlying45 (hval 1 45 v1 rfl rfl)
  obtain ⟨x1, w1⟩ := (by obtain ⟨m, hm⟩ := h1; exact DataL_of_trod (by simpa [Value.cells] using hm) : ∃ ds : List Dt, Sl DtR 1 (fun _ => True) W a1 len1 ds ∧ (ds.length ≤ maxLen ∧ ∀ y ∈ ds, y.wf))
  obtain ⟨a2, rfl, rfl, rfl, w2⟩ := open_int Tryz.underlying2 (hval 2 2 v2 rfl rfl) h2
  obtain ⟨a3, len3, cap3, rfl⟩ := okWide_slice Tryz.underlying28 (hval 3 28 v3 rfl rfl)
  obtain ⟨x3, w3⟩ := (by obtain ⟨m, hm⟩ := h3; exact IntL_of_trod (by simpa [Value.cells] using hm) : ∃ ds, Sl IntR 1 (fun _ => True) W a3 len3 ds ∧ ds.length ≤ maxLen)
  obtain ⟨a4, len4, cap4, rfl⟩ := okWide_slice Tryz.underlying58 (hval 4 58 v4 rfl rfl)
  obtain ⟨x4, w4⟩ := (by obtain ⟨m, hm⟩ := h4; exact EntryL_of_trod (by simpa [Value.cells] using hm) : ∃ ds : List En, Sl EnR 2 (fun _ => True) W a4 len4 ds ∧ (ds.length ≤ maxLen ∧ ∀ y ∈ ds, y.wf))
  clear hA0 hval0
  refine (walk a0 len0 cap0 x0 a1 len1 cap1 x1 a2 a3 len3 cap3 x3 a4 len4 cap4 x4 W w0 w1 w2 w3 w4).mono fun e W' ⟨he, bel⟩ => ?_
  subst he
  exact ⟨_, rfl, _, _, _, [], _, [], hW', trodAll_mk1 (shut_bool Tryz.underlying4 _), (trodAll_cons_mk (Below.trod laidOut (by kernel_rfl) (of_decide_eq_true (by kernel_rfl)) k0' bel lt0) (trodAll_cons_mk (Below.trod laidOut (by kernel_rfl) (of_decide_eq_true (by kernel_rfl)) k1' bel lt1) (trodAll_cons_mk (Below.trod laidOut (by kernel_rfl) (of_decide_eq_true (by kernel_rfl)) k2' bel lt2) (trodAll_cons_mk (Below.trod laidOut (by kernel_rfl) (of_decide_eq_true (by kernel_rfl)) k3' bel lt3) (trodAll_cons_mk (Below.trod laidOut (by kernel_rfl) (of_decide_eq_true (by kernel_rfl)) k4' bel lt4) trodAll_mk0))))), rfl, bel.frame _, fun h => by cases h⟩

set_option maxRecDepth 100000 in
set_option maxHeartbeats 16000000 in
theorem facts : joinedFacts Tryz.checked.prog 5 Tryz.f5 Rows.fnExactIndexOkSpec Rows.fnExactIndexOkRow = true := by
  unfold joinedFacts
  repeat' (with_reducible refine Bool.and_eq_true_iff.2 ⟨?_, ?_⟩)
  all_goals (as_aux_lemma => kernel_rfl)

theorem over : Rows.fnExactIndexOkRow.holds Tryz.pinned (OpenSpec.ofChange Rows.fnExactIndexOkSpec) :=
  OpenClaim.holds_of_wide 5 Tryz.f5 rfl rfl rfl rfl rfl rfl rfl ⟨rfl, rfl, rfl, rfl, rfl⟩ rfl rfl rfl rfl rfl (by kernel_rfl) Tryz.func5 facts
    (of_decide_eq_true (by as_aux_lemma => kernel_rfl)) (by unfold Func.isWrapper; first | (rw [if_pos (by decide +kernel)]; kernel_rfl) | (rw [if_neg (by decide +kernel)]; exact ⟨rfl, rfl⟩))
    (fun os started H enc _ => lifted os started H enc)

theorem proved : Rows.FnExactIndexOkSaid := over
#print axioms proved
end Go.Proofs.YtemimhghhihllaaGreat.fnExactIndexOk
