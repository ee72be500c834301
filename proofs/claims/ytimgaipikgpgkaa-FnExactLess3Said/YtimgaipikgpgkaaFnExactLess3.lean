/-
  Less3 answers as the model at every two Vals (law FnExactLess3, for every input).
-/
import Derived.Test.YtimgaipikgpgkaaBase
import Derived.Test.YtimgaipikgpgkaaThree2
namespace Go.Proofs.Ytimgaipikgpgkaa.fnExactLess3
open Go.ChangeShapes Go.WideShapes Go.ChangeAt Go.RowKit Go.Joins
open Go.ChangeMaps (open_string shut_string)
set_option linter.unusedVariables false

set_option maxHeartbeats 1000000 in
theorem walk (k0 n0 : Int) (s0 : ByteArray) (k1 n1 : Int) (s1 : ByteArray) (w : World) (w0 : IsVal k0 n0 s0) (w1 : IsVal k1 n1 s1) :
    Calls Try.prog 10 #[.agg #[.int .i64 k0, .int .i64 n0, .string s0], .agg #[.int .i64 k1, .int .i64 n1, .string s1]] w fun e w' => e = .returned (.bool true) ∧ Below w.heap.size w w' := by
  obtain ⟨-, -, hs0⟩ := w0
  obtain ⟨-, -, hs1⟩ := w1
  have Q0 := Lib.hid (Cells3.two w k0 n0 s0 k1 n1 s1 37)
  have HB0 := Lib.hid (chain2 w (.cells #[.int .i64 k0, .int .i64 n0, .string s0] 37) (.cells #[.int .i64 k1, .int .i64 n1, .string s1] 37))
  go_enter Try.func10, Try.ntmps10
  go_wp2_with fail
  refine (lawsSzVal k0 n0 s0 _ _ (by omega) (by omega) hs0).mono ?_
  rintro e x1 ⟨rfl, hb1⟩
  have q1 := two_below Q0.out hb1
  have Q1 := Lib.hid q1
  obtain ⟨⟨c0, c1, c2⟩, ⟨d0, d1, d2⟩⟩ := q1
  have H1 := Lib.hid (HB0.out.trans (hb1.mono HB0.out.size))
  clear hb1
  by_cases hn : szN 1048576 s0 < 0
  · go_wp2
    go_ret
    exact ⟨rfl, H1.out⟩
  have b1 : szN 1048576 s0 ≤ 1048576 := by unfold szN; split <;> omega
  have b0 : 0 ≤ szN 1048576 s0 := by omega
  have hn' : decide (szN 1048576 s0 < 0) = false := by simpa using hn
  clear hn
  go_wp2_with fail
  refine (lawsSzVal k1 n1 s1 _ _ b0 b1 hs1).mono ?_
  rintro e x2 ⟨rfl, hb2⟩
  have q2 := two_below Q1.out hb2
  have Q2 := Lib.hid q2
  have H2 := Lib.hid (H1.out.trans (hb2.mono H1.out.size))
  clear hb2 c0 c1 c2 d0 d1 d2
  obtain ⟨⟨c0, c1, c2⟩, ⟨d0, d1, d2⟩⟩ := q2
  by_cases hm : szN (szN 1048576 s0) s1 < 0
  · go_wp2
    go_ret
    exact ⟨rfl, H2.out⟩
  have hm' : decide (szN (szN 1048576 s0) s1 < 0) = false := by simpa using hm
  clear hm
  go_wp2_with fail
  go_region_held3 (fun w' => w'.cell? ⟨w.heap.size, 0, none⟩ = some (.int .i64 k0) ∧ w'.cell? ⟨w.heap.size, 1, none⟩ = some (.int .i64 n0) ∧ w'.cell? ⟨w.heap.size, 2, none⟩ = some (.string s0) ∧ w'.cell? ⟨w.heap.size + 1, 0, none⟩ = some (.int .i64 k1) ∧ w'.cell? ⟨w.heap.size + 1, 1, none⟩ = some (.int .i64 n1) ∧ w'.cell? ⟨w.heap.size + 1, 2, none⟩ = some (.string s1))
    (first | go_keep | exact keep6 (by assumption) hbA3 | exact keep6 (by assumption) hbA2 | exact keep6 (by assumption) hbA1)
    (first | (go_at_call_of 36 (Value.agg #[.int .i64 k0, .int .i64 n0, .string s0]); refine (lawsToVal k0 n0 s0 _).mono ?_; rintro e yA1 ⟨rfl, hbA1⟩) | (go_at_call_of 36 (Value.agg #[.int .i64 k1, .int .i64 n1, .string s1]); refine (lawsToVal k1 n1 s1 _).mono ?_; rintro e yA2 ⟨rfl, hbA2⟩) | (go_at_call 25; refine (specLess3 k0 n0 s0 k1 n1 s1 _).mono ?_; rintro e yA3 ⟨rfl, hbA3⟩))
  rename_i heldA
  have TA := Lib.hid (chain3 H2.out hbA1 hbA2 hbA3)
  clear c0 c1 c2 d0 d1 d2 hbA1 hbA2 hbA3
  obtain ⟨c0, c1, c2, d0, d1, d2⟩ := heldA
  go_wp2_with fail
  go_region_held3 (fun w' => w'.cell? ⟨w.heap.size, 0, none⟩ = some (.int .i64 k0) ∧ w'.cell? ⟨w.heap.size, 1, none⟩ = some (.int .i64 n0) ∧ w'.cell? ⟨w.heap.size, 2, none⟩ = some (.string s0) ∧ w'.cell? ⟨w.heap.size + 1, 0, none⟩ = some (.int .i64 k1) ∧ w'.cell? ⟨w.heap.size + 1, 1, none⟩ = some (.int .i64 n1) ∧ w'.cell? ⟨w.heap.size + 1, 2, none⟩ = some (.string s1))
    (first | go_keep | exact keep6 (by assumption) hbB3 | exact keep6 (by assumption) hbB2 | exact keep6 (by assumption) hbB1)
    (first | (go_at_call_of 36 (Value.agg #[.int .i64 k0, .int .i64 n0, .string s0]); refine (lawsToVal k0 n0 s0 _).mono ?_; rintro e yB1 ⟨rfl, hbB1⟩) | (go_at_call_of 36 (Value.agg #[.int .i64 k1, .int .i64 n1, .string s1]); refine (lawsToVal k1 n1 s1 _).mono ?_; rintro e yB2 ⟨rfl, hbB2⟩) | (go_at_call 23; refine (implLess3 k0 n0 s0 k1 n1 s1 _).mono ?_; rintro e yB3 ⟨rfl, hbB3⟩))
  rename_i heldB
  have TB := Lib.hid (chain3 TA.out hbB1 hbB2 hbB3)
  clear c0 c1 c2 d0 d1 d2 hbB1 hbB2 hbB3
  obtain ⟨c0, c1, c2, d0, d1, d2⟩ := heldB
  go_wp2
  go_ret
  exact ⟨rfl, TB.out⟩

set_option maxRecDepth 100000 in
theorem lifted (os : Os) (started : os.Started) (H : Type) (enc : TypeId × Value → H) :
    ReturnsInHanded {} Try.checked os 10 .any (Rows.fnExactLess3Spec.pre6 enc Try.prog Try.f10 Rows.fnExactLess3Row.domain false) (Rows.fnExactLess3Spec.post enc Try.prog Try.f10 false true false false) := by
  refine returnsInHanded_of_change (C := Try.checked) own started (by kernel_rfl) Try.func10
    (ChangeSpec.witness6 (enc := enc) (C := Try.checked) false ⟨#[], #[.agg #[.int .i64 0, .int .i64 0, .string ⟨#[]⟩], .agg #[.int .i64 0, .int .i64 0, .string ⟨#[]⟩]], []⟩ 8 (by kernel_rfl) (by kernel_rfl) (by kernel_rfl) (by kernel_rfl)) ?_
  intro W base args ds gs before hval0 hW hcnd _
  have hval : ∀ (j : Nat) t v, Try.f10.params[j]? = some t → args[j]? = some v → Value.okWide Try.prog W .any base t v := hval0
  have hW' := hW
  obtain ⟨p, q, hA0, hV, rfl, hfz, hnd⟩ := hW
  have hA : DataW.TrodAll enc Try.prog W 0 (fun _ => true) true Try.f10.params.toList args.toList ds p := hA0
  rw [Try.params10] at hA hval
  obtain ⟨v0, vs0, d0, ds0, p0, q0, hargs, rfl, rfl, h0, r0⟩ := trodAll_cons hA
  obtain ⟨v1, vs1, d1, ds1, p1, q1, rfl, rfl, rfl, h1, r1⟩ := trodAll_cons r0
  obtain ⟨rfl, rfl, rfl⟩ := trodAll_nil r1
  obtain rfl : args = #[v0, v1] := by cases args; simp_all
  obtain ⟨rfl, rfl⟩ := trodVars_none hV
  have k0' := h0
  have lt0 : ∀ x ∈ p0, x.block < W.heap.size := by obtain ⟨m, hm⟩ := k0'; exact DataW.trod_lt m _ _ _ hm
  have k1' := h1
  have lt1 : ∀ x ∈ p1, x.block < W.heap.size := by obtain ⟨m, hm⟩ := k1'; exact DataW.trod_lt m _ _ _ hm
  obtain ⟨k0, n0, s0, rfl, w0⟩ := isVal_of_trod Try.underlying37 (by kernel_rfl) (by kernel_rfl) Try.underlying2 Try.underlying2 Try.underlying9 (hval 0 37 v0 rfl rfl) h0
  obtain ⟨k1, n1, s1, rfl, w1⟩ := isVal_of_trod Try.underlying37 (by kernel_rfl) (by kernel_rfl) Try.underlying2 Try.underlying2 Try.underlying9 (hval 1 37 v1 rfl rfl) h1
  clear hA0 hval0
  refine (walk k0 n0 s0 k1 n1 s1 W w0 w1).mono fun e W' ⟨he, bel⟩ => ?_
  subst he
  exact ⟨_, rfl, _, _, _, [], _, [], hW', trodAll_mk1 (shut_bool Try.underlying4 _), (trodAll_cons_mk (Below.trod laidOut (by kernel_rfl) (of_decide_eq_true (by kernel_rfl)) k0' bel lt0) (trodAll_cons_mk (Below.trod laidOut (by kernel_rfl) (of_decide_eq_true (by kernel_rfl)) k1' bel lt1) trodAll_mk0)), rfl, bel.frame _, fun h => by cases h⟩

theorem over : Rows.fnExactLess3Row.holds Try.pinned (OpenSpec.ofChange Rows.fnExactLess3Spec) :=
  OpenClaim.holds_of_wide 10 Try.f10 rfl rfl rfl rfl rfl rfl rfl ⟨rfl, rfl, rfl, rfl, rfl⟩ rfl rfl rfl rfl rfl (by kernel_rfl) Try.func10 (by kernel_rfl)
    (of_decide_eq_true (by kernel_rfl)) (by unfold Func.isWrapper; first | (rw [if_pos (by decide +kernel)]; kernel_rfl) | (rw [if_neg (by decide +kernel)]; exact ⟨rfl, rfl⟩))
    (fun os started H enc _ => lifted os started H enc)

theorem proved : Rows.FnExactLess3Said := over
#print axioms proved
end Go.Proofs.Ytimgaipikgpgkaa.fnExactLess3
