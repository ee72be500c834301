/-
  ValOk answers as the model at every Val (law FnExactValOk, for every input).
-/
import Derived.Test.YtimgaipikgpgkaaBase
import Derived.Test.YtimgaipikgpgkaaLawVals
namespace Go.Proofs.Ytimgaipikgpgkaa.fnExactValOk
open Go.ChangeShapes Go.WideShapes Go.ChangeAt Go.RowKit Go.Joins
open Go.ChangeMaps (open_string shut_string)
set_option linter.unusedVariables false

set_option maxHeartbeats 400000 in
theorem walk (k0 n0 : Int) (s0 : ByteArray) (w : World) (w0 : IsVal k0 n0 s0) :
    Calls Try.prog 7 #[.agg #[.int .i64 k0, .int .i64 n0, .string s0]] w fun e w' => e = .returned (.bool true) ∧ Below w.heap.size w w' := by
  obtain ⟨-, -, hs⟩ := w0
  have q0 := Cells3.new w k0 n0 s0 37
  have hb0 := (Below.refl w.heap.size w).alloc (Nat.le_refl _) (.cells #[.int .i64 k0, .int .i64 n0, .string s0] 37)
  have Q0 := Lib.hid q0; have HB0 := Lib.hid hb0
  clear q0 hb0
  go_enter Try.func7, Try.ntmps7
  go_wp2_with fail
  refine (lawsSzVal k0 n0 s0 _ _ (by omega) (by omega) hs).mono ?_
  rintro e w1 ⟨rfl, hb1⟩
  obtain ⟨c0, c1, c2⟩ := Q0.out.below hb1
  have h1 := HB0.out.trans (hb1.mono HB0.out.size)
  by_cases hn : szN 1048576 s0 < 0
  · go_wp2
    go_ret
    exact ⟨rfl, h1⟩
  · have hn' : decide (szN 1048576 s0 < 0) = false := by simpa using hn
    clear hn
    go_wp2_with fail
    refine (lawsToVal k0 n0 s0 _).mono ?_
    rintro e w2 ⟨rfl, hb2⟩
    go_wp2_with fail
    refine (specValOk k0 n0 s0 _).mono ?_
    rintro e w3 ⟨rfl, hb3⟩
    have h2 := hb2.trans (hb3.mono hb2.size)
    obtain ⟨d0, d1, d2⟩ := Cells3.below (s := s0) ⟨c0, c1, c2⟩ h2
    have h3 := h1.trans (h2.mono h1.size)
    clear hb1 hb2 hb3 h2 c0 c1 c2
    go_wp2_with fail
    refine (lawsToVal k0 n0 s0 _).mono ?_
    rintro e w4 ⟨rfl, hb4⟩
    go_wp2_with fail
    refine (implValOk k0 n0 s0 _).mono ?_
    rintro e w5 ⟨rfl, hb5⟩
    have h4 := hb4.trans (hb5.mono hb4.size)
    have h5 := h3.trans (h4.mono h3.size)
    go_wp2
    go_ret
    exact ⟨rfl, h5⟩

set_option maxRecDepth 100000 in
theorem lifted (os : Os) (started : os.Started) (H : Type) (enc : TypeId × Value → H) :
    ReturnsInHanded {} Try.checked os 7 .any (Rows.fnExactValOkSpec.pre6 enc Try.prog Try.f7 Rows.fnExactValOkRow.domain false) (Rows.fnExactValOkSpec.post enc Try.prog Try.f7 false true false false) := by
  refine returnsInHanded_of_change (C := Try.checked) own started (by kernel_rfl) Try.func7
    (ChangeSpec.witness6 (enc := enc) (C := Try.checked) false ⟨#[], #[.agg #[.int .i64 0, .int .i64 0, .string ⟨#[]⟩]], []⟩ 8 (by kernel_rfl) (by kernel_rfl) (by kernel_rfl) (by kernel_rfl)) ?_
  intro W base args ds gs before hval0 hW hcnd _
  have hval : ∀ (j : Nat) t v, Try.f7.params[j]? = some t → args[j]? = some v → Value.okWide Try.prog W .any base t v := hval0
  have hW' := hW
  obtain ⟨p, q, hA0, hV, rfl, hfz, hnd⟩ := hW
  have hA : DataW.TrodAll enc Try.prog W 0 (fun _ => true) true Try.f7.params.toList args.toList ds p := hA0
  rw [Try.params7] at hA hval
  obtain ⟨v0, vs0, d0, ds0, p0, q0, hargs, rfl, rfl, h0, r0⟩ := trodAll_cons hA
  obtain ⟨rfl, rfl, rfl⟩ := trodAll_nil r0
  obtain rfl : args = #[v0] := by cases args; simp_all
  obtain ⟨rfl, rfl⟩ := trodVars_none hV
  have k0' := h0
  have lt0 : ∀ x ∈ p0, x.block < W.heap.size := by obtain ⟨m, hm⟩ := k0'; exact DataW.trod_lt m _ _ _ hm
  obtain ⟨k0, n0, s0, rfl, w0⟩ := isVal_of_trod Try.underlying37 (by kernel_rfl) (by kernel_rfl) Try.underlying2 Try.underlying2 Try.underlying9 (hval 0 37 v0 rfl rfl) h0
  clear hA0 hval0
  refine (walk k0 n0 s0 W w0).mono fun e W' ⟨he, bel⟩ => ?_
  subst he
  exact ⟨_, rfl, _, _, _, [], _, [], hW', trodAll_mk1 (shut_bool Try.underlying4 _), (trodAll_cons_mk (Below.trod laidOut (by kernel_rfl) (of_decide_eq_true (by kernel_rfl)) k0' bel lt0) trodAll_mk0), rfl, bel.frame _, fun h => by cases h⟩

theorem over : Rows.fnExactValOkRow.holds Try.pinned (OpenSpec.ofChange Rows.fnExactValOkSpec) :=
  OpenClaim.holds_of_wide 7 Try.f7 rfl rfl rfl rfl rfl rfl rfl ⟨rfl, rfl, rfl, rfl, rfl⟩ rfl rfl rfl rfl rfl (by kernel_rfl) Try.func7 (by kernel_rfl)
    (of_decide_eq_true (by kernel_rfl)) (by unfold Func.isWrapper; first | (rw [if_pos (by decide +kernel)]; kernel_rfl) | (rw [if_neg (by decide +kernel)]; exact ⟨rfl, rfl⟩))
    (fun os started H enc _ => lifted os started H enc)

theorem proved : Rows.FnExactValOkSaid := over
#print axioms proved
end Go.Proofs.Ytimgaipikgpgkaa.fnExactValOk
