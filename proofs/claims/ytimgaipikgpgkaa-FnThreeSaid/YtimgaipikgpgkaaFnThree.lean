/-
  What is asked of a null is not known; else one of less, more and alike is true (law FnThree, for every input).
-/
import Derived.Test.YtimgaipikgpgkaaBase
import Derived.Test.YtimgaipikgpgkaaOrdMath
import Derived.Test.YtimgaipikgpgkaaThree2
import Derived.Test.YtimgaipikgpgkaaDraws3
import Derived.IntWalk
namespace Go.Proofs.Ytimgaipikgpgkaa.fnThree
open Go.ChangeShapes Go.WideShapes Go.ChangeAt Go.RowKit Go.Joins
open Go.ChangeMaps (open_string shut_string)
set_option linter.unusedVariables false

theorem facts {k n : Int} {s : ByteArray} {k' n' : Int} {s' : ByteArray} (h : valOkB k n s = true) (h' : valOkB k' n' s' = true) :
    ((k == 0) = true ∧ eq3 k n s k' n' s' = 2 ∧ eq3 k' n' s' k n s = 2 ∧ less3 k n s k' n' s' = 2 ∧ less3 k' n' s' k n s = 2) ∨
    ((k == 0) = false ∧ (k' == 0) = true ∧ eq3 k n s k' n' s' = 2 ∧ eq3 k' n' s' k n s = 2 ∧ less3 k n s k' n' s' = 2 ∧ less3 k' n' s' k n s = 2) ∨
    ((k == 0) = false ∧ (k' == 0) = false ∧ eq3 k n s k' n' s' = 1 ∧ eq3 k' n' s' k n s = 1 ∧ less3 k n s k' n' s' = 0 ∧ less3 k' n' s' k n s = 0 ∧ ordOk k n s k' n' s' = 0) ∨
    ((k == 0) = false ∧ (k' == 0) = false ∧ eq3 k n s k' n' s' = 0 ∧ eq3 k' n' s' k n s = 0 ∧ less3 k n s k' n' s' = 1 ∧ less3 k' n' s' k n s = 0 ∧ ordOk k n s k' n' s' = -1) ∨
    ((k == 0) = false ∧ (k' == 0) = false ∧ eq3 k n s k' n' s' = 0 ∧ eq3 k' n' s' k n s = 0 ∧ less3 k n s k' n' s' = 0 ∧ less3 k' n' s' k n s = 1 ∧ ordOk k n s k' n' s' = 1) := by
  by_cases k0 : k = 0
  · exact .inl (by simp [k0, eq3, less3, knownB])
  by_cases k0' : k' = 0
  · exact .inr (.inl (by simp [k0, k0', eq3, less3, knownB]))
  have e := ordOk_neg k n s k' n' s'
  have b := ordOk_bd k n s k' n' s'
  have o : ordOk k n s k' n' s' = ordV k n s k' n' s' := by simp [ordOk, h, h']
  have o' : ordOk k' n' s' k n s = ordV k' n' s' k n s := by simp [ordOk, h, h']
  have z := ordV_zero k n s k' n' s'
  have z' := ordV_zero k' n' s' k n s
  have kn : knownB k n s = true := by simp [knownB, k0, h]
  have kn' : knownB k' n' s' = true := by simp [knownB, k0', h']
  have e1 : (k == 0) = false := beq_eq_false_iff_ne.2 k0
  have e2 : (k' == 0) = false := beq_eq_false_iff_ne.2 k0'
  rw [o, o'] at e
  rw [o] at b
  have c : ordV k n s k' n' s' = 0 ∨ ordV k n s k' n' s' = -1 ∨ ordV k n s k' n' s' = 1 := by omega
  rcases c with c | c | c
  · refine .inr (.inr (.inl ⟨e1, e2, ?_, ?_, ?_, ?_, by rw [o, c]⟩)) <;> simp only [eq3, less3, kn, kn', ← z, ← z', e, c, Bool.and_self, if_true] <;> decide
  · refine .inr (.inr (.inr (.inl ⟨e1, e2, ?_, ?_, ?_, ?_, by rw [o, c]⟩))) <;> simp only [eq3, less3, kn, kn', ← z, ← z', e, c, Bool.and_self, if_true] <;> decide
  · refine .inr (.inr (.inr (.inr ⟨e1, e2, ?_, ?_, ?_, ?_, by rw [o, c]⟩))) <;> simp only [eq3, less3, kn, kn', ← z, ← z', e, c, Bool.and_self, if_true] <;> decide

set_option maxHeartbeats 1000000 in
theorem walk (a0 : Option Addr) (len0 cap0 : Nat) (z0 : List Int) (w : World) (w0 : IsRow .u8 w a0 len0 cap0 z0) :
    Calls Try.prog 4 #[.slice a0 len0 cap0] w fun e w' => e = .returned (.bool true) ∧ Below w.heap.size w w' := by
  by_cases hbig : (1048576 : Int) < len0
  · have hbg : decide ((1048576 : Int) < len0) = true := by simpa using hbig
    go_enter Try.func4, Try.ntmps4
    go_wp2_with fail
    refine (lawsBig a0 len0 cap0 w).mono ?_
    rintro e w' ⟨rfl, rfl⟩
    go_wp2
    go_ret
    exact ⟨rfl, Below.refl _ _⟩
  have hbg : decide ((1048576 : Int) < len0) = false := by simpa using hbig
  clear hbig
  go_enter Try.func4, Try.ntmps4
  go_wp2_with fail
  refine (lawsBig a0 len0 cap0 w).mono ?_
  rintro e w' ⟨rfl, rfl⟩
  go_wp2_with fail
  refine (drawEqual3 _ _ _ z0 _ w0).mono ?_
  rintro e w1 ⟨v, rfl, ⟨_, _, rfl, ⟨ka, na, sa, rfl, oka⟩, ⟨kb, nb, sb, rfl, okb⟩⟩, hb1⟩
  have Q0 := Cells3.two w1 ka na sa kb nb sb 25
  have HB0 := hb1.trans ((chain2 w1 (.cells #[.int .i64 ka, .int .i64 na, .string sa] 25) (.cells #[.int .i64 kb, .int .i64 nb, .string sb] 25)).mono hb1.size)
  go_wp2_with fail
  generalize (w1.alloc (.cells #[.int .i64 ka, .int .i64 na, .string sa] 25)).alloc (.cells #[.int .i64 kb, .int .i64 nb, .string sb] 25) = x at *
  generalize w1.heap.size = A at *
  obtain ⟨⟨c0, c1, c2⟩, ⟨d0, d1, d2⟩⟩ := Q0
  refine (implEqual3 _ _ _ _ _ _ _).mono ?_
  rintro e w3 ⟨rfl, hb3⟩
  obtain ⟨c0, c1, c2, d0, d1, d2⟩ := keep6 ⟨c0, c1, c2, d0, d1, d2⟩ hb3
  have HB3 := HB0.trans (hb3.mono HB0.size)
  clear hb3 HB0 hb1 w0
  go_wp2_with fail
  refine (implLess3 _ _ _ _ _ _ _).mono ?_
  rintro e w4 ⟨rfl, hb4⟩
  obtain ⟨c0, c1, c2, d0, d1, d2⟩ := keep6 ⟨c0, c1, c2, d0, d1, d2⟩ hb4
  have HB4 := HB3.trans (hb4.mono HB3.size)
  clear hb4 HB3
  go_wp2_with fail
  refine (implLess3 _ _ _ _ _ _ _).mono ?_
  rintro e w5 ⟨rfl, hb5⟩
  obtain ⟨c0, c1, c2, d0, d1, d2⟩ := keep6 ⟨c0, c1, c2, d0, d1, d2⟩ hb5
  have HB5 := HB4.trans (hb5.mono HB4.size)
  clear hb5 HB4
  rcases facts (okV_valOkB oka) (okV_valOkB okb) with ⟨f1, f3, f4, f5, f6⟩ | ⟨f1, f2, f3, f4, f5, f6⟩ | ⟨f1, f2, f3, f4, f5, f6, f7⟩ | ⟨f1, f2, f3, f4, f5, f6, f7⟩ | ⟨f1, f2, f3, f4, f5, f6, f7⟩
  all_goals
    go_wp2_with fail
    refine (specEqual3 ka na sa kb nb sb _).mono ?_
    rintro e y1 ⟨rfl, hb6⟩
    obtain ⟨c0, c1, c2, d0, d1, d2⟩ := keep6 ⟨c0, c1, c2, d0, d1, d2⟩ hb6
    have y1' := HB5.trans (hb6.mono HB5.size)
    clear hb6 HB5
    go_wp2_with fail
    refine (specLess3 ka na sa kb nb sb _).mono ?_
    rintro e y2 ⟨rfl, hb7⟩
    obtain ⟨c0, c1, c2, d0, d1, d2⟩ := keep6 ⟨c0, c1, c2, d0, d1, d2⟩ hb7
    have y2' := y1'.trans (hb7.mono y1'.size)
    clear hb7 y1'
    go_wp2_with fail
    refine (specLess3 kb nb sb ka na sa _).mono ?_
    rintro e y3 ⟨rfl, hb8⟩
    obtain ⟨c0, c1, c2, d0, d1, d2⟩ := keep6 ⟨c0, c1, c2, d0, d1, d2⟩ hb8
    have y3' := y2'.trans (hb8.mono y2'.size)
    clear hb8 y2'
    go_wp2_with fail
    refine (implEqual3 kb nb sb ka na sa _).mono ?_
    rintro e y4 ⟨rfl, hb9⟩
    obtain ⟨c0, c1, c2, d0, d1, d2⟩ := keep6 ⟨c0, c1, c2, d0, d1, d2⟩ hb9
    have y4' := y3'.trans (hb9.mono y3'.size)
    clear hb9 y3'
  · go_wp2_with fail
    go_ret
    exact ⟨rfl, y4'⟩
  · go_wp2_with fail
    go_ret
    exact ⟨rfl, y4'⟩
  all_goals
    go_wp2_with fail
    refine (implOrder ka na sa kb nb sb _).mono ?_
    rintro e y5 ⟨rfl, hb10⟩
    go_wp2_with fail
    go_ret
    exact ⟨rfl, y4'.trans (hb10.mono y4'.size)⟩

set_option maxRecDepth 100000 in
theorem lifted (os : Os) (started : os.Started) (H : Type) (enc : TypeId × Value → H) :
    ReturnsInHanded {} Try.checked os 4 .any (Rows.fnThreeSpec.pre6 enc Try.prog Try.f4 Rows.fnThreeRow.domain false) (Rows.fnThreeSpec.post enc Try.prog Try.f4 false true false false) := by
  refine returnsInHanded_of_change (C := Try.checked) own started (by kernel_rfl) Try.func4
    (ChangeSpec.witness6 (enc := enc) (C := Try.checked) false ⟨#[], #[.slice none 0 0], []⟩ 8 (by kernel_rfl) (by kernel_rfl) (by kernel_rfl) (by kernel_rfl)) ?_
  intro W base args ds gs before hval0 hW hcnd _
  have hval : ∀ (j : Nat) t v, Try.f4.params[j]? = some t → args[j]? = some v → Value.okWide Try.prog W .any base t v := hval0
  have hW' := hW
  obtain ⟨p, q, hA0, hV, rfl, hfz, hnd⟩ := hW
  have hA : DataW.TrodAll enc Try.prog W 0 (fun _ => true) true Try.f4.params.toList args.toList ds p := hA0
  rw [Try.params4] at hA hval
  obtain ⟨v0, vs0, d0, ds0, p0, q0, hargs, rfl, rfl, h0, r0⟩ := trodAll_cons hA
  obtain ⟨rfl, rfl, rfl⟩ := trodAll_nil r0
  obtain rfl : args = #[v0] := by cases args; simp_all
  obtain ⟨rfl, rfl⟩ := trodVars_none hV
  have k0' := h0
  have lt0 : ∀ x ∈ p0, x.block < W.heap.size := by obtain ⟨m, hm⟩ := k0'; exact DataW.trod_lt m _ _ _ hm
  obtain ⟨a0, len0, cap0, rfl⟩ := okWide_slice Try.underlying22 (hval 0 22 v0 rfl rfl)
  obtain ⟨z0, w0⟩ := isRow_of_trod Try.underlying22 Try.underlying5 (by kernel_rfl) h0
  clear hA0 hval0
  refine (walk a0 len0 cap0 z0 W w0).mono fun e W' ⟨he, bel⟩ => ?_
  subst he
  exact ⟨_, rfl, _, _, _, [], _, [], hW', trodAll_mk1 (shut_bool Try.underlying4 _), (trodAll_cons_mk (Below.trod laidOut (by kernel_rfl) (of_decide_eq_true (by kernel_rfl)) k0' bel lt0) trodAll_mk0), rfl, bel.frame _, fun h => by cases h⟩

theorem over : Rows.fnThreeRow.holds Try.pinned (OpenSpec.ofChange Rows.fnThreeSpec) :=
  OpenClaim.holds_of_wide 4 Try.f4 rfl rfl rfl rfl rfl rfl rfl ⟨rfl, rfl, rfl, rfl, rfl⟩ rfl rfl rfl rfl rfl (by kernel_rfl) Try.func4 (by kernel_rfl)
    (of_decide_eq_true (by kernel_rfl)) (by unfold Func.isWrapper; first | (rw [if_pos (by decide +kernel)]; kernel_rfl) | (rw [if_neg (by decide +kernel)]; exact ⟨rfl, rfl⟩))
    (fun os started H enc _ => lifted os started H enc)

theorem proved : Rows.FnThreeSaid := over
#print axioms proved
end Go.Proofs.Ytimgaipikgpgkaa.fnThree
