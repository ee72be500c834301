/-
  Values are in one order: one of two is ahead of the other, or both are one; what is ahead of what is ahead of a third is ahead of that (law FnOrder, for every input).
-/
import Derived.Test.YtimgaipikgpgkaaBase
import Derived.Test.YtimgaipikgpgkaaOrdMath
import Derived.Test.YtimgaipikgpgkaaDraws3
import Derived.IntWalk
namespace Go.Proofs.Ytimgaipikgpgkaa.fnOrder
open Go.ChangeShapes Go.WideShapes Go.ChangeAt Go.RowKit Go.Joins
open Go.ChangeMaps (open_string shut_string)
set_option linter.unusedVariables false

theorem keep9 {w w' : World} {a0 a1 a2 a3 a4 a5 a6 a7 a8 : Addr} {v0 v1 v2 v3 v4 v5 v6 v7 v8 : Value} (h : w.cell? a0 = some v0 ∧ w.cell? a1 = some v1 ∧ w.cell? a2 = some v2 ∧ w.cell? a3 = some v3 ∧ w.cell? a4 = some v4 ∧ w.cell? a5 = some v5 ∧ w.cell? a6 = some v6 ∧ w.cell? a7 = some v7 ∧ w.cell? a8 = some v8) (hb : Below w.heap.size w w') : w'.cell? a0 = some v0 ∧ w'.cell? a1 = some v1 ∧ w'.cell? a2 = some v2 ∧ w'.cell? a3 = some v3 ∧ w'.cell? a4 = some v4 ∧ w'.cell? a5 = some v5 ∧ w'.cell? a6 = some v6 ∧ w'.cell? a7 = some v7 ∧ w'.cell? a8 = some v8 := by
  obtain ⟨h0, h1, h2, h3, h4, h5, h6, h7, h8⟩ := h
  exact ⟨(hb.cell (cell_lt h0)).trans h0, (hb.cell (cell_lt h1)).trans h1, (hb.cell (cell_lt h2)).trans h2, (hb.cell (cell_lt h3)).trans h3, (hb.cell (cell_lt h4)).trans h4, (hb.cell (cell_lt h5)).trans h5, (hb.cell (cell_lt h6)).trans h6, (hb.cell (cell_lt h7)).trans h7, (hb.cell (cell_lt h8)).trans h8⟩

set_option maxHeartbeats 1000000 in
theorem walk (a0 : Option Addr) (len0 cap0 : Nat) (z0 : List Int) (w : World) (w0 : IsRow .u8 w a0 len0 cap0 z0) :
    Calls Try.prog 3 #[.slice a0 len0 cap0] w fun e w' => e = .returned (.bool true) ∧ Below w.heap.size w w' := by
  by_cases hbig : (1048576 : Int) < len0
  · have hbg : decide ((1048576 : Int) < len0) = true := by simpa using hbig
    go_enter Try.func3, Try.ntmps3
    go_wp2_with fail
    refine (lawsBig a0 len0 cap0 w).mono ?_
    rintro e w' ⟨rfl, rfl⟩
    go_wp2
    go_ret
    exact ⟨rfl, Below.refl _ _⟩
  have hbg : decide ((1048576 : Int) < len0) = false := by simpa using hbig
  clear hbig
  go_enter Try.func3, Try.ntmps3
  go_wp2_with fail
  refine (lawsBig a0 len0 cap0 w).mono ?_
  rintro e w' ⟨rfl, rfl⟩
  go_wp2_with fail
  refine (drawOrder _ _ _ z0 _ w0).mono ?_
  rintro e w1 ⟨v, rfl, ⟨_, _, rfl, ⟨ka, na, sa, rfl, oka⟩, ⟨kb, nb, sb, rfl, okb⟩⟩, hb1⟩
  have Q0 := Cells3.two w1 ka na sa kb nb sb 25
  have HB0 := hb1.trans ((chain2 w1 (.cells #[.int .i64 ka, .int .i64 na, .string sa] 25) (.cells #[.int .i64 kb, .int .i64 nb, .string sb] 25)).mono hb1.size)
  have hrow := w0.below HB0
  go_wp2_with fail
  generalize (w1.alloc (.cells #[.int .i64 ka, .int .i64 na, .string sa] 25)).alloc (.cells #[.int .i64 kb, .int .i64 nb, .string sb] 25) = x at *
  refine (drawValOk _ _ _ z0 _ hrow).mono ?_
  rintro e w2 ⟨v, rfl, ⟨kc, nc, sc, rfl, okc⟩, hb2⟩
  have q1 := two_below Q0 hb2
  have HB2 := HB0.trans (hb2.mono HB0.size)
  have hba := (Below.refl w2.heap.size w2).alloc (Nat.le_refl _) (.cells #[.int .i64 kc, .int .i64 nc, .string sc] 25)
  have q2 := two_below q1 hba
  have q3 := Cells3.new w2 kc nc sc 25
  have HB3 := HB2.trans (hba.mono HB2.size)
  clear hb1 hrow hb2 q1 HB2 hba Q0 HB0 w0
  obtain ⟨⟨c0, c1, c2⟩, ⟨d0, d1, d2⟩⟩ := q2
  obtain ⟨e0, e1, e2⟩ := q3
  go_wp2_with fail
  generalize w2.alloc (.cells #[.int .i64 kc, .int .i64 nc, .string sc] 25) = y at *
  generalize w1.heap.size = A at *
  generalize w2.heap.size = C at *
  refine (implOrder _ _ _ _ _ _ _).mono ?_
  rintro e w3 ⟨rfl, hb3⟩
  obtain ⟨c0, c1, c2, d0, d1, d2, e0, e1, e2⟩ := keep9 ⟨c0, c1, c2, d0, d1, d2, e0, e1, e2⟩ hb3
  have HB4 := HB3.trans (hb3.mono HB3.size)
  clear hb3 HB3
  obtain ⟨n1, n2⟩ := ordOk_bd ka na sa kb nb sb
  have n3 : IntKind.i64.wrap (ordOk ka na sa kb nb sb) = ordOk ka na sa kb nb sb := IntWalk.i64_in _ (by omega)
  have oka' := Lib.hid (okV_valOkB oka)
  have okb' := Lib.hid (okV_valOkB okb)
  clear oka okb okc
  rcases ordOk_zero oka'.out okb'.out with ⟨f1, f2, f3, f4⟩ | ⟨f1, f4⟩ | ⟨f1, f2, f4⟩ | ⟨f1, f2, f3, f4⟩
  all_goals
    go_wp2_with fail
    go_region_held3 (fun w' => w'.cell? ⟨A, 0, none⟩ = some (.int .i64 ka) ∧ w'.cell? ⟨A, 1, none⟩ = some (.int .i64 na) ∧ w'.cell? ⟨A, 2, none⟩ = some (.string sa) ∧ w'.cell? ⟨A + 1, 0, none⟩ = some (.int .i64 kb) ∧ w'.cell? ⟨A + 1, 1, none⟩ = some (.int .i64 nb) ∧ w'.cell? ⟨A + 1, 2, none⟩ = some (.string sb) ∧ w'.cell? ⟨C, 0, none⟩ = some (.int .i64 kc) ∧ w'.cell? ⟨C, 1, none⟩ = some (.int .i64 nc) ∧ w'.cell? ⟨C, 2, none⟩ = some (.string sc))
      (first | go_keep | exact keep9 (by assumption) hbA4 | exact keep9 (by assumption) hbA3 | exact keep9 (by assumption) hbA2 | exact keep9 (by assumption) hbA1)
      (first | (go_at_call 18; refine (specOrder ka na sa kb nb sb _).mono ?_; rintro e yA1 ⟨rfl, hbA1⟩) | (go_at_call 17; refine (implOrderNeg ka na sa kb nb sb _).mono ?_; rintro e yA2 ⟨rfl, hbA2⟩) | (go_at_call 19; refine (implValOk kc nc sc _).mono ?_; rintro e yA3 ⟨rfl, hbA3⟩) | (go_at_call 20; refine (specValOk kc nc sc _).mono ?_; rintro e yA4 ⟨rfl, hbA4⟩))
    rename_i heldA
    have TA := Lib.hid ((chain3 HB4 hbA1 hbA2 hbA3).trans (hbA4.mono (chain3 HB4 hbA1 hbA2 hbA3).size))
    clear c0 c1 c2 d0 d1 d2 e0 e1 e2 hbA1 hbA2 hbA3 hbA4 HB4 f1 f4 n3
    try clear f2
    try clear f3
    obtain ⟨c0, c1, c2, d0, d1, d2, e0, e1, e2⟩ := heldA
    go_wp2_with fail
    refine (specValOk kc nc sc _).mono ?_
    rintro e w5 ⟨rfl, hb5⟩
    obtain ⟨c0, c1, c2, d0, d1, d2, e0, e1, e2⟩ := keep9 ⟨c0, c1, c2, d0, d1, d2, e0, e1, e2⟩ hb5
    have T5 := Lib.hid (TA.out.trans (hb5.mono TA.out.size))
    clear TA hb5
    cases hc : valOkB kc nc sc
    · go_wp2
      go_ret
      exact ⟨rfl, T5.out⟩
    have okc' := Lib.hid hc
    by_cases g1 : 0 < ordOk ka na sa kb nb sb
    · go_wp2
      go_ret
      exact ⟨rfl, T5.out⟩
    have g1' : decide (0 < ordOk ka na sa kb nb sb) = false := by simpa using g1
    go_wp2_with fail
    refine (implOrder kb nb sb kc nc sc _).mono ?_
    rintro e w6 ⟨rfl, hb6⟩
    obtain ⟨c0, c1, c2, d0, d1, d2, e0, e1, e2⟩ := keep9 ⟨c0, c1, c2, d0, d1, d2, e0, e1, e2⟩ hb6
    have T6 := Lib.hid (T5.out.trans (hb6.mono T5.out.size))
    clear T5 hb6
    by_cases g2 : 0 < ordOk kb nb sb kc nc sc
    · go_wp2
      go_ret
      exact ⟨rfl, T6.out⟩
    have g2' : decide (0 < ordOk kb nb sb kc nc sc) = false := by simpa using g2
    have g3 := ordOk_le oka'.out okb'.out okc'.out (by omega) (by omega)
    go_wp2_with fail
    refine (implOrder ka na sa kc nc sc _).mono ?_
    rintro e w7 ⟨rfl, hb7⟩
    go_wp2
    go_ret
    exact ⟨rfl, T6.out.trans (hb7.mono T6.out.size)⟩

set_option maxRecDepth 100000 in
theorem lifted (os : Os) (started : os.Started) (H : Type) (enc : TypeId × Value → H) :
    ReturnsInHanded {} Try.checked os 3 .any (Rows.fnOrderSpec.pre6 enc Try.prog Try.f3 Rows.fnOrderRow.domain false) (Rows.fnOrderSpec.post enc Try.prog Try.f3 false true false false) := by
  refine returnsInHanded_of_change (C := Try.checked) own started (by kernel_rfl) Try.func3
    (ChangeSpec.witness6 (enc := enc) (C := Try.checked) false ⟨#[], #[.slice none 0 0], []⟩ 8 (by kernel_rfl) (by kernel_rfl) (by kernel_rfl) (by kernel_rfl)) ?_
  intro W base args ds gs before hval0 hW hcnd _
  have hval : ∀ (j : Nat) t v, Try.f3.params[j]? = some t → args[j]? = some v → Value.okWide Try.prog W .any base t v := hval0
  have hW' := hW
  obtain ⟨p, q, hA0, hV, rfl, hfz, hnd⟩ := hW
  have hA : DataW.TrodAll enc Try.prog W 0 (fun _ => true) true Try.f3.params.toList args.toList ds p := hA0
  rw [Try.params3] at hA hval
  obtain ⟨v0, vs0, d0, ds0, p0, q0, hargs, rfl, rfl, h0, r0⟩ := trodAll_cons hA
  obtain ⟨rfl, rfl, rfl⟩ := trodAll_nil r0
  obtain rfl : args = #[v0] := by cases args; simp_all
  obtain ⟨rfl, rfl⟩ := trodVars_none hV
  have k0' := h0
  have lt0 : ∀ x ∈ p0, x.block < W.heap.size := by obtain ⟨m, hm⟩ := k0'; exact DataW.trod_lt m _ _ _ hm
  obtain ⟨a0, len0, cap0, rfl⟩ := okWide_slice Try.underlying22 (hval 0 22 v0 rfl rfl)
  obtain ⟨z0, w0⟩ := isRow_of_trod Try.underlying22 Try.underlying5 (by kernel_rfl) h0
  clear hA0 hval0
  refine (walk a0 len0 cap0 z0 W w0).mono fun e W' ⟨he, bel⟩ => ?_
  subst he
  exact ⟨_, rfl, _, _, _, [], _, [], hW', trodAll_mk1 (shut_bool Try.underlying4 _), (trodAll_cons_mk (Below.trod laidOut (by kernel_rfl) (of_decide_eq_true (by kernel_rfl)) k0' bel lt0) trodAll_mk0), rfl, bel.frame _, fun h => by cases h⟩

theorem over : Rows.fnOrderRow.holds Try.pinned (OpenSpec.ofChange Rows.fnOrderSpec) :=
  OpenClaim.holds_of_wide 3 Try.f3 rfl rfl rfl rfl rfl rfl rfl ⟨rfl, rfl, rfl, rfl, rfl⟩ rfl rfl rfl rfl rfl (by kernel_rfl) Try.func3 (by kernel_rfl)
    (of_decide_eq_true (by kernel_rfl)) (by unfold Func.isWrapper; first | (rw [if_pos (by decide +kernel)]; kernel_rfl) | (rw [if_neg (by decide +kernel)]; exact ⟨rfl, rfl⟩))
    (fun os started H enc _ => lifted os started H enc)

theorem proved : Rows.FnOrderSaid := over
#print axioms proved
end Go.Proofs.Ytimgaipikgpgkaa.fnOrder
