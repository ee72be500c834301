/-
  SessionOk answers as the model at every session (law FnExactSessionOk, for every input).
-/
import Derived.Test.YtlpldhmanihnnaaGreatXa
import Derived.Test.YtlpldhmanihnnaaGreatXb
import Derived.Test.YtlpldhmanihnnaaGreatXc
import Derived.Test.YtlpldhmanihnnaaGreatXe
import Derived.Test.YtlpldhmanihnnaaGreatYa
import Derived.Test.YtlpldhmanihnnaaGreatYb
import Derived.Test.YtlpldhmanihnnaaGreatYc
import Derived.Test.YtlpldhmanihnnaaGreatYd
import Derived.Test.YtlpldhmanihnnaaGreatYe
import Derived.Test.YtlpldhmanihnnaaGreatYf
import Derived.Test.YtlpldhmanihnnaaGreatYg
import Derived.Test.YtlpldhmanihnnaaGreatYh
namespace Go.Proofs.YtlpldhmanihnnaaGreat.fnExactSessionOk
open Go.ChangeShapes Go.WideShapes Go.ChangeAt Go.RowKit Go.Joins
open Go.ChangeMaps (open_string shut_string)
set_option linter.unusedVariables false

set_option maxRecDepth 100000 in
set_option maxHeartbeats 2000000 in
theorem walk (x0 : Ss) (A0_0 : Option Addr) (n0_0 c0_0 : Nat) (A0_1 : Option Addr) (n0_1 c0_1 : Nat) (A0_3 : Option Addr) (n0_3 c0_3 : Nat) (A0_4 : Option Addr) (n0_4 c0_4 : Nat) (w : World) (w0 : (Sl TbR 6 (fun _ => True) w A0_0 n0_0 x0.schema ∧ Sl DtR 1 (fun _ => True) w A0_1 n0_1 x0.db ∧ Sl DtR 1 (fun _ => True) w A0_3 n0_3 x0.start ∧ Sl SvR 2 (fun _ => True) w A0_4 n0_4 x0.saves) ∧ x0.wf) :
    Calls Tryz.prog 6 #[.agg #[.slice A0_0 n0_0 c0_0, .slice A0_1 n0_1 c0_1, .bool x0.isOpen, .slice A0_3 n0_3 c0_3, .slice A0_4 n0_4 c0_4]] w fun e w' => e = .returned (.bool true) ∧ Below w.heap.size w w' := by
  obtain ⟨⟨h0_0, h0_1, h0_3, h0_4⟩, wf0⟩ := w0
  have WF0 := Lib.hid wf0
  clear wf0
  have rb0 := Row.new w 43 #[.slice A0_0 n0_0 c0_0, .slice A0_1 n0_1 c0_1, .bool x0.isOpen, .slice A0_3 n0_3 c0_3, .slice A0_4 n0_4 c0_4]
  have hb0 := ((Below.refl w.heap.size w).alloc (by first | exact Nat.le_refl _ | (simp; done) | (simp; omega)) (.cells #[.slice A0_0 n0_0 c0_0, .slice A0_1 n0_1 c0_1, .bool x0.isOpen, .slice A0_3 n0_3 c0_3, .slice A0_4 n0_4 c0_4] 43))
  go_enter Tryz.func6, Tryz.ntmps6
  go_wp2_with fail
  generalize (w.alloc (.cells #[.slice A0_0 n0_0 c0_0, .slice A0_1 n0_1 c0_1, .bool x0.isOpen, .slice A0_3 n0_3 c0_3, .slice A0_4 n0_4 c0_4] 43)) = z0 at *
  refine (lawsSzSession x0 A0_0 n0_0 c0_0 A0_1 n0_1 c0_1 A0_3 n0_3 c0_3 A0_4 n0_4 c0_4 1048576 _ _ (h0_0.below TbR.stays hb0) (h0_1.below DtR.stays hb0) (h0_3.below DtR.stays hb0) (h0_4.below SvR.stays hb0) WF0.out (by omega) (by omega)).mono ?_
  rintro e y1 ⟨rfl, hq1⟩
  have hbb1 := (hb0).trans (hq1.mono (hb0).size)
  have rb0 := rb0.below hq1
  obtain ⟨⟨krb0_0, krb0_1, krb0_2, krb0_3, krb0_4⟩, -⟩ := rb0.five
  rcases szR_cases 1048576 (x0.sz) (by omega) with ⟨hno1, hv1⟩ | ⟨l1, hv1, -, h01, h11, hle1⟩
  · rw [hv1.out]
    go_wp2
    go_ret
    exact ⟨rfl, hbb1⟩
  rw [hv1.out]
  have S0 := Lib.hid (show x0.sz ≤ 1048576 by omega)
  clear hle1
  go_wp2_with fail
  refine (lawsToSession x0 A0_0 n0_0 c0_0 A0_1 n0_1 c0_1 A0_3 n0_3 c0_3 A0_4 n0_4 c0_4 _ _ (h0_0.below TbR.stays hbb1) (h0_1.below DtR.stays hbb1) (h0_3.below DtR.stays hbb1) (h0_4.below SvR.stays hbb1) S0.out).mono ?_
  rintro e y2 ⟨css0, rfl, hRs0, hq2⟩
  have hbb2 := (hbb1).trans (hq2.mono (hbb1).size)
  have rb0 := rb0.below hq2
  clear krb0_0 krb0_1 krb0_2 krb0_3 krb0_4
  obtain ⟨⟨krb0_0, krb0_1, krb0_2, krb0_3, krb0_4⟩, -⟩ := rb0.five
  obtain ⟨Bs0_0, ms0_0, ds0_0, Bs0_1, ms0_1, ds0_1, Bs0_3, ms0_3, ds0_3, Bs0_4, ms0_4, ds0_4, rfl, ts0_0, ts0_1, ts0_3, ts0_4, hcps0⟩ := hRs0
  go_wp2_with fail
  refine (specSessionOk x0 Bs0_0 ms0_0 ds0_0 Bs0_1 ms0_1 ds0_1 Bs0_3 ms0_3 ds0_3 Bs0_4 ms0_4 ds0_4 _ _ _ _ _ ts0_0 ts0_1 ts0_3 ts0_4 hcps0.1 S0.out).mono ?_
  rintro e y3 ⟨rfl, hq3⟩
  have hbb3 := (hbb2).trans (hq3.mono (hbb2).size)
  have rb0 := rb0.below hq3
  have ts0_0 := ts0_0.below TbR.stays hq3
  have ts0_1 := ts0_1.below DtR.stays hq3
  have ts0_3 := ts0_3.below DtR.stays hq3
  have ts0_4 := ts0_4.below SvR.stays hq3
  clear krb0_0 krb0_1 krb0_2 krb0_3 krb0_4
  obtain ⟨⟨krb0_0, krb0_1, krb0_2, krb0_3, krb0_4⟩, -⟩ := rb0.five
  clear ts0_0 ts0_1 ts0_3 ts0_4
  go_wp2_with fail
  refine (lawsToSession x0 A0_0 n0_0 c0_0 A0_1 n0_1 c0_1 A0_3 n0_3 c0_3 A0_4 n0_4 c0_4 _ _ (h0_0.below TbR.stays hbb3) (h0_1.below DtR.stays hbb3) (h0_3.below DtR.stays hbb3) (h0_4.below SvR.stays hbb3) S0.out).mono ?_
  rintro e y4 ⟨csx0, rfl, hRx0, hq4⟩
  have hbb4 := (hbb3).trans (hq4.mono (hbb3).size)
  have rb0 := rb0.below hq4
  clear krb0_0 krb0_1 krb0_2 krb0_3 krb0_4
  obtain ⟨⟨krb0_0, krb0_1, krb0_2, krb0_3, krb0_4⟩, -⟩ := rb0.five
  obtain ⟨Bx0_0, mx0_0, dx0_0, Bx0_1, mx0_1, dx0_1, Bx0_3, mx0_3, dx0_3, Bx0_4, mx0_4, dx0_4, rfl, tx0_0, tx0_1, tx0_3, tx0_4, hcpx0⟩ := hRx0
  have tx0_0 := tx0_0.below TbR.stays ((Below.refl _ y4).alloc (Nat.le_refl _) (.cells #[.slice Bx0_0 mx0_0 dx0_0, .slice Bx0_1 mx0_1 dx0_1, .bool x0.isOpen, .slice Bx0_3 mx0_3 dx0_3, .slice Bx0_4 mx0_4 dx0_4] 48))
  have tx0_1 := tx0_1.below DtR.stays ((Below.refl _ y4).alloc (Nat.le_refl _) (.cells #[.slice Bx0_0 mx0_0 dx0_0, .slice Bx0_1 mx0_1 dx0_1, .bool x0.isOpen, .slice Bx0_3 mx0_3 dx0_3, .slice Bx0_4 mx0_4 dx0_4] 48))
  have tx0_3 := tx0_3.below DtR.stays ((Below.refl _ y4).alloc (Nat.le_refl _) (.cells #[.slice Bx0_0 mx0_0 dx0_0, .slice Bx0_1 mx0_1 dx0_1, .bool x0.isOpen, .slice Bx0_3 mx0_3 dx0_3, .slice Bx0_4 mx0_4 dx0_4] 48))
  have tx0_4 := tx0_4.below SvR.stays ((Below.refl _ y4).alloc (Nat.le_refl _) (.cells #[.slice Bx0_0 mx0_0 dx0_0, .slice Bx0_1 mx0_1 dx0_1, .bool x0.isOpen, .slice Bx0_3 mx0_3 dx0_3, .slice Bx0_4 mx0_4 dx0_4] 48))
  have rb0 := rb0.below ((Below.refl _ y4).alloc (Nat.le_refl _) (.cells #[.slice Bx0_0 mx0_0 dx0_0, .slice Bx0_1 mx0_1 dx0_1, .bool x0.isOpen, .slice Bx0_3 mx0_3 dx0_3, .slice Bx0_4 mx0_4 dx0_4] 48))
  have rx0 := Row.new y4 48 #[.slice Bx0_0 mx0_0 dx0_0, .slice Bx0_1 mx0_1 dx0_1, .bool x0.isOpen, .slice Bx0_3 mx0_3 dx0_3, .slice Bx0_4 mx0_4 dx0_4]
  have hz0 := hbb4.alloc hbb4.size (.cells #[.slice Bx0_0 mx0_0 dx0_0, .slice Bx0_1 mx0_1 dx0_1, .bool x0.isOpen, .slice Bx0_3 mx0_3 dx0_3, .slice Bx0_4 mx0_4 dx0_4] 48)
  go_wp2_with fail
  generalize y4.alloc (.cells #[.slice Bx0_0 mx0_0 dx0_0, .slice Bx0_1 mx0_1 dx0_1, .bool x0.isOpen, .slice Bx0_3 mx0_3 dx0_3, .slice Bx0_4 mx0_4 dx0_4] 48) = z1 at *
  generalize y4.heap.size = gz1 at *
  refine (implSessionOk x0 Bx0_0 mx0_0 dx0_0 Bx0_1 mx0_1 dx0_1 Bx0_3 mx0_3 dx0_3 Bx0_4 mx0_4 dx0_4 _ _ _ _ _ tx0_0 tx0_1 tx0_3 tx0_4 S0.out).mono ?_
  rintro e y5 ⟨rfl, hq5⟩
  have hbb5 := (hz0).trans (hq5.mono (hz0).size)
  have rb0 := rb0.below hq5
  have rx0 := rx0.below hq5
  have tx0_0 := tx0_0.below TbR.stays hq5
  have tx0_1 := tx0_1.below DtR.stays hq5
  have tx0_3 := tx0_3.below DtR.stays hq5
  have tx0_4 := tx0_4.below SvR.stays hq5
  clear krb0_0 krb0_1 krb0_2 krb0_3 krb0_4
  obtain ⟨⟨krb0_0, krb0_1, krb0_2, krb0_3, krb0_4⟩, -⟩ := rb0.five
  obtain ⟨⟨krx0_0, krx0_1, krx0_2, krx0_3, krx0_4⟩, -⟩ := rx0.five
  go_wp2_with fail
  have tx0_0 := tx0_0.drew TbR.stays
  have tx0_1 := tx0_1.drew DtR.stays
  have tx0_3 := tx0_3.drew DtR.stays
  have tx0_4 := tx0_4.drew SvR.stays
  have rb0 := rb0.drew
  have rx0 := rx0.drew
  have hbd0 := (hbb5).drew
  go_region_held3 (fun w' => w'.cell? ⟨gz1, 0, none⟩ = some (.slice Bx0_0 mx0_0 dx0_0) ∧ w'.cell? ⟨gz1, 1, none⟩ = some (.slice Bx0_1 mx0_1 dx0_1) ∧ w'.cell? ⟨gz1, 2, none⟩ = some (.bool x0.isOpen) ∧ w'.cell? ⟨gz1, 3, none⟩ = some (.slice Bx0_3 mx0_3 dx0_3) ∧ w'.cell? ⟨gz1, 4, none⟩ = some (.slice Bx0_4 mx0_4 dx0_4) ∧ w'.cell? ⟨w.heap.size, 0, none⟩ = some (.slice A0_0 n0_0 c0_0) ∧ w'.cell? ⟨w.heap.size, 1, none⟩ = some (.slice A0_1 n0_1 c0_1) ∧ w'.cell? ⟨w.heap.size, 2, none⟩ = some (.bool x0.isOpen) ∧ w'.cell? ⟨w.heap.size, 3, none⟩ = some (.slice A0_3 n0_3 c0_3) ∧ w'.cell? ⟨w.heap.size, 4, none⟩ = some (.slice A0_4 n0_4 c0_4))
    (first | go_keep | exact keepE10 (by assumption) hqB0 | exact keepE10 (by assumption) hqA0)
    (first | (go_at_call 34; refine (lawsToSession x0 A0_0 n0_0 c0_0 A0_1 n0_1 c0_1 A0_3 n0_3 c0_3 A0_4 n0_4 c0_4 _ _ (h0_0.below TbR.stays hbd0) (h0_1.below DtR.stays hbd0) (h0_3.below DtR.stays hbd0) (h0_4.below SvR.stays hbd0) S0.out).mono ?_; rintro e yA0 ⟨cse0, rfl, hRe0, hqA0⟩; obtain ⟨Be0_0, me0_0, de0_0, Be0_1, me0_1, de0_1, Be0_3, me0_3, de0_3, Be0_4, me0_4, de0_4, rfl, te0_0, te0_1, te0_3, te0_4, -⟩ := hRe0; obtain ⟨rfl, rfl, rfl, rfl⟩ : mx0_0 = me0_0 ∧ mx0_1 = me0_1 ∧ mx0_3 = me0_3 ∧ mx0_4 = me0_4 := ⟨tx0_0.1.symm.trans te0_0.1, tx0_1.1.symm.trans te0_1.1, tx0_3.1.symm.trans te0_3.1, tx0_4.1.symm.trans te0_4.1⟩) | (go_at_call 36; refine (lawsEqSession x0 Bx0_0 Be0_0 mx0_0 dx0_0 de0_0 Bx0_1 Be0_1 mx0_1 dx0_1 de0_1 Bx0_3 Be0_3 mx0_3 dx0_3 de0_3 Bx0_4 Be0_4 mx0_4 dx0_4 de0_4 _ _ _ (tx0_0.below TbR.stays hqA0) (tx0_1.below DtR.stays hqA0) (tx0_3.below DtR.stays hqA0) (tx0_4.below SvR.stays hqA0) te0_0 te0_1 te0_3 te0_4 S0.out).mono ?_; rintro e yB0 ⟨rfl, hqB0⟩))
  have hbe0 := ((hbd0).trans (hqA0.mono (hbd0).size))
  have hbf0 := hbe0.trans (hqB0.mono hbe0.size)
  have tx0_0 := (tx0_0.below TbR.stays hqA0).below TbR.stays hqB0
  have tx0_1 := (tx0_1.below DtR.stays hqA0).below DtR.stays hqB0
  have tx0_3 := (tx0_3.below DtR.stays hqA0).below DtR.stays hqB0
  have tx0_4 := (tx0_4.below SvR.stays hqA0).below SvR.stays hqB0
  have rb0 := (rb0.below hqA0).below hqB0
  have rx0 := (rx0.below hqA0).below hqB0
  clear krb0_0 krb0_1 krb0_2 krb0_3 krb0_4 krx0_0 krx0_1 krx0_2 krx0_3 krx0_4
  obtain ⟨⟨krb0_0, krb0_1, krb0_2, krb0_3, krb0_4⟩, -⟩ := rb0.five
  obtain ⟨⟨krx0_0, krx0_1, krx0_2, krx0_3, krx0_4⟩, -⟩ := rx0.five
  go_wp2_with fail
  go_ret
  exact ⟨rfl, hbf0⟩

set_option maxRecDepth 100000 in
theorem lifted (os : Os) (started : os.Started) (H : Type) (enc : TypeId × Value → H) :
    ReturnsInHanded {} Tryz.checked os 6 .any (Rows.fnExactSessionOkSpec.pre6 enc Tryz.prog Tryz.f6 Rows.fnExactSessionOkRow.domain false) (Rows.fnExactSessionOkSpec.post enc Tryz.prog Tryz.f6 false true false false) := by
  refine returnsInHanded_of_change (C := Tryz.checked) own started (by kernel_rfl) Tryz.func6
    (ChangeSpec.witness6 (enc := enc) (C := Tryz.checked) false ⟨#[], #[.agg #[.slice none 0 0, .slice none 0 0, .bool false, .slice none 0 0, .slice none 0 0]], []⟩ 8 (by kernel_rfl) (by kernel_rfl) (by kernel_rfl) (by kernel_rfl)) ?_
  intro W base args ds gs before hval0 hW hcnd _
  have hval : ∀ (j : Nat) t v, Tryz.f6.params[j]? = some t → args[j]? = some v → Value.okWide Tryz.prog W .any base t v := hval0
  have hW' := hW
  obtain ⟨p, q, hA0, hV, rfl, hfz, hnd⟩ := hW
  have hA : DataW.TrodAll enc Tryz.prog W 0 (fun _ => true) true Tryz.f6.params.toList args.toList ds p := hA0
  rw [Tryz.params6] at hA hval
  obtain ⟨v0, vs0, d0, ds0, p0, q0, hargs, rfl, rfl, h0, r0⟩ := trodAll_cons hA
  obtain ⟨rfl, rfl, rfl⟩ := trodAll_nil r0
  obtain rfl : args = #[v0] := by cases args; simp_all
  obtain ⟨rfl, rfl⟩ := trodVars_none hV
  have k0' := h0
  have lt0 : ∀ x ∈ p0, x.block < W.heap.size := by obtain ⟨m, hm⟩ := k0'; exact DataW.trod_lt m _ _ _ hm
  obtain ⟨cs0, rfl, hsz0⟩ := okWide_struct Tryz.underlying43 (hval 0 43 v0 rfl rfl)
  obtain ⟨x0, hx0, wf0⟩ := (by obtain ⟨m, hm⟩ := h0; exact Session_of_trod (by simpa [Value.cells] using hm) : ∃ d, SsR (fun _ => True) W cs0.toList d ∧ d.wf)
  obtain ⟨A0_0, n0_0, c0_0, A0_1, n0_1, c0_1, A0_3, n0_3, c0_3, A0_4, n0_4, c0_4, ecs0, s0_0, s0_1, s0_3, s0_4, -⟩ := hx0
  obtain rfl : cs0 = #[.slice A0_0 n0_0 c0_0, .slice A0_1 n0_1 c0_1, .bool x0.isOpen, .slice A0_3 n0_3 c0_3, .slice A0_4 n0_4 c0_4] := by cases cs0; simp_all
  clear hA0 hval0
  refine (walk x0 A0_0 n0_0 c0_0 A0_1 n0_1 c0_1 A0_3 n0_3 c0_3 A0_4 n0_4 c0_4 W ⟨⟨s0_0, s0_1, s0_3, s0_4⟩, wf0⟩).mono fun e W' ⟨he, bel⟩ => ?_
  subst he
  exact ⟨_, rfl, _, _, _, [], _, [], hW', trodAll_mk1 (shut_bool Tryz.underlying4 _), (trodAll_cons_mk (Below.trod laidOut (by kernel_rfl) (of_decide_eq_true (by kernel_rfl)) k0' bel lt0) trodAll_mk0), rfl, bel.frame _, fun h => by cases h⟩

set_option maxRecDepth 100000 in
set_option maxHeartbeats 16000000 in
theorem facts : joinedFacts Tryz.checked.prog 6 Tryz.f6 Rows.fnExactSessionOkSpec Rows.fnExactSessionOkRow = true := by
  unfold joinedFacts
  repeat' (with_reducible refine Bool.and_eq_true_iff.2 ⟨?_, ?_⟩)
  all_goals (as_aux_lemma => kernel_rfl)

theorem over : Rows.fnExactSessionOkRow.holds Tryz.pinned (OpenSpec.ofChange Rows.fnExactSessionOkSpec) :=
  OpenClaim.holds_of_wide 6 Tryz.f6 rfl rfl rfl rfl rfl rfl rfl ⟨rfl, rfl, rfl, rfl, rfl⟩ rfl rfl rfl rfl rfl (by kernel_rfl) Tryz.func6 facts
    (of_decide_eq_true (by as_aux_lemma => kernel_rfl)) (by unfold Func.isWrapper; first | (rw [if_pos (by decide +kernel)]; kernel_rfl) | (rw [if_neg (by decide +kernel)]; exact ⟨rfl, rfl⟩))
    (fun os started H enc _ => lifted os started H enc)

theorem proved : Rows.FnExactSessionOkSaid := over
#print axioms proved
end Go.Proofs.YtlpldhmanihnnaaGreat.fnExactSessionOk
