/-
  ReadFile answers as the model at every disk and name (law FnExactReadFile, for every input).
-/
import Derived.Test.YtkinegapnknhiaaBase
import Derived.Test.YtkinegapnknhiaaDiskRead
import Derived.Test.YtkinegapnknhiaaEq
import Derived.Test.YtkinegapnknhiaaTrod
import Derived.Test.YtkinegapnknhiaaSz
namespace Go.Proofs.Ytkinegapnknhiaa.fnExactReadFile
open Go.ChangeShapes Go.WideShapes Go.ChangeAt Go.RowKit Go.Joins
open Go.ChangeMaps (open_string shut_string)
set_option linter.unusedSimpArgs false
set_option linter.unusedVariables false

set_option maxRecDepth 100000 in
set_option maxHeartbeats 2000000 in
theorem walk (x0 : Dz) (A0_0 : Option Addr) (n0_0 c0_0 : Nat) (A0_1 : Option Addr) (n0_1 c0_1 : Nat) (A0_2 : Option Addr) (n0_2 c0_2 : Nat) (s1 : ByteArray) (w : World) (w0 : (Sl FzR 2 (fun _ => True) w A0_0 n0_0 x0.live ∧ Sl FzR 2 (fun _ => True) w A0_1 n0_1 x0.safe ∧ Sl OzR 4 (fun _ => True) w A0_2 n0_2 x0.ops) ∧ x0.wf) (w1 : s1.size ≤ maxLen) :
    Calls Try.prog 10 #[.agg #[.slice A0_0 n0_0 c0_0, .slice A0_1 n0_1 c0_1, .slice A0_2 n0_2 c0_2], .string s1] w fun e w' => e = .returned (.bool true) ∧ Below w.heap.size w w' := by
  obtain ⟨⟨h0_0, h0_1, h0_2⟩, wf0⟩ := w0
  have WF0 := Lib.hid wf0
  clear wf0
  have rb0 := Row.new w 50 #[.slice A0_0 n0_0 c0_0, .slice A0_1 n0_1 c0_1, .slice A0_2 n0_2 c0_2]
  have hb0 := ((Below.refl w.heap.size w).alloc (by first | exact Nat.le_refl _ | (simp; done) | (simp; omega)) (.cells #[.slice A0_0 n0_0 c0_0, .slice A0_1 n0_1 c0_1, .slice A0_2 n0_2 c0_2] 50))
  unfold maxLen at w1
  by_cases hlong1 : (1048576 : Int) < (s1.size : Int)
  · go_enter Try.func10, Try.ntmps10
    go_wp2
    go_ret
    exact ⟨rfl, hb0⟩
  have hlong1' : decide ((1048576 : Int) < (s1.size : Int)) = false := by simpa using hlong1
  have S1 : s1.size ≤ 1048576 := by omega
  go_enter Try.func10, Try.ntmps10
  go_wp2_with fail
  generalize (w.alloc (.cells #[.slice A0_0 n0_0 c0_0, .slice A0_1 n0_1 c0_1, .slice A0_2 n0_2 c0_2] 50)) = z0 at *
  refine (lawsSzDisk x0 A0_0 n0_0 c0_0 A0_1 n0_1 c0_1 A0_2 n0_2 c0_2 1048576 _ _ (h0_0.below FzR.stays hb0) (h0_1.below FzR.stays hb0) (h0_2.below OzR.stays hb0) WF0.out (by omega) (by omega)).mono ?_
  rintro e y1 ⟨rfl, hq1⟩
  have hbb1 := (hb0).trans (hq1.mono (hb0).size)
  have rb0 := rb0.below hq1
  obtain ⟨⟨krb0_0, krb0_1, krb0_2⟩, -⟩ := rb0.three
  rcases szR_cases 1048576 (x0.sz) (by omega) with ⟨hno1, hv1⟩ | ⟨l1, hv1, -, h01, h11, hle1⟩
  · rw [hv1.out]
    go_wp2
    go_ret
    exact ⟨rfl, hbb1⟩
  rw [hv1.out]
  have S0 := Lib.hid (show x0.sz ≤ 1048576 by omega)
  clear hle1
  go_wp2_with fail
  refine (lawsToDisk x0 A0_0 n0_0 c0_0 A0_1 n0_1 c0_1 A0_2 n0_2 c0_2 _ _ (h0_0.below FzR.stays hbb1) (h0_1.below FzR.stays hbb1) (h0_2.below OzR.stays hbb1) S0.out).mono ?_
  rintro e y2 ⟨css0, rfl, hRs0, hq2⟩
  have hbb2 := (hbb1).trans (hq2.mono (hbb1).size)
  have rb0 := rb0.below hq2
  clear krb0_0 krb0_1 krb0_2
  obtain ⟨⟨krb0_0, krb0_1, krb0_2⟩, -⟩ := rb0.three
  obtain ⟨Bs0_0, ms0_0, ds0_0, Bs0_1, ms0_1, ds0_1, Bs0_2, ms0_2, ds0_2, rfl, ts0_0, ts0_1, ts0_2, hcps0⟩ := hRs0
  go_wp2_with fail
  refine (specReadFile x0 Bs0_0 ms0_0 ds0_0 Bs0_1 ms0_1 ds0_1 Bs0_2 ms0_2 ds0_2 s1 _ _ ts0_0 ts0_1 ts0_2 S0.out).mono ?_
  rintro e y3 ⟨rfl, hq3⟩
  have hbb3 := (hbb2).trans (hq3.mono (hbb2).size)
  have rb0 := rb0.below hq3
  have ts0_0 := ts0_0.below FzR.stays hq3
  have ts0_1 := ts0_1.below FzR.stays hq3
  have ts0_2 := ts0_2.below OzR.stays hq3
  clear krb0_0 krb0_1 krb0_2
  obtain ⟨⟨krb0_0, krb0_1, krb0_2⟩, -⟩ := rb0.three
  clear ts0_0 ts0_1 ts0_2
  go_wp2_with fail
  refine (lawsToDisk x0 A0_0 n0_0 c0_0 A0_1 n0_1 c0_1 A0_2 n0_2 c0_2 _ _ (h0_0.below FzR.stays hbb3) (h0_1.below FzR.stays hbb3) (h0_2.below OzR.stays hbb3) S0.out).mono ?_
  rintro e y4 ⟨csx0, rfl, hRx0, hq4⟩
  have hbb4 := (hbb3).trans (hq4.mono (hbb3).size)
  have rb0 := rb0.below hq4
  clear krb0_0 krb0_1 krb0_2
  obtain ⟨⟨krb0_0, krb0_1, krb0_2⟩, -⟩ := rb0.three
  obtain ⟨Bx0_0, mx0_0, dx0_0, Bx0_1, mx0_1, dx0_1, Bx0_2, mx0_2, dx0_2, rfl, tx0_0, tx0_1, tx0_2, hcpx0⟩ := hRx0
  have tx0_0 := tx0_0.below FzR.stays ((Below.refl _ y4).alloc (Nat.le_refl _) (.cells #[.slice Bx0_0 mx0_0 dx0_0, .slice Bx0_1 mx0_1 dx0_1, .slice Bx0_2 mx0_2 dx0_2] 27))
  have tx0_1 := tx0_1.below FzR.stays ((Below.refl _ y4).alloc (Nat.le_refl _) (.cells #[.slice Bx0_0 mx0_0 dx0_0, .slice Bx0_1 mx0_1 dx0_1, .slice Bx0_2 mx0_2 dx0_2] 27))
  have tx0_2 := tx0_2.below OzR.stays ((Below.refl _ y4).alloc (Nat.le_refl _) (.cells #[.slice Bx0_0 mx0_0 dx0_0, .slice Bx0_1 mx0_1 dx0_1, .slice Bx0_2 mx0_2 dx0_2] 27))
  have rb0 := rb0.below ((Below.refl _ y4).alloc (Nat.le_refl _) (.cells #[.slice Bx0_0 mx0_0 dx0_0, .slice Bx0_1 mx0_1 dx0_1, .slice Bx0_2 mx0_2 dx0_2] 27))
  have rx0 := Row.new y4 27 #[.slice Bx0_0 mx0_0 dx0_0, .slice Bx0_1 mx0_1 dx0_1, .slice Bx0_2 mx0_2 dx0_2]
  have hz0 := hbb4.alloc hbb4.size (.cells #[.slice Bx0_0 mx0_0 dx0_0, .slice Bx0_1 mx0_1 dx0_1, .slice Bx0_2 mx0_2 dx0_2] 27)
  go_wp2_with fail
  generalize y4.alloc (.cells #[.slice Bx0_0 mx0_0 dx0_0, .slice Bx0_1 mx0_1 dx0_1, .slice Bx0_2 mx0_2 dx0_2] 27) = z1 at *
  generalize y4.heap.size = gz1 at *
  refine (implReadFile x0 Bx0_0 mx0_0 dx0_0 Bx0_1 mx0_1 dx0_1 Bx0_2 mx0_2 dx0_2 s1 _ _ tx0_0 tx0_1 tx0_2 S0.out).mono ?_
  rintro e y5 ⟨rfl, hq5⟩
  have hbb5 := (hz0).trans (hq5.mono (hz0).size)
  have rb0 := rb0.below hq5
  have rx0 := rx0.below hq5
  have tx0_0 := tx0_0.below FzR.stays hq5
  have tx0_1 := tx0_1.below FzR.stays hq5
  have tx0_2 := tx0_2.below OzR.stays hq5
  clear krb0_0 krb0_1 krb0_2
  obtain ⟨⟨krb0_0, krb0_1, krb0_2⟩, -⟩ := rb0.three
  obtain ⟨⟨krx0_0, krx0_1, krx0_2⟩, -⟩ := rx0.three
  go_wp2_with fail
  have tx0_0 := tx0_0.drew FzR.stays
  have tx0_1 := tx0_1.drew FzR.stays
  have tx0_2 := tx0_2.drew OzR.stays
  have rb0 := rb0.drew
  have rx0 := rx0.drew
  have hbd0 := (hbb5).drew
  go_region_held3 (fun w' => w'.cell? ⟨gz1, 0, none⟩ = some (.slice Bx0_0 mx0_0 dx0_0) ∧ w'.cell? ⟨gz1, 1, none⟩ = some (.slice Bx0_1 mx0_1 dx0_1) ∧ w'.cell? ⟨gz1, 2, none⟩ = some (.slice Bx0_2 mx0_2 dx0_2) ∧ w'.cell? ⟨w.heap.size, 0, none⟩ = some (.slice A0_0 n0_0 c0_0) ∧ w'.cell? ⟨w.heap.size, 1, none⟩ = some (.slice A0_1 n0_1 c0_1) ∧ w'.cell? ⟨w.heap.size, 2, none⟩ = some (.slice A0_2 n0_2 c0_2))
    (first | go_keep | exact keepE6 (by assumption) hqB0 | exact keepE6 (by assumption) hqA0)
    (first | (go_at_call 27; refine (lawsToDisk x0 A0_0 n0_0 c0_0 A0_1 n0_1 c0_1 A0_2 n0_2 c0_2 _ _ (h0_0.below FzR.stays hbd0) (h0_1.below FzR.stays hbd0) (h0_2.below OzR.stays hbd0) S0.out).mono ?_; rintro e yA0 ⟨cse0, rfl, hRe0, hqA0⟩; obtain ⟨Be0_0, me0_0, de0_0, Be0_1, me0_1, de0_1, Be0_2, me0_2, de0_2, rfl, te0_0, te0_1, te0_2, -⟩ := hRe0; obtain ⟨rfl, rfl, rfl⟩ : mx0_0 = me0_0 ∧ mx0_1 = me0_1 ∧ mx0_2 = me0_2 := ⟨tx0_0.1.symm.trans te0_0.1, tx0_1.1.symm.trans te0_1.1, tx0_2.1.symm.trans te0_2.1⟩) | (go_at_call 28; refine (lawsEqDisk x0 Bx0_0 Be0_0 mx0_0 dx0_0 de0_0 Bx0_1 Be0_1 mx0_1 dx0_1 de0_1 Bx0_2 Be0_2 mx0_2 dx0_2 de0_2 _ _ _ (tx0_0.below FzR.stays hqA0) (tx0_1.below FzR.stays hqA0) (tx0_2.below OzR.stays hqA0) te0_0 te0_1 te0_2 S0.out).mono ?_; rintro e yB0 ⟨rfl, hqB0⟩))
  have hbe0 := ((hbd0).trans (hqA0.mono (hbd0).size))
  have hbf0 := hbe0.trans (hqB0.mono hbe0.size)
  have tx0_0 := (tx0_0.below FzR.stays hqA0).below FzR.stays hqB0
  have tx0_1 := (tx0_1.below FzR.stays hqA0).below FzR.stays hqB0
  have tx0_2 := (tx0_2.below OzR.stays hqA0).below OzR.stays hqB0
  have rb0 := (rb0.below hqA0).below hqB0
  have rx0 := (rx0.below hqA0).below hqB0
  clear krb0_0 krb0_1 krb0_2 krx0_0 krx0_1 krx0_2
  obtain ⟨⟨krb0_0, krb0_1, krb0_2⟩, -⟩ := rb0.three
  obtain ⟨⟨krx0_0, krx0_1, krx0_2⟩, -⟩ := rx0.three
  go_wp2_with fail
  go_ret
  exact ⟨rfl, hbf0⟩

set_option maxRecDepth 100000 in
theorem lifted (os : Os) (started : os.Started) (H : Type) (enc : TypeId × Value → H) :
    ReturnsInHanded {} Try.checked os 10 .any (Rows.fnExactReadFileSpec.pre6 enc Try.prog Try.f10 Rows.fnExactReadFileRow.domain false) (Rows.fnExactReadFileSpec.post enc Try.prog Try.f10 false true false false) := by
  refine returnsInHanded_of_change (C := Try.checked) own started (by kernel_rfl) Try.func10
    (ChangeSpec.witness6 (enc := enc) (C := Try.checked) false ⟨#[], #[.agg #[.slice none 0 0, .slice none 0 0, .slice none 0 0], .string ⟨#[]⟩], []⟩ 8 (by kernel_rfl) (by kernel_rfl) (by kernel_rfl) (by kernel_rfl)) ?_
  intro W base args ds gs before hval0 hW hcnd _
  have hval : ∀ (j : Nat) t v, Try.f10.params[j]? = some t → args[j]? = some v → Value.okWide Try.prog W .any base t v := hval0
  have hW' := hW
  obtain ⟨p, q, hA0, hV, rfl, hfz, hnd⟩ := hW
  have hA : DataW.TrodAll enc Try.prog W 0 (fun _ => true) true Try.f10.params.toList args.toList ds p := hA0
  rw [Try.params10] at hA hval
  obtain ⟨v0, vs0, d0, ds0, p0, q0, hargs, rfl, rfl, h0, r0⟩ := trodAll_cons hA
  obtain ⟨v1, vs1, d1, ds1, p1, q1, rfl, rfl, rfl, h1, r1⟩ := trodAll_cons r0
  obtain ⟨rfl, rfl, rfl⟩ := trodAll_nil r1
  obtain rfl : args = #[v0, v1] := by cases args; simp_all
  obtain ⟨rfl, rfl⟩ := trodVars_none hV
  have k0' := h0
  have lt0 : ∀ x ∈ p0, x.block < W.heap.size := by obtain ⟨m, hm⟩ := k0'; exact DataW.trod_lt m _ _ _ hm
  have k1' := h1
  have lt1 : ∀ x ∈ p1, x.block < W.heap.size := by obtain ⟨m, hm⟩ := k1'; exact DataW.trod_lt m _ _ _ hm
  obtain ⟨cs0, rfl, hsz0⟩ := okWide_struct Try.underlying50 (hval 0 50 v0 rfl rfl)
  obtain ⟨x0, hx0, wf0⟩ := (by obtain ⟨m, hm⟩ := h0; exact Disk_of_trod (by simpa [Value.cells] using hm) : ∃ d, DzR (fun _ => True) W cs0.toList d ∧ d.wf)
  obtain ⟨A0_0, n0_0, c0_0, A0_1, n0_1, c0_1, A0_2, n0_2, c0_2, ecs0, s0_0, s0_1, s0_2, -⟩ := hx0
  obtain rfl : cs0 = #[.slice A0_0 n0_0 c0_0, .slice A0_1 n0_1 c0_1, .slice A0_2 n0_2 c0_2] := by cases cs0; simp_all
  obtain ⟨s1, rfl, rfl, rfl, w1⟩ := open_string Try.underlying9 (hval 1 9 v1 rfl rfl) h1
  clear hA0 hval0
  refine (walk x0 A0_0 n0_0 c0_0 A0_1 n0_1 c0_1 A0_2 n0_2 c0_2 s1 W ⟨⟨s0_0, s0_1, s0_2⟩, wf0⟩ w1).mono fun e W' ⟨he, bel⟩ => ?_
  subst he
  exact ⟨_, rfl, _, _, _, [], _, [], hW', trodAll_mk1 (shut_bool Try.underlying4 _), (trodAll_cons_mk (Below.trod laidOut (by kernel_rfl) (of_decide_eq_true (by kernel_rfl)) k0' bel lt0) (trodAll_cons_mk (Below.trod laidOut (by kernel_rfl) (of_decide_eq_true (by kernel_rfl)) k1' bel lt1) trodAll_mk0)), rfl, bel.frame _, fun h => by cases h⟩

set_option maxRecDepth 100000 in
set_option maxHeartbeats 16000000 in
theorem facts : joinedFacts Try.checked.prog 10 Try.f10 Rows.fnExactReadFileSpec Rows.fnExactReadFileRow = true := by
  unfold joinedFacts
  repeat' (with_reducible refine Bool.and_eq_true_iff.2 ⟨?_, ?_⟩)
  all_goals (as_aux_lemma => kernel_rfl)

theorem over : Rows.fnExactReadFileRow.holds Try.pinned (OpenSpec.ofChange Rows.fnExactReadFileSpec) :=
  OpenClaim.holds_of_wide 10 Try.f10 rfl rfl rfl rfl rfl rfl rfl ⟨rfl, rfl, rfl, rfl, rfl⟩ rfl rfl rfl rfl rfl (by kernel_rfl) Try.func10 facts
    (of_decide_eq_true (by as_aux_lemma => kernel_rfl)) (by unfold Func.isWrapper; first | (rw [if_pos (by decide +kernel)]; kernel_rfl) | (rw [if_neg (by decide +kernel)]; exact ⟨rfl, rfl⟩))
    (fun os started H enc _ => lifted os started H enc)

theorem proved : Rows.FnExactReadFileSaid := over
#print axioms proved
end Go.Proofs.Ytkinegapnknhiaa.fnExactReadFile
