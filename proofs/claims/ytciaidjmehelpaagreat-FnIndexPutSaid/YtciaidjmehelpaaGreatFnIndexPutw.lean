/-
  What is put into an index and taken out again leaves it as it was, and the other way round (law FnIndexPut, for every code).
-/
import Derived.Test.YtciaidjmehelpaaGreatMa
import Derived.Test.YtciaidjmehelpaaGreatMb
import Derived.Test.YtciaidjmehelpaaGreatMc
import Derived.Test.YtciaidjmehelpaaGreatMd
import Derived.Test.YtciaidjmehelpaaGreatMe
import Derived.Test.YtciaidjmehelpaaGreatRa
import Derived.Test.YtciaidjmehelpaaGreatRb
import Derived.Test.YtciaidjmehelpaaGreatRc
import Derived.Test.YtciaidjmehelpaaGreatRd
namespace Go.Proofs.YtciaidjmehelpaaGreat.fnIndexPut
open Go.ChangeShapes Go.WideShapes Go.ChangeAt Go.RowKit Go.Joins
open Go.ChangeMaps (open_string shut_string)
set_option linter.unusedSimpArgs false
set_option linter.unusedVariables false

set_option maxRecDepth 100000 in
set_option maxHeartbeats 4000000 in
theorem walk (a0 : Option Addr) (len0 cap0 : Nat) (z0 : List Int) (w : World) (w0 : IsRow .u8 w a0 len0 cap0 z0) :
    Calls Tryz.prog 6 #[.slice a0 len0 cap0] w fun e w' => e = .returned (.bool true) ∧ Below w.heap.size w w' := by
  by_cases hbig : (1048576 : Int) < len0
  · have hbg : decide ((1048576 : Int) < len0) = true := by simpa using hbig
    go_enter Tryz.func6, Tryz.ntmps6
    go_wp2_with fail
    refine (lawsBig a0 len0 cap0 w).mono ?_
    rintro e w' ⟨rfl, rfl⟩
    go_wp2
    go_ret
    exact ⟨rfl, Below.refl _ _⟩
  have hbg : decide ((1048576 : Int) < len0) = false := by simpa using hbig
  go_enter Tryz.func6, Tryz.ntmps6
  go_wp2_with fail
  refine (lawsBig a0 len0 cap0 w).mono ?_
  rintro e w' ⟨rfl, rfl⟩
  go_wp2_with fail
  refine (drawIndexPut a0 len0 cap0 z0 _ w0).mono ?_
  rintro e w1 ⟨v1, rfl, ⟨x1, lp, Bp, dp, ep, rfl, hown, hlep, hkl, hE⟩, hq⟩
  have hz := hq
  clear hq
  obtain ⟨Ap, cp, rfl, -, -, hsl⟩ := hown.sl
  have hkp : ∀ x ∈ lp, x.key.length ≤ 1048576 := fun x hx => by rw [hkl x hx]; omega
  have HKp := Lib.hid hkp
  have hq := (Below.refl w1.heap.size w1).alloc (Nat.le_refl _) (.cells #[.slice Bp 1 dp, .int .i64 ep.id] 44)
  have HLp := Lib.hid (hsl.below EnR.stays hq)
  have HEp := Lib.hid (hE.below VlR.stays hq)
  have HQp := Lib.hid (show Blo (w1.alloc (.cells #[.slice Bp 1 dp, .int .i64 ep.id] 44)) w1.heap.size [.slice Bp 1 dp, .int .i64 ep.id] 44 from Blo.new _ _ _)
  clear hown hkl hkp hsl hE
  have hz := hz.trans (hq.mono hz.size)
  clear hq
  go_wp2_with fail
  generalize w1.alloc (.cells #[.slice Bp 1 dp, .int .i64 ep.id] 44) = w2 at *
  generalize w1.heap.size = gp at *
  refine (implIndexPut Ap lp.length cp lp _ ep Bp 1 dp _ _ HLp.out (by omega) HKp.out HEp.out (by omega)).mono ?_
  rintro e w3 ⟨v3, rfl, ho, hq⟩
  obtain ⟨A3, c3, rfl, -, -, hsl⟩ := ho.sl
  clear ho
  have HLp := Lib.hid (Sl.below EnR.stays HLp.out hq)
  have HEp := Lib.hid (Sl.below VlR.stays HEp.out hq)
  have HQp := Lib.hid (Blo.belowB HQp.out hq)
  have hz := hz.trans (hq.mono hz.size)
  clear hq
  obtain ⟨P, hP⟩ : ∃ P, putted lp ep = P := ⟨_, rfl⟩
  obtain ⟨tb, htb⟩ : ∃ b, puttedB lp ep = b := ⟨_, rfl⟩
  have hPf := putted_few lp ep
  rw [hP] at hsl hPf ⊢
  rw [htb]
  have HPT := Lib.hid (And.intro hP htb)
  have HPF := Lib.hid hPf
  have HP3 := Lib.hid hsl
  clear hP htb hPf hsl
  have y0 := Blo.cell HQp.out 0 _ rfl
  have y1 := Blo.cell HQp.out 1 _ rfl
  go_wp2_with fail
  clear y0 y1
  refine (specIndexPut Ap lp.length cp lp _ ep Bp 1 dp _ _ HLp.out (by omega) HKp.out HEp.out (by omega)).mono ?_
  rintro e w4 ⟨v4, rfl, ho, hq⟩
  obtain ⟨A4, c4, rfl, -, -, hsl⟩ := ho.sl
  clear ho
  have HLp := Lib.hid (Sl.below EnR.stays HLp.out hq)
  have HEp := Lib.hid (Sl.below VlR.stays HEp.out hq)
  have HQp := Lib.hid (Blo.belowB HQp.out hq)
  have HP3 := Lib.hid (Sl.below EnR.stays HP3.out hq)
  have hz := hz.trans (hq.mono hz.size)
  clear hq
  rw [HPT.out.1] at hsl ⊢
  rw [HPT.out.2]
  have HP4 := Lib.hid hsl
  clear hsl
  go_wp2_with fail
  refine (drawIndexDrop a0 len0 cap0 z0 _ (w0.below hz)).mono ?_
  rintro e w5 ⟨v5, rfl, ⟨x5, lm, Bm, dm, em, rfl, hown, hlem, hkl, hE⟩, hq⟩
  have HLp := Lib.hid (Sl.below EnR.stays HLp.out hq)
  have HEp := Lib.hid (Sl.below VlR.stays HEp.out hq)
  have HQp := Lib.hid (Blo.belowB HQp.out hq)
  have HP3 := Lib.hid (Sl.below EnR.stays HP3.out hq)
  have HP4 := Lib.hid (Sl.below EnR.stays HP4.out hq)
  have hz := hz.trans (hq.mono hz.size)
  clear hq
  obtain ⟨Am, cm, rfl, -, -, hsl⟩ := hown.sl
  have hkm : ∀ x ∈ lm, x.key.length ≤ 1048576 := fun x hx => by rw [hkl x hx]; omega
  have HKm := Lib.hid hkm
  have hq := (Below.refl w5.heap.size w5).alloc (Nat.le_refl _) (.cells #[.slice Bm 1 dm, .int .i64 em.id] 44)
  have HLm := Lib.hid (hsl.below EnR.stays hq)
  have HEm := Lib.hid (hE.below VlR.stays hq)
  have HQm := Lib.hid (show Blo (w5.alloc (.cells #[.slice Bm 1 dm, .int .i64 em.id] 44)) w5.heap.size [.slice Bm 1 dm, .int .i64 em.id] 44 from Blo.new _ _ _)
  clear hown hkl hkm hsl hE
  have HLp := Lib.hid (Sl.below EnR.stays HLp.out hq)
  have HEp := Lib.hid (Sl.below VlR.stays HEp.out hq)
  have HQp := Lib.hid (Blo.belowB HQp.out hq)
  have HP3 := Lib.hid (Sl.below EnR.stays HP3.out hq)
  have HP4 := Lib.hid (Sl.below EnR.stays HP4.out hq)
  have hz := hz.trans (hq.mono hz.size)
  clear hq
  go_wp2_with fail
  generalize w5.alloc (.cells #[.slice Bm 1 dm, .int .i64 em.id] 44) = w6 at *
  generalize w5.heap.size = gm at *
  refine (implIndexDrop Am lm.length cm lm _ em Bm 1 dm _ _ HLm.out (by omega) HKm.out HEm.out (by omega)).mono ?_
  rintro e w7 ⟨v7, rfl, ho, hq⟩
  obtain ⟨A7, c7, rfl, -, -, hsl⟩ := ho.sl
  clear ho
  have HLp := Lib.hid (Sl.below EnR.stays HLp.out hq)
  have HEp := Lib.hid (Sl.below VlR.stays HEp.out hq)
  have HQp := Lib.hid (Blo.belowB HQp.out hq)
  have HP3 := Lib.hid (Sl.below EnR.stays HP3.out hq)
  have HP4 := Lib.hid (Sl.below EnR.stays HP4.out hq)
  have HLm := Lib.hid (Sl.below EnR.stays HLm.out hq)
  have HEm := Lib.hid (Sl.below VlR.stays HEm.out hq)
  have HQm := Lib.hid (Blo.belowB HQm.out hq)
  have hz := hz.trans (hq.mono hz.size)
  clear hq
  obtain ⟨D, hD⟩ : ∃ D, dropped lm em = D := ⟨_, rfl⟩
  obtain ⟨fb, hfb⟩ : ∃ b, droppedB lm em = b := ⟨_, rfl⟩
  have hDs := dropped_sub lm em
  rw [hD] at hsl hDs ⊢
  rw [hfb]
  have HDT := Lib.hid (And.intro hD hfb)
  have hDn : D.length ≤ 60 := Nat.le_trans hDs.length_le hlem
  have HDK := Lib.hid (fun x hx => HKm.out x (hDs.subset hx) : ∀ x ∈ D, x.key.length ≤ 1048576)
  have HD7 := Lib.hid hsl
  clear hD hfb hDs hsl
  have y0 := Blo.cell HQm.out 0 _ rfl
  have y1 := Blo.cell HQm.out 1 _ rfl
  go_wp2_with fail
  clear y0 y1
  refine (specIndexDrop Am lm.length cm lm _ em Bm 1 dm _ _ HLm.out (by omega) HKm.out HEm.out (by omega)).mono ?_
  rintro e w8 ⟨v8, rfl, ho, hq⟩
  obtain ⟨A8, c8, rfl, -, -, hsl⟩ := ho.sl
  clear ho
  have HLp := Lib.hid (Sl.below EnR.stays HLp.out hq)
  have HEp := Lib.hid (Sl.below VlR.stays HEp.out hq)
  have HQp := Lib.hid (Blo.belowB HQp.out hq)
  have HP3 := Lib.hid (Sl.below EnR.stays HP3.out hq)
  have HP4 := Lib.hid (Sl.below EnR.stays HP4.out hq)
  have HLm := Lib.hid (Sl.below EnR.stays HLm.out hq)
  have HEm := Lib.hid (Sl.below VlR.stays HEm.out hq)
  have HQm := Lib.hid (Blo.belowB HQm.out hq)
  have HD7 := Lib.hid (Sl.below EnR.stays HD7.out hq)
  have hz := hz.trans (hq.mono hz.size)
  clear hq
  rw [HDT.out.1] at hsl ⊢
  rw [HDT.out.2]
  have HD8 := Lib.hid hsl
  clear hsl
  have e1 : (tb == tb) = true := by simp
  have e2 : (fb == fb) = true := by simp
  have e3 : (tb != tb) = false := by simp
  have e4 : (fb != fb) = false := by simp
  go_wp2_with fail
  refine (lawsSameEntries A3 A4 P.length c3 c4 P _ _ _ HP3.out HP4.out HPF.out.1 HPF.out.2).mono ?_
  rintro e w9 ⟨rfl, hq⟩
  have HLp := Lib.hid (Sl.below EnR.stays HLp.out hq)
  have HEp := Lib.hid (Sl.below VlR.stays HEp.out hq)
  have HQp := Lib.hid (Blo.belowB HQp.out hq)
  have HP3 := Lib.hid (Sl.below EnR.stays HP3.out hq)
  have HLm := Lib.hid (Sl.below EnR.stays HLm.out hq)
  have HEm := Lib.hid (Sl.below VlR.stays HEm.out hq)
  have HQm := Lib.hid (Blo.belowB HQm.out hq)
  have HD7 := Lib.hid (Sl.below EnR.stays HD7.out hq)
  have HD8 := Lib.hid (Sl.below EnR.stays HD8.out hq)
  have hz := hz.trans (hq.mono hz.size)
  clear hq
  clear HP4
  go_wp2_with fail
  refine (lawsSameEntries A7 A8 D.length c7 c8 D _ _ _ HD7.out HD8.out (by omega) HDK.out).mono ?_
  rintro e w10 ⟨rfl, hq⟩
  have HLp := Lib.hid (Sl.below EnR.stays HLp.out hq)
  have HEp := Lib.hid (Sl.below VlR.stays HEp.out hq)
  have HQp := Lib.hid (Blo.belowB HQp.out hq)
  have HP3 := Lib.hid (Sl.below EnR.stays HP3.out hq)
  have HLm := Lib.hid (Sl.below EnR.stays HLm.out hq)
  have HEm := Lib.hid (Sl.below VlR.stays HEm.out hq)
  have HQm := Lib.hid (Blo.belowB HQm.out hq)
  have HD7 := Lib.hid (Sl.below EnR.stays HD7.out hq)
  have hz := hz.trans (hq.mono hz.size)
  clear hq
  clear HD8 e1 e2 e3 e4
  cases fb
  · cases tb
    · go_wp2_with fail
      go_ret
      exact ⟨rfl, hz⟩
    · have y0 := Blo.cell HQp.out 0 _ rfl
      have y1 := Blo.cell HQp.out 1 _ rfl
      go_wp2_with fail
      clear y0 y1
      have hPD := put_drop HPT.out.2
      rw [HPT.out.1] at hPD
      refine (implIndexDrop A3 P.length c3 P _ ep Bp 1 dp _ _ HP3.out HPF.out.1 HPF.out.2 HEp.out (by omega)).mono ?_
      rintro e w11 ⟨v11, rfl, ho, hq⟩
      obtain ⟨Az, cz, rfl, -, -, hsl⟩ := ho.sl
      clear ho
      have HLp := Lib.hid (Sl.below EnR.stays HLp.out hq)
      have HEp := Lib.hid (Sl.below VlR.stays HEp.out hq)
      have HQp := Lib.hid (Blo.belowB HQp.out hq)
      have HP3 := Lib.hid (Sl.below EnR.stays HP3.out hq)
      have HLm := Lib.hid (Sl.below EnR.stays HLm.out hq)
      have HEm := Lib.hid (Sl.below VlR.stays HEm.out hq)
      have HQm := Lib.hid (Blo.belowB HQm.out hq)
      have HD7 := Lib.hid (Sl.below EnR.stays HD7.out hq)
      have hz := hz.trans (hq.mono hz.size)
      clear hq
      rw [hPD.2] at hsl ⊢
      rw [hPD.1]
      go_wp2_with fail
      refine (lawsSameEntries Az Ap lp.length cz cp lp _ _ _ hsl HLp.out (by omega) HKp.out).mono ?_
      rintro e w12 ⟨rfl, hq⟩
      have hz := hz.trans (hq.mono hz.size)
      go_wp2_with fail
      go_ret
      exact ⟨rfl, hz⟩
  · have y0 := Blo.cell HQm.out 0 _ rfl
    have y1 := Blo.cell HQm.out 1 _ rfl
    go_wp2_with fail
    clear y0 y1
    have hDP := drop_put HDT.out.2
    rw [HDT.out.1] at hDP
    refine (implIndexPut A7 D.length c7 D _ em Bm 1 dm _ _ HD7.out (by omega) HDK.out HEm.out (by omega)).mono ?_
    rintro e w11 ⟨v11, rfl, ho, hq⟩
    obtain ⟨Ab, cb, rfl, -, -, hsl⟩ := ho.sl
    clear ho
    have HLp := Lib.hid (Sl.below EnR.stays HLp.out hq)
    have HEp := Lib.hid (Sl.below VlR.stays HEp.out hq)
    have HQp := Lib.hid (Blo.belowB HQp.out hq)
    have HP3 := Lib.hid (Sl.below EnR.stays HP3.out hq)
    have HLm := Lib.hid (Sl.below EnR.stays HLm.out hq)
    have HEm := Lib.hid (Sl.below VlR.stays HEm.out hq)
    have HQm := Lib.hid (Blo.belowB HQm.out hq)
    have HD7 := Lib.hid (Sl.below EnR.stays HD7.out hq)
    have hz := hz.trans (hq.mono hz.size)
    clear hq
    rw [hDP.2] at hsl ⊢
    rw [hDP.1]
    go_wp2_with fail
    refine (lawsSameEntries Ab Am lm.length cb cm lm _ _ _ hsl HLm.out (by omega) HKm.out).mono ?_
    rintro e w12 ⟨rfl, hq⟩
    clear hsl hDP
    have HLp := Lib.hid (Sl.below EnR.stays HLp.out hq)
    have HEp := Lib.hid (Sl.below VlR.stays HEp.out hq)
    have HQp := Lib.hid (Blo.belowB HQp.out hq)
    have HP3 := Lib.hid (Sl.below EnR.stays HP3.out hq)
    have HLm := Lib.hid (Sl.below EnR.stays HLm.out hq)
    have HEm := Lib.hid (Sl.below VlR.stays HEm.out hq)
    have HQm := Lib.hid (Blo.belowB HQm.out hq)
    have HD7 := Lib.hid (Sl.below EnR.stays HD7.out hq)
    have hz := hz.trans (hq.mono hz.size)
    clear hq
    cases tb
    · go_wp2_with fail
      go_ret
      exact ⟨rfl, hz⟩
    · have y0 := Blo.cell HQp.out 0 _ rfl
      have y1 := Blo.cell HQp.out 1 _ rfl
      go_wp2_with fail
      clear y0 y1
      have hPD := put_drop HPT.out.2
      rw [HPT.out.1] at hPD
      refine (implIndexDrop A3 P.length c3 P _ ep Bp 1 dp _ _ HP3.out HPF.out.1 HPF.out.2 HEp.out (by omega)).mono ?_
      rintro e w13 ⟨v13, rfl, ho, hq⟩
      obtain ⟨Az, cz, rfl, -, -, hsl⟩ := ho.sl
      clear ho
      have HLp := Lib.hid (Sl.below EnR.stays HLp.out hq)
      have HEp := Lib.hid (Sl.below VlR.stays HEp.out hq)
      have HQp := Lib.hid (Blo.belowB HQp.out hq)
      have HP3 := Lib.hid (Sl.below EnR.stays HP3.out hq)
      have HLm := Lib.hid (Sl.below EnR.stays HLm.out hq)
      have HEm := Lib.hid (Sl.below VlR.stays HEm.out hq)
      have HQm := Lib.hid (Blo.belowB HQm.out hq)
      have HD7 := Lib.hid (Sl.below EnR.stays HD7.out hq)
      have hz := hz.trans (hq.mono hz.size)
      clear hq
      rw [hPD.2] at hsl ⊢
      rw [hPD.1]
      go_wp2_with fail
      refine (lawsSameEntries Az Ap lp.length cz cp lp _ _ _ hsl HLp.out (by omega) HKp.out).mono ?_
      rintro e w14 ⟨rfl, hq⟩
      have hz := hz.trans (hq.mono hz.size)
      go_wp2_with fail
      go_ret
      exact ⟨rfl, hz⟩

set_option maxRecDepth 100000 in
theorem lifted (os : Os) (started : os.Started) (H : Type) (enc : TypeId × Value → H) :
    ReturnsInHanded {} Tryz.checked os 6 .any (Rows.fnIndexPutSpec.pre6 enc Tryz.prog Tryz.f6 Rows.fnIndexPutRow.domain false) (Rows.fnIndexPutSpec.post enc Tryz.prog Tryz.f6 false true false false) := by
  refine returnsInHanded_of_change (C := Tryz.checked) own started (by kernel_rfl) Tryz.func6
    (ChangeSpec.witness6 (enc := enc) (C := Tryz.checked) false ⟨#[], #[.slice none 0 0], []⟩ 8 (by kernel_rfl) (by kernel_rfl) (by kernel_rfl) (by kernel_rfl)) ?_
  intro W base args ds gs before hval0 hW hcnd _
  have hval : ∀ (j : Nat) t v, Tryz.f6.params[j]? = some t → args[j]? = some v → Value.okWide Tryz.prog W .any base t v := hval0
  have hW' := hW
  obtain ⟨p, q, hA0, hV, rfl, hfz, hnd⟩ := hW
  have hA : DataW.TrodAll enc Tryz.prog W 0 (fun _ => true) true Tryz.f6.params.toList args.toList ds p := hA0
  rw [Tryz.params6] at hA hval
  obtain ⟨v0, vs0, d0, ds0, p0, q0, hargs, rfl, rfl, h0, r0⟩ := trodAll_cons hA
  obtain ⟨rfl, rfl, rfl⟩ := trodAll_nil r0
  obtain rfl : args = #[v0] := by cases args; simp_all
  obtain ⟨rfl, rfl⟩ := trodVars_none hV
  have k0' := h0
  have lt0 : ∀ x ∈ p0, x.block < W.heap.size := by obtain ⟨m, hm⟩ := k0'; exact DataW.trod_lt m _ _ _ hm
  obtain ⟨a0, len0, cap0, rfl⟩ := okWide_slice Tryz.underlying22 (hval 0 22 v0 rfl rfl)
  obtain ⟨z0, w0⟩ := isRow_of_trod Tryz.underlying22 Tryz.underlying5 (by kernel_rfl) h0
  clear hA0 hval0
  refine (walk a0 len0 cap0 z0 W w0).mono fun e W' ⟨he, bel⟩ => ?_
  subst he
  exact ⟨_, rfl, _, _, _, [], _, [], hW', trodAll_mk1 (shut_bool Tryz.underlying4 _), (trodAll_cons_mk (Below.trod laidOut (by kernel_rfl) (of_decide_eq_true (by kernel_rfl)) k0' bel lt0) trodAll_mk0), rfl, bel.frame _, fun h => by cases h⟩

set_option maxRecDepth 100000 in
set_option maxHeartbeats 16000000 in
theorem facts : joinedFacts Tryz.checked.prog 6 Tryz.f6 Rows.fnIndexPutSpec Rows.fnIndexPutRow = true := by
  unfold joinedFacts
  repeat' (with_reducible refine Bool.and_eq_true_iff.2 ⟨?_, ?_⟩)
  all_goals (as_aux_lemma => kernel_rfl)

theorem over : Rows.fnIndexPutRow.holds Tryz.pinned (OpenSpec.ofChange Rows.fnIndexPutSpec) :=
  OpenClaim.holds_of_wide 6 Tryz.f6 rfl rfl rfl rfl rfl rfl rfl ⟨rfl, rfl, rfl, rfl, rfl⟩ rfl rfl rfl rfl rfl (by kernel_rfl) Tryz.func6 facts
    (of_decide_eq_true (by as_aux_lemma => kernel_rfl)) (by unfold Func.isWrapper; first | (rw [if_pos (by decide +kernel)]; kernel_rfl) | (rw [if_neg (by decide +kernel)]; exact ⟨rfl, rfl⟩))
    (fun os started H enc _ => lifted os started H enc)

theorem proved : Rows.FnIndexPutSaid := over
#print axioms proved
end Go.Proofs.YtciaidjmehelpaaGreat.fnIndexPut
