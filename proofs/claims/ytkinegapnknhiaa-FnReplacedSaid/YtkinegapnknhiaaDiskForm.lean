/-
  Ops on files in the model: which are of their form.
-/
import Derived.Test.YtkinegapnknhiaaDiskSpec2
namespace Go.Proofs.Ytkinegapnknhiaa
open Go.RowKit
set_option linter.unusedVariables false
set_option linter.unusedSimpArgs false

theorem form_other {o : Oz} (h1 : o.kind ≠ 1) (h2 : o.kind ≠ 2) (h3 : o.kind ≠ 3) : formB o = false := by unfold formB; simp [h1, h2, h3]
theorem form_name {o : Oz} (h : nameB o.name = false) : formB o = false := by unfold formB; rw [h, Bool.false_and]
theorem form1 {o : Oz} (h : nameB o.name = true) (hk : o.kind = 1) : formB o = o.to.toList.isEmpty := by unfold formB; rw [h, if_pos hk, Bool.true_and]
theorem form2 {o : Oz} (h : nameB o.name = true) (hk : o.kind = 2) : formB o = (nameB o.to && o.data.toList.isEmpty) := by unfold formB; rw [h, hk, Bool.true_and]; rfl
theorem form3 {o : Oz} (h : nameB o.name = true) (hk : o.kind = 3) : formB o = (o.to.toList.isEmpty && o.data.toList.isEmpty) := by unfold formB; rw [h, hk, Bool.true_and]; rfl

set_option maxRecDepth 100000 in
set_option maxHeartbeats 1000000 in
theorem specForm14 (o : Oz) (w : World) :
    Calls Try.prog 48 #[.agg #[.int .i64 o.kind, .string o.name, .string o.to, .string o.data]] w fun e w' => e = .returned (.bool (formB o)) ∧ Below w.heap.size w w' := by
  have HB := Lib.hid ((Below.refl w.heap.size w).alloc (Nat.le_refl _) (.cells #[.int .i64 o.kind, .string o.name, .string o.to, .string o.data] 36))
  by_cases hk : 1 ≤ o.kind ∧ o.kind ≤ 3
  · have hin : (decide ((1 : Int) ≤ o.kind) && decide (o.kind ≤ 3)) = true := by simpa using hk
    have HI := Lib.hid hin
    clear hin
    cases hn : nameB o.name
    · have HF := Lib.hid (form_name hn)
      have HN := Lib.hid hn
      clear hn hk
      go_enter Try.func48, Try.ntmps48
      go_wp2_with fail
      refine (specIn _ _ _ _).mono ?_
      rintro e w1 ⟨rfl, rfl⟩
      rw [HI.out]
      go_wp2_with fail
      refine (specName14 _ _).mono ?_
      rintro e w1 ⟨rfl, rfl⟩
      rw [HN.out]
      go_wp2
      go_ret
      exact ⟨retB HF.out.symm, HB.out⟩
    · have HN := Lib.hid hn
      by_cases k2 : o.kind = 2
      · have HF := Lib.hid (form2 hn k2)
        have k2' : (o.kind == 2) = true := by simpa using k2
        clear hn hk k2
        go_enter Try.func48, Try.ntmps48
        go_wp2_with fail
        refine (specIn _ _ _ _).mono ?_
        rintro e w1 ⟨rfl, rfl⟩
        rw [HI.out]
        go_wp2_with fail
        refine (specName14 _ _).mono ?_
        rintro e w1 ⟨rfl, rfl⟩
        rw [HN.out]
        go_wp2_with fail
        refine (specName14 _ _).mono ?_
        rintro e w1 ⟨rfl, rfl⟩
        cases ht : nameB o.to
        · have HF2 := Lib.hid (show formB o = false by rw [HF.out, ht]; rfl)
          go_wp2
          go_ret
          exact ⟨retB HF2.out.symm, HB.out⟩
        · have HF2 := Lib.hid (show formB o = o.data.toList.isEmpty by rw [HF.out, ht]; rfl)
          go_wp2
          go_ret
          exact ⟨retB HF2.out.symm, HB.out⟩
      · have k2' : (o.kind == 2) = false := by simpa using k2
        by_cases k1 : o.kind = 1
        · have HF := Lib.hid (form1 hn k1)
          have k1' : (o.kind == 1) = true := by simpa using k1
          clear hn hk k2 k1
          go_enter Try.func48, Try.ntmps48
          go_wp2_with fail
          refine (specIn _ _ _ _).mono ?_
          rintro e w1 ⟨rfl, rfl⟩
          rw [HI.out]
          go_wp2_with fail
          refine (specName14 _ _).mono ?_
          rintro e w1 ⟨rfl, rfl⟩
          rw [HN.out]
          cases ht : o.to.toList.isEmpty
          · have HF2 := Lib.hid (HF.out.trans ht)
            go_wp2
            go_ret
            exact ⟨retB HF2.out.symm, HB.out⟩
          · have HF2 := Lib.hid (HF.out.trans ht)
            go_wp2
            go_ret
            exact ⟨retB HF2.out.symm, HB.out⟩
        · have k3 : o.kind = 3 := by omega
          have HF := Lib.hid (form3 hn k3)
          have k1' : (o.kind == 1) = false := by simpa using k1
          clear hn hk k2 k1 k3
          go_enter Try.func48, Try.ntmps48
          go_wp2_with fail
          refine (specIn _ _ _ _).mono ?_
          rintro e w1 ⟨rfl, rfl⟩
          rw [HI.out]
          go_wp2_with fail
          refine (specName14 _ _).mono ?_
          rintro e w1 ⟨rfl, rfl⟩
          rw [HN.out]
          cases ht : o.to.toList.isEmpty
          · have HF2 := Lib.hid (show formB o = false by rw [HF.out, ht]; rfl)
            go_wp2
            go_ret
            exact ⟨retB HF2.out.symm, HB.out⟩
          · have HF2 := Lib.hid (show formB o = o.data.toList.isEmpty by rw [HF.out, ht]; rfl)
            go_wp2
            go_ret
            exact ⟨retB HF2.out.symm, HB.out⟩
  · have hin : (decide ((1 : Int) ≤ o.kind) && decide (o.kind ≤ 3)) = false := by
      rw [Bool.and_eq_false_iff, decide_eq_false_iff_not, decide_eq_false_iff_not]; omega
    have HI := Lib.hid hin
    have HF := Lib.hid (form_other (o := o) (by omega) (by omega) (by omega))
    clear hin hk
    go_enter Try.func48, Try.ntmps48
    go_wp2_with fail
    refine (specIn _ _ _ _).mono ?_
    rintro e w1 ⟨rfl, rfl⟩
    rw [HI.out]
    go_wp2
    go_ret
    exact ⟨retB HF.out.symm, HB.out⟩
end Go.Proofs.Ytkinegapnknhiaa
