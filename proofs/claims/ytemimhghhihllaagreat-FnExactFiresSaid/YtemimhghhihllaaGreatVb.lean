/-
  Several texts in one: what the proof leans on, part 2.
-/
import Derived.Test.YtemimhghhihllaaGreatVa
import Derived.Maps.Own
import Derived.Maps.OwnOps
import Derived.Maps.OwnSet
import Derived.IntWalk
import Derived.Deep.DeepMust
set_option linter.unusedVariables false
set_option linter.unusedSimpArgs false
namespace Go.Proofs.YtemimhghhihllaaGreat
open Go.RowKit
theorem boxes3 (w : World) (a b : Vl) (T : TypeId) :
    Row (((w.alloc (.cells #[.int .i64 a.k, .int .i64 a.n, .string a.s] T)).alloc (.cells #[.int .i64 b.k, .int .i64 b.n, .string b.s] T)).alloc (.cells #[.int .i64 0, .int .i64 0, .string ⟨#[]⟩] T)) w.heap.size T #[.int .i64 a.k, .int .i64 a.n, .string a.s] ∧
    Row (((w.alloc (.cells #[.int .i64 a.k, .int .i64 a.n, .string a.s] T)).alloc (.cells #[.int .i64 b.k, .int .i64 b.n, .string b.s] T)).alloc (.cells #[.int .i64 0, .int .i64 0, .string ⟨#[]⟩] T)) (w.heap.size + 1) T #[.int .i64 b.k, .int .i64 b.n, .string b.s] ∧
    Row (((w.alloc (.cells #[.int .i64 a.k, .int .i64 a.n, .string a.s] T)).alloc (.cells #[.int .i64 b.k, .int .i64 b.n, .string b.s] T)).alloc (.cells #[.int .i64 0, .int .i64 0, .string ⟨#[]⟩] T)) (w.heap.size + 1 + 1) T #[.int .i64 0, .int .i64 0, .string ⟨#[]⟩] ∧
    Below w.heap.size w (((w.alloc (.cells #[.int .i64 a.k, .int .i64 a.n, .string a.s] T)).alloc (.cells #[.int .i64 b.k, .int .i64 b.n, .string b.s] T)).alloc (.cells #[.int .i64 0, .int .i64 0, .string ⟨#[]⟩] T)) :=
  ⟨((Row.new w T _).alloc _).alloc _, (Row.newAt _ T _ _ (by simp only [size1])).alloc _, Row.newAt _ T _ _ (by simp only [size1]), (((Below.refl w.heap.size w).alloc (Nat.le_refl _) _).alloc (by simp only [size1]; omega) _).alloc (by simp only [size1]; omega) _⟩
theorem yes_ne (b : Bool) : ¬ yes b = -1 := by rcases yes01 b with h | h <;> omega
theorem eq3_ne (k n : Int) (s : ByteArray) (k' n' : Int) (s' : ByteArray) : ¬ eq3 k n s k' n' s' = -1 := by
  unfold eq3; split
  · exact yes_ne _
  · omega
theorem less3_ne (k n : Int) (s : ByteArray) (k' n' : Int) (s' : ByteArray) : ¬ less3 k n s k' n' s' = -1 := by
  unfold less3; split
  · exact yes_ne _
  · omega
theorem asOpt_some {a : Int} (h : ¬ a = -1) : asOpt a = some (asVl a) := by simp [asOpt, h]
set_option maxHeartbeats 1000000 in
theorem specTwo3 (a b : Vl) (w : World) :
    Calls Tryz.prog 179 #[.int .i64 3, .agg #[.int .i64 a.k, .int .i64 a.n, .string a.s], .agg #[.int .i64 b.k, .int .i64 b.n, .string b.s]] w (OptPost (op2 3 a b) w) := by
  obtain ⟨ra, rb, rr, hb0⟩ := boxes3 w a b 93
  have HV := Lib.hid (show op2 3 a b = some (asVl (eq3 a.k a.n a.s b.k b.n b.s)) by
    have h : ¬ eq3 a.k a.n a.s b.k b.n b.s = -1 := eq3_ne _ _ _ _ _ _
    simp [op2, asOpt_some h])
  go_enter Tryz.func179, Tryz.ntmps179
  go_wp2_with fail
  generalize ((w.alloc (.cells #[.int .i64 a.k, .int .i64 a.n, .string a.s] 93)).alloc (.cells #[.int .i64 b.k, .int .i64 b.n, .string b.s] 93)).alloc (.cells #[.int .i64 0, .int .i64 0, .string ⟨#[]⟩] 93) = x at *
  refine (specEqual3 a.k a.n a.s b.k b.n b.s _).mono ?_
  rintro e w1 ⟨rfl, hb1⟩
  have hz1 := hb0.trans (hb1.mono hb0.size)
  have rr1 := rr.below hb1
  generalize eq3 a.k a.n a.s b.k b.n b.s = q at *
  go_wp2_with fail
  refine (specAs _ _).mono ?_
  rintro e w2 ⟨rfl, hb2⟩
  have hz := hz1.trans (hb2.mono hz1.size)
  obtain ⟨⟨z0, z1, z2⟩, ⟨z3, z4, z5⟩⟩ := (rr1.below hb2).three
  clear rr1 rr ra rb
  go_wp2_with fail
  refine bodyPost_ret (v := .tuple #[.agg #[.int .i64 (asVl q).k, .int .i64 (asVl q).n, .string (asVl q).s], .bool true]) (by simp [results, Tryz.results179, go_sem, z0, z1, z2]) rfl ⟨asVl q, by rw [HV.out]; rfl, by rw [HV.out]; simp, ?_⟩
  repeat (first | with_reducible exact hz | with_reducible refine Below.drew ?_ | with_reducible refine Below.setCell ?_ (by simp; omega) _ | with_reducible refine Below.setCell ?_ (by simp) _)
set_option maxHeartbeats 1000000 in
theorem specTwo4 (a b : Vl) (w : World) :
    Calls Tryz.prog 179 #[.int .i64 4, .agg #[.int .i64 a.k, .int .i64 a.n, .string a.s], .agg #[.int .i64 b.k, .int .i64 b.n, .string b.s]] w (OptPost (op2 4 a b) w) := by
  obtain ⟨ra, rb, rr, hb0⟩ := boxes3 w a b 93
  have HV := Lib.hid (show op2 4 a b = some (asVl (less3 a.k a.n a.s b.k b.n b.s)) by
    have h : ¬ less3 a.k a.n a.s b.k b.n b.s = -1 := less3_ne _ _ _ _ _ _
    simp [op2, asOpt_some h])
  go_enter Tryz.func179, Tryz.ntmps179
  go_wp2_with fail
  generalize ((w.alloc (.cells #[.int .i64 a.k, .int .i64 a.n, .string a.s] 93)).alloc (.cells #[.int .i64 b.k, .int .i64 b.n, .string b.s] 93)).alloc (.cells #[.int .i64 0, .int .i64 0, .string ⟨#[]⟩] 93) = x at *
  refine (specLess3 a.k a.n a.s b.k b.n b.s _).mono ?_
  rintro e w1 ⟨rfl, hb1⟩
  have hz1 := hb0.trans (hb1.mono hb0.size)
  have rr1 := rr.below hb1
  generalize less3 a.k a.n a.s b.k b.n b.s = q at *
  go_wp2_with fail
  refine (specAs _ _).mono ?_
  rintro e w2 ⟨rfl, hb2⟩
  have hz := hz1.trans (hb2.mono hz1.size)
  obtain ⟨⟨z0, z1, z2⟩, ⟨z3, z4, z5⟩⟩ := (rr1.below hb2).three
  clear rr1 rr ra rb
  go_wp2_with fail
  refine bodyPost_ret (v := .tuple #[.agg #[.int .i64 (asVl q).k, .int .i64 (asVl q).n, .string (asVl q).s], .bool true]) (by simp [results, Tryz.results179, go_sem, z0, z1, z2]) rfl ⟨asVl q, by rw [HV.out]; rfl, by rw [HV.out]; simp, ?_⟩
  repeat (first | with_reducible exact hz | with_reducible refine Below.drew ?_ | with_reducible refine Below.setCell ?_ (by simp; omega) _ | with_reducible refine Below.setCell ?_ (by simp) _)
set_option maxHeartbeats 1000000 in
theorem specTwo9 (a b : Vl) (w : World) (ha : a.ok = true) (hb : b.ok = true) :
    Calls Tryz.prog 179 #[.int .i64 9, .agg #[.int .i64 a.k, .int .i64 a.n, .string a.s], .agg #[.int .i64 b.k, .int .i64 b.n, .string b.s]] w (OptPost (op2 9 a b) w) := by
  obtain ⟨ra, rb, rr, hb0⟩ := boxes3 w a b 93
  have HV := Lib.hid (show op2 9 a b = sumVl a b 1 by simp [op2])
  go_enter Tryz.func179, Tryz.ntmps179
  go_wp2_with fail
  generalize ((w.alloc (.cells #[.int .i64 a.k, .int .i64 a.n, .string a.s] 93)).alloc (.cells #[.int .i64 b.k, .int .i64 b.n, .string b.s] 93)).alloc (.cells #[.int .i64 0, .int .i64 0, .string ⟨#[]⟩] 93) = x at *
  refine (specSum a b 1 _ ha hb (by omega)).mono ?_
  rintro e w1 ⟨v, rfl, hv, hb1⟩
  have hz := hb0.trans (hb1.mono hb0.size)
  obtain ⟨⟨z0, z1, z2⟩, ⟨z3, z4, z5⟩⟩ := (rr.below hb1).three
  clear rr ra rb
  have HW := Lib.hid hv
  clear hv
  go_wp2_with fail
  refine bodyPost_ret (v := .tuple #[.agg #[.int .i64 v.k, .int .i64 v.n, .string v.s], .bool (sumVl a b 1).isSome]) (by simp [results, Tryz.results179, go_sem, z0, z1, z2]) rfl ⟨v, by rw [HV.out], by rw [HV.out]; exact HW.out, ?_⟩
  repeat (first | with_reducible exact hz | with_reducible refine Below.drew ?_ | with_reducible refine Below.setCell ?_ (by simp; omega) _ | with_reducible refine Below.setCell ?_ (by simp) _)
set_option maxHeartbeats 1000000 in
theorem specTwo10 (a b : Vl) (w : World) (ha : a.ok = true) (hb : b.ok = true) :
    Calls Tryz.prog 179 #[.int .i64 10, .agg #[.int .i64 a.k, .int .i64 a.n, .string a.s], .agg #[.int .i64 b.k, .int .i64 b.n, .string b.s]] w (OptPost (op2 10 a b) w) := by
  obtain ⟨ra, rb, rr, hb0⟩ := boxes3 w a b 93
  have HV := Lib.hid (show op2 10 a b = sumVl a b (-1) by simp [op2])
  go_enter Tryz.func179, Tryz.ntmps179
  go_wp2_with fail
  generalize ((w.alloc (.cells #[.int .i64 a.k, .int .i64 a.n, .string a.s] 93)).alloc (.cells #[.int .i64 b.k, .int .i64 b.n, .string b.s] 93)).alloc (.cells #[.int .i64 0, .int .i64 0, .string ⟨#[]⟩] 93) = x at *
  refine (specSum a b (-1) _ ha hb (by omega)).mono ?_
  rintro e w1 ⟨v, rfl, hv, hb1⟩
  have hz := hb0.trans (hb1.mono hb0.size)
  obtain ⟨⟨z0, z1, z2⟩, ⟨z3, z4, z5⟩⟩ := (rr.below hb1).three
  clear rr ra rb
  have HW := Lib.hid hv
  clear hv
  go_wp2_with fail
  refine bodyPost_ret (v := .tuple #[.agg #[.int .i64 v.k, .int .i64 v.n, .string v.s], .bool (sumVl a b (-1)).isSome]) (by simp [results, Tryz.results179, go_sem, z0, z1, z2]) rfl ⟨v, by rw [HV.out], by rw [HV.out]; exact HW.out, ?_⟩
  repeat (first | with_reducible exact hz | with_reducible refine Below.drew ?_ | with_reducible refine Below.setCell ?_ (by simp; omega) _ | with_reducible refine Below.setCell ?_ (by simp) _)
theorem truOf_rng (v : Vl) : truOf v = -1 ∨ tru (truOf v) = true := by
  unfold truOf
  split
  · right; rfl
  · split
    · right; rcases yes01 (v.n != 0) with h | h <;> rw [h] <;> rfl
    · left; rfl
theorem and3_ne {a b : Vl} (ha : ¬ truOf a = -1) (hb : ¬ truOf b = -1) : ¬ and3 (truOf a) (truOf b) = -1 := by
  have h1 := (truOf_rng a).resolve_left ha
  have h2 := (truOf_rng b).resolve_left hb
  unfold and3
  simp only [h1, h2, Bool.not_true, Bool.or_self, Bool.false_eq_true, if_false]
  split
  · omega
  · split <;> omega
theorem or3_ne {a b : Vl} (ha : ¬ truOf a = -1) (hb : ¬ truOf b = -1) : ¬ or3 (truOf a) (truOf b) = -1 := by
  have h1 := (truOf_rng a).resolve_left ha
  have h2 := (truOf_rng b).resolve_left hb
  unfold or3
  simp only [h1, h2, Bool.not_true, Bool.or_self, Bool.false_eq_true, if_false]
  split
  · omega
  · split <;> omega
set_option maxHeartbeats 1000000 in
theorem specTwo5 (a b : Vl) (w : World) :
    Calls Tryz.prog 179 #[.int .i64 5, .agg #[.int .i64 a.k, .int .i64 a.n, .string a.s], .agg #[.int .i64 b.k, .int .i64 b.n, .string b.s]] w (OptPost (op2 5 a b) w) := by
  obtain ⟨ra, rb, rr, hb0⟩ := boxes3 w a b 93
  have HV := Lib.hid (show op2 5 a b = asOpt (and3 (truOf a) (truOf b)) by simp [op2])
  cases ha : truS a
  · have HA := Lib.hid ha
    have ha' : truOf a = -1 := by simpa [truS] using ha
    have HN := Lib.hid (show op2 5 a b = none by rw [HV.out, ha', and3_a (by decide)]; rfl)
    clear ha ha'
    go_enter Tryz.func179, Tryz.ntmps179
    go_wp2_with fail
    generalize ((w.alloc (.cells #[.int .i64 a.k, .int .i64 a.n, .string a.s] 93)).alloc (.cells #[.int .i64 b.k, .int .i64 b.n, .string b.s] 93)).alloc (.cells #[.int .i64 0, .int .i64 0, .string ⟨#[]⟩] 93) = x at *
    refine (specOf a _).mono ?_
    rintro e w1 ⟨rfl, hb1⟩
    rw [HA.out]
    have hz1 := hb0.trans (hb1.mono hb0.size)
    have rb1 := rb.below hb1
    have rr1 := rr.below hb1
    obtain ⟨⟨c0, c1, c2⟩, -⟩ := rb1.three
    clear ra rb rr
    have RR := Lib.hid rr1
    clear rr1 rb1
    go_wp2_with fail
    refine (specOf b _).mono ?_
    rintro e w2 ⟨rfl, hb2⟩
    skip
    have hz2 := hz1.trans (hb2.mono hz1.size)
    have rr2 := RR.out.below hb2
    obtain ⟨⟨z0, z1, z2⟩, ⟨z3, z4, z5⟩⟩ := rr2.three
    have RR2 := Lib.hid rr2
    clear rr2 RR c0 c1 c2
    go_wp2_with fail
    refine bodyPost_ret (v := .tuple #[.agg #[.int .i64 0, .int .i64 0, .string ⟨#[]⟩], .bool false]) (by simp [results, Tryz.results179, go_sem, z0, z1, z2]) rfl ⟨Vl.zero, by rw [HN.out]; rfl, by rw [HN.out]; simp, ?_⟩
    have hz := hz2
    repeat (first | with_reducible exact hz | with_reducible refine Below.drew ?_ | with_reducible refine Below.setCell ?_ (by simp; omega) _ | with_reducible refine Below.setCell ?_ (by simp) _)
  have ha' : ¬ truOf a = -1 := by simpa [truS] using ha
  have HA := Lib.hid ha
  clear ha
  cases hb : truS b
  · have HB := Lib.hid hb
    have hb' : truOf b = -1 := by simpa [truS] using hb
    have HN := Lib.hid (show op2 5 a b = none by rw [HV.out, hb', and3_b (by decide)]; rfl)
    clear hb hb' ha'
    go_enter Tryz.func179, Tryz.ntmps179
    go_wp2_with fail
    generalize ((w.alloc (.cells #[.int .i64 a.k, .int .i64 a.n, .string a.s] 93)).alloc (.cells #[.int .i64 b.k, .int .i64 b.n, .string b.s] 93)).alloc (.cells #[.int .i64 0, .int .i64 0, .string ⟨#[]⟩] 93) = x at *
    refine (specOf a _).mono ?_
    rintro e w1 ⟨rfl, hb1⟩
    rw [HA.out]
    have hz1 := hb0.trans (hb1.mono hb0.size)
    have rb1 := rb.below hb1
    have rr1 := rr.below hb1
    obtain ⟨⟨c0, c1, c2⟩, -⟩ := rb1.three
    clear ra rb rr
    have RR := Lib.hid rr1
    clear rr1 rb1
    go_wp2_with fail
    refine (specOf b _).mono ?_
    rintro e w2 ⟨rfl, hb2⟩
    rw [HB.out]
    have hz2 := hz1.trans (hb2.mono hz1.size)
    have rr2 := RR.out.below hb2
    obtain ⟨⟨z0, z1, z2⟩, ⟨z3, z4, z5⟩⟩ := rr2.three
    have RR2 := Lib.hid rr2
    clear rr2 RR c0 c1 c2
    go_wp2_with fail
    refine bodyPost_ret (v := .tuple #[.agg #[.int .i64 0, .int .i64 0, .string ⟨#[]⟩], .bool false]) (by simp [results, Tryz.results179, go_sem, z0, z1, z2]) rfl ⟨Vl.zero, by rw [HN.out]; rfl, by rw [HN.out]; simp, ?_⟩
    have hz := hz2
    repeat (first | with_reducible exact hz | with_reducible refine Below.drew ?_ | with_reducible refine Below.setCell ?_ (by simp; omega) _ | with_reducible refine Below.setCell ?_ (by simp) _)
  · have hb' : ¬ truOf b = -1 := by simpa [truS] using hb
    have HB := Lib.hid hb
    have HN := Lib.hid (show op2 5 a b = some (asVl (and3 (truN a) (truN b))) by rw [HV.out, asOpt_some (and3_ne ha' hb')]; simp [truN, ha', hb'])
    clear hb ha' hb'
    go_enter Tryz.func179, Tryz.ntmps179
    go_wp2_with fail
    generalize ((w.alloc (.cells #[.int .i64 a.k, .int .i64 a.n, .string a.s] 93)).alloc (.cells #[.int .i64 b.k, .int .i64 b.n, .string b.s] 93)).alloc (.cells #[.int .i64 0, .int .i64 0, .string ⟨#[]⟩] 93) = x at *
    refine (specOf a _).mono ?_
    rintro e w1 ⟨rfl, hb1⟩
    rw [HA.out]
    have hz1 := hb0.trans (hb1.mono hb0.size)
    have rb1 := rb.below hb1
    have rr1 := rr.below hb1
    obtain ⟨⟨c0, c1, c2⟩, -⟩ := rb1.three
    clear ra rb rr
    have RR := Lib.hid rr1
    clear rr1 rb1
    go_wp2_with fail
    refine (specOf b _).mono ?_
    rintro e w2 ⟨rfl, hb2⟩
    rw [HB.out]
    have hz2 := hz1.trans (hb2.mono hz1.size)
    have rr2 := RR.out.below hb2
    obtain ⟨⟨z0, z1, z2⟩, ⟨z3, z4, z5⟩⟩ := rr2.three
    have RR2 := Lib.hid rr2
    clear rr2 RR c0 c1 c2
    clear z0 z1 z2 z3 z4 z5
    generalize truN a = p at *
    generalize truN b = q at *
    go_wp2_with fail
    refine (specAnd3 _ _ _).mono ?_
    rintro e w3 ⟨rfl, rfl⟩
    generalize and3 p q = u at *
    go_wp2_with fail
    refine (specAs _ _).mono ?_
    rintro e w3 ⟨rfl, hb3⟩
    have hz := hz2.trans (hb3.mono hz2.size)
    obtain ⟨⟨z0, z1, z2⟩, ⟨z3, z4, z5⟩⟩ := (RR2.out.below hb3).three
    go_wp2_with fail
    refine bodyPost_ret (v := .tuple #[.agg #[.int .i64 (asVl u).k, .int .i64 (asVl u).n, .string (asVl u).s], .bool true]) (by simp [results, Tryz.results179, go_sem, z0, z1, z2]) rfl ⟨asVl u, by rw [HN.out]; rfl, by rw [HN.out]; simp, ?_⟩
    repeat (first | with_reducible exact hz | with_reducible refine Below.drew ?_ | with_reducible refine Below.setCell ?_ (by simp; omega) _ | with_reducible refine Below.setCell ?_ (by simp) _)
set_option maxHeartbeats 1000000 in
theorem specTwo6 (a b : Vl) (w : World) :
    Calls Tryz.prog 179 #[.int .i64 6, .agg #[.int .i64 a.k, .int .i64 a.n, .string a.s], .agg #[.int .i64 b.k, .int .i64 b.n, .string b.s]] w (OptPost (op2 6 a b) w) := by
  obtain ⟨ra, rb, rr, hb0⟩ := boxes3 w a b 93
  have HV := Lib.hid (show op2 6 a b = asOpt (or3 (truOf a) (truOf b)) by simp [op2])
  cases ha : truS a
  · have HA := Lib.hid ha
    have ha' : truOf a = -1 := by simpa [truS] using ha
    have HN := Lib.hid (show op2 6 a b = none by rw [HV.out, ha', or3_a (by decide)]; rfl)
    clear ha ha'
    go_enter Tryz.func179, Tryz.ntmps179
    go_wp2_with fail
    generalize ((w.alloc (.cells #[.int .i64 a.k, .int .i64 a.n, .string a.s] 93)).alloc (.cells #[.int .i64 b.k, .int .i64 b.n, .string b.s] 93)).alloc (.cells #[.int .i64 0, .int .i64 0, .string ⟨#[]⟩] 93) = x at *
    refine (specOf a _).mono ?_
    rintro e w1 ⟨rfl, hb1⟩
    rw [HA.out]
    have hz1 := hb0.trans (hb1.mono hb0.size)
    have rb1 := rb.below hb1
    have rr1 := rr.below hb1
    obtain ⟨⟨c0, c1, c2⟩, -⟩ := rb1.three
    clear ra rb rr
    have RR := Lib.hid rr1
    clear rr1 rb1
    go_wp2_with fail
    refine (specOf b _).mono ?_
    rintro e w2 ⟨rfl, hb2⟩
    skip
    have hz2 := hz1.trans (hb2.mono hz1.size)
    have rr2 := RR.out.below hb2
    obtain ⟨⟨z0, z1, z2⟩, ⟨z3, z4, z5⟩⟩ := rr2.three
    have RR2 := Lib.hid rr2
    clear rr2 RR c0 c1 c2
    go_wp2_with fail
    refine bodyPost_ret (v := .tuple #[.agg #[.int .i64 0, .int .i64 0, .string ⟨#[]⟩], .bool false]) (by simp [results, Tryz.results179, go_sem, z0, z1, z2]) rfl ⟨Vl.zero, by rw [HN.out]; rfl, by rw [HN.out]; simp, ?_⟩
    have hz := hz2
    repeat (first | with_reducible exact hz | with_reducible refine Below.drew ?_ | with_reducible refine Below.setCell ?_ (by simp; omega) _ | with_reducible refine Below.setCell ?_ (by simp) _)
  have ha' : ¬ truOf a = -1 := by simpa [truS] using ha
  have HA := Lib.hid ha
  clear ha
  cases hb : truS b
  · have HB := Lib.hid hb
    have hb' : truOf b = -1 := by simpa [truS] using hb
    have HN := Lib.hid (show op2 6 a b = none by rw [HV.out, hb', or3_b (by decide)]; rfl)
    clear hb hb' ha'
    go_enter Tryz.func179, Tryz.ntmps179
    go_wp2_with fail
    generalize ((w.alloc (.cells #[.int .i64 a.k, .int .i64 a.n, .string a.s] 93)).alloc (.cells #[.int .i64 b.k, .int .i64 b.n, .string b.s] 93)).alloc (.cells #[.int .i64 0, .int .i64 0, .string ⟨#[]⟩] 93) = x at *
    refine (specOf a _).mono ?_
    rintro e w1 ⟨rfl, hb1⟩
    rw [HA.out]
    have hz1 := hb0.trans (hb1.mono hb0.size)
    have rb1 := rb.below hb1
    have rr1 := rr.below hb1
    obtain ⟨⟨c0, c1, c2⟩, -⟩ := rb1.three
    clear ra rb rr
    have RR := Lib.hid rr1
    clear rr1 rb1
    go_wp2_with fail
    refine (specOf b _).mono ?_
    rintro e w2 ⟨rfl, hb2⟩
    rw [HB.out]
    have hz2 := hz1.trans (hb2.mono hz1.size)
    have rr2 := RR.out.below hb2
    obtain ⟨⟨z0, z1, z2⟩, ⟨z3, z4, z5⟩⟩ := rr2.three
    have RR2 := Lib.hid rr2
    clear rr2 RR c0 c1 c2
    go_wp2_with fail
    refine bodyPost_ret (v := .tuple #[.agg #[.int .i64 0, .int .i64 0, .string ⟨#[]⟩], .bool false]) (by simp [results, Tryz.results179, go_sem, z0, z1, z2]) rfl ⟨Vl.zero, by rw [HN.out]; rfl, by rw [HN.out]; simp, ?_⟩
    have hz := hz2
    repeat (first | with_reducible exact hz | with_reducible refine Below.drew ?_ | with_reducible refine Below.setCell ?_ (by simp; omega) _ | with_reducible refine Below.setCell ?_ (by simp) _)
  · have hb' : ¬ truOf b = -1 := by simpa [truS] using hb
    have HB := Lib.hid hb
    have HN := Lib.hid (show op2 6 a b = some (asVl (or3 (truN a) (truN b))) by rw [HV.out, asOpt_some (or3_ne ha' hb')]; simp [truN, ha', hb'])
    clear hb ha' hb'
    go_enter Tryz.func179, Tryz.ntmps179
    go_wp2_with fail
    generalize ((w.alloc (.cells #[.int .i64 a.k, .int .i64 a.n, .string a.s] 93)).alloc (.cells #[.int .i64 b.k, .int .i64 b.n, .string b.s] 93)).alloc (.cells #[.int .i64 0, .int .i64 0, .string ⟨#[]⟩] 93) = x at *
    refine (specOf a _).mono ?_
    rintro e w1 ⟨rfl, hb1⟩
    rw [HA.out]
    have hz1 := hb0.trans (hb1.mono hb0.size)
    have rb1 := rb.below hb1
    have rr1 := rr.below hb1
    obtain ⟨⟨c0, c1, c2⟩, -⟩ := rb1.three
    clear ra rb rr
    have RR := Lib.hid rr1
    clear rr1 rb1
    go_wp2_with fail
    refine (specOf b _).mono ?_
    rintro e w2 ⟨rfl, hb2⟩
    rw [HB.out]
    have hz2 := hz1.trans (hb2.mono hz1.size)
    have rr2 := RR.out.below hb2
    obtain ⟨⟨z0, z1, z2⟩, ⟨z3, z4, z5⟩⟩ := rr2.three
    have RR2 := Lib.hid rr2
    clear rr2 RR c0 c1 c2
    clear z0 z1 z2 z3 z4 z5
    generalize truN a = p at *
    generalize truN b = q at *
    go_wp2_with fail
    refine (specOr3 _ _ _).mono ?_
    rintro e w3 ⟨rfl, rfl⟩
    generalize or3 p q = u at *
    go_wp2_with fail
    refine (specAs _ _).mono ?_
    rintro e w3 ⟨rfl, hb3⟩
    have hz := hz2.trans (hb3.mono hz2.size)
    obtain ⟨⟨z0, z1, z2⟩, ⟨z3, z4, z5⟩⟩ := (RR2.out.below hb3).three
    go_wp2_with fail
    refine bodyPost_ret (v := .tuple #[.agg #[.int .i64 (asVl u).k, .int .i64 (asVl u).n, .string (asVl u).s], .bool true]) (by simp [results, Tryz.results179, go_sem, z0, z1, z2]) rfl ⟨asVl u, by rw [HN.out]; rfl, by rw [HN.out]; simp, ?_⟩
    repeat (first | with_reducible exact hz | with_reducible refine Below.drew ?_ | with_reducible refine Below.setCell ?_ (by simp; omega) _ | with_reducible refine Below.setCell ?_ (by simp) _)
theorem as_not_not (v : Value) (w : World) : (Instr.typeAssert (.iface 274 v) 270 274 true).run Tryz.prog w = .ok (.tuple #[v, .bool true]) w := by kernel_rfl
theorem as_num_not (v : Value) (w : World) : (Instr.typeAssert (.iface 275 v) 270 274 true).run Tryz.prog w = .ok (.tuple #[.agg #[], .bool false]) w := by kernel_rfl
theorem as_str_not (v : Value) (w : World) : (Instr.typeAssert (.iface 282 v) 270 274 true).run Tryz.prog w = .ok (.tuple #[.agg #[], .bool false]) w := by kernel_rfl
theorem held0V (n : Int) (s : ByteArray) : heldV 0 n s = .iface 274 (.agg #[]) := by simp [heldV]
theorem held1V (n : Int) (s : ByteArray) : heldV 1 n s = .iface 275 (.int .i64 n) := by simp [heldV]
theorem held2V (n : Int) (s : ByteArray) : heldV 2 n s = .iface 282 (.string s) := by simp [heldV]
set_option maxRecDepth 100000 in
theorem implTruthOf (v : Vl) (w : World) (h : v.ok = true) :
    Calls Tryz.prog 154 #[.agg #[.int .i64 v.k, .int .i64 v.n, .string v.s]] w fun e w' => e = .returned (.int .i64 (truOf v)) ∧ Below w.heap.size w w' := by
  obtain ⟨k, n, s⟩ := v
  rcases Vl.kinds h with h0 | ⟨h0, -, -⟩ | h0
  · simp only at h0
    subst h0
    have HV := Lib.hid (show truOf ⟨0, n, s⟩ = 2 by simp [truOf])
    have a1 := as_not_not (.agg #[])
    go_enter Tryz.func154, Tryz.ntmps154
    go_wp2_with fail
    refine (heldYes _ _ _ _ h).mono ?_
    rintro e w1 ⟨rfl, hb1⟩
    rw [held0V]
    go_wp2
    go_ret
    have hz := ((Below.refl w.heap.size w).alloc (Nat.le_refl _) _).trans (hb1.mono (by simp))
    exact ⟨retI (by rw [HV.out]), hz.alloc hz.size _⟩
  · simp only at h0
    subst h0
    have HV := Lib.hid (show truOf ⟨1, n, s⟩ = yes (n != 0) by simp [truOf])
    have a1 := as_num_not (.int .i64 n)
    have a2 := as_num_num (.int .i64 n)
    go_enter Tryz.func154, Tryz.ntmps154
    go_wp2_with fail
    refine (heldYes _ _ _ _ h).mono ?_
    rintro e w1 ⟨rfl, hb1⟩
    rw [held1V]
    go_wp2_with fail
    refine (implTruthIf _ _).mono ?_
    rintro e w2 ⟨rfl, rfl⟩
    go_wp2
    go_ret
    exact ⟨retI (by rw [HV.out]), ((Below.refl _ _).alloc (Nat.le_refl _) _).trans (hb1.mono (by simp))⟩
  · simp only at h0
    subst h0
    have HV := Lib.hid (show truOf ⟨2, n, s⟩ = -1 by simp [truOf])
    have a1 := as_str_not (.string s)
    have a2 := as_str_num (.string s)
    go_enter Tryz.func154, Tryz.ntmps154
    go_wp2_with fail
    refine (heldYes _ _ _ _ h).mono ?_
    rintro e w1 ⟨rfl, hb1⟩
    rw [held2V]
    go_wp2
    go_ret
    exact ⟨retI (by rw [HV.out]), ((Below.refl _ _).alloc (Nat.le_refl _) _).trans (hb1.mono (by simp))⟩
set_option maxHeartbeats 400000 in
theorem implTruthVal (a : Int) (w : World) (h : a = -1 ∨ a = 0 ∨ a = 1 ∨ a = 2) :
    Calls Tryz.prog 218 #[.int .i64 a] w (OptPost (asOpt a) w) := by
  rcases h with rfl | rfl | rfl | rfl
  · have HV := Lib.hid (show asOpt (-1) = none by rfl)
    go_enter Tryz.func218, Tryz.ntmps218
    go_wp2
    exact bodyPost_ret (v := .tuple #[.agg #[.int .i64 0, .int .i64 0, .string ⟨#[]⟩], .bool false]) (by simp [results, Tryz.results218, go_sem]) rfl ⟨Vl.zero, by rw [HV.out]; rfl, by rw [HV.out]; simp, (Below.refl _ _).alloc (Nat.le_refl _) _⟩
  · have HV := Lib.hid (show asOpt 0 = some ⟨1, 0, ⟨#[]⟩⟩ by rfl)
    go_enter Tryz.func218, Tryz.ntmps218
    go_wp2
    exact bodyPost_ret (v := .tuple #[.agg #[.int .i64 1, .int .i64 0, .string ⟨#[]⟩], .bool true]) (by simp [results, Tryz.results218, go_sem]) rfl ⟨⟨1, 0, ⟨#[]⟩⟩, by rw [HV.out]; rfl, by rw [HV.out]; simp, (Below.refl _ _).alloc (Nat.le_refl _) _⟩
  · have HV := Lib.hid (show asOpt 1 = some ⟨1, 1, ⟨#[]⟩⟩ by rfl)
    go_enter Tryz.func218, Tryz.ntmps218
    go_wp2
    exact bodyPost_ret (v := .tuple #[.agg #[.int .i64 1, .int .i64 1, .string ⟨#[]⟩], .bool true]) (by simp [results, Tryz.results218, go_sem]) rfl ⟨⟨1, 1, ⟨#[]⟩⟩, by rw [HV.out]; rfl, by rw [HV.out]; simp, (Below.refl _ _).alloc (Nat.le_refl _) _⟩
  · have HV := Lib.hid (show asOpt 2 = some Vl.zero by rfl)
    go_enter Tryz.func218, Tryz.ntmps218
    go_wp2
    exact bodyPost_ret (v := .tuple #[.agg #[.int .i64 0, .int .i64 0, .string ⟨#[]⟩], .bool true]) (by simp [results, Tryz.results218, go_sem]) rfl ⟨Vl.zero, by rw [HV.out]; rfl, by rw [HV.out]; simp, (Below.refl _ _).alloc (Nat.le_refl _) _⟩
def Six (w : World) (b off : Nat) (x y : Vl) : Prop :=
  w.cell? ⟨b, off, none⟩ = some (.int .i64 x.k) ∧ w.cell? ⟨b, off + 1, none⟩ = some (.int .i64 x.n) ∧ w.cell? ⟨b, off + 2, none⟩ = some (.string x.s) ∧
  w.cell? ⟨b, off + 3, none⟩ = some (.int .i64 y.k) ∧ w.cell? ⟨b, off + 3 + 1, none⟩ = some (.int .i64 y.n) ∧ w.cell? ⟨b, off + 3 + 2, none⟩ = some (.string y.s)
def Tri (w : World) (b off : Nat) (x : Vl) : Prop :=
  w.cell? ⟨b, off, none⟩ = some (.int .i64 x.k) ∧ w.cell? ⟨b, off + 1, none⟩ = some (.int .i64 x.n) ∧ w.cell? ⟨b, off + 2, none⟩ = some (.string x.s)
set_option maxHeartbeats 1000000 in
theorem implEqualOf (b off cap : Nat) (x y : Vl) (w : World) (h : Six w b off x y) :
    Calls Tryz.prog 205 #[.slice (some ⟨b, off, none⟩) 2 cap] w (OptPost (op2 3 x y) w) := by
  have HV := Lib.hid (show op2 3 x y = asOpt (eq3 x.k x.n x.s y.k y.n y.s) by simp [op2])
  have hb0 := (Below.refl w.heap.size w).alloc (Nat.le_refl _) (.cells #[.int .i64 0, .int .i64 0, .string ⟨#[]⟩] 93)
  have rr := Row.new w 93 #[.int .i64 0, .int .i64 0, .string ⟨#[]⟩]
  have hne : w.heap.size ≠ b := Nat.ne_of_gt (cell_lt h.1)
  obtain ⟨c0, c1, c2, d0, d1, d2⟩ := keep6 h hb0
  clear h
  go_enter Tryz.func205, Tryz.ntmps205
  go_wp2_with fail
  generalize w.alloc (.cells #[.int .i64 0, .int .i64 0, .string ⟨#[]⟩] 93) = u at *
  have RR := Lib.hid rr
  clear rr
  go_region_held3 (fun w' => w'.cell? ⟨b, off, none⟩ = some (.int .i64 x.k) ∧ w'.cell? ⟨b, off + 1, none⟩ = some (.int .i64 x.n) ∧ w'.cell? ⟨b, off + 2, none⟩ = some (.string x.s) ∧ w'.cell? ⟨b, off + 3, none⟩ = some (.int .i64 y.k) ∧ w'.cell? ⟨b, off + 3 + 1, none⟩ = some (.int .i64 y.n) ∧ w'.cell? ⟨b, off + 3 + 2, none⟩ = some (.string y.s))
    (first | go_keep | with_reducible exact keep6s hne (by assumption) | exact keep6 (by assumption) hbZ | exact keep6 (by assumption) hbA)
    (first | (go_at_call 219; refine (implEqual3 x.k x.n x.s y.k y.n y.s _).mono ?_; rintro e yA ⟨rfl, hbA⟩) | (go_at_call 218; refine (implTruthVal _ _ (eq3_rng _ _ _ _ _ _)).mono ?_; rintro e yZ ⟨v, rfl, hv, hbZ⟩; have HW := Lib.hid hv; clear hv; obtain ⟨⟨z0, z1, z2⟩, ⟨z3, z4, z5⟩⟩ := ((RR.out.drew.below hbA).below hbZ).three))
  go_wp2
  have hz1 := hb0.drew.trans (hbA.mono hb0.size)
  have hz := hz1.trans (hbZ.mono hz1.size)
  refine bodyPost_ret (v := .tuple #[.agg #[.int .i64 v.k, .int .i64 v.n, .string v.s], .bool (asOpt (eq3 x.k x.n x.s y.k y.n y.s)).isSome]) (by simp [results, Tryz.results205, go_sem, z0, z1, z2]) rfl ⟨v, by rw [HV.out], by rw [HV.out]; exact HW.out, ?_⟩
  repeat (first | with_reducible exact hz | with_reducible refine Below.drew ?_ | with_reducible refine Below.setCell ?_ (by simp; omega) _ | with_reducible refine Below.setCell ?_ (by simp) _)
set_option maxHeartbeats 1000000 in
theorem implLessOf (b off cap : Nat) (x y : Vl) (w : World) (h : Six w b off x y) :
    Calls Tryz.prog 206 #[.slice (some ⟨b, off, none⟩) 2 cap] w (OptPost (op2 4 x y) w) := by
  have HV := Lib.hid (show op2 4 x y = asOpt (less3 x.k x.n x.s y.k y.n y.s) by simp [op2])
  have hb0 := (Below.refl w.heap.size w).alloc (Nat.le_refl _) (.cells #[.int .i64 0, .int .i64 0, .string ⟨#[]⟩] 93)
  have rr := Row.new w 93 #[.int .i64 0, .int .i64 0, .string ⟨#[]⟩]
  have hne : w.heap.size ≠ b := Nat.ne_of_gt (cell_lt h.1)
  obtain ⟨c0, c1, c2, d0, d1, d2⟩ := keep6 h hb0
  clear h
  go_enter Tryz.func206, Tryz.ntmps206
  go_wp2_with fail
  generalize w.alloc (.cells #[.int .i64 0, .int .i64 0, .string ⟨#[]⟩] 93) = u at *
  have RR := Lib.hid rr
  clear rr
  go_region_held3 (fun w' => w'.cell? ⟨b, off, none⟩ = some (.int .i64 x.k) ∧ w'.cell? ⟨b, off + 1, none⟩ = some (.int .i64 x.n) ∧ w'.cell? ⟨b, off + 2, none⟩ = some (.string x.s) ∧ w'.cell? ⟨b, off + 3, none⟩ = some (.int .i64 y.k) ∧ w'.cell? ⟨b, off + 3 + 1, none⟩ = some (.int .i64 y.n) ∧ w'.cell? ⟨b, off + 3 + 2, none⟩ = some (.string y.s))
    (first | go_keep | with_reducible exact keep6s hne (by assumption) | exact keep6 (by assumption) hbZ | exact keep6 (by assumption) hbA)
    (first | (go_at_call 220; refine (implLess3 x.k x.n x.s y.k y.n y.s _).mono ?_; rintro e yA ⟨rfl, hbA⟩) | (go_at_call 218; refine (implTruthVal _ _ (less3_rng _ _ _ _ _ _)).mono ?_; rintro e yZ ⟨v, rfl, hv, hbZ⟩; have HW := Lib.hid hv; clear hv; obtain ⟨⟨z0, z1, z2⟩, ⟨z3, z4, z5⟩⟩ := ((RR.out.drew.below hbA).below hbZ).three))
  go_wp2
  have hz1 := hb0.drew.trans (hbA.mono hb0.size)
  have hz := hz1.trans (hbZ.mono hz1.size)
  refine bodyPost_ret (v := .tuple #[.agg #[.int .i64 v.k, .int .i64 v.n, .string v.s], .bool (asOpt (less3 x.k x.n x.s y.k y.n y.s)).isSome]) (by simp [results, Tryz.results206, go_sem, z0, z1, z2]) rfl ⟨v, by rw [HV.out], by rw [HV.out]; exact HW.out, ?_⟩
  repeat (first | with_reducible exact hz | with_reducible refine Below.drew ?_ | with_reducible refine Below.setCell ?_ (by simp; omega) _ | with_reducible refine Below.setCell ?_ (by simp) _)
set_option maxHeartbeats 1000000 in
theorem implBothOf (b off cap : Nat) (x y : Vl) (w : World) (h : Six w b off x y) (hx : x.ok = true) (hy : y.ok = true) :
    Calls Tryz.prog 207 #[.slice (some ⟨b, off, none⟩) 2 cap] w (OptPost (op2 5 x y) w) := by
  have HV := Lib.hid (show op2 5 x y = asOpt (and3 (truOf x) (truOf y)) by simp [op2])
  have hb0 := (Below.refl w.heap.size w).alloc (Nat.le_refl _) (.cells #[.int .i64 0, .int .i64 0, .string ⟨#[]⟩] 93)
  have rr := Row.new w 93 #[.int .i64 0, .int .i64 0, .string ⟨#[]⟩]
  have hne : w.heap.size ≠ b := Nat.ne_of_gt (cell_lt h.1)
  obtain ⟨c0, c1, c2, d0, d1, d2⟩ := keep6 h hb0
  clear h
  go_enter Tryz.func207, Tryz.ntmps207
  go_wp2_with fail
  generalize w.alloc (.cells #[.int .i64 0, .int .i64 0, .string ⟨#[]⟩] 93) = u at *
  have RR := Lib.hid rr
  clear rr
  go_region_held3 (fun w' => w'.cell? ⟨b, off, none⟩ = some (.int .i64 x.k) ∧ w'.cell? ⟨b, off + 1, none⟩ = some (.int .i64 x.n) ∧ w'.cell? ⟨b, off + 2, none⟩ = some (.string x.s) ∧ w'.cell? ⟨b, off + 3, none⟩ = some (.int .i64 y.k) ∧ w'.cell? ⟨b, off + 3 + 1, none⟩ = some (.int .i64 y.n) ∧ w'.cell? ⟨b, off + 3 + 2, none⟩ = some (.string y.s))
    (first | go_keep | with_reducible exact keep6s hne (by assumption) | exact keep6 (by assumption) hbZ | exact keep6 (by assumption) hbB | exact keep6 (by assumption) hbA)
    (first | (go_at_call_of 154 (Value.agg #[.int .i64 x.k, .int .i64 x.n, .string x.s]); refine (implTruthOf x _ hx).mono ?_; rintro e yA ⟨rfl, hbA⟩) | (go_at_call_of 154 (Value.agg #[.int .i64 y.k, .int .i64 y.n, .string y.s]); refine (implTruthOf y _ hy).mono ?_; rintro e yB ⟨rfl, hbB⟩) | (go_at_call 221; refine (implAnd3 _ _ _).mono ?_; rintro e yC ⟨rfl, rfl⟩) | (go_at_call 218; refine (implTruthVal _ _ (and3_rng _ _)).mono ?_; rintro e yZ ⟨v, rfl, hv, hbZ⟩; have HW := Lib.hid hv; clear hv; obtain ⟨⟨z0, z1, z2⟩, ⟨z3, z4, z5⟩⟩ := (((RR.out.drew.below hbA).below hbB).below hbZ).three))
  go_wp2
  have hz1 := hb0.drew.trans (hbA.mono hb0.size)
  have hz2 := hz1.trans (hbB.mono hz1.size)
  have hz := hz2.trans (hbZ.mono hz2.size)
  refine bodyPost_ret (v := .tuple #[.agg #[.int .i64 v.k, .int .i64 v.n, .string v.s], .bool (asOpt (and3 (truOf x) (truOf y))).isSome]) (by simp [results, Tryz.results207, go_sem, z0, z1, z2]) rfl ⟨v, by rw [HV.out], by rw [HV.out]; exact HW.out, ?_⟩
  repeat (first | with_reducible exact hz | with_reducible refine Below.drew ?_ | with_reducible refine Below.setCell ?_ (by simp; omega) _ | with_reducible refine Below.setCell ?_ (by simp) _)
set_option maxHeartbeats 1000000 in
theorem implEitherOf (b off cap : Nat) (x y : Vl) (w : World) (h : Six w b off x y) (hx : x.ok = true) (hy : y.ok = true) :
    Calls Tryz.prog 208 #[.slice (some ⟨b, off, none⟩) 2 cap] w (OptPost (op2 6 x y) w) := by
  have HV := Lib.hid (show op2 6 x y = asOpt (or3 (truOf x) (truOf y)) by simp [op2])
  have hb0 := (Below.refl w.heap.size w).alloc (Nat.le_refl _) (.cells #[.int .i64 0, .int .i64 0, .string ⟨#[]⟩] 93)
  have rr := Row.new w 93 #[.int .i64 0, .int .i64 0, .string ⟨#[]⟩]
  have hne : w.heap.size ≠ b := Nat.ne_of_gt (cell_lt h.1)
  obtain ⟨c0, c1, c2, d0, d1, d2⟩ := keep6 h hb0
  clear h
  go_enter Tryz.func208, Tryz.ntmps208
  go_wp2_with fail
  generalize w.alloc (.cells #[.int .i64 0, .int .i64 0, .string ⟨#[]⟩] 93) = u at *
  have RR := Lib.hid rr
  clear rr
  go_region_held3 (fun w' => w'.cell? ⟨b, off, none⟩ = some (.int .i64 x.k) ∧ w'.cell? ⟨b, off + 1, none⟩ = some (.int .i64 x.n) ∧ w'.cell? ⟨b, off + 2, none⟩ = some (.string x.s) ∧ w'.cell? ⟨b, off + 3, none⟩ = some (.int .i64 y.k) ∧ w'.cell? ⟨b, off + 3 + 1, none⟩ = some (.int .i64 y.n) ∧ w'.cell? ⟨b, off + 3 + 2, none⟩ = some (.string y.s))
    (first | go_keep | with_reducible exact keep6s hne (by assumption) | exact keep6 (by assumption) hbZ | exact keep6 (by assumption) hbB | exact keep6 (by assumption) hbA)
    (first | (go_at_call_of 154 (Value.agg #[.int .i64 x.k, .int .i64 x.n, .string x.s]); refine (implTruthOf x _ hx).mono ?_; rintro e yA ⟨rfl, hbA⟩) | (go_at_call_of 154 (Value.agg #[.int .i64 y.k, .int .i64 y.n, .string y.s]); refine (implTruthOf y _ hy).mono ?_; rintro e yB ⟨rfl, hbB⟩) | (go_at_call 222; refine (implOr3 _ _ _).mono ?_; rintro e yC ⟨rfl, rfl⟩) | (go_at_call 218; refine (implTruthVal _ _ (or3_rng _ _)).mono ?_; rintro e yZ ⟨v, rfl, hv, hbZ⟩; have HW := Lib.hid hv; clear hv; obtain ⟨⟨z0, z1, z2⟩, ⟨z3, z4, z5⟩⟩ := (((RR.out.drew.below hbA).below hbB).below hbZ).three))
  go_wp2
  have hz1 := hb0.drew.trans (hbA.mono hb0.size)
  have hz2 := hz1.trans (hbB.mono hz1.size)
  have hz := hz2.trans (hbZ.mono hz2.size)
  refine bodyPost_ret (v := .tuple #[.agg #[.int .i64 v.k, .int .i64 v.n, .string v.s], .bool (asOpt (or3 (truOf x) (truOf y))).isSome]) (by simp [results, Tryz.results208, go_sem, z0, z1, z2]) rfl ⟨v, by rw [HV.out], by rw [HV.out]; exact HW.out, ?_⟩
  repeat (first | with_reducible exact hz | with_reducible refine Below.drew ?_ | with_reducible refine Below.setCell ?_ (by simp; omega) _ | with_reducible refine Below.setCell ?_ (by simp) _)
set_option maxHeartbeats 1000000 in
theorem implAdded (a b : Vl) (sg : Int) (w : World) (ha : a.ok = true) (hb : b.ok = true) (hsg : sg = 1 ∨ sg = -1) :
    Calls Tryz.prog 224 #[.agg #[.int .i64 a.k, .int .i64 a.n, .string a.s], .agg #[.int .i64 b.k, .int .i64 b.n, .string b.s], .int .i64 sg] w (OptPost (sumVl a b sg) w) := by
  obtain ⟨ra, rb, rr, hb0⟩ := boxes3 w a b 93
  have ka := Vl.kinds ha
  have kb := Vl.kinds hb
  clear ha hb
  obtain ⟨k, n, s⟩ := a
  obtain ⟨k', n', s'⟩ := b
  simp only at ka kb ra rb rr hb0
  by_cases a2 : k = 2
  · subst a2
    have HV := Lib.hid (show sumVl ⟨2, n, s⟩ ⟨k', n', s'⟩ sg = none by simp [sumVl])
    go_enter Tryz.func224, Tryz.ntmps224
    go_wp2
    exact bodyPost_ret (v := .tuple #[.agg #[.int .i64 0, .int .i64 0, .string ⟨#[]⟩], .bool false]) (by simp [results, Tryz.results224, go_sem]) rfl ⟨Vl.zero, by rw [HV.out]; rfl, by rw [HV.out]; simp, ((((Below.refl _ _).alloc (Nat.le_refl _) _).alloc (by simp) _).alloc (by simp; omega) _)⟩
  have a2' : (k == 2) = false := by simpa using a2
  by_cases b2 : k' = 2
  · subst b2
    have HV := Lib.hid (show sumVl ⟨k, n, s⟩ ⟨2, n', s'⟩ sg = none by simp [sumVl])
    go_enter Tryz.func224, Tryz.ntmps224
    go_wp2
    exact bodyPost_ret (v := .tuple #[.agg #[.int .i64 0, .int .i64 0, .string ⟨#[]⟩], .bool false]) (by simp [results, Tryz.results224, go_sem]) rfl ⟨Vl.zero, by rw [HV.out]; rfl, by rw [HV.out]; simp, ((((Below.refl _ _).alloc (Nat.le_refl _) _).alloc (by simp) _).alloc (by simp; omega) _)⟩
  have b2' : (k' == 2) = false := by simpa using b2
  by_cases a0 : k = 0
  · subst a0
    have HV := Lib.hid (show sumVl ⟨0, n, s⟩ ⟨k', n', s'⟩ sg = some Vl.zero by simp [sumVl, b2])
    go_enter Tryz.func224, Tryz.ntmps224
    go_wp2
    exact bodyPost_ret (v := .tuple #[.agg #[.int .i64 0, .int .i64 0, .string ⟨#[]⟩], .bool true]) (by simp [results, Tryz.results224, go_sem]) rfl ⟨Vl.zero, by rw [HV.out]; rfl, by rw [HV.out]; simp, ((((Below.refl _ _).alloc (Nat.le_refl _) _).alloc (by simp) _).alloc (by simp; omega) _)⟩
  have a0' : (k == 0) = false := by simpa using a0
  by_cases b0 : k' = 0
  · subst b0
    have HV := Lib.hid (show sumVl ⟨k, n, s⟩ ⟨0, n', s'⟩ sg = some Vl.zero by simp [sumVl, a2])
    go_enter Tryz.func224, Tryz.ntmps224
    go_wp2
    exact bodyPost_ret (v := .tuple #[.agg #[.int .i64 0, .int .i64 0, .string ⟨#[]⟩], .bool true]) (by simp [results, Tryz.results224, go_sem]) rfl ⟨Vl.zero, by rw [HV.out]; rfl, by rw [HV.out]; simp, ((((Below.refl _ _).alloc (Nat.le_refl _) _).alloc (by simp) _).alloc (by simp; omega) _)⟩
  have b0' : (k' == 0) = false := by simpa using b0
  obtain ⟨s1, s2⟩ := sum_wraps (x := n) (y := n') (sg := sg) (by omega) (by omega) hsg
  have HV := Lib.hid (show sumVl ⟨k, n, s⟩ ⟨k', n', s'⟩ sg = if -1000000000 ≤ n + sg * n' ∧ n + sg * n' ≤ 1000000000 then some ⟨1, n + sg * n', ⟨#[]⟩⟩ else none by simp [sumVl, a2, b2, a0, b0])
  by_cases hm : -1000000000 ≤ n + sg * n' ∧ n + sg * n' ≤ 1000000000
  · have HR := Lib.hid (show (decide (-1000000000 ≤ n + sg * n') && decide (n + sg * n' ≤ 1000000000)) = true by simp [hm.1, hm.2])
    have HN := Lib.hid (HV.out.trans (if_pos hm))
    clear hm HV
    go_enter Tryz.func224, Tryz.ntmps224
    go_wp2_with fail
    generalize n + sg * n' = m at *
    generalize ((w.alloc (.cells #[.int .i64 k, .int .i64 n, .string s] 93)).alloc (.cells #[.int .i64 k', .int .i64 n', .string s'] 93)).alloc (.cells #[.int .i64 0, .int .i64 0, .string ⟨#[]⟩] 93) = x at *
    refine (rightNum _ _).mono ?_
    rintro e w1 ⟨rfl, rfl⟩
    rw [HR.out]
    have S2 := Lib.hid s2
    clear s1 s2
    go_wp2_with fail
    refine (implValOfNum _ _).mono ?_
    rintro e w2 ⟨rfl, hb2⟩
    have hz := hb0.trans (hb2.mono hb0.size)
    obtain ⟨⟨z0, z1, z2⟩, ⟨z3, z4, z5⟩⟩ := (rr.below hb2).three
    clear ra rb rr
    go_wp2_with fail
    refine bodyPost_ret (v := .tuple #[.agg #[.int .i64 1, .int .i64 m, .string ⟨#[]⟩], .bool true]) (by simp [results, Tryz.results224, go_sem, z0, z1, z2, S2.out]) rfl ⟨⟨1, m, ⟨#[]⟩⟩, by rw [HN.out]; rfl, by rw [HN.out]; simp, ?_⟩
    repeat (first | with_reducible exact hz | with_reducible refine Below.drew ?_ | with_reducible refine Below.setCell ?_ (by simp; omega) _ | with_reducible refine Below.setCell ?_ (by simp) _)
  · have HR := Lib.hid (show (decide (-1000000000 ≤ n + sg * n') && decide (n + sg * n' ≤ 1000000000)) = false by simp; omega)
    have HN := Lib.hid (HV.out.trans (if_neg hm))
    clear hm HV
    go_enter Tryz.func224, Tryz.ntmps224
    go_wp2_with fail
    generalize n + sg * n' = m at *
    generalize ((w.alloc (.cells #[.int .i64 k, .int .i64 n, .string s] 93)).alloc (.cells #[.int .i64 k', .int .i64 n', .string s'] 93)).alloc (.cells #[.int .i64 0, .int .i64 0, .string ⟨#[]⟩] 93) = x at *
    refine (rightNum _ _).mono ?_
    rintro e w1 ⟨rfl, rfl⟩
    rw [HR.out]
    clear s1 s2
    obtain ⟨⟨z0, z1, z2⟩, ⟨z3, z4, z5⟩⟩ := rr.three
    have hz := hb0
    clear ra rb rr
    go_wp2_with fail
    refine bodyPost_ret (v := .tuple #[.agg #[.int .i64 0, .int .i64 0, .string ⟨#[]⟩], .bool false]) (by simp [results, Tryz.results224, go_sem, z0, z1, z2]) rfl ⟨Vl.zero, by rw [HN.out]; rfl, by rw [HN.out]; simp, ?_⟩
    repeat (first | with_reducible exact hz | with_reducible refine Below.drew ?_ | with_reducible refine Below.setCell ?_ (by simp; omega) _ | with_reducible refine Below.setCell ?_ (by simp) _)
set_option maxHeartbeats 1000000 in
theorem implSumOf (b off cap : Nat) (x y : Vl) (w : World) (h : Six w b off x y) (hx : x.ok = true) (hy : y.ok = true) :
    Calls Tryz.prog 211 #[.slice (some ⟨b, off, none⟩) 2 cap] w (OptPost (op2 9 x y) w) := by
  have HV := Lib.hid (show op2 9 x y = sumVl x y 1 by simp [op2])
  have hb0 := (Below.refl w.heap.size w).alloc (Nat.le_refl _) (.cells #[.int .i64 0, .int .i64 0, .string ⟨#[]⟩] 93)
  have rr := Row.new w 93 #[.int .i64 0, .int .i64 0, .string ⟨#[]⟩]
  have hne : w.heap.size ≠ b := Nat.ne_of_gt (cell_lt h.1)
  obtain ⟨c0, c1, c2, d0, d1, d2⟩ := keep6 h hb0
  clear h
  go_enter Tryz.func211, Tryz.ntmps211
  go_wp2_with fail
  generalize w.alloc (.cells #[.int .i64 0, .int .i64 0, .string ⟨#[]⟩] 93) = u at *
  have RR := Lib.hid rr
  clear rr
  go_region_held3 (fun w' => w'.cell? ⟨b, off, none⟩ = some (.int .i64 x.k) ∧ w'.cell? ⟨b, off + 1, none⟩ = some (.int .i64 x.n) ∧ w'.cell? ⟨b, off + 2, none⟩ = some (.string x.s) ∧ w'.cell? ⟨b, off + 3, none⟩ = some (.int .i64 y.k) ∧ w'.cell? ⟨b, off + 3 + 1, none⟩ = some (.int .i64 y.n) ∧ w'.cell? ⟨b, off + 3 + 2, none⟩ = some (.string y.s))
    (first | go_keep | with_reducible exact keep6s hne (by assumption) | exact keep6 (by assumption) hbZ)
    (first | (go_at_call 224; refine (implAdded x y 1 _ hx hy (by omega)).mono ?_; rintro e yZ ⟨v, rfl, hv, hbZ⟩; have HW := Lib.hid hv; clear hv; obtain ⟨⟨z0, z1, z2⟩, ⟨z3, z4, z5⟩⟩ := (RR.out.drew.below hbZ).three))
  go_wp2
  have hz := hb0.drew.trans (hbZ.mono hb0.size)
  refine bodyPost_ret (v := .tuple #[.agg #[.int .i64 v.k, .int .i64 v.n, .string v.s], .bool (sumVl x y 1).isSome]) (by simp [results, Tryz.results211, go_sem, z0, z1, z2]) rfl ⟨v, by rw [HV.out], by rw [HV.out]; exact HW.out, ?_⟩
  repeat (first | with_reducible exact hz | with_reducible refine Below.drew ?_ | with_reducible refine Below.setCell ?_ (by simp; omega) _ | with_reducible refine Below.setCell ?_ (by simp) _)
set_option maxHeartbeats 1000000 in
theorem implDifferenceOf (b off cap : Nat) (x y : Vl) (w : World) (h : Six w b off x y) (hx : x.ok = true) (hy : y.ok = true) :
    Calls Tryz.prog 212 #[.slice (some ⟨b, off, none⟩) 2 cap] w (OptPost (op2 10 x y) w) := by
  have HV := Lib.hid (show op2 10 x y = sumVl x y (-1) by simp [op2])
  have hb0 := (Below.refl w.heap.size w).alloc (Nat.le_refl _) (.cells #[.int .i64 0, .int .i64 0, .string ⟨#[]⟩] 93)
  have rr := Row.new w 93 #[.int .i64 0, .int .i64 0, .string ⟨#[]⟩]
  have hne : w.heap.size ≠ b := Nat.ne_of_gt (cell_lt h.1)
  obtain ⟨c0, c1, c2, d0, d1, d2⟩ := keep6 h hb0
  clear h
  go_enter Tryz.func212, Tryz.ntmps212
  go_wp2_with fail
  generalize w.alloc (.cells #[.int .i64 0, .int .i64 0, .string ⟨#[]⟩] 93) = u at *
  have RR := Lib.hid rr
  clear rr
  go_region_held3 (fun w' => w'.cell? ⟨b, off, none⟩ = some (.int .i64 x.k) ∧ w'.cell? ⟨b, off + 1, none⟩ = some (.int .i64 x.n) ∧ w'.cell? ⟨b, off + 2, none⟩ = some (.string x.s) ∧ w'.cell? ⟨b, off + 3, none⟩ = some (.int .i64 y.k) ∧ w'.cell? ⟨b, off + 3 + 1, none⟩ = some (.int .i64 y.n) ∧ w'.cell? ⟨b, off + 3 + 2, none⟩ = some (.string y.s))
    (first | go_keep | with_reducible exact keep6s hne (by assumption) | exact keep6 (by assumption) hbZ)
    (first | (go_at_call 224; refine (implAdded x y (-1) _ hx hy (by omega)).mono ?_; rintro e yZ ⟨v, rfl, hv, hbZ⟩; have HW := Lib.hid hv; clear hv; obtain ⟨⟨z0, z1, z2⟩, ⟨z3, z4, z5⟩⟩ := (RR.out.drew.below hbZ).three))
  go_wp2
  have hz := hb0.drew.trans (hbZ.mono hb0.size)
  refine bodyPost_ret (v := .tuple #[.agg #[.int .i64 v.k, .int .i64 v.n, .string v.s], .bool (sumVl x y (-1)).isSome]) (by simp [results, Tryz.results212, go_sem, z0, z1, z2]) rfl ⟨v, by rw [HV.out], by rw [HV.out]; exact HW.out, ?_⟩
  repeat (first | with_reducible exact hz | with_reducible refine Below.drew ?_ | with_reducible refine Below.setCell ?_ (by simp; omega) _ | with_reducible refine Below.setCell ?_ (by simp) _)
set_option maxHeartbeats 1000000 in
theorem implNotOf (b off cap : Nat) (x : Vl) (w : World) (h : Tri w b off x) (hx : x.ok = true) :
    Calls Tryz.prog 209 #[.slice (some ⟨b, off, none⟩) 1 cap] w (OptPost (op1 7 x) w) := by
  have HV := Lib.hid (show op1 7 x = asOpt (not3 (truOf x)) by simp [op1])
  have hb0 := (Below.refl w.heap.size w).alloc (Nat.le_refl _) (.cells #[.int .i64 0, .int .i64 0, .string ⟨#[]⟩] 93)
  have rr := Row.new w 93 #[.int .i64 0, .int .i64 0, .string ⟨#[]⟩]
  obtain ⟨c0, c1, c2⟩ := keep3 h hb0
  clear h
  go_enter Tryz.func209, Tryz.ntmps209
  go_wp2_with fail
  generalize w.alloc (.cells #[.int .i64 0, .int .i64 0, .string ⟨#[]⟩] 93) = u at *
  refine (implTruthOf x _ hx).mono ?_
  rintro e y1 ⟨rfl, hb1⟩
  have hz1 := hb0.trans (hb1.mono hb0.size)
  have rr1 := rr.below hb1
  clear rr
  go_wp2_with fail
  refine (implNot3 _ _).mono ?_
  rintro e y2 ⟨rfl, rfl⟩
  go_wp2_with fail
  refine (implTruthVal _ _ (not3_rng _)).mono ?_
  rintro e y2 ⟨v, rfl, hv, hb2⟩
  have HW := Lib.hid hv
  have hz := hz1.trans (hb2.mono hz1.size)
  obtain ⟨⟨z0, z1, z2⟩, ⟨z3, z4, z5⟩⟩ := (rr1.below hb2).three
  clear hv rr1
  go_wp2_with fail
  refine bodyPost_ret (v := .tuple #[.agg #[.int .i64 v.k, .int .i64 v.n, .string v.s], .bool (asOpt (not3 (truOf x))).isSome]) (by simp [results, Tryz.results209, go_sem, z0, z1, z2]) rfl ⟨v, by rw [HV.out], by rw [HV.out]; exact HW.out, ?_⟩
  repeat (first | with_reducible exact hz | with_reducible refine Below.drew ?_ | with_reducible refine Below.setCell ?_ (by simp; omega) _ | with_reducible refine Below.setCell ?_ (by simp) _)
set_option maxHeartbeats 1000000 in
theorem implNullOf (b off cap : Nat) (x : Vl) (w : World) (h : Tri w b off x) :
    Calls Tryz.prog 210 #[.slice (some ⟨b, off, none⟩) 1 cap] w (OptPost (op1 8 x) w) := by
  have HV := Lib.hid (show op1 8 x = asOpt (yes (x.k == 0)) by simp [op1])
  have hb0 := (Below.refl w.heap.size w).alloc (Nat.le_refl _) (.cells #[.int .i64 0, .int .i64 0, .string ⟨#[]⟩] 93)
  have rr := Row.new w 93 #[.int .i64 0, .int .i64 0, .string ⟨#[]⟩]
  obtain ⟨c0, c1, c2⟩ := keep3 h hb0
  clear h
  go_enter Tryz.func210, Tryz.ntmps210
  go_wp2_with fail
  generalize w.alloc (.cells #[.int .i64 0, .int .i64 0, .string ⟨#[]⟩] 93) = u at *
  refine (implTruthIf _ _).mono ?_
  rintro e y1 ⟨rfl, rfl⟩
  go_wp2_with fail
  refine (implTruthVal _ _ (by rcases yes01 (x.k == 0) with h | h <;> simp [h])).mono ?_
  rintro e y2 ⟨v, rfl, hv, hb2⟩
  have HW := Lib.hid hv
  have hz := hb0.trans (hb2.mono hb0.size)
  obtain ⟨⟨z0, z1, z2⟩, ⟨z3, z4, z5⟩⟩ := (rr.below hb2).three
  clear hv rr
  go_wp2_with fail
  refine bodyPost_ret (v := .tuple #[.agg #[.int .i64 v.k, .int .i64 v.n, .string v.s], .bool (asOpt (yes (x.k == 0))).isSome]) (by simp [results, Tryz.results210, go_sem, z0, z1, z2]) rfl ⟨v, by rw [HV.out], by rw [HV.out]; exact HW.out, ?_⟩
  repeat (first | with_reducible exact hz | with_reducible refine Below.drew ?_ | with_reducible refine Below.setCell ?_ (by simp; omega) _ | with_reducible refine Below.setCell ?_ (by simp) _)
set_option maxRecDepth 100000 in
set_option maxHeartbeats 1000000 in
theorem implTokValue1 (a0 a1 a2 args : Value) (t : Tk) (A : Option Addr) (cap : Nat) (row : List Vl) (w : World) (hr : Vals w A row.length row) (ht : t.k = 1) (hc : 0 ≤ t.c) (hc2 : t.c < row.length) :
    Calls Tryz.prog 191 #[.agg #[a0, a1, a2], .agg #[.int .i64 t.k, .int .i64 t.c, .int .i64 t.vk, .int .i64 t.vn, .string t.vs], .slice A row.length cap, args] w (OptPost row[t.c.toNat]? w) := by
  obtain ⟨k, c, vk, vn, vs⟩ := t
  simp only at ht hc hc2
  subst ht
  obtain ⟨j, rfl⟩ := Int.eq_ofNat_of_zero_le hc
  have hj : j < row.length := by omega
  obtain ⟨b, off, rfl, c0, c1, c2⟩ := hr.at_ hj
  have hb0 := (Below.refl w.heap.size w |>.alloc (Nat.le_refl _) (.cells #[a0, a1, a2] 263) |>.alloc (by simp only [size1]; omega) (.cells #[.int .i64 1, .int .i64 j, .int .i64 vk, .int .i64 vn, .string vs] 180) |>.alloc (by simp only [size1]; omega) (.cells #[.int .i64 0, .int .i64 0, .string ⟨#[]⟩] 93))
  obtain ⟨c0, c1, c2⟩ := keep3 ⟨c0, c1, c2⟩ hb0
  have rr := Row.newAt ((w.alloc (.cells #[a0, a1, a2] 263)).alloc (.cells #[.int .i64 1, .int .i64 j, .int .i64 vk, .int .i64 vn, .string vs] 180)) 93 #[.int .i64 0, .int .i64 0, .string ⟨#[]⟩] (w.heap.size + 1 + 1) (by simp only [size1])
  have HV := Lib.hid (show row[((j : Int)).toNat]? = some row[j] by simp [hj])
  go_enter Tryz.func191, Tryz.ntmps191
  go_wp2
  have hz := hb0
  refine bodyPost_ret (v := .tuple #[.agg #[.int .i64 row[j].k, .int .i64 row[j].n, .string row[j].s], .bool true]) (by simp [results, Tryz.results191, go_sem]) rfl ⟨row[j], by rw [HV.out]; rfl, by rw [HV.out]; simp, ?_⟩
  exact (((Below.refl w.heap.size w).alloc (Nat.le_refl _) _).alloc (by simp only [size1]; omega) _).alloc (by simp only [size1]; omega) _
set_option maxRecDepth 100000 in
set_option maxHeartbeats 1000000 in
theorem implTokValue2 (a0 a1 a2 args rows : Value) (t : Tk) (w : World) (ht : t.k = 2) :
    Calls Tryz.prog 191 #[.agg #[a0, a1, a2], .agg #[.int .i64 t.k, .int .i64 t.c, .int .i64 t.vk, .int .i64 t.vn, .string t.vs], rows, args] w (OptPost (some ⟨t.vk, t.vn, t.vs⟩) w) := by
  obtain ⟨k, c, vk, vn, vs⟩ := t
  simp only at ht
  subst ht
  go_enter Tryz.func191, Tryz.ntmps191
  go_wp2
  refine bodyPost_ret (v := .tuple #[.agg #[.int .i64 vk, .int .i64 vn, .string vs], .bool true]) (by simp [results, Tryz.results191, go_sem]) rfl ⟨⟨vk, vn, vs⟩, rfl, by simp, ?_⟩
  exact (((Below.refl w.heap.size w).alloc (Nat.le_refl _) _).alloc (by simp only [size1]; omega) _).alloc (by simp only [size1]; omega) _
set_option maxRecDepth 100000 in
set_option maxHeartbeats 1000000 in
theorem implTokValue3 (a0 a1 rows : Value) (t : Tk) (b off cap : Nat) (x y : Vl) (w : World) (ht : t.k = 3) (h : Six w b off x y) :
    Calls Tryz.prog 191 #[.agg #[a0, a1, .func (.func 205) #[] #[]], .agg #[.int .i64 t.k, .int .i64 t.c, .int .i64 t.vk, .int .i64 t.vn, .string t.vs], rows, .slice (some ⟨b, off, none⟩) 2 cap] w (OptPost (op2 3 x y) w) := by
  obtain ⟨k, c, vk, vn, vs⟩ := t
  simp only at ht
  subst ht
  have hb0 := (Below.refl w.heap.size w |>.alloc (Nat.le_refl _) (.cells #[a0, a1, .func (.func 205) #[] #[]] 263) |>.alloc (by simp only [size1]; omega) (.cells #[.int .i64 3, .int .i64 c, .int .i64 vk, .int .i64 vn, .string vs] 180) |>.alloc (by simp only [size1]; omega) (.cells #[.int .i64 0, .int .i64 0, .string ⟨#[]⟩] 93))
  have hs : Six (((w.alloc (.cells #[a0, a1, .func (.func 205) #[] #[]] 263)).alloc (.cells #[.int .i64 3, .int .i64 c, .int .i64 vk, .int .i64 vn, .string vs] 180)).alloc (.cells #[.int .i64 0, .int .i64 0, .string ⟨#[]⟩] 93)) b off x y := keep6 h hb0
  have rr := Row.newAt ((w.alloc (.cells #[a0, a1, .func (.func 205) #[] #[]] 263)).alloc (.cells #[.int .i64 3, .int .i64 c, .int .i64 vk, .int .i64 vn, .string vs] 180)) 93 #[.int .i64 0, .int .i64 0, .string ⟨#[]⟩] (w.heap.size + 1 + 1) (by simp only [size1])
  go_enter Tryz.func191, Tryz.ntmps191
  go_wp2_with fail
  generalize ((w.alloc (.cells #[a0, a1, .func (.func 205) #[] #[]] 263)).alloc (.cells #[.int .i64 3, .int .i64 c, .int .i64 vk, .int .i64 vn, .string vs] 180)).alloc (.cells #[.int .i64 0, .int .i64 0, .string ⟨#[]⟩] 93) = u at *
  refine (implEqualOf b off cap x y _ hs).mono ?_
  rintro e y1 ⟨v, rfl, hv, hb1⟩
  have HW := Lib.hid hv
  have hz := hb0.trans (hb1.mono hb0.size)
  obtain ⟨⟨z0, z1, z2⟩, ⟨z3, z4, z5⟩⟩ := (rr.below hb1).three
  clear hv rr hs h
  go_wp2_with fail
  refine bodyPost_ret (v := .tuple #[.agg #[.int .i64 v.k, .int .i64 v.n, .string v.s], .bool (op2 3 x y).isSome]) (by simp [results, Tryz.results191, go_sem, z0, z1, z2]) rfl ⟨v, rfl, HW.out, ?_⟩
  repeat (first | with_reducible exact hz | with_reducible refine Below.drew ?_ | with_reducible refine Below.setCell ?_ (by simp; omega) _ | with_reducible refine Below.setCell ?_ (by simp) _)
set_option maxRecDepth 100000 in
set_option maxHeartbeats 1000000 in
theorem implTokValue4 (a0 a1 rows : Value) (t : Tk) (b off cap : Nat) (x y : Vl) (w : World) (ht : t.k = 4) (h : Six w b off x y) :
    Calls Tryz.prog 191 #[.agg #[a0, a1, .func (.func 206) #[] #[]], .agg #[.int .i64 t.k, .int .i64 t.c, .int .i64 t.vk, .int .i64 t.vn, .string t.vs], rows, .slice (some ⟨b, off, none⟩) 2 cap] w (OptPost (op2 4 x y) w) := by
  obtain ⟨k, c, vk, vn, vs⟩ := t
  simp only at ht
  subst ht
  have hb0 := (Below.refl w.heap.size w |>.alloc (Nat.le_refl _) (.cells #[a0, a1, .func (.func 206) #[] #[]] 263) |>.alloc (by simp only [size1]; omega) (.cells #[.int .i64 4, .int .i64 c, .int .i64 vk, .int .i64 vn, .string vs] 180) |>.alloc (by simp only [size1]; omega) (.cells #[.int .i64 0, .int .i64 0, .string ⟨#[]⟩] 93))
  have hs : Six (((w.alloc (.cells #[a0, a1, .func (.func 206) #[] #[]] 263)).alloc (.cells #[.int .i64 4, .int .i64 c, .int .i64 vk, .int .i64 vn, .string vs] 180)).alloc (.cells #[.int .i64 0, .int .i64 0, .string ⟨#[]⟩] 93)) b off x y := keep6 h hb0
  have rr := Row.newAt ((w.alloc (.cells #[a0, a1, .func (.func 206) #[] #[]] 263)).alloc (.cells #[.int .i64 4, .int .i64 c, .int .i64 vk, .int .i64 vn, .string vs] 180)) 93 #[.int .i64 0, .int .i64 0, .string ⟨#[]⟩] (w.heap.size + 1 + 1) (by simp only [size1])
  go_enter Tryz.func191, Tryz.ntmps191
  go_wp2_with fail
  generalize ((w.alloc (.cells #[a0, a1, .func (.func 206) #[] #[]] 263)).alloc (.cells #[.int .i64 4, .int .i64 c, .int .i64 vk, .int .i64 vn, .string vs] 180)).alloc (.cells #[.int .i64 0, .int .i64 0, .string ⟨#[]⟩] 93) = u at *
  refine (implLessOf b off cap x y _ hs).mono ?_
  rintro e y1 ⟨v, rfl, hv, hb1⟩
  have HW := Lib.hid hv
  have hz := hb0.trans (hb1.mono hb0.size)
  obtain ⟨⟨z0, z1, z2⟩, ⟨z3, z4, z5⟩⟩ := (rr.below hb1).three
  clear hv rr hs h
  go_wp2_with fail
  refine bodyPost_ret (v := .tuple #[.agg #[.int .i64 v.k, .int .i64 v.n, .string v.s], .bool (op2 4 x y).isSome]) (by simp [results, Tryz.results191, go_sem, z0, z1, z2]) rfl ⟨v, rfl, HW.out, ?_⟩
  repeat (first | with_reducible exact hz | with_reducible refine Below.drew ?_ | with_reducible refine Below.setCell ?_ (by simp; omega) _ | with_reducible refine Below.setCell ?_ (by simp) _)
set_option maxRecDepth 100000 in
set_option maxHeartbeats 1000000 in
theorem implTokValue5 (a0 a1 rows : Value) (t : Tk) (b off cap : Nat) (x y : Vl) (w : World) (ht : t.k = 5) (h : Six w b off x y) (hx : x.ok = true) (hy : y.ok = true) :
    Calls Tryz.prog 191 #[.agg #[a0, a1, .func (.func 207) #[] #[]], .agg #[.int .i64 t.k, .int .i64 t.c, .int .i64 t.vk, .int .i64 t.vn, .string t.vs], rows, .slice (some ⟨b, off, none⟩) 2 cap] w (OptPost (op2 5 x y) w) := by
  obtain ⟨k, c, vk, vn, vs⟩ := t
  simp only at ht
  subst ht
  have hb0 := (Below.refl w.heap.size w |>.alloc (Nat.le_refl _) (.cells #[a0, a1, .func (.func 207) #[] #[]] 263) |>.alloc (by simp only [size1]; omega) (.cells #[.int .i64 5, .int .i64 c, .int .i64 vk, .int .i64 vn, .string vs] 180) |>.alloc (by simp only [size1]; omega) (.cells #[.int .i64 0, .int .i64 0, .string ⟨#[]⟩] 93))
  have hs : Six (((w.alloc (.cells #[a0, a1, .func (.func 207) #[] #[]] 263)).alloc (.cells #[.int .i64 5, .int .i64 c, .int .i64 vk, .int .i64 vn, .string vs] 180)).alloc (.cells #[.int .i64 0, .int .i64 0, .string ⟨#[]⟩] 93)) b off x y := keep6 h hb0
  have rr := Row.newAt ((w.alloc (.cells #[a0, a1, .func (.func 207) #[] #[]] 263)).alloc (.cells #[.int .i64 5, .int .i64 c, .int .i64 vk, .int .i64 vn, .string vs] 180)) 93 #[.int .i64 0, .int .i64 0, .string ⟨#[]⟩] (w.heap.size + 1 + 1) (by simp only [size1])
  go_enter Tryz.func191, Tryz.ntmps191
  go_wp2_with fail
  generalize ((w.alloc (.cells #[a0, a1, .func (.func 207) #[] #[]] 263)).alloc (.cells #[.int .i64 5, .int .i64 c, .int .i64 vk, .int .i64 vn, .string vs] 180)).alloc (.cells #[.int .i64 0, .int .i64 0, .string ⟨#[]⟩] 93) = u at *
  refine (implBothOf b off cap x y _ hs hx hy).mono ?_
  rintro e y1 ⟨v, rfl, hv, hb1⟩
  have HW := Lib.hid hv
  have hz := hb0.trans (hb1.mono hb0.size)
  obtain ⟨⟨z0, z1, z2⟩, ⟨z3, z4, z5⟩⟩ := (rr.below hb1).three
  clear hv rr hs h
  go_wp2_with fail
  refine bodyPost_ret (v := .tuple #[.agg #[.int .i64 v.k, .int .i64 v.n, .string v.s], .bool (op2 5 x y).isSome]) (by simp [results, Tryz.results191, go_sem, z0, z1, z2]) rfl ⟨v, rfl, HW.out, ?_⟩
  repeat (first | with_reducible exact hz | with_reducible refine Below.drew ?_ | with_reducible refine Below.setCell ?_ (by simp; omega) _ | with_reducible refine Below.setCell ?_ (by simp) _)
set_option maxRecDepth 100000 in
set_option maxHeartbeats 1000000 in
theorem implTokValue6 (a0 a1 rows : Value) (t : Tk) (b off cap : Nat) (x y : Vl) (w : World) (ht : t.k = 6) (h : Six w b off x y) (hx : x.ok = true) (hy : y.ok = true) :
    Calls Tryz.prog 191 #[.agg #[a0, a1, .func (.func 208) #[] #[]], .agg #[.int .i64 t.k, .int .i64 t.c, .int .i64 t.vk, .int .i64 t.vn, .string t.vs], rows, .slice (some ⟨b, off, none⟩) 2 cap] w (OptPost (op2 6 x y) w) := by
  obtain ⟨k, c, vk, vn, vs⟩ := t
  simp only at ht
  subst ht
  have hb0 := (Below.refl w.heap.size w |>.alloc (Nat.le_refl _) (.cells #[a0, a1, .func (.func 208) #[] #[]] 263) |>.alloc (by simp only [size1]; omega) (.cells #[.int .i64 6, .int .i64 c, .int .i64 vk, .int .i64 vn, .string vs] 180) |>.alloc (by simp only [size1]; omega) (.cells #[.int .i64 0, .int .i64 0, .string ⟨#[]⟩] 93))
  have hs : Six (((w.alloc (.cells #[a0, a1, .func (.func 208) #[] #[]] 263)).alloc (.cells #[.int .i64 6, .int .i64 c, .int .i64 vk, .int .i64 vn, .string vs] 180)).alloc (.cells #[.int .i64 0, .int .i64 0, .string ⟨#[]⟩] 93)) b off x y := keep6 h hb0
  have rr := Row.newAt ((w.alloc (.cells #[a0, a1, .func (.func 208) #[] #[]] 263)).alloc (.cells #[.int .i64 6, .int .i64 c, .int .i64 vk, .int .i64 vn, .string vs] 180)) 93 #[.int .i64 0, .int .i64 0, .string ⟨#[]⟩] (w.heap.size + 1 + 1) (by simp only [size1])
  go_enter Tryz.func191, Tryz.ntmps191
  go_wp2_with fail
  generalize ((w.alloc (.cells #[a0, a1, .func (.func 208) #[] #[]] 263)).alloc (.cells #[.int .i64 6, .int .i64 c, .int .i64 vk, .int .i64 vn, .string vs] 180)).alloc (.cells #[.int .i64 0, .int .i64 0, .string ⟨#[]⟩] 93) = u at *
  refine (implEitherOf b off cap x y _ hs hx hy).mono ?_
  rintro e y1 ⟨v, rfl, hv, hb1⟩
  have HW := Lib.hid hv
  have hz := hb0.trans (hb1.mono hb0.size)
  obtain ⟨⟨z0, z1, z2⟩, ⟨z3, z4, z5⟩⟩ := (rr.below hb1).three
  clear hv rr hs h
  go_wp2_with fail
  refine bodyPost_ret (v := .tuple #[.agg #[.int .i64 v.k, .int .i64 v.n, .string v.s], .bool (op2 6 x y).isSome]) (by simp [results, Tryz.results191, go_sem, z0, z1, z2]) rfl ⟨v, rfl, HW.out, ?_⟩
  repeat (first | with_reducible exact hz | with_reducible refine Below.drew ?_ | with_reducible refine Below.setCell ?_ (by simp; omega) _ | with_reducible refine Below.setCell ?_ (by simp) _)
set_option maxRecDepth 100000 in
set_option maxHeartbeats 1000000 in
theorem implTokValue7 (a0 a1 rows : Value) (t : Tk) (b off cap : Nat) (x : Vl) (w : World) (ht : t.k = 7) (h : Tri w b off x) (hx : x.ok = true) :
    Calls Tryz.prog 191 #[.agg #[a0, a1, .func (.func 209) #[] #[]], .agg #[.int .i64 t.k, .int .i64 t.c, .int .i64 t.vk, .int .i64 t.vn, .string t.vs], rows, .slice (some ⟨b, off, none⟩) 1 cap] w (OptPost (op1 7 x) w) := by
  obtain ⟨k, c, vk, vn, vs⟩ := t
  simp only at ht
  subst ht
  have hb0 := (Below.refl w.heap.size w |>.alloc (Nat.le_refl _) (.cells #[a0, a1, .func (.func 209) #[] #[]] 263) |>.alloc (by simp only [size1]; omega) (.cells #[.int .i64 7, .int .i64 c, .int .i64 vk, .int .i64 vn, .string vs] 180) |>.alloc (by simp only [size1]; omega) (.cells #[.int .i64 0, .int .i64 0, .string ⟨#[]⟩] 93))
  have hs : Tri (((w.alloc (.cells #[a0, a1, .func (.func 209) #[] #[]] 263)).alloc (.cells #[.int .i64 7, .int .i64 c, .int .i64 vk, .int .i64 vn, .string vs] 180)).alloc (.cells #[.int .i64 0, .int .i64 0, .string ⟨#[]⟩] 93)) b off x := keep3 h hb0
  have rr := Row.newAt ((w.alloc (.cells #[a0, a1, .func (.func 209) #[] #[]] 263)).alloc (.cells #[.int .i64 7, .int .i64 c, .int .i64 vk, .int .i64 vn, .string vs] 180)) 93 #[.int .i64 0, .int .i64 0, .string ⟨#[]⟩] (w.heap.size + 1 + 1) (by simp only [size1])
  go_enter Tryz.func191, Tryz.ntmps191
  go_wp2_with fail
  generalize ((w.alloc (.cells #[a0, a1, .func (.func 209) #[] #[]] 263)).alloc (.cells #[.int .i64 7, .int .i64 c, .int .i64 vk, .int .i64 vn, .string vs] 180)).alloc (.cells #[.int .i64 0, .int .i64 0, .string ⟨#[]⟩] 93) = u at *
  refine (implNotOf b off cap x _ hs hx).mono ?_
  rintro e y1 ⟨v, rfl, hv, hb1⟩
  have HW := Lib.hid hv
  have hz := hb0.trans (hb1.mono hb0.size)
  obtain ⟨⟨z0, z1, z2⟩, ⟨z3, z4, z5⟩⟩ := (rr.below hb1).three
  clear hv rr hs h
  go_wp2_with fail
  refine bodyPost_ret (v := .tuple #[.agg #[.int .i64 v.k, .int .i64 v.n, .string v.s], .bool (op1 7 x).isSome]) (by simp [results, Tryz.results191, go_sem, z0, z1, z2]) rfl ⟨v, rfl, HW.out, ?_⟩
  repeat (first | with_reducible exact hz | with_reducible refine Below.drew ?_ | with_reducible refine Below.setCell ?_ (by simp; omega) _ | with_reducible refine Below.setCell ?_ (by simp) _)
set_option maxRecDepth 100000 in
set_option maxHeartbeats 1000000 in
theorem implTokValue8 (a0 a1 rows : Value) (t : Tk) (b off cap : Nat) (x : Vl) (w : World) (ht : t.k = 8) (h : Tri w b off x) :
    Calls Tryz.prog 191 #[.agg #[a0, a1, .func (.func 210) #[] #[]], .agg #[.int .i64 t.k, .int .i64 t.c, .int .i64 t.vk, .int .i64 t.vn, .string t.vs], rows, .slice (some ⟨b, off, none⟩) 1 cap] w (OptPost (op1 8 x) w) := by
  obtain ⟨k, c, vk, vn, vs⟩ := t
  simp only at ht
  subst ht
  have hb0 := (Below.refl w.heap.size w |>.alloc (Nat.le_refl _) (.cells #[a0, a1, .func (.func 210) #[] #[]] 263) |>.alloc (by simp only [size1]; omega) (.cells #[.int .i64 8, .int .i64 c, .int .i64 vk, .int .i64 vn, .string vs] 180) |>.alloc (by simp only [size1]; omega) (.cells #[.int .i64 0, .int .i64 0, .string ⟨#[]⟩] 93))
  have hs : Tri (((w.alloc (.cells #[a0, a1, .func (.func 210) #[] #[]] 263)).alloc (.cells #[.int .i64 8, .int .i64 c, .int .i64 vk, .int .i64 vn, .string vs] 180)).alloc (.cells #[.int .i64 0, .int .i64 0, .string ⟨#[]⟩] 93)) b off x := keep3 h hb0
  have rr := Row.newAt ((w.alloc (.cells #[a0, a1, .func (.func 210) #[] #[]] 263)).alloc (.cells #[.int .i64 8, .int .i64 c, .int .i64 vk, .int .i64 vn, .string vs] 180)) 93 #[.int .i64 0, .int .i64 0, .string ⟨#[]⟩] (w.heap.size + 1 + 1) (by simp only [size1])
  go_enter Tryz.func191, Tryz.ntmps191
  go_wp2_with fail
  generalize ((w.alloc (.cells #[a0, a1, .func (.func 210) #[] #[]] 263)).alloc (.cells #[.int .i64 8, .int .i64 c, .int .i64 vk, .int .i64 vn, .string vs] 180)).alloc (.cells #[.int .i64 0, .int .i64 0, .string ⟨#[]⟩] 93) = u at *
  refine (implNullOf b off cap x _ hs).mono ?_
  rintro e y1 ⟨v, rfl, hv, hb1⟩
  have HW := Lib.hid hv
  have hz := hb0.trans (hb1.mono hb0.size)
  obtain ⟨⟨z0, z1, z2⟩, ⟨z3, z4, z5⟩⟩ := (rr.below hb1).three
  clear hv rr hs h
  go_wp2_with fail
  refine bodyPost_ret (v := .tuple #[.agg #[.int .i64 v.k, .int .i64 v.n, .string v.s], .bool (op1 8 x).isSome]) (by simp [results, Tryz.results191, go_sem, z0, z1, z2]) rfl ⟨v, rfl, HW.out, ?_⟩
  repeat (first | with_reducible exact hz | with_reducible refine Below.drew ?_ | with_reducible refine Below.setCell ?_ (by simp; omega) _ | with_reducible refine Below.setCell ?_ (by simp) _)
set_option maxRecDepth 100000 in
set_option maxHeartbeats 1000000 in
theorem implTokValue9 (a0 a1 rows : Value) (t : Tk) (b off cap : Nat) (x y : Vl) (w : World) (ht : t.k = 9) (h : Six w b off x y) (hx : x.ok = true) (hy : y.ok = true) :
    Calls Tryz.prog 191 #[.agg #[a0, a1, .func (.func 211) #[] #[]], .agg #[.int .i64 t.k, .int .i64 t.c, .int .i64 t.vk, .int .i64 t.vn, .string t.vs], rows, .slice (some ⟨b, off, none⟩) 2 cap] w (OptPost (op2 9 x y) w) := by
  obtain ⟨k, c, vk, vn, vs⟩ := t
  simp only at ht
  subst ht
  have hb0 := (Below.refl w.heap.size w |>.alloc (Nat.le_refl _) (.cells #[a0, a1, .func (.func 211) #[] #[]] 263) |>.alloc (by simp only [size1]; omega) (.cells #[.int .i64 9, .int .i64 c, .int .i64 vk, .int .i64 vn, .string vs] 180) |>.alloc (by simp only [size1]; omega) (.cells #[.int .i64 0, .int .i64 0, .string ⟨#[]⟩] 93))
  have hs : Six (((w.alloc (.cells #[a0, a1, .func (.func 211) #[] #[]] 263)).alloc (.cells #[.int .i64 9, .int .i64 c, .int .i64 vk, .int .i64 vn, .string vs] 180)).alloc (.cells #[.int .i64 0, .int .i64 0, .string ⟨#[]⟩] 93)) b off x y := keep6 h hb0
  have rr := Row.newAt ((w.alloc (.cells #[a0, a1, .func (.func 211) #[] #[]] 263)).alloc (.cells #[.int .i64 9, .int .i64 c, .int .i64 vk, .int .i64 vn, .string vs] 180)) 93 #[.int .i64 0, .int .i64 0, .string ⟨#[]⟩] (w.heap.size + 1 + 1) (by simp only [size1])
  go_enter Tryz.func191, Tryz.ntmps191
  go_wp2_with fail
  generalize ((w.alloc (.cells #[a0, a1, .func (.func 211) #[] #[]] 263)).alloc (.cells #[.int .i64 9, .int .i64 c, .int .i64 vk, .int .i64 vn, .string vs] 180)).alloc (.cells #[.int .i64 0, .int .i64 0, .string ⟨#[]⟩] 93) = u at *
  refine (implSumOf b off cap x y _ hs hx hy).mono ?_
  rintro e y1 ⟨v, rfl, hv, hb1⟩
  have HW := Lib.hid hv
  have hz := hb0.trans (hb1.mono hb0.size)
  obtain ⟨⟨z0, z1, z2⟩, ⟨z3, z4, z5⟩⟩ := (rr.below hb1).three
  clear hv rr hs h
  go_wp2_with fail
  refine bodyPost_ret (v := .tuple #[.agg #[.int .i64 v.k, .int .i64 v.n, .string v.s], .bool (op2 9 x y).isSome]) (by simp [results, Tryz.results191, go_sem, z0, z1, z2]) rfl ⟨v, rfl, HW.out, ?_⟩
  repeat (first | with_reducible exact hz | with_reducible refine Below.drew ?_ | with_reducible refine Below.setCell ?_ (by simp; omega) _ | with_reducible refine Below.setCell ?_ (by simp) _)
set_option maxRecDepth 100000 in
set_option maxHeartbeats 1000000 in
theorem implTokValue10 (a0 a1 rows : Value) (t : Tk) (b off cap : Nat) (x y : Vl) (w : World) (ht : t.k = 10) (h : Six w b off x y) (hx : x.ok = true) (hy : y.ok = true) :
    Calls Tryz.prog 191 #[.agg #[a0, a1, .func (.func 212) #[] #[]], .agg #[.int .i64 t.k, .int .i64 t.c, .int .i64 t.vk, .int .i64 t.vn, .string t.vs], rows, .slice (some ⟨b, off, none⟩) 2 cap] w (OptPost (op2 10 x y) w) := by
  obtain ⟨k, c, vk, vn, vs⟩ := t
  simp only at ht
  subst ht
  have hb0 := (Below.refl w.heap.size w |>.alloc (Nat.le_refl _) (.cells #[a0, a1, .func (.func 212) #[] #[]] 263) |>.alloc (by simp only [size1]; omega) (.cells #[.int .i64 10, .int .i64 c, .int .i64 vk, .int .i64 vn, .string vs] 180) |>.alloc (by simp only [size1]; omega) (.cells #[.int .i64 0, .int .i64 0, .string ⟨#[]⟩] 93))
  have hs : Six (((w.alloc (.cells #[a0, a1, .func (.func 212) #[] #[]] 263)).alloc (.cells #[.int .i64 10, .int .i64 c, .int .i64 vk, .int .i64 vn, .string vs] 180)).alloc (.cells #[.int .i64 0, .int .i64 0, .string ⟨#[]⟩] 93)) b off x y := keep6 h hb0
  have rr := Row.newAt ((w.alloc (.cells #[a0, a1, .func (.func 212) #[] #[]] 263)).alloc (.cells #[.int .i64 10, .int .i64 c, .int .i64 vk, .int .i64 vn, .string vs] 180)) 93 #[.int .i64 0, .int .i64 0, .string ⟨#[]⟩] (w.heap.size + 1 + 1) (by simp only [size1])
  go_enter Tryz.func191, Tryz.ntmps191
  go_wp2_with fail
  generalize ((w.alloc (.cells #[a0, a1, .func (.func 212) #[] #[]] 263)).alloc (.cells #[.int .i64 10, .int .i64 c, .int .i64 vk, .int .i64 vn, .string vs] 180)).alloc (.cells #[.int .i64 0, .int .i64 0, .string ⟨#[]⟩] 93) = u at *
  refine (implDifferenceOf b off cap x y _ hs hx hy).mono ?_
  rintro e y1 ⟨v, rfl, hv, hb1⟩
  have HW := Lib.hid hv
  have hz := hb0.trans (hb1.mono hb0.size)
  obtain ⟨⟨z0, z1, z2⟩, ⟨z3, z4, z5⟩⟩ := (rr.below hb1).three
  clear hv rr hs h
  go_wp2_with fail
  refine bodyPost_ret (v := .tuple #[.agg #[.int .i64 v.k, .int .i64 v.n, .string v.s], .bool (op2 10 x y).isSome]) (by simp [results, Tryz.results191, go_sem, z0, z1, z2]) rfl ⟨v, rfl, HW.out, ?_⟩
  repeat (first | with_reducible exact hz | with_reducible refine Below.drew ?_ | with_reducible refine Below.setCell ?_ (by simp; omega) _ | with_reducible refine Below.setCell ?_ (by simp) _)
theorem Vals.six {w : World} {B : Option Addr} {x y : Vl} (h : Vals w B 2 [x, y]) : ∃ b off, B = some ⟨b, off, none⟩ ∧ Six w b off x y := by
  obtain ⟨b, off, rfl, c0, c1, c2⟩ := h.at_ (i := 0) (by simp)
  obtain ⟨b', off', e, d0, d1, d2⟩ := h.at_ (i := 1) (by simp)
  cases e
  exact ⟨b, off, rfl, by simpa using c0, by simpa using c1, by simpa using c2, by simpa using d0, by simpa using d1, by simpa using d2⟩
theorem Vals.tri {w : World} {B : Option Addr} {x : Vl} (h : Vals w B 1 [x]) : ∃ b off, B = some ⟨b, off, none⟩ ∧ Tri w b off x := by
  obtain ⟨b, off, rfl, c0, c1, c2⟩ := h.at_ (i := 0) (by simp)
  exact ⟨b, off, rfl, by simpa using c0, by simpa using c1, by simpa using c2⟩
theorem implTokValue (kk : Nat) (hk : 1 ≤ kk ∧ kk ≤ 10) (a0 a1 a2 : Value) (h2 : opsCells[kk * 3 + 2]? = some a2) (t : Tk) (ht : t.k = kk) (A B : Option Addr) (cap capB : Nat) (row xs : List Vl) (w : World)
    (htok : tokB t row.length = true) (hr : Vals w A row.length row) (hx : Vals w B (takes kk) xs) (hok : ∀ v ∈ xs, v.ok = true) :
    Calls Tryz.prog 191 #[.agg #[a0, a1, a2], .agg #[.int .i64 t.k, .int .i64 t.c, .int .i64 t.vk, .int .i64 t.vn, .string t.vs], .slice A row.length cap, .slice B (takes kk) capB] w (OptPost (tokVal row t xs) w) := by
  have hl := hx.len
  have hcases : kk = 1 ∨ kk = 2 ∨ kk = 3 ∨ kk = 4 ∨ kk = 5 ∨ kk = 6 ∨ kk = 7 ∨ kk = 8 ∨ kk = 9 ∨ kk = 10 := by omega
  rcases hcases with rfl | rfl | rfl | rfl | rfl | rfl | rfl | rfl | rfl | rfl
  · have ht' : t.k = 1 := ht
    have e : tokVal row t xs = row[t.c.toNat]? := by simp [tokVal, ht']
    rw [e]
    simp only [tokB, ht', if_true, Bool.and_eq_true, decide_eq_true_eq] at htok
    exact implTokValue1 _ _ _ _ t A cap row w hr ht' htok.1 htok.2.1
  · have ht' : t.k = 2 := ht
    have e : tokVal row t xs = some ⟨t.vk, t.vn, t.vs⟩ := by simp [tokVal, ht']
    rw [e]
    exact implTokValue2 _ _ _ _ _ t w ht'
  · have ht' : t.k = 3 := ht
    have ea : a2 = .func (.func 205) #[] #[] := (Option.some.inj (h2.symm.trans rfl))
    subst ea
    match xs, hl with
    | [x, y], _ =>
      have e : tokVal row t [x, y] = op2 3 x y := by simp [tokVal, ht', opOf]
      rw [e]
      obtain ⟨b, off, rfl, h6⟩ := Vals.six (w := w) (B := B) hx
      exact implTokValue3 _ _ _ t b off capB x y w ht' h6
  · have ht' : t.k = 4 := ht
    have ea : a2 = .func (.func 206) #[] #[] := (Option.some.inj (h2.symm.trans rfl))
    subst ea
    match xs, hl with
    | [x, y], _ =>
      have e : tokVal row t [x, y] = op2 4 x y := by simp [tokVal, ht', opOf]
      rw [e]
      obtain ⟨b, off, rfl, h6⟩ := Vals.six (w := w) (B := B) hx
      exact implTokValue4 _ _ _ t b off capB x y w ht' h6
  · have ht' : t.k = 5 := ht
    have ea : a2 = .func (.func 207) #[] #[] := (Option.some.inj (h2.symm.trans rfl))
    subst ea
    match xs, hl with
    | [x, y], _ =>
      have e : tokVal row t [x, y] = op2 5 x y := by simp [tokVal, ht', opOf]
      rw [e]
      obtain ⟨b, off, rfl, h6⟩ := Vals.six (w := w) (B := B) hx
      exact implTokValue5 _ _ _ t b off capB x y w ht' h6 (hok x (by simp)) (hok y (by simp))
  · have ht' : t.k = 6 := ht
    have ea : a2 = .func (.func 208) #[] #[] := (Option.some.inj (h2.symm.trans rfl))
    subst ea
    match xs, hl with
    | [x, y], _ =>
      have e : tokVal row t [x, y] = op2 6 x y := by simp [tokVal, ht', opOf]
      rw [e]
      obtain ⟨b, off, rfl, h6⟩ := Vals.six (w := w) (B := B) hx
      exact implTokValue6 _ _ _ t b off capB x y w ht' h6 (hok x (by simp)) (hok y (by simp))
  · have ht' : t.k = 7 := ht
    have ea : a2 = .func (.func 209) #[] #[] := (Option.some.inj (h2.symm.trans rfl))
    subst ea
    match xs, hl with
    | [x], _ =>
      have e : tokVal row t [x] = op1 7 x := by simp [tokVal, ht', opOf]
      rw [e]
      obtain ⟨b, off, rfl, h6⟩ := Vals.tri (w := w) (B := B) hx
      exact implTokValue7 _ _ _ t b off capB x w ht' h6 (hok x (by simp))
  · have ht' : t.k = 8 := ht
    have ea : a2 = .func (.func 210) #[] #[] := (Option.some.inj (h2.symm.trans rfl))
    subst ea
    match xs, hl with
    | [x], _ =>
      have e : tokVal row t [x] = op1 8 x := by simp [tokVal, ht', opOf]
      rw [e]
      obtain ⟨b, off, rfl, h6⟩ := Vals.tri (w := w) (B := B) hx
      exact implTokValue8 _ _ _ t b off capB x w ht' h6
  · have ht' : t.k = 9 := ht
    have ea : a2 = .func (.func 211) #[] #[] := (Option.some.inj (h2.symm.trans rfl))
    subst ea
    match xs, hl with
    | [x, y], _ =>
      have e : tokVal row t [x, y] = op2 9 x y := by simp [tokVal, ht', opOf]
      rw [e]
      obtain ⟨b, off, rfl, h6⟩ := Vals.six (w := w) (B := B) hx
      exact implTokValue9 _ _ _ t b off capB x y w ht' h6 (hok x (by simp)) (hok y (by simp))
  · have ht' : t.k = 10 := ht
    have ea : a2 = .func (.func 212) #[] #[] := (Option.some.inj (h2.symm.trans rfl))
    subst ea
    match xs, hl with
    | [x, y], _ =>
      have e : tokVal row t [x, y] = op2 10 x y := by simp [tokVal, ht', opOf]
      rw [e]
      obtain ⟨b, off, rfl, h6⟩ := Vals.six (w := w) (B := B) hx
      exact implTokValue10 _ _ _ t b off capB x y w ht' h6 (hok x (by simp)) (hok y (by simp))
set_option maxRecDepth 100000 in
theorem implSeenOk (A : Option Addr) (n cap : Nat) (row : List Vl) (w : World) (h : Vals w A n row) (hn : n ≤ maxLen) :
    Calls Tryz.prog 121 #[.slice A n cap] w fun e w' => e = .returned (.bool (rowB row)) ∧ Below w.heap.size w w' := by
  unfold maxLen at hn
  obtain rfl : n = row.length := h.len.symm
  by_cases h16 : (16 : Int) < row.length
  · go_enter Tryz.func121, Tryz.ntmps121
    go_wp2
    go_ret
    exact ⟨retB (by simp [rowB]; omega), Below.refl _ _⟩
  have h16' : decide ((16 : Int) < row.length) = false := by simpa using h16
  go_enter Tryz.func121, Tryz.ntmps121
  go_wp2
  go_loopw [10] (fun i wr => ∃ k : Nat, k ≤ row.length ∧ i = .int .i64 k ∧ Hid ((row.take k).all Vl.ok = true) ∧ Below w.heap.size w wr) (fun i _ => row.length - (intOf i).toNat)
  case atStart => exact ⟨0, by omega, rfl, Lib.hid (by simp), Below.refl _ _⟩
  case round =>
    obtain ⟨k, hk, rfl, hall, hb⟩ := hrel
    by_cases hlt : k < row.length
    · obtain ⟨b, off, rfl, c0, c1, c2⟩ := (h.below hb).at_ hlt
      cases hv : row[k].ok
      · have HV := Lib.hid hv
        have HF := Lib.hid (show rowB row = false by
          have : row.all Vl.ok = false := List.all_eq_false.2 ⟨row[k], List.getElem_mem hlt, by simp [hv]⟩
          simp [rowB, this])
        clear hv
        go_wp2_with fail
        refine (implValOk row[k].k row[k].n row[k].s _).mono ?_
        rintro e w1 ⟨rfl, hb1⟩
        rw [show valOkB row[k].k row[k].n row[k].s = false from HV.out]
        go_wp2_with fail
        go_ret
        exact ⟨retB (by rw [HF.out]), hb.trans (((((Below.refl wr.heap.size wr).alloc (Nat.le_refl _) _).trans (hb1.mono (by simp))).mono hb.size))⟩
      · have HV := Lib.hid hv
        have hall2 := Lib.hid (show (row.take (k + 1)).all Vl.ok = true by
          rw [List.take_succ_eq_append_getElem hlt, List.all_append, hall.out]
          simp [hv])
        clear hv hall
        go_wp2_with fail
        refine (implValOk row[k].k row[k].n row[k].s _).mono ?_
        rintro e w1 ⟨rfl, hb1⟩
        rw [show valOkB row[k].k row[k].n row[k].s = true from HV.out]
        go_wp2_with fail
        go_roundw
        case rel => exact ⟨k + 1, by omega, by go_num, hall2, hb.trans (((((Below.refl wr.heap.size wr).alloc (Nat.le_refl _) _).trans (hb1.mono (by simp))).mono hb.size))⟩
        case measure => simp [intOf]; omega
    · have e : row.take k = row := List.take_of_length_le (by omega)
      have ha := hall.out
      rw [e] at ha
      have HA := Lib.hid ha
      clear hall ha e
      go_wp2
      go_ret
      exact ⟨retB (by simp [rowB, HA.out]; omega), hb⟩
theorem Sl.drew {α : Type} {R : Rd α} (hR : Stays R) {sz : Nat} {ok : Nat → Prop} {w : World} {A : Option Addr} {n : Nat} {ds : List α} (h : Sl R sz ok w A n ds) : Sl R sz ok w.drew A n ds := h.stays hR (fun _ h => h) fun _ _ _ h => h
theorem keepE2 {w w' : World} {a0 a1 : Addr} {v0 v1 : Value} (h : w.cell? a0 = some v0 ∧ w.cell? a1 = some v1) (hb : Below w.heap.size w w') : w'.cell? a0 = some v0 ∧ w'.cell? a1 = some v1 := by
  obtain ⟨h0, h1⟩ := h
  exact ⟨(hb.cell (cell_lt h0)).trans h0, (hb.cell (cell_lt h1)).trans h1⟩
theorem keepE6 {w w' : World} {a0 a1 a2 a3 a4 a5 : Addr} {v0 v1 v2 v3 v4 v5 : Value} (h : w.cell? a0 = some v0 ∧ w.cell? a1 = some v1 ∧ w.cell? a2 = some v2 ∧ w.cell? a3 = some v3 ∧ w.cell? a4 = some v4 ∧ w.cell? a5 = some v5) (hb : Below w.heap.size w w') : w'.cell? a0 = some v0 ∧ w'.cell? a1 = some v1 ∧ w'.cell? a2 = some v2 ∧ w'.cell? a3 = some v3 ∧ w'.cell? a4 = some v4 ∧ w'.cell? a5 = some v5 := by
  obtain ⟨h0, h1, h2, h3, h4, h5⟩ := h
  exact ⟨(hb.cell (cell_lt h0)).trans h0, (hb.cell (cell_lt h1)).trans h1, (hb.cell (cell_lt h2)).trans h2, (hb.cell (cell_lt h3)).trans h3, (hb.cell (cell_lt h4)).trans h4, (hb.cell (cell_lt h5)).trans h5⟩
theorem keepE10 {w w' : World} {a0 a1 a2 a3 a4 a5 a6 a7 a8 a9 : Addr} {v0 v1 v2 v3 v4 v5 v6 v7 v8 v9 : Value} (h : w.cell? a0 = some v0 ∧ w.cell? a1 = some v1 ∧ w.cell? a2 = some v2 ∧ w.cell? a3 = some v3 ∧ w.cell? a4 = some v4 ∧ w.cell? a5 = some v5 ∧ w.cell? a6 = some v6 ∧ w.cell? a7 = some v7 ∧ w.cell? a8 = some v8 ∧ w.cell? a9 = some v9) (hb : Below w.heap.size w w') : w'.cell? a0 = some v0 ∧ w'.cell? a1 = some v1 ∧ w'.cell? a2 = some v2 ∧ w'.cell? a3 = some v3 ∧ w'.cell? a4 = some v4 ∧ w'.cell? a5 = some v5 ∧ w'.cell? a6 = some v6 ∧ w'.cell? a7 = some v7 ∧ w'.cell? a8 = some v8 ∧ w'.cell? a9 = some v9 := by
  obtain ⟨h0, h1, h2, h3, h4, h5, h6, h7, h8, h9⟩ := h
  exact ⟨(hb.cell (cell_lt h0)).trans h0, (hb.cell (cell_lt h1)).trans h1, (hb.cell (cell_lt h2)).trans h2, (hb.cell (cell_lt h3)).trans h3, (hb.cell (cell_lt h4)).trans h4, (hb.cell (cell_lt h5)).trans h5, (hb.cell (cell_lt h6)).trans h6, (hb.cell (cell_lt h7)).trans h7, (hb.cell (cell_lt h8)).trans h8, (hb.cell (cell_lt h9)).trans h9⟩
theorem keepE12 {w w' : World} {a0 a1 a2 a3 a4 a5 a6 a7 a8 a9 a10 a11 : Addr} {v0 v1 v2 v3 v4 v5 v6 v7 v8 v9 v10 v11 : Value} (h : w.cell? a0 = some v0 ∧ w.cell? a1 = some v1 ∧ w.cell? a2 = some v2 ∧ w.cell? a3 = some v3 ∧ w.cell? a4 = some v4 ∧ w.cell? a5 = some v5 ∧ w.cell? a6 = some v6 ∧ w.cell? a7 = some v7 ∧ w.cell? a8 = some v8 ∧ w.cell? a9 = some v9 ∧ w.cell? a10 = some v10 ∧ w.cell? a11 = some v11) (hb : Below w.heap.size w w') : w'.cell? a0 = some v0 ∧ w'.cell? a1 = some v1 ∧ w'.cell? a2 = some v2 ∧ w'.cell? a3 = some v3 ∧ w'.cell? a4 = some v4 ∧ w'.cell? a5 = some v5 ∧ w'.cell? a6 = some v6 ∧ w'.cell? a7 = some v7 ∧ w'.cell? a8 = some v8 ∧ w'.cell? a9 = some v9 ∧ w'.cell? a10 = some v10 ∧ w'.cell? a11 = some v11 := by
  obtain ⟨h0, h1, h2, h3, h4, h5, h6, h7, h8, h9, h10, h11⟩ := h
  exact ⟨(hb.cell (cell_lt h0)).trans h0, (hb.cell (cell_lt h1)).trans h1, (hb.cell (cell_lt h2)).trans h2, (hb.cell (cell_lt h3)).trans h3, (hb.cell (cell_lt h4)).trans h4, (hb.cell (cell_lt h5)).trans h5, (hb.cell (cell_lt h6)).trans h6, (hb.cell (cell_lt h7)).trans h7, (hb.cell (cell_lt h8)).trans h8, (hb.cell (cell_lt h9)).trans h9, (hb.cell (cell_lt h10)).trans h10, (hb.cell (cell_lt h11)).trans h11⟩
set_option maxRecDepth 100000 in
set_option maxHeartbeats 1000000 in
theorem lawsEqIntL (A A' : Option Addr) (n c c' : Nat) (l : List Int) (ok ok' : Nat → Prop) (w : World) (h : Sl IntR 1 ok w A n l) (h' : Sl IntR 1 ok' w A' n l) (hs : l.length ≤ 1048576) :
    Calls Tryz.prog 14 #[.slice A n c, .slice A' n c'] w fun e w' => e = .returned (.bool true) ∧ Below w.heap.size w w' := by
  obtain rfl : l.length = n := h.1
  have hn : l.length ≤ 1048576 := by exact hs
  have HS := Lib.hid hs
  clear hs
  go_enter Tryz.func14, Tryz.ntmps14
  go_wp2
  go_loopw [5] (fun i wr => ∃ k : Nat, k ≤ l.length ∧ i = .int .i64 k ∧ Below w.heap.size w wr) (fun i _ => l.length - (intOf i).toNat)
  case atStart => exact ⟨0, by omega, rfl, Below.refl _ _⟩
  case round =>
    obtain ⟨k, hk, rfl, hb⟩ := hrel
    by_cases hlt : k < l.length
    · obtain ⟨b, off, -, rfl, q0⟩ := IntR.at_ (h.below IntR.stays hb) hlt
      obtain ⟨b', off', -, rfl, r0⟩ := IntR.at_ (h'.below IntR.stays hb) hlt
      have i0 : (0 : Int) ≤ k := by omega
      have i1 : (k : Int) < l.length := by omega
      go_wp2_with fail
      go_region_held3 (fun w' => w'.cell? ⟨b, off + k, none⟩ = some (.int .i64 l[k]) ∧ w'.cell? ⟨b', off' + k, none⟩ = some (.int .i64 l[k]))
        (go_keep) (fail)
      go_wp2
      go_roundw
      case rel => exact ⟨k + 1, by omega, by go_num, hb.drew⟩
      case measure => simp [intOf]; omega
    · go_wp2
      go_ret
      exact ⟨rfl, hb⟩
set_option maxRecDepth 100000 in
set_option maxHeartbeats 1000000 in
theorem lawsEqTokL (A A' : Option Addr) (n c c' : Nat) (l : List Tk) (ok ok' : Nat → Prop) (w : World) (h : Sl TkR 5 ok w A n l) (h' : Sl TkR 5 ok' w A' n l) (hs : szL (fun t : Tk => t.vs.size) l ≤ 1048576) :
    Calls Tryz.prog 108 #[.slice A n c, .slice A' n c'] w fun e w' => e = .returned (.bool true) ∧ Below w.heap.size w w' := by
  obtain rfl : l.length = n := h.1
  have hn : l.length ≤ 1048576 := by unfold szL at hs; omega
  have HS := Lib.hid hs
  clear hs
  go_enter Tryz.func108, Tryz.ntmps108
  go_wp2
  go_loopw [5] (fun i wr => ∃ k : Nat, k ≤ l.length ∧ i = .int .i64 k ∧ Below w.heap.size w wr) (fun i _ => l.length - (intOf i).toNat)
  case atStart => exact ⟨0, by omega, rfl, Below.refl _ _⟩
  case round =>
    obtain ⟨k, hk, rfl, hb⟩ := hrel
    by_cases hlt : k < l.length
    · obtain ⟨b, off, -, rfl, q0, q1, q2, q3, q4⟩ := TkR.at_ (h.below TkR.stays hb) hlt
      obtain ⟨b', off', -, rfl, r0, r1, r2, r3, r4⟩ := TkR.at_ (h'.below TkR.stays hb) hlt
      have i0 : (0 : Int) ≤ k := by omega
      have i1 : (k : Int) < l.length := by omega
      go_wp2_with fail
      go_region_held3 (fun w' => w'.cell? ⟨b, off + k * 5, none⟩ = some (.int .i64 l[k].k) ∧ w'.cell? ⟨b, off + k * 5 + 1, none⟩ = some (.int .i64 l[k].c) ∧ w'.cell? ⟨b, off + k * 5 + 2, none⟩ = some (.int .i64 l[k].vk) ∧ w'.cell? ⟨b, off + k * 5 + 3, none⟩ = some (.int .i64 l[k].vn) ∧ w'.cell? ⟨b, off + k * 5 + 4, none⟩ = some (.string l[k].vs) ∧ w'.cell? ⟨b', off' + k * 5, none⟩ = some (.int .i64 l[k].k) ∧ w'.cell? ⟨b', off' + k * 5 + 1, none⟩ = some (.int .i64 l[k].c) ∧ w'.cell? ⟨b', off' + k * 5 + 2, none⟩ = some (.int .i64 l[k].vk) ∧ w'.cell? ⟨b', off' + k * 5 + 3, none⟩ = some (.int .i64 l[k].vn) ∧ w'.cell? ⟨b', off' + k * 5 + 4, none⟩ = some (.string l[k].vs))
        (first | go_keep | exact keepE10 (by assumption) hb1)
        (first | (go_at_call 159; refine (lawsEqTok l[k] _).mono ?_; rintro e w1 ⟨rfl, hb1⟩))
      go_wp2
      go_roundw
      case rel => exact ⟨k + 1, by omega, by go_num, hb.drew.trans (hb1.mono hb.size)⟩
      case measure => simp [intOf]; omega
    · go_wp2
      go_ret
      exact ⟨rfl, hb⟩
set_option maxRecDepth 100000 in
set_option maxHeartbeats 1000000 in
theorem lawsEqValL (A A' : Option Addr) (n c c' : Nat) (l : List Vl) (ok ok' : Nat → Prop) (w : World) (h : Sl VlR 3 ok w A n l) (h' : Sl VlR 3 ok' w A' n l) (hs : szL (fun v : Vl => v.s.size) l ≤ 1048576) :
    Calls Tryz.prog 17 #[.slice A n c, .slice A' n c'] w fun e w' => e = .returned (.bool true) ∧ Below w.heap.size w w' := by
  obtain rfl : l.length = n := h.1
  have hn : l.length ≤ 1048576 := by unfold szL at hs; omega
  have HS := Lib.hid hs
  clear hs
  go_enter Tryz.func17, Tryz.ntmps17
  go_wp2
  go_loopw [5] (fun i wr => ∃ k : Nat, k ≤ l.length ∧ i = .int .i64 k ∧ Below w.heap.size w wr) (fun i _ => l.length - (intOf i).toNat)
  case atStart => exact ⟨0, by omega, rfl, Below.refl _ _⟩
  case round =>
    obtain ⟨k, hk, rfl, hb⟩ := hrel
    by_cases hlt : k < l.length
    · obtain ⟨b, off, -, rfl, q0, q1, q2⟩ := VlR.at_ (h.below VlR.stays hb) hlt
      obtain ⟨b', off', -, rfl, r0, r1, r2⟩ := VlR.at_ (h'.below VlR.stays hb) hlt
      have i0 : (0 : Int) ≤ k := by omega
      have i1 : (k : Int) < l.length := by omega
      go_wp2_with fail
      go_region_held3 (fun w' => w'.cell? ⟨b, off + k * 3, none⟩ = some (.int .i64 l[k].k) ∧ w'.cell? ⟨b, off + k * 3 + 1, none⟩ = some (.int .i64 l[k].n) ∧ w'.cell? ⟨b, off + k * 3 + 2, none⟩ = some (.string l[k].s) ∧ w'.cell? ⟨b', off' + k * 3, none⟩ = some (.int .i64 l[k].k) ∧ w'.cell? ⟨b', off' + k * 3 + 1, none⟩ = some (.int .i64 l[k].n) ∧ w'.cell? ⟨b', off' + k * 3 + 2, none⟩ = some (.string l[k].s))
        (first | go_keep | exact keepE6 (by assumption) hb1)
        (first | (go_at_call 53; refine (lawsEqVal l[k].k l[k].n l[k].s _).mono ?_; rintro e w1 ⟨rfl, hb1⟩))
      go_wp2
      go_roundw
      case rel => exact ⟨k + 1, by omega, by go_num, hb.drew.trans (hb1.mono hb.size)⟩
      case measure => simp [intOf]; omega
    · go_wp2
      go_ret
      exact ⟨rfl, hb⟩
set_option maxRecDepth 100000 in
set_option maxHeartbeats 1000000 in
theorem lawsEqCol (x : Cl)  (ok ok' : Nat → Prop) (w : World)   (hs : x.sz ≤ 1048576) :
    Calls Tryz.prog 155 #[.agg #[.string x.name, .int .i64 x.kind, .bool x.nn, .int .i64 x.d.k, .int .i64 x.d.n, .string x.d.s], .agg #[.string x.name, .int .i64 x.kind, .bool x.nn, .int .i64 x.d.k, .int .i64 x.d.n, .string x.d.s]] w fun e w' => e = .returned (.bool true) ∧ Below w.heap.size w w' := by
  clear hs
  have ra := (Row.new w 172 #[.string x.name, .int .i64 x.kind, .bool x.nn, .int .i64 x.d.k, .int .i64 x.d.n, .string x.d.s]).alloc (.cells #[.string x.name, .int .i64 x.kind, .bool x.nn, .int .i64 x.d.k, .int .i64 x.d.n, .string x.d.s] 172)
  have rb := Row.newAt (w.alloc (.cells #[.string x.name, .int .i64 x.kind, .bool x.nn, .int .i64 x.d.k, .int .i64 x.d.n, .string x.d.s] 172)) 172 #[.string x.name, .int .i64 x.kind, .bool x.nn, .int .i64 x.d.k, .int .i64 x.d.n, .string x.d.s] (w.heap.size + 1) (by simp)
  have hb0 := ((Below.refl w.heap.size w).alloc (Nat.le_refl _) (.cells #[.string x.name, .int .i64 x.kind, .bool x.nn, .int .i64 x.d.k, .int .i64 x.d.n, .string x.d.s] 172)).alloc (by simp) (.cells #[.string x.name, .int .i64 x.kind, .bool x.nn, .int .i64 x.d.k, .int .i64 x.d.n, .string x.d.s] 172)
  go_enter Tryz.func155, Tryz.ntmps155
  go_wp2_with fail
  generalize (w.alloc (.cells #[.string x.name, .int .i64 x.kind, .bool x.nn, .int .i64 x.d.k, .int .i64 x.d.n, .string x.d.s] 172)).alloc (.cells #[.string x.name, .int .i64 x.kind, .bool x.nn, .int .i64 x.d.k, .int .i64 x.d.n, .string x.d.s] 172) = x0 at *
  refine (lawsEqVal _ _ _ _).mono ?_
  rintro e w1 ⟨rfl, hc0⟩
  have ra := ra.below hc0
  have rb := rb.below hc0
  have hb1 := hb0.trans (hc0.mono hb0.size)
  obtain ⟨⟨a_0_0, a_0_1, a_0_2, a_0_3, a_0_4, a_0_5⟩, -⟩ := ra.all6
  obtain ⟨⟨b_0_0, b_0_1, b_0_2, b_0_3, b_0_4, b_0_5⟩, -⟩ := rb.all6
  go_wp2_with fail
  go_ret
  exact ⟨rfl, hb1⟩
set_option maxRecDepth 100000 in
set_option maxHeartbeats 1000000 in
theorem lawsEqColL (A A' : Option Addr) (n c c' : Nat) (l : List Cl) (ok ok' : Nat → Prop) (w : World) (h : Sl ClR 6 ok w A n l) (h' : Sl ClR 6 ok' w A' n l) (hs : szL Cl.sz l ≤ 1048576) :
    Calls Tryz.prog 104 #[.slice A n c, .slice A' n c'] w fun e w' => e = .returned (.bool true) ∧ Below w.heap.size w w' := by
  obtain rfl : l.length = n := h.1
  have hn : l.length ≤ 1048576 := by unfold szL at hs; omega
  have HS := Lib.hid hs
  clear hs
  go_enter Tryz.func104, Tryz.ntmps104
  go_wp2
  go_loopw [5] (fun i wr => ∃ k : Nat, k ≤ l.length ∧ i = .int .i64 k ∧ Below w.heap.size w wr) (fun i _ => l.length - (intOf i).toNat)
  case atStart => exact ⟨0, by omega, rfl, Below.refl _ _⟩
  case round =>
    obtain ⟨k, hk, rfl, hb⟩ := hrel
    by_cases hlt : k < l.length
    · obtain ⟨b, off, -, rfl, q0, q1, q2, q3, q4, q5⟩ := ClR.at_ (h.below ClR.stays hb) hlt
      obtain ⟨b', off', -, rfl, r0, r1, r2, r3, r4, r5⟩ := ClR.at_ (h'.below ClR.stays hb) hlt
      have i0 : (0 : Int) ≤ k := by omega
      have i1 : (k : Int) < l.length := by omega
      have hszk : l[k].sz ≤ 1048576 := by have := HS.out; have := sum_mem_le (Cl.sz) l k hlt; unfold szL at *; (try simp only at *); omega
      have HSK := Lib.hid hszk
      clear hszk
      go_wp2_with fail
      go_region_held3 (fun w' => w'.cell? ⟨b, off + k * 6, none⟩ = some (.string l[k].name) ∧ w'.cell? ⟨b, off + k * 6 + 1, none⟩ = some (.int .i64 l[k].kind) ∧ w'.cell? ⟨b, off + k * 6 + 2, none⟩ = some (.bool l[k].nn) ∧ w'.cell? ⟨b, off + k * 6 + 3, none⟩ = some (.int .i64 l[k].d.k) ∧ w'.cell? ⟨b, off + k * 6 + 4, none⟩ = some (.int .i64 l[k].d.n) ∧ w'.cell? ⟨b, off + k * 6 + 5, none⟩ = some (.string l[k].d.s) ∧ w'.cell? ⟨b', off' + k * 6, none⟩ = some (.string l[k].name) ∧ w'.cell? ⟨b', off' + k * 6 + 1, none⟩ = some (.int .i64 l[k].kind) ∧ w'.cell? ⟨b', off' + k * 6 + 2, none⟩ = some (.bool l[k].nn) ∧ w'.cell? ⟨b', off' + k * 6 + 3, none⟩ = some (.int .i64 l[k].d.k) ∧ w'.cell? ⟨b', off' + k * 6 + 4, none⟩ = some (.int .i64 l[k].d.n) ∧ w'.cell? ⟨b', off' + k * 6 + 5, none⟩ = some (.string l[k].d.s))
        (first | go_keep | exact keepE12 (by assumption) hb1)
        (first | (go_at_call 155; refine (lawsEqCol l[k]  ok ok' _   HSK.out).mono ?_; rintro e w1 ⟨rfl, hb1⟩))
      go_wp2
      go_roundw
      case rel => exact ⟨k + 1, by omega, by go_num, hb.drew.trans (hb1.mono hb.size)⟩
      case measure => simp [intOf]; omega
    · go_wp2
      go_ret
      exact ⟨rfl, hb⟩
set_option maxRecDepth 100000 in
set_option maxHeartbeats 1000000 in
theorem lawsEqUnique (x : Uq) (A0 B0 : Option Addr) (n0 c0 d0 : Nat) (ok ok' : Nat → Prop) (w : World) (h0 : Sl IntR 1 ok w A0 n0 x.cols) (k0 : Sl IntR 1 ok' w B0 n0 x.cols) (hs : x.sz ≤ 1048576) :
    Calls Tryz.prog 156 #[.agg #[.slice A0 n0 c0], .agg #[.slice B0 n0 d0]] w fun e w' => e = .returned (.bool true) ∧ Below w.heap.size w w' := by
  have HS0 := Lib.hid (show x.cols.length ≤ 1048576 by have := hs; unfold Uq.sz at this; omega)
  clear hs
  have ra := (Row.new w 174 #[.slice A0 n0 c0]).alloc (.cells #[.slice B0 n0 d0] 174)
  have rb := Row.newAt (w.alloc (.cells #[.slice A0 n0 c0] 174)) 174 #[.slice B0 n0 d0] (w.heap.size + 1) (by simp)
  have hb0 := ((Below.refl w.heap.size w).alloc (Nat.le_refl _) (.cells #[.slice A0 n0 c0] 174)).alloc (by simp) (.cells #[.slice B0 n0 d0] 174)
  go_enter Tryz.func156, Tryz.ntmps156
  go_wp2_with fail
  generalize (w.alloc (.cells #[.slice A0 n0 c0] 174)).alloc (.cells #[.slice B0 n0 d0] 174) = x0 at *
  refine (lawsEqIntL A0 B0 n0 c0 d0 x.cols ok ok' _ (h0.below IntR.stays hb0) (k0.below IntR.stays hb0) HS0.out).mono ?_
  rintro e w1 ⟨rfl, hc0⟩
  have ra := ra.below hc0
  have rb := rb.below hc0
  have hb1 := hb0.trans (hc0.mono hb0.size)
  obtain ⟨a_0_0, -⟩ := ra.all1
  obtain ⟨b_0_0, -⟩ := rb.all1
  go_wp2_with fail
  go_ret
  exact ⟨rfl, hb1⟩
set_option maxRecDepth 100000 in
set_option maxHeartbeats 1000000 in
theorem lawsEqUniqueL (A A' : Option Addr) (n c c' : Nat) (l : List Uq) (ok ok' : Nat → Prop) (w : World) (h : Sl UqR 1 ok w A n l) (h' : Sl UqR 1 ok' w A' n l) (hs : szL Uq.sz l ≤ 1048576) :
    Calls Tryz.prog 105 #[.slice A n c, .slice A' n c'] w fun e w' => e = .returned (.bool true) ∧ Below w.heap.size w w' := by
  obtain rfl : l.length = n := h.1
  have hn : l.length ≤ 1048576 := by unfold szL at hs; omega
  have HS := Lib.hid hs
  clear hs
  go_enter Tryz.func105, Tryz.ntmps105
  go_wp2
  go_loopw [5] (fun i wr => ∃ k : Nat, k ≤ l.length ∧ i = .int .i64 k ∧ Below w.heap.size w wr) (fun i _ => l.length - (intOf i).toNat)
  case atStart => exact ⟨0, by omega, rfl, Below.refl _ _⟩
  case round =>
    obtain ⟨k, hk, rfl, hb⟩ := hrel
    by_cases hlt : k < l.length
    · obtain ⟨b, off, A0, n0, c0, -, rfl, q0, s0, -⟩ := UqR.at_ (h.below UqR.stays hb) hlt
      obtain ⟨b', off', B0, m0, d0, -, rfl, r0, t0, -⟩ := UqR.at_ (h'.below UqR.stays hb) hlt
      obtain rfl : n0 = m0 := s0.1.symm.trans t0.1
      have i0 : (0 : Int) ≤ k := by omega
      have i1 : (k : Int) < l.length := by omega
      have hszk : l[k].sz ≤ 1048576 := by have := HS.out; have := sum_mem_le (Uq.sz) l k hlt; unfold szL at *; (try simp only at *); omega
      have HSK := Lib.hid hszk
      clear hszk
      go_wp2_with fail
      go_region_held3 (fun w' => w'.cell? ⟨b, off + k, none⟩ = some (.slice A0 n0 c0) ∧ w'.cell? ⟨b', off' + k, none⟩ = some (.slice B0 n0 d0))
        (first | go_keep | exact keepE2 (by assumption) hb1)
        (first | (go_at_call 156; refine (lawsEqUnique l[k] A0 B0 n0 c0 d0 ok ok' _ (s0.drew IntR.stays) (t0.drew IntR.stays) HSK.out).mono ?_; rintro e w1 ⟨rfl, hb1⟩))
      go_wp2
      go_roundw
      case rel => exact ⟨k + 1, by omega, by go_num, hb.drew.trans (hb1.mono hb.size)⟩
      case measure => simp [intOf]; omega
    · go_wp2
      go_ret
      exact ⟨rfl, hb⟩
set_option maxRecDepth 100000 in
set_option maxHeartbeats 1000000 in
theorem lawsEqCheck (x : Ck) (A0 B0 : Option Addr) (n0 c0 d0 : Nat) (ok ok' : Nat → Prop) (w : World) (h0 : Sl TkR 5 ok w A0 n0 x.expr) (k0 : Sl TkR 5 ok' w B0 n0 x.expr) (hs : x.sz ≤ 1048576) :
    Calls Tryz.prog 157 #[.agg #[.slice A0 n0 c0], .agg #[.slice B0 n0 d0]] w fun e w' => e = .returned (.bool true) ∧ Below w.heap.size w w' := by
  have HS0 := Lib.hid (show szL (fun t : Tk => t.vs.size) x.expr ≤ 1048576 by have := hs; unfold Ck.sz at this; omega)
  clear hs
  have ra := (Row.new w 176 #[.slice A0 n0 c0]).alloc (.cells #[.slice B0 n0 d0] 176)
  have rb := Row.newAt (w.alloc (.cells #[.slice A0 n0 c0] 176)) 176 #[.slice B0 n0 d0] (w.heap.size + 1) (by simp)
  have hb0 := ((Below.refl w.heap.size w).alloc (Nat.le_refl _) (.cells #[.slice A0 n0 c0] 176)).alloc (by simp) (.cells #[.slice B0 n0 d0] 176)
  go_enter Tryz.func157, Tryz.ntmps157
  go_wp2_with fail
  generalize (w.alloc (.cells #[.slice A0 n0 c0] 176)).alloc (.cells #[.slice B0 n0 d0] 176) = x0 at *
  refine (lawsEqTokL A0 B0 n0 c0 d0 x.expr ok ok' _ (h0.below TkR.stays hb0) (k0.below TkR.stays hb0) HS0.out).mono ?_
  rintro e w1 ⟨rfl, hc0⟩
  have ra := ra.below hc0
  have rb := rb.below hc0
  have hb1 := hb0.trans (hc0.mono hb0.size)
  obtain ⟨a_0_0, -⟩ := ra.all1
  obtain ⟨b_0_0, -⟩ := rb.all1
  go_wp2_with fail
  go_ret
  exact ⟨rfl, hb1⟩
set_option maxRecDepth 100000 in
set_option maxHeartbeats 1000000 in
theorem lawsEqCheckL (A A' : Option Addr) (n c c' : Nat) (l : List Ck) (ok ok' : Nat → Prop) (w : World) (h : Sl CkR 1 ok w A n l) (h' : Sl CkR 1 ok' w A' n l) (hs : szL Ck.sz l ≤ 1048576) :
    Calls Tryz.prog 106 #[.slice A n c, .slice A' n c'] w fun e w' => e = .returned (.bool true) ∧ Below w.heap.size w w' := by
  obtain rfl : l.length = n := h.1
  have hn : l.length ≤ 1048576 := by unfold szL at hs; omega
  have HS := Lib.hid hs
  clear hs
  go_enter Tryz.func106, Tryz.ntmps106
  go_wp2
  go_loopw [5] (fun i wr => ∃ k : Nat, k ≤ l.length ∧ i = .int .i64 k ∧ Below w.heap.size w wr) (fun i _ => l.length - (intOf i).toNat)
  case atStart => exact ⟨0, by omega, rfl, Below.refl _ _⟩
  case round =>
    obtain ⟨k, hk, rfl, hb⟩ := hrel
    by_cases hlt : k < l.length
    · obtain ⟨b, off, A0, n0, c0, -, rfl, q0, s0, -⟩ := CkR.at_ (h.below CkR.stays hb) hlt
      obtain ⟨b', off', B0, m0, d0, -, rfl, r0, t0, -⟩ := CkR.at_ (h'.below CkR.stays hb) hlt
      obtain rfl : n0 = m0 := s0.1.symm.trans t0.1
      have i0 : (0 : Int) ≤ k := by omega
      have i1 : (k : Int) < l.length := by omega
      have hszk : l[k].sz ≤ 1048576 := by have := HS.out; have := sum_mem_le (Ck.sz) l k hlt; unfold szL at *; (try simp only at *); omega
      have HSK := Lib.hid hszk
      clear hszk
      go_wp2_with fail
      go_region_held3 (fun w' => w'.cell? ⟨b, off + k, none⟩ = some (.slice A0 n0 c0) ∧ w'.cell? ⟨b', off' + k, none⟩ = some (.slice B0 n0 d0))
        (first | go_keep | exact keepE2 (by assumption) hb1)
        (first | (go_at_call 157; refine (lawsEqCheck l[k] A0 B0 n0 c0 d0 ok ok' _ (s0.drew TkR.stays) (t0.drew TkR.stays) HSK.out).mono ?_; rintro e w1 ⟨rfl, hb1⟩))
      go_wp2
      go_roundw
      case rel => exact ⟨k + 1, by omega, by go_num, hb.drew.trans (hb1.mono hb.size)⟩
      case measure => simp [intOf]; omega
    · go_wp2
      go_ret
      exact ⟨rfl, hb⟩
set_option maxRecDepth 100000 in
set_option maxHeartbeats 1000000 in
theorem lawsEqFk (x : Fk) (A0 B0 : Option Addr) (n0 c0 d0 : Nat) (ok ok' : Nat → Prop) (w : World) (h0 : Sl IntR 1 ok w A0 n0 x.cols) (k0 : Sl IntR 1 ok' w B0 n0 x.cols) (hs : x.sz ≤ 1048576) :
    Calls Tryz.prog 158 #[.agg #[.slice A0 n0 c0, .string x.table, .int .i64 x.del, .int .i64 x.upd, .bool x.dfr], .agg #[.slice B0 n0 d0, .string x.table, .int .i64 x.del, .int .i64 x.upd, .bool x.dfr]] w fun e w' => e = .returned (.bool true) ∧ Below w.heap.size w w' := by
  have HS0 := Lib.hid (show x.cols.length ≤ 1048576 by have := hs; unfold Fk.sz at this; omega)
  clear hs
  have ra := (Row.new w 178 #[.slice A0 n0 c0, .string x.table, .int .i64 x.del, .int .i64 x.upd, .bool x.dfr]).alloc (.cells #[.slice B0 n0 d0, .string x.table, .int .i64 x.del, .int .i64 x.upd, .bool x.dfr] 178)
  have rb := Row.newAt (w.alloc (.cells #[.slice A0 n0 c0, .string x.table, .int .i64 x.del, .int .i64 x.upd, .bool x.dfr] 178)) 178 #[.slice B0 n0 d0, .string x.table, .int .i64 x.del, .int .i64 x.upd, .bool x.dfr] (w.heap.size + 1) (by simp)
  have hb0 := ((Below.refl w.heap.size w).alloc (Nat.le_refl _) (.cells #[.slice A0 n0 c0, .string x.table, .int .i64 x.del, .int .i64 x.upd, .bool x.dfr] 178)).alloc (by simp) (.cells #[.slice B0 n0 d0, .string x.table, .int .i64 x.del, .int .i64 x.upd, .bool x.dfr] 178)
  go_enter Tryz.func158, Tryz.ntmps158
  go_wp2_with fail
  generalize (w.alloc (.cells #[.slice A0 n0 c0, .string x.table, .int .i64 x.del, .int .i64 x.upd, .bool x.dfr] 178)).alloc (.cells #[.slice B0 n0 d0, .string x.table, .int .i64 x.del, .int .i64 x.upd, .bool x.dfr] 178) = x0 at *
  refine (lawsEqIntL A0 B0 n0 c0 d0 x.cols ok ok' _ (h0.below IntR.stays hb0) (k0.below IntR.stays hb0) HS0.out).mono ?_
  rintro e w1 ⟨rfl, hc0⟩
  have ra := ra.below hc0
  have rb := rb.below hc0
  have hb1 := hb0.trans (hc0.mono hb0.size)
  obtain ⟨⟨a_0_0, a_0_1, a_0_2, a_0_3, a_0_4⟩, -⟩ := ra.five
  obtain ⟨⟨b_0_0, b_0_1, b_0_2, b_0_3, b_0_4⟩, -⟩ := rb.five
  go_wp2_with fail
  go_ret
  exact ⟨rfl, hb1⟩
set_option maxRecDepth 100000 in
set_option maxHeartbeats 1000000 in
theorem lawsEqFkL (A A' : Option Addr) (n c c' : Nat) (l : List Fk) (ok ok' : Nat → Prop) (w : World) (h : Sl FkR 5 ok w A n l) (h' : Sl FkR 5 ok' w A' n l) (hs : szL Fk.sz l ≤ 1048576) :
    Calls Tryz.prog 107 #[.slice A n c, .slice A' n c'] w fun e w' => e = .returned (.bool true) ∧ Below w.heap.size w w' := by
  obtain rfl : l.length = n := h.1
  have hn : l.length ≤ 1048576 := by unfold szL at hs; omega
  have HS := Lib.hid hs
  clear hs
  go_enter Tryz.func107, Tryz.ntmps107
  go_wp2
  go_loopw [5] (fun i wr => ∃ k : Nat, k ≤ l.length ∧ i = .int .i64 k ∧ Below w.heap.size w wr) (fun i _ => l.length - (intOf i).toNat)
  case atStart => exact ⟨0, by omega, rfl, Below.refl _ _⟩
  case round =>
    obtain ⟨k, hk, rfl, hb⟩ := hrel
    by_cases hlt : k < l.length
    · obtain ⟨b, off, A0, n0, c0, -, rfl, q0, q1, q2, q3, q4, s0, -⟩ := FkR.at_ (h.below FkR.stays hb) hlt
      obtain ⟨b', off', B0, m0, d0, -, rfl, r0, r1, r2, r3, r4, t0, -⟩ := FkR.at_ (h'.below FkR.stays hb) hlt
      obtain rfl : n0 = m0 := s0.1.symm.trans t0.1
      have i0 : (0 : Int) ≤ k := by omega
      have i1 : (k : Int) < l.length := by omega
      have hszk : l[k].sz ≤ 1048576 := by have := HS.out; have := sum_mem_le (Fk.sz) l k hlt; unfold szL at *; (try simp only at *); omega
      have HSK := Lib.hid hszk
      clear hszk
      go_wp2_with fail
      go_region_held3 (fun w' => w'.cell? ⟨b, off + k * 5, none⟩ = some (.slice A0 n0 c0) ∧ w'.cell? ⟨b, off + k * 5 + 1, none⟩ = some (.string l[k].table) ∧ w'.cell? ⟨b, off + k * 5 + 2, none⟩ = some (.int .i64 l[k].del) ∧ w'.cell? ⟨b, off + k * 5 + 3, none⟩ = some (.int .i64 l[k].upd) ∧ w'.cell? ⟨b, off + k * 5 + 4, none⟩ = some (.bool l[k].dfr) ∧ w'.cell? ⟨b', off' + k * 5, none⟩ = some (.slice B0 n0 d0) ∧ w'.cell? ⟨b', off' + k * 5 + 1, none⟩ = some (.string l[k].table) ∧ w'.cell? ⟨b', off' + k * 5 + 2, none⟩ = some (.int .i64 l[k].del) ∧ w'.cell? ⟨b', off' + k * 5 + 3, none⟩ = some (.int .i64 l[k].upd) ∧ w'.cell? ⟨b', off' + k * 5 + 4, none⟩ = some (.bool l[k].dfr))
        (first | go_keep | exact keepE10 (by assumption) hb1)
        (first | (go_at_call 158; refine (lawsEqFk l[k] A0 B0 n0 c0 d0 ok ok' _ (s0.drew IntR.stays) (t0.drew IntR.stays) HSK.out).mono ?_; rintro e w1 ⟨rfl, hb1⟩))
      go_wp2
      go_roundw
      case rel => exact ⟨k + 1, by omega, by go_num, hb.drew.trans (hb1.mono hb.size)⟩
      case measure => simp [intOf]; omega
    · go_wp2
      go_ret
      exact ⟨rfl, hb⟩
set_option maxRecDepth 100000 in
set_option maxHeartbeats 1000000 in
theorem lawsEqTable (x : Tb) (A1 B1 : Option Addr) (n1 c1 d1 : Nat) (A2 B2 : Option Addr) (n2 c2 d2 : Nat) (A3 B3 : Option Addr) (n3 c3 d3 : Nat) (A4 B4 : Option Addr) (n4 c4 d4 : Nat) (A5 B5 : Option Addr) (n5 c5 d5 : Nat) (ok ok' : Nat → Prop) (w : World) (h1 : Sl ClR 6 ok w A1 n1 x.cols) (h2 : Sl IntR 1 ok w A2 n2 x.key) (h3 : Sl UqR 1 ok w A3 n3 x.uniqs) (h4 : Sl CkR 1 ok w A4 n4 x.checks) (h5 : Sl FkR 5 ok w A5 n5 x.fks) (k1 : Sl ClR 6 ok' w B1 n1 x.cols) (k2 : Sl IntR 1 ok' w B2 n2 x.key) (k3 : Sl UqR 1 ok' w B3 n3 x.uniqs) (k4 : Sl CkR 1 ok' w B4 n4 x.checks) (k5 : Sl FkR 5 ok' w B5 n5 x.fks) (hs : x.sz ≤ 1048576) :
    Calls Tryz.prog 51 #[.agg #[.string x.name, .slice A1 n1 c1, .slice A2 n2 c2, .slice A3 n3 c3, .slice A4 n4 c4, .slice A5 n5 c5], .agg #[.string x.name, .slice B1 n1 d1, .slice B2 n2 d2, .slice B3 n3 d3, .slice B4 n4 d4, .slice B5 n5 d5]] w fun e w' => e = .returned (.bool true) ∧ Below w.heap.size w w' := by
  have HS1 := Lib.hid (show szL Cl.sz x.cols ≤ 1048576 by have := hs; unfold Tb.sz at this; omega)
  have HS2 := Lib.hid (show x.key.length ≤ 1048576 by have := hs; unfold Tb.sz at this; omega)
  have HS3 := Lib.hid (show szL Uq.sz x.uniqs ≤ 1048576 by have := hs; unfold Tb.sz at this; omega)
  have HS4 := Lib.hid (show szL Ck.sz x.checks ≤ 1048576 by have := hs; unfold Tb.sz at this; omega)
  have HS5 := Lib.hid (show szL Fk.sz x.fks ≤ 1048576 by have := hs; unfold Tb.sz at this; omega)
  clear hs
  have ra := (Row.new w 86 #[.string x.name, .slice A1 n1 c1, .slice A2 n2 c2, .slice A3 n3 c3, .slice A4 n4 c4, .slice A5 n5 c5]).alloc (.cells #[.string x.name, .slice B1 n1 d1, .slice B2 n2 d2, .slice B3 n3 d3, .slice B4 n4 d4, .slice B5 n5 d5] 86)
  have rb := Row.newAt (w.alloc (.cells #[.string x.name, .slice A1 n1 c1, .slice A2 n2 c2, .slice A3 n3 c3, .slice A4 n4 c4, .slice A5 n5 c5] 86)) 86 #[.string x.name, .slice B1 n1 d1, .slice B2 n2 d2, .slice B3 n3 d3, .slice B4 n4 d4, .slice B5 n5 d5] (w.heap.size + 1) (by simp)
  have hb0 := ((Below.refl w.heap.size w).alloc (Nat.le_refl _) (.cells #[.string x.name, .slice A1 n1 c1, .slice A2 n2 c2, .slice A3 n3 c3, .slice A4 n4 c4, .slice A5 n5 c5] 86)).alloc (by simp) (.cells #[.string x.name, .slice B1 n1 d1, .slice B2 n2 d2, .slice B3 n3 d3, .slice B4 n4 d4, .slice B5 n5 d5] 86)
  go_enter Tryz.func51, Tryz.ntmps51
  go_wp2_with fail
  generalize (w.alloc (.cells #[.string x.name, .slice A1 n1 c1, .slice A2 n2 c2, .slice A3 n3 c3, .slice A4 n4 c4, .slice A5 n5 c5] 86)).alloc (.cells #[.string x.name, .slice B1 n1 d1, .slice B2 n2 d2, .slice B3 n3 d3, .slice B4 n4 d4, .slice B5 n5 d5] 86) = x0 at *
  refine (lawsEqColL A1 B1 n1 c1 d1 x.cols ok ok' _ (h1.below ClR.stays hb0) (k1.below ClR.stays hb0) HS1.out).mono ?_
  rintro e w1 ⟨rfl, hc0⟩
  have ra := ra.below hc0
  have rb := rb.below hc0
  have hb1 := hb0.trans (hc0.mono hb0.size)
  obtain ⟨⟨a_0_0, a_0_1, a_0_2, a_0_3, a_0_4, a_0_5⟩, -⟩ := ra.all6
  obtain ⟨⟨b_0_0, b_0_1, b_0_2, b_0_3, b_0_4, b_0_5⟩, -⟩ := rb.all6
  go_wp2_with fail
  refine (lawsEqIntL A2 B2 n2 c2 d2 x.key ok ok' _ (h2.below IntR.stays hb1) (k2.below IntR.stays hb1) HS2.out).mono ?_
  rintro e w2 ⟨rfl, hc1⟩
  have ra := ra.below hc1
  have rb := rb.below hc1
  have hb2 := hb1.trans (hc1.mono hb1.size)
  obtain ⟨⟨a_1_0, a_1_1, a_1_2, a_1_3, a_1_4, a_1_5⟩, -⟩ := ra.all6
  obtain ⟨⟨b_1_0, b_1_1, b_1_2, b_1_3, b_1_4, b_1_5⟩, -⟩ := rb.all6
  go_wp2_with fail
  refine (lawsEqUniqueL A3 B3 n3 c3 d3 x.uniqs ok ok' _ (h3.below UqR.stays hb2) (k3.below UqR.stays hb2) HS3.out).mono ?_
  rintro e w3 ⟨rfl, hc2⟩
  have ra := ra.below hc2
  have rb := rb.below hc2
  have hb3 := hb2.trans (hc2.mono hb2.size)
  obtain ⟨⟨a_2_0, a_2_1, a_2_2, a_2_3, a_2_4, a_2_5⟩, -⟩ := ra.all6
  obtain ⟨⟨b_2_0, b_2_1, b_2_2, b_2_3, b_2_4, b_2_5⟩, -⟩ := rb.all6
  go_wp2_with fail
  refine (lawsEqCheckL A4 B4 n4 c4 d4 x.checks ok ok' _ (h4.below CkR.stays hb3) (k4.below CkR.stays hb3) HS4.out).mono ?_
  rintro e w4 ⟨rfl, hc3⟩
  have ra := ra.below hc3
  have rb := rb.below hc3
  have hb4 := hb3.trans (hc3.mono hb3.size)
  obtain ⟨⟨a_3_0, a_3_1, a_3_2, a_3_3, a_3_4, a_3_5⟩, -⟩ := ra.all6
  obtain ⟨⟨b_3_0, b_3_1, b_3_2, b_3_3, b_3_4, b_3_5⟩, -⟩ := rb.all6
  go_wp2_with fail
  refine (lawsEqFkL A5 B5 n5 c5 d5 x.fks ok ok' _ (h5.below FkR.stays hb4) (k5.below FkR.stays hb4) HS5.out).mono ?_
  rintro e w5 ⟨rfl, hc4⟩
  have ra := ra.below hc4
  have rb := rb.below hc4
  have hb5 := hb4.trans (hc4.mono hb4.size)
  obtain ⟨⟨a_4_0, a_4_1, a_4_2, a_4_3, a_4_4, a_4_5⟩, -⟩ := ra.all6
  obtain ⟨⟨b_4_0, b_4_1, b_4_2, b_4_3, b_4_4, b_4_5⟩, -⟩ := rb.all6
  go_wp2_with fail
  go_ret
  exact ⟨rfl, hb5⟩
set_option maxRecDepth 100000 in
set_option maxHeartbeats 1000000 in
theorem lawsEqTableL (A A' : Option Addr) (n c c' : Nat) (l : List Tb) (ok ok' : Nat → Prop) (w : World) (h : Sl TbR 6 ok w A n l) (h' : Sl TbR 6 ok' w A' n l) (hs : szL Tb.sz l ≤ 1048576) :
    Calls Tryz.prog 15 #[.slice A n c, .slice A' n c'] w fun e w' => e = .returned (.bool true) ∧ Below w.heap.size w w' := by
  obtain rfl : l.length = n := h.1
  have hn : l.length ≤ 1048576 := by unfold szL at hs; omega
  have HS := Lib.hid hs
  clear hs
  go_enter Tryz.func15, Tryz.ntmps15
  go_wp2
  go_loopw [5] (fun i wr => ∃ k : Nat, k ≤ l.length ∧ i = .int .i64 k ∧ Below w.heap.size w wr) (fun i _ => l.length - (intOf i).toNat)
  case atStart => exact ⟨0, by omega, rfl, Below.refl _ _⟩
  case round =>
    obtain ⟨k, hk, rfl, hb⟩ := hrel
    by_cases hlt : k < l.length
    · obtain ⟨b, off, A1, n1, c1, A2, n2, c2, A3, n3, c3, A4, n4, c4, A5, n5, c5, -, rfl, q0, q1, q2, q3, q4, q5, s1, s2, s3, s4, s5, -⟩ := TbR.at_ (h.below TbR.stays hb) hlt
      obtain ⟨b', off', B1, m1, d1, B2, m2, d2, B3, m3, d3, B4, m4, d4, B5, m5, d5, -, rfl, r0, r1, r2, r3, r4, r5, t1, t2, t3, t4, t5, -⟩ := TbR.at_ (h'.below TbR.stays hb) hlt
      obtain ⟨rfl, rfl, rfl, rfl, rfl⟩ : n1 = m1 ∧ n2 = m2 ∧ n3 = m3 ∧ n4 = m4 ∧ n5 = m5 := ⟨s1.1.symm.trans t1.1, s2.1.symm.trans t2.1, s3.1.symm.trans t3.1, s4.1.symm.trans t4.1, s5.1.symm.trans t5.1⟩
      have i0 : (0 : Int) ≤ k := by omega
      have i1 : (k : Int) < l.length := by omega
      have hszk : l[k].sz ≤ 1048576 := by have := HS.out; have := sum_mem_le (Tb.sz) l k hlt; unfold szL at *; (try simp only at *); omega
      have HSK := Lib.hid hszk
      clear hszk
      go_wp2_with fail
      go_region_held3 (fun w' => w'.cell? ⟨b, off + k * 6, none⟩ = some (.string l[k].name) ∧ w'.cell? ⟨b, off + k * 6 + 1, none⟩ = some (.slice A1 n1 c1) ∧ w'.cell? ⟨b, off + k * 6 + 2, none⟩ = some (.slice A2 n2 c2) ∧ w'.cell? ⟨b, off + k * 6 + 3, none⟩ = some (.slice A3 n3 c3) ∧ w'.cell? ⟨b, off + k * 6 + 4, none⟩ = some (.slice A4 n4 c4) ∧ w'.cell? ⟨b, off + k * 6 + 5, none⟩ = some (.slice A5 n5 c5) ∧ w'.cell? ⟨b', off' + k * 6, none⟩ = some (.string l[k].name) ∧ w'.cell? ⟨b', off' + k * 6 + 1, none⟩ = some (.slice B1 n1 d1) ∧ w'.cell? ⟨b', off' + k * 6 + 2, none⟩ = some (.slice B2 n2 d2) ∧ w'.cell? ⟨b', off' + k * 6 + 3, none⟩ = some (.slice B3 n3 d3) ∧ w'.cell? ⟨b', off' + k * 6 + 4, none⟩ = some (.slice B4 n4 d4) ∧ w'.cell? ⟨b', off' + k * 6 + 5, none⟩ = some (.slice B5 n5 d5))
        (first | go_keep | exact keepE12 (by assumption) hb1)
        (first | (go_at_call 51; refine (lawsEqTable l[k] A1 B1 n1 c1 d1 A2 B2 n2 c2 d2 A3 B3 n3 c3 d3 A4 B4 n4 c4 d4 A5 B5 n5 c5 d5 ok ok' _ (s1.drew ClR.stays) (s2.drew IntR.stays) (s3.drew UqR.stays) (s4.drew CkR.stays) (s5.drew FkR.stays) (t1.drew ClR.stays) (t2.drew IntR.stays) (t3.drew UqR.stays) (t4.drew CkR.stays) (t5.drew FkR.stays) HSK.out).mono ?_; rintro e w1 ⟨rfl, hb1⟩))
      go_wp2
      go_roundw
      case rel => exact ⟨k + 1, by omega, by go_num, hb.drew.trans (hb1.mono hb.size)⟩
      case measure => simp [intOf]; omega
    · go_wp2
      go_ret
      exact ⟨rfl, hb⟩
set_option maxRecDepth 100000 in
set_option maxHeartbeats 1000000 in
theorem lawsEqTerm (x : Te) (A0 B0 : Option Addr) (n0 c0 d0 : Nat) (ok ok' : Nat → Prop) (w : World) (h0 : Sl TkR 5 ok w A0 n0 x.expr) (k0 : Sl TkR 5 ok' w B0 n0 x.expr) (hs : x.sz ≤ 1048576) :
    Calls Tryz.prog 160 #[.agg #[.slice A0 n0 c0], .agg #[.slice B0 n0 d0]] w fun e w' => e = .returned (.bool true) ∧ Below w.heap.size w w' := by
  have HS0 := Lib.hid (show szL (fun t : Tk => t.vs.size) x.expr ≤ 1048576 by have := hs; unfold Te.sz at this; omega)
  clear hs
  have ra := (Row.new w 181 #[.slice A0 n0 c0]).alloc (.cells #[.slice B0 n0 d0] 181)
  have rb := Row.newAt (w.alloc (.cells #[.slice A0 n0 c0] 181)) 181 #[.slice B0 n0 d0] (w.heap.size + 1) (by simp)
  have hb0 := ((Below.refl w.heap.size w).alloc (Nat.le_refl _) (.cells #[.slice A0 n0 c0] 181)).alloc (by simp) (.cells #[.slice B0 n0 d0] 181)
  go_enter Tryz.func160, Tryz.ntmps160
  go_wp2_with fail
  generalize (w.alloc (.cells #[.slice A0 n0 c0] 181)).alloc (.cells #[.slice B0 n0 d0] 181) = x0 at *
  refine (lawsEqTokL A0 B0 n0 c0 d0 x.expr ok ok' _ (h0.below TkR.stays hb0) (k0.below TkR.stays hb0) HS0.out).mono ?_
  rintro e w1 ⟨rfl, hc0⟩
  have ra := ra.below hc0
  have rb := rb.below hc0
  have hb1 := hb0.trans (hc0.mono hb0.size)
  obtain ⟨a_0_0, -⟩ := ra.all1
  obtain ⟨b_0_0, -⟩ := rb.all1
  go_wp2_with fail
  go_ret
  exact ⟨rfl, hb1⟩
set_option maxRecDepth 100000 in
set_option maxHeartbeats 1000000 in
theorem lawsEqTermL (A A' : Option Addr) (n c c' : Nat) (l : List Te) (ok ok' : Nat → Prop) (w : World) (h : Sl TeR 1 ok w A n l) (h' : Sl TeR 1 ok' w A' n l) (hs : szL Te.sz l ≤ 1048576) :
    Calls Tryz.prog 109 #[.slice A n c, .slice A' n c'] w fun e w' => e = .returned (.bool true) ∧ Below w.heap.size w w' := by
  obtain rfl : l.length = n := h.1
  have hn : l.length ≤ 1048576 := by unfold szL at hs; omega
  have HS := Lib.hid hs
  clear hs
  go_enter Tryz.func109, Tryz.ntmps109
  go_wp2
  go_loopw [5] (fun i wr => ∃ k : Nat, k ≤ l.length ∧ i = .int .i64 k ∧ Below w.heap.size w wr) (fun i _ => l.length - (intOf i).toNat)
  case atStart => exact ⟨0, by omega, rfl, Below.refl _ _⟩
  case round =>
    obtain ⟨k, hk, rfl, hb⟩ := hrel
    by_cases hlt : k < l.length
    · obtain ⟨b, off, A0, n0, c0, -, rfl, q0, s0, -⟩ := TeR.at_ (h.below TeR.stays hb) hlt
      obtain ⟨b', off', B0, m0, d0, -, rfl, r0, t0, -⟩ := TeR.at_ (h'.below TeR.stays hb) hlt
      obtain rfl : n0 = m0 := s0.1.symm.trans t0.1
      have i0 : (0 : Int) ≤ k := by omega
      have i1 : (k : Int) < l.length := by omega
      have hszk : l[k].sz ≤ 1048576 := by have := HS.out; have := sum_mem_le (Te.sz) l k hlt; unfold szL at *; (try simp only at *); omega
      have HSK := Lib.hid hszk
      clear hszk
      go_wp2_with fail
      go_region_held3 (fun w' => w'.cell? ⟨b, off + k, none⟩ = some (.slice A0 n0 c0) ∧ w'.cell? ⟨b', off' + k, none⟩ = some (.slice B0 n0 d0))
        (first | go_keep | exact keepE2 (by assumption) hb1)
        (first | (go_at_call 160; refine (lawsEqTerm l[k] A0 B0 n0 c0 d0 ok ok' _ (s0.drew TkR.stays) (t0.drew TkR.stays) HSK.out).mono ?_; rintro e w1 ⟨rfl, hb1⟩))
      go_wp2
      go_roundw
      case rel => exact ⟨k + 1, by omega, by go_num, hb.drew.trans (hb1.mono hb.size)⟩
      case measure => simp [intOf]; omega
    · go_wp2
      go_ret
      exact ⟨rfl, hb⟩
set_option maxRecDepth 100000 in
set_option maxHeartbeats 1000000 in
theorem lawsEqTrigger (x : Tg) (A2 B2 : Option Addr) (n2 c2 d2 : Nat) (A4 B4 : Option Addr) (n4 c4 d4 : Nat) (ok ok' : Nat → Prop) (w : World) (h2 : Sl TkR 5 ok w A2 n2 x.wher) (h4 : Sl TeR 1 ok w A4 n4 x.terms) (k2 : Sl TkR 5 ok' w B2 n2 x.wher) (k4 : Sl TeR 1 ok' w B4 n4 x.terms) (hs : x.sz ≤ 1048576) :
    Calls Tryz.prog 52 #[.agg #[.string x.table, .int .i64 x.event, .slice A2 n2 c2, .string x.into, .slice A4 n4 c4], .agg #[.string x.table, .int .i64 x.event, .slice B2 n2 d2, .string x.into, .slice B4 n4 d4]] w fun e w' => e = .returned (.bool true) ∧ Below w.heap.size w w' := by
  have HS2 := Lib.hid (show szL (fun t : Tk => t.vs.size) x.wher ≤ 1048576 by have := hs; unfold Tg.sz at this; omega)
  have HS4 := Lib.hid (show szL Te.sz x.terms ≤ 1048576 by have := hs; unfold Tg.sz at this; omega)
  clear hs
  have ra := (Row.new w 91 #[.string x.table, .int .i64 x.event, .slice A2 n2 c2, .string x.into, .slice A4 n4 c4]).alloc (.cells #[.string x.table, .int .i64 x.event, .slice B2 n2 d2, .string x.into, .slice B4 n4 d4] 91)
  have rb := Row.newAt (w.alloc (.cells #[.string x.table, .int .i64 x.event, .slice A2 n2 c2, .string x.into, .slice A4 n4 c4] 91)) 91 #[.string x.table, .int .i64 x.event, .slice B2 n2 d2, .string x.into, .slice B4 n4 d4] (w.heap.size + 1) (by simp)
  have hb0 := ((Below.refl w.heap.size w).alloc (Nat.le_refl _) (.cells #[.string x.table, .int .i64 x.event, .slice A2 n2 c2, .string x.into, .slice A4 n4 c4] 91)).alloc (by simp) (.cells #[.string x.table, .int .i64 x.event, .slice B2 n2 d2, .string x.into, .slice B4 n4 d4] 91)
  go_enter Tryz.func52, Tryz.ntmps52
  go_wp2_with fail
  generalize (w.alloc (.cells #[.string x.table, .int .i64 x.event, .slice A2 n2 c2, .string x.into, .slice A4 n4 c4] 91)).alloc (.cells #[.string x.table, .int .i64 x.event, .slice B2 n2 d2, .string x.into, .slice B4 n4 d4] 91) = x0 at *
  refine (lawsEqTokL A2 B2 n2 c2 d2 x.wher ok ok' _ (h2.below TkR.stays hb0) (k2.below TkR.stays hb0) HS2.out).mono ?_
  rintro e w1 ⟨rfl, hc0⟩
  have ra := ra.below hc0
  have rb := rb.below hc0
  have hb1 := hb0.trans (hc0.mono hb0.size)
  obtain ⟨⟨a_0_0, a_0_1, a_0_2, a_0_3, a_0_4⟩, -⟩ := ra.five
  obtain ⟨⟨b_0_0, b_0_1, b_0_2, b_0_3, b_0_4⟩, -⟩ := rb.five
  go_wp2_with fail
  refine (lawsEqTermL A4 B4 n4 c4 d4 x.terms ok ok' _ (h4.below TeR.stays hb1) (k4.below TeR.stays hb1) HS4.out).mono ?_
  rintro e w2 ⟨rfl, hc1⟩
  have ra := ra.below hc1
  have rb := rb.below hc1
  have hb2 := hb1.trans (hc1.mono hb1.size)
  obtain ⟨⟨a_1_0, a_1_1, a_1_2, a_1_3, a_1_4⟩, -⟩ := ra.five
  obtain ⟨⟨b_1_0, b_1_1, b_1_2, b_1_3, b_1_4⟩, -⟩ := rb.five
  go_wp2_with fail
  go_ret
  exact ⟨rfl, hb2⟩
set_option maxRecDepth 100000 in
set_option maxHeartbeats 1000000 in
theorem lawsEqTriggerL (A A' : Option Addr) (n c c' : Nat) (l : List Tg) (ok ok' : Nat → Prop) (w : World) (h : Sl TgR 5 ok w A n l) (h' : Sl TgR 5 ok' w A' n l) (hs : szL Tg.sz l ≤ 1048576) :
    Calls Tryz.prog 16 #[.slice A n c, .slice A' n c'] w fun e w' => e = .returned (.bool true) ∧ Below w.heap.size w w' := by
  obtain rfl : l.length = n := h.1
  have hn : l.length ≤ 1048576 := by unfold szL at hs; omega
  have HS := Lib.hid hs
  clear hs
  go_enter Tryz.func16, Tryz.ntmps16
  go_wp2
  go_loopw [5] (fun i wr => ∃ k : Nat, k ≤ l.length ∧ i = .int .i64 k ∧ Below w.heap.size w wr) (fun i _ => l.length - (intOf i).toNat)
  case atStart => exact ⟨0, by omega, rfl, Below.refl _ _⟩
  case round =>
    obtain ⟨k, hk, rfl, hb⟩ := hrel
    by_cases hlt : k < l.length
    · obtain ⟨b, off, A2, n2, c2, A4, n4, c4, -, rfl, q0, q1, q2, q3, q4, s2, s4, -⟩ := TgR.at_ (h.below TgR.stays hb) hlt
      obtain ⟨b', off', B2, m2, d2, B4, m4, d4, -, rfl, r0, r1, r2, r3, r4, t2, t4, -⟩ := TgR.at_ (h'.below TgR.stays hb) hlt
      obtain ⟨rfl, rfl⟩ : n2 = m2 ∧ n4 = m4 := ⟨s2.1.symm.trans t2.1, s4.1.symm.trans t4.1⟩
      have i0 : (0 : Int) ≤ k := by omega
      have i1 : (k : Int) < l.length := by omega
      have hszk : l[k].sz ≤ 1048576 := by have := HS.out; have := sum_mem_le (Tg.sz) l k hlt; unfold szL at *; (try simp only at *); omega
      have HSK := Lib.hid hszk
      clear hszk
      go_wp2_with fail
      go_region_held3 (fun w' => w'.cell? ⟨b, off + k * 5, none⟩ = some (.string l[k].table) ∧ w'.cell? ⟨b, off + k * 5 + 1, none⟩ = some (.int .i64 l[k].event) ∧ w'.cell? ⟨b, off + k * 5 + 2, none⟩ = some (.slice A2 n2 c2) ∧ w'.cell? ⟨b, off + k * 5 + 3, none⟩ = some (.string l[k].into) ∧ w'.cell? ⟨b, off + k * 5 + 4, none⟩ = some (.slice A4 n4 c4) ∧ w'.cell? ⟨b', off' + k * 5, none⟩ = some (.string l[k].table) ∧ w'.cell? ⟨b', off' + k * 5 + 1, none⟩ = some (.int .i64 l[k].event) ∧ w'.cell? ⟨b', off' + k * 5 + 2, none⟩ = some (.slice B2 n2 d2) ∧ w'.cell? ⟨b', off' + k * 5 + 3, none⟩ = some (.string l[k].into) ∧ w'.cell? ⟨b', off' + k * 5 + 4, none⟩ = some (.slice B4 n4 d4))
        (first | go_keep | exact keepE10 (by assumption) hb1)
        (first | (go_at_call 52; refine (lawsEqTrigger l[k] A2 B2 n2 c2 d2 A4 B4 n4 c4 d4 ok ok' _ (s2.drew TkR.stays) (s4.drew TeR.stays) (t2.drew TkR.stays) (t4.drew TeR.stays) HSK.out).mono ?_; rintro e w1 ⟨rfl, hb1⟩))
      go_wp2
      go_roundw
      case rel => exact ⟨k + 1, by omega, by go_num, hb.drew.trans (hb1.mono hb.size)⟩
      case measure => simp [intOf]; omega
    · go_wp2
      go_ret
      exact ⟨rfl, hb⟩
end Go.Proofs.YtemimhghhihllaaGreat
namespace Go.Proofs.YtemimhghhihllaaGreat
open Go.RowKit Go.Maps
def atGo (s : ByteArray) : List ByteArray → Nat → Int
  | [], _ => -1
  | x :: xs, i => if (x.toList == s.toList) = true then (i : Int) else atGo s xs (i + 1)
def atN (names : List ByteArray) (s : ByteArray) : Int := atGo s names 0
theorem atGo_snoc (s x : ByteArray) : ∀ (l : List ByteArray) (i : Nat), atGo s (l ++ [x]) i = if atGo s l i = -1 then (if (x.toList == s.toList) = true then ((i + l.length : Nat) : Int) else -1) else atGo s l i
  | [], i => by simp [atGo]
  | y :: ys, i => by
    cases hb : (y.toList == s.toList)
    · simp only [List.cons_append, atGo, hb, Bool.false_eq_true, if_false]
      rw [atGo_snoc s x ys (i + 1), show i + 1 + ys.length = i + (y :: ys).length by simp; omega]
    · simp only [List.cons_append, atGo, hb, if_true]
      rw [if_neg (by omega)]
theorem atGo_rng (s : ByteArray) : ∀ (l : List ByteArray) (i : Nat), atGo s l i = -1 ∨ ((i : Int) ≤ atGo s l i ∧ atGo s l i < i + l.length)
  | [], i => .inl rfl
  | y :: ys, i => by
    cases hb : (y.toList == s.toList)
    · simp only [atGo, hb, Bool.false_eq_true, if_false]
      rcases atGo_rng s ys (i + 1) with h1 | h1
      · exact .inl h1
      · right; simp at h1 ⊢; omega
    · simp only [atGo, hb, if_true]
      right; simp; omega
theorem atN_snoc (l : List ByteArray) (s x : ByteArray) : atN (l ++ [x]) s = if atN l s = -1 then (if (x.toList == s.toList) = true then (l.length : Int) else -1) else atN l s := by
  unfold atN; rw [atGo_snoc]; simp
theorem atN_rng (l : List ByteArray) (s : ByteArray) : atN l s = -1 ∨ (0 ≤ atN l s ∧ atN l s < l.length) := by
  rcases atGo_rng s l 0 with h | h
  · exact .inl h
  · right; unfold atN; simpa using h
def cntGo (seen : List ByteArray) : List ByteArray → Nat
  | [] => 0
  | x :: xs => (if atN seen x = -1 then 1 else 0) + cntGo (seen ++ [x]) xs
theorem cntGo_snoc (x : ByteArray) : ∀ (l seen : List ByteArray), cntGo seen (l ++ [x]) = cntGo seen l + (if atN (seen ++ l) x = -1 then 1 else 0)
  | [], seen => by simp [cntGo]
  | y :: ys, seen => by
    simp only [List.cons_append, cntGo, cntGo_snoc x ys (seen ++ [y]), List.append_assoc, List.nil_append]
    omega
def uniqGo (seen : List ByteArray) : List ByteArray → Bool
  | [] => true
  | x :: xs => decide (atN seen x = -1) && uniqGo (seen ++ [x]) xs
theorem cntGo_le : ∀ (l seen : List ByteArray), cntGo seen l ≤ l.length
  | [], _ => Nat.le_refl _
  | x :: xs, seen => by
    have := cntGo_le xs (seen ++ [x])
    simp only [cntGo, List.length_cons]
    split <;> omega
theorem cntGo_uniq : ∀ (l seen : List ByteArray), (cntGo seen l == l.length) = uniqGo seen l
  | [], _ => rfl
  | x :: xs, seen => by
    have h1 := cntGo_le xs (seen ++ [x])
    have h2 := cntGo_uniq xs (seen ++ [x])
    simp only [cntGo, uniqGo, List.length_cons, ← h2]
    by_cases h : atN seen x = -1
    · rw [if_pos h, decide_eq_true h, Bool.true_and, Bool.eq_iff_iff]; simp; omega
    · rw [if_neg h, decide_eq_false h, Bool.false_and]; simp; omega
def keyS (s : ByteArray) : Lit := .string s.data.toList
def PlacesIn (w : World) (b : Nat) (names : List ByteArray) : Prop := ∃ D : DataW Unit, w.ownsMap Tryz.prog 9 (plainElem Tryz.prog 2) b names.length D ∧ Tidy D ∧
  (∀ s : ByteArray, Maps.has D (keyS s) = decide (atN names s ≠ -1)) ∧ (∀ s : ByteArray, atN names s ≠ -1 → D.atKey (keyS s) (.lit (.int .i64 0)) = .lit (.int .i64 (atN names s))) ∧ Maps.size D = cntGo [] names
theorem keyS_key (s : ByteArray) : WideAt.IsKeyLit (keyS s) := by first | trivial | (simp [keyS, WideAt.IsKeyLit]) | (unfold keyS WideAt.IsKeyLit; trivial)
theorem keyS_of (s : ByteArray) (hs : s.size ≤ maxLen) : Go.keyOf Tryz.prog 9 (.string s) = some (keyS s) := Go.WideMaps.keyOf_string_mk Tryz.underlying9 hs
theorem lawS : Keyed Tryz.prog 9 := string_keyed Tryz.underlying9
theorem zeroI (w : World) : (zeroValue 2).run Tryz.prog w = .ok (.int .i64 0) w := by kernel_rfl
theorem keyS_eq {s x : ByteArray} : keyS x = keyS s ↔ (x.toList == s.toList) = true := by
  rw [ByteArray.toList_eq, ByteArray.toList_eq]
  simp [keyS]
theorem PlacesIn.made (w : World) : PlacesIn (w.alloc (.map #[] 0)) w.heap.size [] :=
  ⟨.map [], World.ownsMap_made _ _ _ _, tidy_empty, fun s => by simp [Maps.has, atN, atGo], fun s h => absurd rfl h, rfl⟩
theorem PlacesIn.kept {w w' : World} {b : Nat} {names : List ByteArray} {row : Option Nat} (h : PlacesIn w b names) (hg : w.grownBy w' row) (hne : some b ≠ row) : PlacesIn w' b names := by
  obtain ⟨D, h1, h2, h3, h4, h5⟩ := h
  exact ⟨D, h1.kept hg hne, h2, h3, h4, h5⟩
theorem PlacesIn.alloc {w : World} {b : Nat} {names : List ByteArray} (h : PlacesIn w b names) (o : Obj) : PlacesIn (w.alloc o) b names := h.kept (World.grownBy_alloc w o none) (by simp)
theorem PlacesIn.drew {w : World} {b : Nat} {names : List ByteArray} (h : PlacesIn w b names) : PlacesIn w.drew b names := h
theorem places_more {w' : World} {b : Nat} {names : List ByteArray} {s : ByteArray} {D : DataW Unit} (hno : atN names s = -1) (h1 : w'.ownsMap Tryz.prog 9 (plainElem Tryz.prog 2) b (names.length + 1) (D.put (keyS s) (.lit (.int .i64 names.length)))) (h2 : Tidy D)
    (h3 : ∀ s : ByteArray, Maps.has D (keyS s) = decide (atN names s ≠ -1)) (h4 : ∀ s : ByteArray, atN names s ≠ -1 → D.atKey (keyS s) (.lit (.int .i64 0)) = .lit (.int .i64 (atN names s))) (h5 : Maps.size D = cntGo [] names) : PlacesIn w' b (names ++ [s]) := by
  refine ⟨_, by simpa using h1, h2.put (keyS_key s) _, fun u => ?_, fun u hu => ?_, by
    rw [Maps.size_put h2, h3 s, decide_eq_false (by simp [hno]), cntGo_snoc, List.nil_append, if_pos hno, ← h5]; rfl⟩
  · rw [atN_snoc]
    by_cases e : keyS u = keyS s
    · rw [e, Maps.has_put_same h2.isMap (keyS_key s)]
      have e2 : (s.toList == u.toList) = true := keyS_eq.1 e.symm
      by_cases hu : atN names u = -1
      · rw [if_pos hu, if_pos e2]; simp
      · rw [if_neg hu]; simp [hu]
    · rw [Maps.has_put_other e, h3]
      have e2 : ¬ (s.toList == u.toList) = true := fun h => e (keyS_eq.2 h).symm
      by_cases hu : atN names u = -1
      · rw [if_pos hu, if_neg e2]; simp [hu]
      · rw [if_neg hu]
  · rw [atN_snoc] at hu ⊢
    by_cases e : keyS u = keyS s
    · have e2 : (s.toList == u.toList) = true := keyS_eq.1 e.symm
      have hu2 : atN names u = -1 := by
        have e3 : s.toList = u.toList := by simpa using e2
        have : atN names u = atN names s := by
          have hh : ∀ (l : List ByteArray) (i : Nat), atGo u l i = atGo s l i := by
            intro l
            induction l with
            | nil => intro i; rfl
            | cons y ys ih => intro i; simp only [atGo, e3, ih]
          exact hh _ _
        rw [this]; exact hno
      rw [if_pos hu2, if_pos e2, e, Maps.atKey_put_same h2.isMap (keyS_key s)]
    · have e2 : ¬ (s.toList == u.toList) = true := fun h => e (keyS_eq.2 h).symm
      by_cases hu2 : atN names u = -1
      · rw [if_pos hu2, if_neg e2] at hu; exact absurd rfl hu
      · rw [if_neg hu2] at hu ⊢
        rw [Maps.atKey_put_other e]
        exact h4 u hu2
theorem places_same {w : World} {b : Nat} {names : List ByteArray} {s : ByteArray} (hyes : atN names s ≠ -1) (h : PlacesIn w b names) : PlacesIn w b (names ++ [s]) := by
  obtain ⟨D, h1, h2, h3, h4, h5⟩ := h
  have key : ∀ u, atN (names ++ [s]) u = atN names u := fun u => by
    rw [atN_snoc]
    by_cases hu : atN names u = -1
    · rw [if_pos hu]
      by_cases e : (s.toList == u.toList) = true
      · exfalso
        have e3 : s.toList = u.toList := by simpa using e
        have hh : ∀ (l : List ByteArray) (i : Nat), atGo u l i = atGo s l i := by
          intro l
          induction l with
          | nil => intro i; rfl
          | cons y ys ih => intro i; simp only [atGo, e3, ih]
        exact hyes ((hh names 0).symm.trans hu)
      · rw [if_neg e, hu]
    · rw [if_neg hu]
  exact ⟨D, h1.mono (by simp), h2, fun u => by rw [key]; exact h3 u, fun u hu => by rw [key] at hu ⊢; exact h4 u hu, by rw [cntGo_snoc, List.nil_append, if_neg hyes, Nat.add_zero]; exact h5⟩
theorem implAddFirst (b : Nat) (names : List ByteArray) (s : ByteArray) (w : World) (h : PlacesIn w b names) (hs : s.size ≤ maxLen) (hn : names.length ≤ 1048576) :
    Calls Tryz.prog 186 #[.map (some b), .string s, .int .i64 names.length] w fun e w' => e = .returned (.tuple #[]) ∧ PlacesIn w' b (names ++ [s]) ∧ w.grownBy w' (some b) := by
  obtain ⟨D, h1, h2, h3, h4, h5⟩ := h
  have wf : (Lit.int .i64 (names.length : Int)).wf = true := WalkArith.wf_i64 (by omega)
  have hval := plainElem_int (H := Unit) Tryz.underlying2 wf
  by_cases hno : atN names s = -1
  · have hh := h3 s
    rw [decide_eq_false (by simp [hno])] at hh
    have HH := Lib.hid hh
    have HN := Lib.hid hno
    have H3 := Lib.hid h3
    have H4 := Lib.hid h4
    have H5 := Lib.hid h5
    clear hh hno h3 h4 h5
    go_enter Tryz.func186, Tryz.ntmps186
    go_wp2_with (first
      | (at_lookup; refine wpList_lookup_own_ok_int _ rfl _ _ 227 rfl 9 2 .i64 lawS Tryz.underlying227 Tryz.underlying2 (zeroI _) b names.length D rfl h1 _ _ rfl (keyS_of s hs) ?_; intro c hat hwc; rw [HH.out])
      | (at_mapUpdate; refine wpList_mapUpdate_own _ rfl _ _ _ 227 rfl 9 2 lawS Tryz.underlying227 _ b names.length D rfl h1 (by unfold maxLen; omega) _ _ _ rfl rfl (keyS_of s hs) _ [] hval ?_; intro w1 hown1 hgrow1))
    go_end0
    exact ⟨rfl, places_more HN.out hown1 h2 H3.out H4.out H5.out, hgrow1⟩
  · have hh := h3 s
    rw [decide_eq_true hno] at hh
    have HH := Lib.hid hh
    have HP := Lib.hid (places_same hno ⟨D, h1, h2, h3, h4, h5⟩)
    clear hh hno h3 h4 h5
    go_enter Tryz.func186, Tryz.ntmps186
    go_wp2_with (first
      | (at_lookup; refine wpList_lookup_own_ok_int _ rfl _ _ 227 rfl 9 2 .i64 lawS Tryz.underlying227 Tryz.underlying2 (zeroI _) b names.length D rfl h1 _ _ rfl (keyS_of s hs) ?_; intro c hat hwc; rw [HH.out]))
    go_end0
    exact ⟨rfl, HP.out, ⟨rfl, rfl, rfl, Nat.le_refl _, fun _ _ _ => rfl⟩⟩
theorem implPlaceOf (b : Nat) (names : List ByteArray) (s : ByteArray) (w : World) (h : PlacesIn w b names) (hs : s.size ≤ maxLen) :
    Calls Tryz.prog 188 #[.map (some b), .string s] w fun e w' => e = .returned (.int .i64 (atN names s)) ∧ w = w' := by
  obtain ⟨D, h1, h2, h3, h4, h5⟩ := h
  have hh := h3 s
  by_cases hno : atN names s = -1
  · rw [decide_eq_false (by simp [hno])] at hh
    have HH := Lib.hid hh
    have HN := Lib.hid hno
    clear hh hno h3 h4 h5
    go_enter Tryz.func188, Tryz.ntmps188
    go_wp2_with (first
      | (at_lookup; refine wpList_lookup_own_ok_int _ rfl _ _ 227 rfl 9 2 .i64 lawS Tryz.underlying227 Tryz.underlying2 (zeroI _) b names.length D rfl h1 _ _ rfl (keyS_of s hs) ?_; intro c hat hwc; rw [HH.out]))
    go_ret
    exact ⟨retI (by rw [HN.out]), rfl⟩
  · rw [decide_eq_true hno] at hh
    have HH := Lib.hid hh
    have HA := Lib.hid (h4 s hno)
    clear hh hno h3 h4 h5
    go_enter Tryz.func188, Tryz.ntmps188
    go_wp2_with (first
      | (at_lookup; refine wpList_lookup_own_ok_int _ rfl _ _ 227 rfl 9 2 .i64 lawS Tryz.underlying227 Tryz.underlying2 (zeroI _) b names.length D rfl h1 _ _ rfl (keyS_of s hs) ?_; intro c hat hwc; rw [HH.out]))
    go_ret
    exact ⟨retI (by have := HA.out; rw [hat] at this; simpa using this), rfl⟩
theorem atGo_drop (nm : ByteArray) (names : List ByteArray) (k : Nat) (h : k < names.length) : atGo nm (names.drop k) k = if (names[k].toList == nm.toList) = true then (k : Int) else atGo nm (names.drop (k + 1)) (k + 1) := by
  rw [List.drop_eq_getElem_cons h]; rfl
theorem tb_name_le {s : List Tb} (hs : szL Tb.sz s ≤ 1048576) (k : Nat) (h : k < s.length) : s[k].name.size ≤ maxLen := by
  have := sum_mem_le Tb.sz s k h
  unfold szL at hs
  have h2 : s[k].name.size ≤ s[k].sz := by unfold Tb.sz; omega
  unfold maxLen; omega
theorem cl_name_le {s : List Cl} (hs : szL Cl.sz s ≤ 1048576) (k : Nat) (h : k < s.length) : s[k].name.size ≤ maxLen := by
  have := sum_mem_le Cl.sz s k h
  unfold szL at hs
  have h2 : s[k].name.size ≤ s[k].sz := by unfold Cl.sz; omega
  unfold maxLen; omega
set_option maxRecDepth 100000 in
set_option maxHeartbeats 1000000 in
theorem specL3At (A : Option Addr) (n c : Nat) (s : List Tb) (nm : ByteArray) (ok : Nat → Prop) (w : World) (h : Sl TbR 6 ok w A n s) (hn : n ≤ 1048576) :
    Calls Tryz.prog 134 #[.slice A n c, .string nm] w fun e w' => e = .returned (.int .i64 (atN (s.map Tb.name) nm)) ∧ Below w.heap.size w w' := by
  obtain rfl : s.length = n := h.1
  have hlen : (s.map Tb.name).length = s.length := by simp
  have HL := Lib.hid hlen
  clear hlen
  go_enter Tryz.func134, Tryz.ntmps134
  go_wp2
  go_loopw [5] (fun i wr => ∃ k : Nat, k ≤ s.length ∧ i = .int .i64 k ∧ Hid (atN (s.map Tb.name) nm = atGo nm ((s.map Tb.name).drop k) k) ∧ Below w.heap.size w wr) (fun i _ => s.length - (intOf i).toNat)
  case atStart => exact ⟨0, by omega, rfl, Lib.hid rfl, Below.refl _ _⟩
  case round =>
    obtain ⟨k, hk, rfl, hat, hb⟩ := hrel
    by_cases hlt : k < s.length
    · obtain ⟨b, off, A1, n1, c1, A2, n2, c2, A3, n3, c3, A4, n4, c4, A5, n5, c5, -, rfl, q0, q1, q2, q3, q4, q5, -⟩ := TbR.at_ (h.below TbR.stays hb) hlt
      have hd := atGo_drop nm (s.map Tb.name) k (by rw [HL.out]; exact hlt)
      rw [List.getElem_map] at hd
      have i0 : (0 : Int) ≤ k := by omega
      have i1 : (k : Int) < s.length := by omega
      cases he : (s[k].name.toList == nm.toList)
      · rw [he] at hd
        have HA := Lib.hid (hat.out.trans hd)
        clear hd hat
        go_wp2_with fail
        go_roundw
        case rel => exact ⟨k + 1, by omega, by go_num, Lib.hid (by simpa using HA.out), hb⟩
        case measure => simp [intOf]; omega
      · rw [he] at hd
        have HA := Lib.hid (hat.out.trans hd)
        clear hd hat
        go_wp2_with fail
        go_ret
        exact ⟨retI (by simpa using HA.out.symm), hb⟩
    · have e : (s.map Tb.name).drop k = [] := List.drop_eq_nil_of_le (by rw [HL.out]; omega)
      have h1 := hat.out
      rw [e] at h1
      have HA := Lib.hid h1
      clear h1 hat e
      go_wp2
      go_ret
      exact ⟨retI HA.out.symm, hb⟩
def MadePlaces (names : List ByteArray) (w : World) (e : Ending) (w' : World) : Prop := ∃ b, e = .returned (.map (some b)) ∧ PlacesIn w' b names ∧ w.heap.size ≤ b ∧ Below w.heap.size w w'
set_option maxRecDepth 100000 in
set_option maxHeartbeats 1000000 in
theorem implTablePlaces (A : Option Addr) (n c : Nat) (s : List Tb) (ok : Nat → Prop) (w : World) (h : Sl TbR 6 ok w A n s) (hs : szL Tb.sz s ≤ 1048576) :
    Calls Tryz.prog 146 #[.slice A n c] w (MadePlaces (s.map Tb.name) w) := by
  obtain rfl : s.length = n := h.1
  have hn : s.length ≤ 1048576 := by unfold szL at hs; omega
  have HS := Lib.hid hs
  clear hs
  have hmm := @run_makeMap Tryz.prog
  go_enter Tryz.func146, Tryz.ntmps146
  go_wp2
  have hm0 := PlacesIn.made w
  have hb0 := (Below.refl w.heap.size w).alloc (Nat.le_refl _) (.map #[] 0)
  generalize w.alloc (.map #[] 0) = x0 at *
  clear hmm
  go_loopw [9] (fun i wr => ∃ k : Nat, k ≤ s.length ∧ i = .int .i64 k ∧ PlacesIn wr w.heap.size ((s.map Tb.name).take k) ∧ Below w.heap.size w wr) (fun i _ => s.length - (intOf i).toNat)
  case atStart => exact ⟨0, by omega, rfl, hm0, hb0⟩
  case round =>
    obtain ⟨k, hk, rfl, hpl, hb⟩ := hrel
    by_cases hlt : k < s.length
    · obtain ⟨b, off, A1, n1, c1, A2, n2, c2, A3, n3, c3, A4, n4, c4, A5, n5, c5, -, rfl, q0, q1, q2, q3, q4, q5, -⟩ := TbR.at_ (h.below TbR.stays hb) hlt
      have hl : ((s.map Tb.name).take k).length = k := by simp; omega
      have hsn : (s.map Tb.name).take (k + 1) = (s.map Tb.name).take k ++ [s[k].name] := by rw [List.take_succ_eq_append_getElem (by simpa using hlt)]; simp
      have hz := Lib.hid (tb_name_le HS.out k hlt)
      have HL := Lib.hid hl
      have HSN := Lib.hid hsn
      clear hl hsn
      have hpa := hpl.alloc (.cells #[.string s[k].name, .slice A1 n1 c1, .slice A2 n2 c2, .slice A3 n3 c3, .slice A4 n4 c4, .slice A5 n5 c5] 86)
      have hba := hb.alloc hb.size (.cells #[.string s[k].name, .slice A1 n1 c1, .slice A2 n2 c2, .slice A3 n3 c3, .slice A4 n4 c4, .slice A5 n5 c5] 86)
      go_wp2_with fail
      have hcall := implAddFirst w.heap.size _ s[k].name _ hpa hz.out (by rw [HL.out]; omega)
      rw [HL.out] at hcall
      refine hcall.mono ?_
      rintro e w1 ⟨rfl, hp1, hg1⟩
      clear hcall
      go_wp2_with fail
      go_roundw
      case rel => exact ⟨k + 1, by omega, by go_num, by rw [HSN.out]; exact hp1, hba.grown hg1 hba.size (fun j hj => by cases hj; exact Nat.le_refl _)⟩
      case measure => simp [intOf]; omega
    · have e : (s.map Tb.name).take k = s.map Tb.name := List.take_of_length_le (by simp; omega)
      rw [e] at hpl
      clear e
      go_wp2
      go_ret
      exact ⟨_, rfl, hpl, Nat.le_refl _, hb⟩
theorem implTableAt (A : Option Addr) (n c : Nat) (s : List Tb) (nm : ByteArray) (ok : Nat → Prop) (w : World) (h : Sl TbR 6 ok w A n s) (hs : szL Tb.sz s ≤ 1048576) (hnm : nm.size ≤ maxLen) :
    Calls Tryz.prog 148 #[.slice A n c, .string nm] w fun e w' => e = .returned (.int .i64 (atN (s.map Tb.name) nm)) ∧ Below w.heap.size w w' := by
  go_enter Tryz.func148, Tryz.ntmps148
  go_wp2_with fail
  refine (implTablePlaces A n c s ok w h hs).mono ?_
  rintro e w1 ⟨b, rfl, hp, hb0, hb⟩
  go_wp2_with fail
  refine (implPlaceOf b _ nm _ hp hnm).mono ?_
  rintro e w2 ⟨rfl, rfl⟩
  go_wp2
  go_ret
  exact ⟨rfl, hb⟩
set_option maxRecDepth 100000 in
set_option maxHeartbeats 1000000 in
theorem implColPlaces (A : Option Addr) (n c : Nat) (s : List Cl) (ok : Nat → Prop) (w : World) (h : Sl ClR 6 ok w A n s) (hs : szL Cl.sz s ≤ 1048576) :
    Calls Tryz.prog 203 #[.slice A n c] w (MadePlaces (s.map Cl.name) w) := by
  obtain rfl : s.length = n := h.1
  have hn : s.length ≤ 1048576 := by unfold szL at hs; omega
  have HS := Lib.hid hs
  clear hs
  have hmm := @run_makeMap Tryz.prog
  go_enter Tryz.func203, Tryz.ntmps203
  go_wp2
  have hm0 := PlacesIn.made w
  have hb0 := (Below.refl w.heap.size w).alloc (Nat.le_refl _) (.map #[] 0)
  generalize w.alloc (.map #[] 0) = x0 at *
  clear hmm
  go_loopw [9] (fun i wr => ∃ k : Nat, k ≤ s.length ∧ i = .int .i64 k ∧ PlacesIn wr w.heap.size ((s.map Cl.name).take k) ∧ Below w.heap.size w wr) (fun i _ => s.length - (intOf i).toNat)
  case atStart => exact ⟨0, by omega, rfl, hm0, hb0⟩
  case round =>
    obtain ⟨k, hk, rfl, hpl, hb⟩ := hrel
    by_cases hlt : k < s.length
    · obtain ⟨b, off, -, rfl, q0, q1, q2, q3, q4, q5⟩ := ClR.at_ (h.below ClR.stays hb) hlt
      have hl : ((s.map Cl.name).take k).length = k := by simp; omega
      have hsn : (s.map Cl.name).take (k + 1) = (s.map Cl.name).take k ++ [s[k].name] := by rw [List.take_succ_eq_append_getElem (by simpa using hlt)]; simp
      have hz := Lib.hid (cl_name_le HS.out k hlt)
      have HL := Lib.hid hl
      have HSN := Lib.hid hsn
      clear hl hsn
      have hpa := hpl.alloc (.cells #[.string s[k].name, .int .i64 s[k].kind, .bool s[k].nn, .int .i64 s[k].d.k, .int .i64 s[k].d.n, .string s[k].d.s] 172)
      have hba := hb.alloc hb.size (.cells #[.string s[k].name, .int .i64 s[k].kind, .bool s[k].nn, .int .i64 s[k].d.k, .int .i64 s[k].d.n, .string s[k].d.s] 172)
      go_wp2_with fail
      have hcall := implAddFirst w.heap.size _ s[k].name _ hpa hz.out (by rw [HL.out]; omega)
      rw [HL.out] at hcall
      refine hcall.mono ?_
      rintro e w1 ⟨rfl, hp1, hg1⟩
      clear hcall
      go_wp2_with fail
      go_roundw
      case rel => exact ⟨k + 1, by omega, by go_num, by rw [HSN.out]; exact hp1, hba.grown hg1 hba.size (fun j hj => by cases hj; exact Nat.le_refl _)⟩
      case measure => simp [intOf]; omega
    · have e : (s.map Cl.name).take k = s.map Cl.name := List.take_of_length_le (by simp; omega)
      rw [e] at hpl
      clear e
      go_wp2
      go_ret
      exact ⟨_, rfl, hpl, Nat.le_refl _, hb⟩
set_option maxRecDepth 100000 in
set_option maxHeartbeats 1000000 in
theorem specColAt (A1 : Option Addr) (n1 c1 : Nat) (v0 v2 v3 v4 v5 : Value) (s : List Cl) (nm : ByteArray) (ok : Nat → Prop) (w : World) (h : Sl ClR 6 ok w A1 n1 s) (hn : n1 ≤ 1048576) :
    Calls Tryz.prog 173 #[.agg #[v0, .slice A1 n1 c1, v2, v3, v4, v5], .string nm] w fun e w' => e = .returned (.int .i64 (atN (s.map Cl.name) nm)) ∧ Below w.heap.size w w' := by
  obtain rfl : s.length = n1 := h.1
  have hlen : (s.map Cl.name).length = s.length := by simp
  have HL := Lib.hid hlen
  clear hlen
  have hb0 := (Below.refl w.heap.size w).alloc (Nat.le_refl _) (.cells #[v0, .slice A1 s.length c1, v2, v3, v4, v5] 86)
  have r0 := Row.new w 86 #[v0, .slice A1 s.length c1, v2, v3, v4, v5]
  go_enter Tryz.func173, Tryz.ntmps173
  go_wp2
  generalize w.alloc (.cells #[v0, .slice A1 s.length c1, v2, v3, v4, v5] 86) = x0 at *
  go_loopw [5] (fun i wr => ∃ k : Nat, k ≤ s.length ∧ i = .int .i64 k ∧ Hid (atN (s.map Cl.name) nm = atGo nm ((s.map Cl.name).drop k) k) ∧ x0 = wr) (fun i _ => s.length - (intOf i).toNat)
  case atStart => exact ⟨0, by omega, rfl, Lib.hid rfl, rfl⟩
  case round =>
    obtain ⟨k, hk, rfl, hat, rfl⟩ := hrel
    obtain ⟨⟨a0, a1, a2, a3, a4, a5⟩, -⟩ := r0.all6
    by_cases hlt : k < s.length
    · obtain ⟨b, off, -, rfl, q0, q1, q2, q3, q4, q5⟩ := ClR.at_ (h.below ClR.stays hb0) hlt
      have hd := atGo_drop nm (s.map Cl.name) k (by rw [HL.out]; exact hlt)
      rw [List.getElem_map] at hd
      have i0 : (0 : Int) ≤ k := by omega
      have i1 : (k : Int) < s.length := by omega
      cases he : (s[k].name.toList == nm.toList)
      · rw [he] at hd
        have HA := Lib.hid (hat.out.trans hd)
        clear hd hat
        go_wp2_with fail
        go_roundw
        case rel => exact ⟨k + 1, by omega, by go_num, Lib.hid (by simpa using HA.out), by first | trivial | rfl⟩
        case measure => simp [intOf]; omega
      · rw [he] at hd
        have HA := Lib.hid (hat.out.trans hd)
        clear hd hat
        go_wp2_with fail
        go_ret
        exact ⟨retI (by simpa using HA.out.symm), hb0⟩
    · have e : (s.map Cl.name).drop k = [] := List.drop_eq_nil_of_le (by rw [HL.out]; omega)
      have h1 := hat.out
      rw [e] at h1
      have HA := Lib.hid h1
      clear h1 hat e
      go_wp2
      go_ret
      exact ⟨retI HA.out.symm, hb0⟩
def lowC (c : UInt8) : Bool := decide (97 ≤ (c.toNat : Int)) && decide ((c.toNat : Int) ≤ 122)
def charsB (s : ByteArray) : Bool := s.data.toList.all lowC
def nameB (s : ByteArray) : Bool := charsB s && (decide (1 ≤ (s.size : Int)) && decide ((s.size : Int) ≤ 8))
theorem all_take {α : Type} (f : α → Bool) (l : List α) (k : Nat) (h : k < l.length) : (l.take (k + 1)).all f = ((l.take k).all f && f l[k]) := by
  rw [List.take_succ_eq_append_getElem h, List.all_append]; simp
theorem all_no {α : Type} (f : α → Bool) (l : List α) (k : Nat) (h : k < l.length) (hf : f l[k] = false) : l.all f = false := by
  rw [Bool.eq_false_iff]; intro ha
  have := List.all_eq_true.1 ha l[k] (List.getElem_mem h)
  rw [hf] at this; cases this
set_option maxHeartbeats 400000 in
theorem specName (s : ByteArray) (w : World) (hs : s.size ≤ maxLen) :
    Calls Tryz.prog 172 #[.string s] w fun e w' => e = .returned (.bool (nameB s)) ∧ w = w' := by
  unfold maxLen at hs
  go_enter Tryz.func172, Tryz.ntmps172
  go_wp2
  go_loop [3] (fun i => ∃ k : Nat, k ≤ s.size ∧ i = .int .i64 k ∧ Hid ((s.data.toList.take k).all lowC = true)) (fun i => s.size - (intOf i).toNat)
  case atStart => exact ⟨0, by omega, rfl, Lib.hid (by simp)⟩
  case round =>
    obtain ⟨k, hk, rfl, hall⟩ := hrel
    by_cases hlt : k < s.size
    · have hl : k < s.data.toList.length := by simpa using hlt
      have hsn := all_take lowC s.data.toList k hl
      have hget : s.data.toList[k] = s[k] := by simp [ByteArray.getElem_eq_getElem_data]
      rw [hall.out, hget, Bool.true_and] at hsn
      by_cases h1 : (s[k].toNat : Int) < 97
      · have HN := Lib.hid (show nameB s = false by
          unfold nameB charsB
          rw [all_no lowC _ k hl (by rw [hget]; unfold lowC; rw [decide_eq_false (by omega)]; rfl), Bool.false_and])
        clear hsn hget hall
        go_wp2
        go_ret
        exact ⟨retB HN.out.symm, rfl⟩
      by_cases h2 : 122 < (s[k].toNat : Int)
      · have HN := Lib.hid (show nameB s = false by
          unfold nameB charsB
          rw [all_no lowC _ k hl (by rw [hget]; unfold lowC; rw [decide_eq_false (p := (s[k].toNat : Int) ≤ 122) (by omega), Bool.and_false]), Bool.false_and])
        have h1' : decide ((s[k].toNat : Int) < 97) = false := by simpa using h1
        clear hsn hget hall
        go_wp2
        go_ret
        exact ⟨retB HN.out.symm, rfl⟩
      · have HA := Lib.hid (show (s.data.toList.take (k + 1)).all lowC = true by rw [hsn]; unfold lowC; rw [decide_eq_true (by omega), decide_eq_true (by omega)]; rfl)
        have h1' : decide ((s[k].toNat : Int) < 97) = false := by simpa using h1
        have h2' : decide (122 < (s[k].toNat : Int)) = false := by simpa using h2
        clear hsn hget hall
        go_wp2
        go_round
        case rel => exact ⟨k + 1, by omega, by go_num, HA⟩
        case measure => simp [intOf]; omega
    · have e : s.data.toList.take k = s.data.toList := List.take_of_length_le (by simp; omega)
      have h1 := hall.out
      rw [e] at h1
      have HN := Lib.hid (show nameB s = (decide (1 ≤ (s.size : Int)) && decide ((s.size : Int) ≤ 8)) by unfold nameB charsB; rw [h1, Bool.true_and])
      clear h1 e hall
      go_wp2_with fail
      refine (specIn _ _ _ _).mono ?_
      rintro e w1 ⟨rfl, rfl⟩
      go_wp2
      go_ret
      exact ⟨retB HN.out.symm, rfl⟩
set_option maxHeartbeats 400000 in
theorem implIsName (s : ByteArray) (w : World) (hs : s.size ≤ maxLen) :
    Calls Tryz.prog 180 #[.string s] w fun e w' => e = .returned (.bool (nameB s)) ∧ w = w' := by
  unfold maxLen at hs
  by_cases hsm : (s.size : Int) < 1
  · have HN := Lib.hid (show nameB s = false by unfold nameB; rw [decide_eq_false (p := 1 ≤ (s.size : Int)) (by omega), Bool.false_and, Bool.and_false])
    go_enter Tryz.func180, Tryz.ntmps180
    go_wp2
    go_ret
    exact ⟨retB HN.out.symm, rfl⟩
  have hsm' : decide ((s.size : Int) < 1) = false := by simpa using hsm
  by_cases hbig : 8 < (s.size : Int)
  · have HN := Lib.hid (show nameB s = false by unfold nameB; rw [decide_eq_false (p := (s.size : Int) ≤ 8) (by omega), Bool.and_false, Bool.and_false])
    go_enter Tryz.func180, Tryz.ntmps180
    go_wp2
    go_ret
    exact ⟨retB HN.out.symm, rfl⟩
  have hbig' : decide (8 < (s.size : Int)) = false := by simpa using hbig
  have HSZ := Lib.hid (show (decide (1 ≤ (s.size : Int)) && decide ((s.size : Int) ≤ 8)) = true by rw [decide_eq_true (by omega), decide_eq_true (by omega)]; rfl)
  go_enter Tryz.func180, Tryz.ntmps180
  go_wp2
  go_loop [14] (fun i => ∃ k : Nat, k ≤ s.size ∧ i = .int .i64 k ∧ Hid ((s.data.toList.take k).all lowC = true)) (fun i => s.size - (intOf i).toNat)
  case atStart => exact ⟨0, by omega, rfl, Lib.hid (by simp)⟩
  case round =>
    obtain ⟨k, hk, rfl, hall⟩ := hrel
    by_cases hlt : k < s.size
    · have hl : k < s.data.toList.length := by simpa using hlt
      have hsn := all_take lowC s.data.toList k hl
      have hget : s.data.toList[k] = s[k] := by simp [ByteArray.getElem_eq_getElem_data]
      rw [hall.out, hget, Bool.true_and] at hsn
      by_cases h1 : (s[k].toNat : Int) < 97
      · have HN := Lib.hid (show nameB s = false by
          unfold nameB charsB
          rw [all_no lowC _ k hl (by rw [hget]; unfold lowC; rw [decide_eq_false (by omega)]; rfl), Bool.false_and])
        clear hsn hget hall
        go_wp2
        go_ret
        exact ⟨retB HN.out.symm, rfl⟩
      by_cases h2 : 122 < (s[k].toNat : Int)
      · have HN := Lib.hid (show nameB s = false by
          unfold nameB charsB
          rw [all_no lowC _ k hl (by rw [hget]; unfold lowC; rw [decide_eq_false (p := (s[k].toNat : Int) ≤ 122) (by omega), Bool.and_false]), Bool.false_and])
        have h1' : decide ((s[k].toNat : Int) < 97) = false := by simpa using h1
        clear hsn hget hall
        go_wp2
        go_ret
        exact ⟨retB HN.out.symm, rfl⟩
      · have HA := Lib.hid (show (s.data.toList.take (k + 1)).all lowC = true by rw [hsn]; unfold lowC; rw [decide_eq_true (by omega), decide_eq_true (by omega)]; rfl)
        have h1' : decide ((s[k].toNat : Int) < 97) = false := by simpa using h1
        have h2' : decide (122 < (s[k].toNat : Int)) = false := by simpa using h2
        clear hsn hget hall
        go_wp2
        go_round
        case rel => exact ⟨k + 1, by omega, by go_num, HA⟩
        case measure => simp [intOf]; omega
    · have e : s.data.toList.take k = s.data.toList := List.take_of_length_le (by simp; omega)
      have h1 := hall.out
      rw [e] at h1
      have HN := Lib.hid (show nameB s = true by unfold nameB charsB; rw [h1, Bool.true_and]; exact HSZ.out)
      clear h1 e hall
      go_wp2
      go_ret
      exact ⟨retB HN.out.symm, rfl⟩
def hasB (l : List Int) (x : Int) : Bool := l.contains x
def colsGo (n : Int) (seen : List Int) : List Int → Bool
  | [] => true
  | x :: xs => (decide (0 ≤ x) && decide (x < n) && !hasB seen x) && colsGo n (seen ++ [x]) xs
def colsInB (l : List Int) (n : Int) : Bool := colsGo n [] l && decide (0 < l.length)
theorem colsGo_at (n : Int) (l : List Int) (k : Nat) (h : k < l.length) : colsGo n (l.take k) (l.drop k) = ((decide (0 ≤ l[k]) && decide (l[k] < n) && !hasB (l.take k) l[k]) && colsGo n (l.take (k + 1)) (l.drop (k + 1))) := by
  rw [List.drop_eq_getElem_cons h, List.take_succ_eq_append_getElem h]; rfl
theorem php : ∀ (n : Nat) (l : List Int), l.Nodup → (∀ x ∈ l, 0 ≤ x ∧ x < n) → l.length ≤ n
  | 0, l, _, h => by
    cases l with
    | nil => simp
    | cons x xs => have := h x (by simp); omega
  | n + 1, l, hd, h => by
    by_cases hm : (n : Int) ∈ l
    · have h1 := php n (l.erase (n : Int)) (hd.erase _) fun x hx => by
        have hx' := (List.Nodup.mem_erase_iff hd).1 hx
        have := h x hx'.2
        have hne := hx'.1
        omega
      rw [List.length_erase_of_mem hm] at h1
      omega
    · have h1 := php n l hd fun x hx => by
        have := h x hx
        have hne : x ≠ (n : Int) := fun e => hm (e ▸ hx)
        omega
      omega
theorem colsGo_nodup (n : Int) : ∀ (l seen : List Int), seen.Nodup → (∀ x ∈ seen, 0 ≤ x ∧ x < n) → colsGo n seen l = true → (seen ++ l).Nodup ∧ ∀ x ∈ seen ++ l, 0 ≤ x ∧ x < n
  | [], seen, h1, h2, _ => by simpa using ⟨h1, h2⟩
  | x :: xs, seen, h1, h2, h => by
    simp only [colsGo, Bool.and_eq_true, decide_eq_true_eq, Bool.not_eq_true'] at h
    obtain ⟨⟨⟨h3, h4⟩, h5⟩, h6⟩ := h
    have hn : x ∉ seen := by simpa [hasB] using h5
    have := colsGo_nodup n xs (seen ++ [x]) (by
      rw [List.nodup_append]
      refine ⟨h1, by simp, fun a ha b hb => ?_⟩
      rw [List.mem_singleton] at hb
      intro e; subst e; subst hb; exact hn ha) (by
      intro y hy
      rw [List.mem_append, List.mem_singleton] at hy
      rcases hy with hy | rfl
      · exact h2 y hy
      · exact ⟨h3, h4⟩) h6
    simpa using this
theorem colsInB_len {l : List Int} {n : Nat} (h : colsInB l n = true) : l.length ≤ n ∧ ∀ x ∈ l, 0 ≤ x ∧ x < n := by
  unfold colsInB at h
  rw [Bool.and_eq_true] at h
  have := colsGo_nodup n l [] (by simp) (by simp) h.1
  simp only [List.nil_append] at this
  exact ⟨php n l this.1 this.2, this.2⟩
theorem Sl.take {α : Type} {R : Rd α} {sz : Nat} {ok : Nat → Prop} {w : World} {A : Option Addr} {n m : Nat} {ds : List α} (h : Sl R sz ok w A n ds) (hm : m ≤ n) : Sl R sz ok w A m (ds.take m) := by
  have hl := h.1
  refine ⟨by simp; omega, fun h0 => ?_⟩
  obtain ⟨b, off, e, hb, hi⟩ := h.2 (by omega)
  refine ⟨b, off, e, hb, fun i hlt => ?_⟩
  simp only [List.length_take] at hlt
  obtain ⟨cs, h1, h2, h3⟩ := hi i (by omega)
  exact ⟨cs, h1, by rw [List.getElem_take]; exact h2, h3⟩
theorem contains_take (l : List Int) (x : Int) (k : Nat) (h : k < l.length) : hasB (l.take (k + 1)) x = (hasB (l.take k) x || l[k] == x) := by
  unfold hasB
  rw [List.take_succ_eq_append_getElem h, List.contains_eq_any_beq, List.any_append, List.contains_eq_any_beq]
  simp [Bool.beq_comm]
theorem specHas (A : Option Addr) (n c : Nat) (l : List Int) (x : Int) (ok : Nat → Prop) (w : World) (h : Sl IntR 1 ok w A n l) (hn : n ≤ 1048576) :
    Calls Tryz.prog 112 #[.slice A n c, .int .i64 x] w fun e w' => e = .returned (.bool (hasB l x)) ∧ w = w' := by
  obtain rfl : l.length = n := h.1
  go_enter Tryz.func112, Tryz.ntmps112
  go_wp2
  go_loop [5] (fun i => ∃ k : Nat, k ≤ l.length ∧ i = .int .i64 k ∧ Hid (hasB (l.take k) x = false)) (fun i => l.length - (intOf i).toNat)
  case atStart => exact ⟨0, by omega, rfl, Lib.hid rfl⟩
  case round =>
    obtain ⟨k, hk, rfl, hno⟩ := hrel
    by_cases hlt : k < l.length
    · obtain ⟨b, off, -, rfl, q0⟩ := IntR.at_ h hlt
      have hs := contains_take l x k hlt
      rw [hno.out, Bool.false_or] at hs
      have i0 : (0 : Int) ≤ k := by omega
      have i1 : (k : Int) < l.length := by omega
      cases he : (l[k] == x)
      · have HA := Lib.hid (hs.trans he)
        clear hs
        go_wp2
        go_round
        case rel => exact ⟨k + 1, by omega, by go_num, HA⟩
        case measure => simp [intOf]; omega
      · have HA := Lib.hid (show hasB l x = true by
          have e : l[k] = x := by simpa using he
          unfold hasB; rw [List.contains_iff_mem]; exact e ▸ List.getElem_mem hlt)
        clear hs
        go_wp2
        go_ret
        exact ⟨retB HA.out.symm, rfl⟩
    · have e : l.take k = l := List.take_of_length_le (by omega)
      have h1 := hno.out
      rw [e] at h1
      have HA := Lib.hid h1
      clear h1 e hno
      go_wp2
      go_ret
      exact ⟨retB HA.out.symm, rfl⟩
theorem Sl.drewN {α : Type} {R : Rd α} (hR : Stays R) {sz : Nat} {ok : Nat → Prop} {w : World} {A : Option Addr} {n : Nat} {ds : List α} (h : Sl R sz ok w A n ds) (m : Nat) : Sl R sz ok (w.drewN m) A n ds := h.stays hR (fun _ h => h) fun _ _ _ h => h
theorem below_drewN {B : Nat} {w w' : World} (h : Below B w w') (m : Nat) : Below B w (w'.drewN m) := ⟨h.os, h.tape, h.output, h.size, h.block⟩
theorem specInV {n lo hi : Int} {b : Bool} (h : (decide (lo ≤ n) && decide (n ≤ hi)) = b) (w : World) :
    Calls Tryz.prog 41 #[.int .i64 n, .int .i64 lo, .int .i64 hi] w fun e w' => e = .returned (.bool b) ∧ w' = w := (specIn n lo hi w).mono fun _ _ ⟨h1, h2⟩ => ⟨by rw [h1, h], h2.symm⟩
theorem specHasV {A : Option Addr} {n c : Nat} {l : List Int} {x : Int} {b : Bool} (hb : hasB l x = b) {ok : Nat → Prop} (w : World) (h : Sl IntR 1 ok w A n l) (hn : n ≤ 1048576) :
    Calls Tryz.prog 112 #[.slice A n c, .int .i64 x] w fun e w' => e = .returned (.bool b) ∧ w' = w := (specHas A n c l x ok w h hn).mono fun _ _ ⟨h1, h2⟩ => ⟨by rw [h1, hb], h2.symm⟩
set_option maxRecDepth 100000 in
set_option maxHeartbeats 1000000 in
theorem specCols (A : Option Addr) (n c : Nat) (l : List Int) (nc : Int) (ok : Nat → Prop) (w : World) (h : Sl IntR 1 ok w A n l) (hc : n ≤ c) (hn : n ≤ 1048576) (h0 : 0 ≤ nc) (h1 : nc ≤ 1048576) :
    Calls Tryz.prog 63 #[.slice A n c, .int .i64 nc] w fun e w' => e = .returned (.bool (colsInB l nc)) ∧ Below w.heap.size w w' := by
  obtain rfl : l.length = n := h.1
  have i2 : IntKind.i64.wrap (nc - 1) = nc - 1 := IntWalk.i64_in _ (by omega)
  go_enter Tryz.func63, Tryz.ntmps63
  go_wp2
  go_loopw [5] (fun i wr => ∃ k : Nat, k ≤ l.length ∧ i = .int .i64 k ∧ Hid (colsGo nc [] l = colsGo nc (l.take k) (l.drop k)) ∧ Below w.heap.size w wr) (fun i _ => l.length - (intOf i).toNat)
  case atStart => exact ⟨0, by omega, rfl, Lib.hid (by simp), Below.refl _ _⟩
  case round =>
    obtain ⟨k, hk, rfl, hgo, hb⟩ := hrel
    by_cases hlt : k < l.length
    · have hw := h.below IntR.stays hb
      obtain ⟨b, off, -, rfl, q0⟩ := IntR.at_ hw hlt
      have ht := hw.take (m := k) (by omega)
      have hs := colsGo_at nc l k hlt
      have i0 : (0 : Int) ≤ k := by omega
      have i1 : (k : Int) < l.length := by omega
      have i3 : (k : Int) ≤ c := by omega
      cases hin : (decide (0 ≤ l[k]) && decide (l[k] ≤ nc - 1))
      · have HI := Lib.hid hin
        have HF := Lib.hid (show colsInB l nc = false by
          unfold colsInB
          rw [hgo.out, hs, show (decide (0 ≤ l[k]) && decide (l[k] < nc)) = false by
            rw [← hin]; congr 1; rw [decide_eq_decide]; omega]
          simp)
        clear hs hin
        go_wp2_with fail
        go_quiet ((go_at_call 41; exact Calls.quiet_of_same (specInV HI.out _)))
        go_wp2
        go_ret
        exact ⟨retB HF.out.symm, below_drewN hb _⟩
      · have HI := Lib.hid hin
        have hin2 : (decide (0 ≤ l[k]) && decide (l[k] < nc)) = true := by
          rw [← hin]; congr 1; rw [decide_eq_decide]; omega
        rw [hin2, Bool.true_and] at hs
        cases hhas : hasB (l.take k) l[k]
        · rw [hhas] at hs
          have HH := Lib.hid hhas
          have HG := Lib.hid (hgo.out.trans hs)
          clear hs hin hhas hgo hin2
          go_wp2_with fail
          go_quiet ((first | (go_at_call 41; exact Calls.quiet_of_same (specInV HI.out _)) | (go_at_call 112; exact Calls.quiet_of_same (specHasV HH.out _ (ht.drewN IntR.stays _) (by omega)))))
          go_wp2
          go_roundw
          case rel => exact ⟨k + 1, by omega, by go_num, Lib.hid (by simpa using HG.out), below_drewN hb _⟩
          case measure => simp [intOf]; omega
        · rw [hhas] at hs
          have HH := Lib.hid hhas
          have HF := Lib.hid (show colsInB l nc = false by unfold colsInB; rw [hgo.out, hs]; simp)
          clear hs hin hhas hgo hin2
          go_wp2_with fail
          go_quiet ((first | (go_at_call 41; exact Calls.quiet_of_same (specInV HI.out _)) | (go_at_call 112; exact Calls.quiet_of_same (specHasV HH.out _ (ht.drewN IntR.stays _) (by omega)))))
          go_wp2
          go_ret
          exact ⟨retB HF.out.symm, below_drewN hb _⟩
    · have e1 : l.take k = l := List.take_of_length_le (by omega)
      have e2 : l.drop k = [] := List.drop_eq_nil_of_le (by omega)
      have hg := hgo.out
      rw [e1, e2] at hg
      have HA := Lib.hid (show colsInB l nc = decide (0 < l.length) by
        unfold colsInB; rw [hg]; simp [colsGo])
      clear hg e1 e2 hgo
      go_wp2
      go_ret
      exact ⟨retB HA.out.symm, hb⟩
def MetIn (w : World) (b n : Nat) (l : List Int) : Prop := ∃ D : DataW Unit, w.ownsMap Tryz.prog 2 (plainElem Tryz.prog 4) b n D ∧ IsMap D ∧ ∀ x : Int, D.atKey (.int .i64 x) (.lit (.bool false)) = .lit (.bool (hasB l x))
theorem MetIn.made (w : World) : MetIn (w.alloc (.map #[] 0)) w.heap.size 0 [] := ⟨.map [], World.ownsMap_made _ _ _ _, isMap_empty, fun x => by simp [DataW.atKey, hasB]⟩
theorem lawI : Keyed Tryz.prog 2 := int_keyed Tryz.underlying2
theorem zeroB' (w : World) : (zeroValue 4).run Tryz.prog w = .ok (.bool false) w := by kernel_rfl
theorem plainElem_bool_inv {P : Program} {e : TypeId} (he : P.underlying e = some .bool) {v : Value} {z : DataW Unit × List MemPlace} (h : plainElem P e v = some z) : ∃ x, v = .bool x ∧ z = (.lit (.bool x), []) := by
  unfold plainElem at h
  rw [he] at h
  cases v <;> simp at h
  exact ⟨_, rfl, h.symm⟩
theorem MetIn.look {w : World} {b n : Nat} {l : List Int} (h : MetIn w b n l) {x : Int} (hw : (Lit.int .i64 x).wf = true) : (Instr.lookup 187 (.map (some b)) (.int .i64 x) false).run Tryz.prog w = .ok (.bool (hasB l x)) w := by
  obtain ⟨D, h1, h2, h3⟩ := h
  obtain ⟨v, ps, hrun, hv⟩ := h1.lookup lawI Tryz.underlying187 (zeroB' w) (plainElem_bool Tryz.underlying4 false) (keyOf_int_mk Tryz.underlying2 hw)
  obtain ⟨y, rfl, hy⟩ := plainElem_bool_inv Tryz.underlying4 hv
  simp only [Prod.mk.injEq] at hy
  rw [h3 x] at hy
  have : hasB l x = y := by simpa using hy.1
  rw [this]; exact hrun
theorem implIsPlace (p nc : Int) (w : World) : Calls Tryz.prog 48 #[.int .i64 p, .int .i64 nc] w fun e w' => e = .returned (.bool (decide (0 ≤ p) && decide (p < nc))) ∧ w = w' := by
  by_cases h : 0 ≤ p
  · go_enter Tryz.func48, Tryz.ntmps48
    go_wp2
    go_ret
    exact ⟨retB (by simp [h]), rfl⟩
  · have h' : decide (0 ≤ p) = false := by simpa using h
    go_enter Tryz.func48, Tryz.ntmps48
    go_wp2
    go_ret
    exact ⟨retB (by simp), rfl⟩
theorem IsMap.key_int (x : Int) : WideAt.IsKeyLit (.int .i64 x) := by first | trivial | (simp [WideAt.IsKeyLit]) | (unfold WideAt.IsKeyLit; trivial)
set_option maxRecDepth 100000 in
set_option maxHeartbeats 1000000 in
theorem implAreColumns (A : Option Addr) (n c : Nat) (l : List Int) (nc : Nat) (ok : Nat → Prop) (w : World) (h : Sl IntR 1 ok w A n l) (hn : n ≤ 1048576) (h1 : nc ≤ 1048576) :
    Calls Tryz.prog 67 #[.slice A n c, .int .i64 nc] w fun e w' => e = .returned (.bool (colsInB l nc)) ∧ Below w.heap.size w w' := by
  obtain rfl : l.length = n := h.1
  by_cases hsm : (l.length : Int) < 1
  · have HF := Lib.hid (show colsInB l nc = false by unfold colsInB; rw [decide_eq_false (p := 0 < l.length) (by omega), Bool.and_false])
    go_enter Tryz.func67, Tryz.ntmps67
    go_wp2
    go_ret
    exact ⟨retB HF.out.symm, Below.refl _ _⟩
  have hsm' : decide ((l.length : Int) < 1) = false := by simpa using hsm
  by_cases hbig : nc < l.length
  · have HF := Lib.hid (show colsInB l nc = false by
      rw [Bool.eq_false_iff]; intro e
      have := (colsInB_len e).1; omega)
    have hbig' : decide ((nc : Int) < (l.length : Int)) = true := by simpa using hbig
    have hbig2 : decide (nc < l.length) = true := by simpa using hbig
    go_enter Tryz.func67, Tryz.ntmps67
    go_wp2
    go_ret
    exact ⟨retB HF.out.symm, Below.refl _ _⟩
  have hbig' : decide ((nc : Int) < (l.length : Int)) = false := by simpa using hbig
  have hbig2 : decide (nc < l.length) = false := by simpa using hbig
  have hmm := @run_makeMap Tryz.prog
  go_enter Tryz.func67, Tryz.ntmps67
  go_wp2
  have hm0 := MetIn.made w
  have hb0 := (Below.refl w.heap.size w).alloc (Nat.le_refl _) (.map #[] 0)
  generalize w.alloc (.map #[] 0) = x0 at *
  clear hmm
  go_loopw [20] (fun i wr => ∃ k : Nat, k ≤ l.length ∧ i = .int .i64 k ∧ MetIn wr w.heap.size k (l.take k) ∧ Hid (colsGo nc [] l = colsGo nc (l.take k) (l.drop k)) ∧ Below w.heap.size w wr) (fun i _ => l.length - (intOf i).toNat)
  case atStart => exact ⟨0, by omega, rfl, hm0, Lib.hid (by simp), hb0⟩
  case round =>
    obtain ⟨k, hk, rfl, hmet, hgo, hb⟩ := hrel
    by_cases hlt : k < l.length
    · obtain ⟨b, off, -, rfl, q0⟩ := IntR.at_ (h.below IntR.stays hb) hlt
      have hs := colsGo_at nc l k hlt
      have i0 : (0 : Int) ≤ k := by omega
      have i1 : (k : Int) < l.length := by omega
      cases hin : (decide (0 ≤ l[k]) && decide (l[k] < nc))
      · have HI := Lib.hid hin
        have HF := Lib.hid (show colsInB l nc = false by unfold colsInB; rw [hgo.out, hs, hin]; simp)
        clear hs hin
        go_wp2_with fail
        refine (implIsPlace _ _ _).mono ?_
        rintro e w1 ⟨rfl, rfl⟩
        rw [HI.out]
        go_wp2
        go_ret
        exact ⟨retB HF.out.symm, hb⟩
      · have HI := Lib.hid hin
        have hwf : (Lit.int .i64 l[k]).wf = true := WalkArith.wf_i64 (by rw [Bool.and_eq_true, decide_eq_true_eq, decide_eq_true_eq] at hin; omega)
        have hlk := hmet.look hwf
        rw [hin, Bool.true_and] at hs
        cases hhas : hasB (l.take k) l[k]
        · rw [hhas] at hs hlk
          have HG := Lib.hid (hgo.out.trans hs)
          have HH := Lib.hid hhas
          obtain ⟨D, m1, m2, m3⟩ := hmet
          have M3 := Lib.hid m3
          have hval := plainElem_bool (H := Unit) Tryz.underlying4 true
          clear hs hin hhas hgo m3
          go_wp2_with fail
          refine (implIsPlace _ _ _).mono ?_
          rintro e w1 ⟨rfl, rfl⟩
          rw [HI.out]
          go_wp2_with (first
            | (at_mapUpdate; refine wpList_mapUpdate_own _ rfl _ _ _ 187 rfl 2 4 lawI Tryz.underlying187 _ w.heap.size k D rfl m1 (by unfold maxLen; omega) _ _ _ rfl rfl (keyOf_int_mk Tryz.underlying2 hwf) _ [] hval ?_; intro w1 hown1 hgrow1))
          go_roundw
          case rel =>
            refine ⟨k + 1, by omega, by go_num, ⟨_, hown1, m2.put _ _, fun x => ?_⟩, Lib.hid (by simpa using HG.out), hb.grown hgrow1 hb.size (fun j hj => by cases hj; exact Nat.le_refl _)⟩
            rw [contains_take l x k hlt]
            by_cases e : (Lit.int .i64 x) = .int .i64 l[k]
            · have e2 : x = l[k] := by injection e
              rw [e, Maps.atKey_put_same m2 (IsMap.key_int _), e2]
              simp
            · rw [Maps.atKey_put_other e, M3.out x]
              have e2 : (l[k] == x) = false := by
                rw [beq_eq_false_iff_ne]; intro h; exact e (by rw [h])
              rw [e2, Bool.or_false]
          case measure => simp [intOf]; omega
        · rw [hhas] at hs hlk
          have HF := Lib.hid (show colsInB l nc = false by unfold colsInB; rw [hgo.out, hs]; simp)
          clear hs hin hhas hgo
          go_wp2_with fail
          refine (implIsPlace _ _ _).mono ?_
          rintro e w1 ⟨rfl, rfl⟩
          rw [HI.out]
          go_wp2
          go_ret
          exact ⟨retB HF.out.symm, hb⟩
    · have e1 : l.take k = l := List.take_of_length_le (by omega)
      have e2 : l.drop k = [] := List.drop_eq_nil_of_le (by omega)
      have hg := hgo.out
      rw [e1, e2] at hg
      have HA := Lib.hid (show colsInB l nc = true by unfold colsInB; rw [hg, decide_eq_true (by omega)]; rfl)
      clear hg e1 e2 hgo
      go_wp2
      go_ret
      exact ⟨retB HA.out.symm, hb⟩
def fitsB (k : Int) (v : Vl) : Bool := valOkB v.k v.n v.s && (v.k == 0 || v.k == k)
def colB (c : Cl) : Bool := nameB c.name && ((c.kind == 1 || c.kind == 2) && fitsB c.kind c.d)
def colsB (l : List Cl) : Bool := decide (1 ≤ l.length) && (decide (l.length ≤ 8) && (l.all colB && uniqGo [] (l.map Cl.name)))
def nnAt (cols : List Cl) (i : Int) : Bool := (cols[i.toNat]?.map Cl.nn).getD false
def keyB (cols : List Cl) (key : List Int) : Bool := colsInB key cols.length && key.all (nnAt cols)
def uqsB (cols : List Cl) (l : List Uq) : Bool := decide (l.length ≤ 3) && l.all (fun u => colsInB u.cols cols.length)
def cksB (cols : List Cl) (l : List Ck) : Bool := decide (l.length ≤ 3) && l.all (fun u => exprB u.expr cols.length)
def actB (a : Int) : Bool := a == 0 || (a == 1 || a == 2)
def fkB (n : Nat) (f : Fk) : Bool := colsInB f.cols n && (nameB f.table && (actB f.del && actB f.upd))
def fksB (cols : List Cl) (l : List Fk) : Bool := decide (l.length ≤ 3) && l.all (fkB cols.length)
def tableB (t : Tb) : Bool := nameB t.name && (colsB t.cols && (keyB t.cols t.key && (uqsB t.cols t.uniqs && (cksB t.cols t.checks && fksB t.cols t.fks))))
theorem implValFits (k : Int) (v : Vl) (w : World) :
    Calls Tryz.prog 152 #[.int .i64 k, .agg #[.int .i64 v.k, .int .i64 v.n, .string v.s]] w fun e w' => e = .returned (.bool (fitsB k v)) ∧ Below w.heap.size w w' := by
  have hb0 := (Below.refl w.heap.size w).alloc (Nat.le_refl _) (.cells #[.int .i64 v.k, .int .i64 v.n, .string v.s] 93)
  have r0 := Row.new w 93 #[.int .i64 v.k, .int .i64 v.n, .string v.s]
  unfold fitsB
  cases hok : valOkB v.k v.n v.s
  · have HO := Lib.hid hok
    clear hok
    go_enter Tryz.func152, Tryz.ntmps152
    go_wp2_with fail
    refine (implValOk _ _ _ _).mono ?_
    rintro e w1 ⟨rfl, hb1⟩
    rw [HO.out]
    go_wp2
    go_ret
    exact ⟨rfl, hb0.trans (hb1.mono hb0.size)⟩
  · have HO := Lib.hid hok
    clear hok
    by_cases h0 : v.k = 0
    · have e0 : (v.k == 0) = true := by simpa using h0
      clear h0
      have HE := Lib.hid e0
      go_enter Tryz.func152, Tryz.ntmps152
      go_wp2_with fail
      refine (implValOk _ _ _ _).mono ?_
      rintro e w1 ⟨rfl, hb1⟩
      rw [HO.out]
      obtain ⟨⟨c0, c1, c2⟩, -⟩ := (r0.below hb1).three
      go_wp2
      go_ret
      exact ⟨retB (by rw [HE.out]; rfl), hb0.trans (hb1.mono hb0.size)⟩
    · have e0 : (v.k == 0) = false := by simpa using h0
      clear h0
      have HE := Lib.hid e0
      go_enter Tryz.func152, Tryz.ntmps152
      go_wp2_with fail
      refine (implValOk _ _ _ _).mono ?_
      rintro e w1 ⟨rfl, hb1⟩
      rw [HO.out]
      obtain ⟨⟨c0, c1, c2⟩, -⟩ := (r0.below hb1).three
      go_wp2
      go_ret
      exact ⟨retB (by rw [HE.out]; rfl), hb0.trans (hb1.mono hb0.size)⟩
set_option maxRecDepth 100000 in
set_option maxHeartbeats 400000 in
theorem implColOk (x : Cl) (w : World) (hs : x.name.size ≤ maxLen) :
    Calls Tryz.prog 202 #[.agg #[.string x.name, .int .i64 x.kind, .bool x.nn, .int .i64 x.d.k, .int .i64 x.d.n, .string x.d.s]] w fun e w' => e = .returned (.bool (colB x)) ∧ Below w.heap.size w w' := by
  have hb0 := (Below.refl w.heap.size w).alloc (Nat.le_refl _) (.cells #[.string x.name, .int .i64 x.kind, .bool x.nn, .int .i64 x.d.k, .int .i64 x.d.n, .string x.d.s] 172)
  have HB := Lib.hid hb0
  unfold colB
  cases hn : nameB x.name
  · have HN := Lib.hid hn
    clear hn
    go_enter Tryz.func202, Tryz.ntmps202
    go_wp2_with fail
    refine (implIsName _ _ hs).mono ?_
    rintro e w1 ⟨rfl, rfl⟩
    rw [HN.out]
    go_wp2
    go_ret
    exact ⟨rfl, HB.out⟩
  have HN := Lib.hid hn
  clear hn
  by_cases h1 : x.kind = 1
  · have e1 : (x.kind == 1) = true := by simpa using h1
    have HE := Lib.hid e1
    clear h1
    go_enter Tryz.func202, Tryz.ntmps202
    go_wp2_with fail
    refine (implIsName _ _ hs).mono ?_
    rintro e w1 ⟨rfl, rfl⟩
    rw [HN.out]
    go_wp2_with fail
    refine (implValFits _ x.d _).mono ?_
    rintro e w1 ⟨rfl, hb1⟩
    go_wp2
    go_ret
    exact ⟨retB (by rw [HE.out]; rfl), HB.out.trans (hb1.mono HB.out.size)⟩
  have e1 : (x.kind == 1) = false := by simpa using h1
  by_cases h2 : x.kind = 2
  · have e2 : (x.kind == 2) = true := by simpa using h2
    have HE := Lib.hid e1
    have HE2 := Lib.hid e2
    clear h1 h2
    go_enter Tryz.func202, Tryz.ntmps202
    go_wp2_with fail
    refine (implIsName _ _ hs).mono ?_
    rintro e w1 ⟨rfl, rfl⟩
    rw [HN.out]
    go_wp2_with fail
    refine (implValFits _ x.d _).mono ?_
    rintro e w1 ⟨rfl, hb1⟩
    go_wp2
    go_ret
    exact ⟨retB (by rw [HE.out, HE2.out]; rfl), HB.out.trans (hb1.mono HB.out.size)⟩
  · have e2 : (x.kind == 2) = false := by simpa using h2
    have HE := Lib.hid e1
    have HE2 := Lib.hid e2
    clear h1 h2
    go_enter Tryz.func202, Tryz.ntmps202
    go_wp2_with fail
    refine (implIsName _ _ hs).mono ?_
    rintro e w1 ⟨rfl, rfl⟩
    rw [HN.out]
    go_wp2
    go_ret
    exact ⟨retB (by rw [HE.out, HE2.out]; rfl), HB.out⟩
theorem implAction (a : Int) (w : World) : Calls Tryz.prog 204 #[.int .i64 a] w fun e w' => e = .returned (.bool (actB a)) ∧ w = w' := by
  unfold actB
  by_cases h0 : a = 0
  · subst h0
    go_enter Tryz.func204, Tryz.ntmps204
    go_wp2
    go_ret
    exact ⟨rfl, rfl⟩
  have e0 : (a == 0) = false := by simpa using h0
  by_cases h1 : a = 1
  · subst h1
    go_enter Tryz.func204, Tryz.ntmps204
    go_wp2
    go_ret
    exact ⟨rfl, rfl⟩
  have e1 : (a == 1) = false := by simpa using h1
  have HE := Lib.hid e0
  have HE1 := Lib.hid e1
  go_enter Tryz.func204, Tryz.ntmps204
  go_wp2
  go_ret
  exact ⟨retB (by rw [HE.out, HE1.out]; rfl), rfl⟩
set_option maxRecDepth 100000 in
set_option maxHeartbeats 1000000 in
theorem implColsOk (A : Option Addr) (n c : Nat) (l : List Cl) (ok : Nat → Prop) (w : World) (h : Sl ClR 6 ok w A n l) (hs : szL Cl.sz l ≤ 1048576) :
    Calls Tryz.prog 181 #[.slice A n c] w fun e w' => e = .returned (.bool (colsB l)) ∧ Below w.heap.size w w' := by
  obtain rfl : l.length = n := h.1
  have hn : l.length ≤ 1048576 := by unfold szL at hs; omega
  have HS := Lib.hid hs
  clear hs
  by_cases h1 : (l.length : Int) < 1
  · have HF := Lib.hid (show colsB l = false by unfold colsB; rw [decide_eq_false (p := 1 ≤ l.length) (by omega)]; rfl)
    go_enter Tryz.func181, Tryz.ntmps181
    go_wp2
    go_ret
    exact ⟨retB HF.out.symm, Below.refl _ _⟩
  have h1' : decide ((l.length : Int) < 1) = false := by simpa using h1
  by_cases h8 : 8 < (l.length : Int)
  · have HF := Lib.hid (show colsB l = false by unfold colsB; rw [decide_eq_false (p := l.length ≤ 8) (by omega), Bool.false_and, Bool.and_false])
    go_enter Tryz.func181, Tryz.ntmps181
    go_wp2
    go_ret
    exact ⟨retB HF.out.symm, Below.refl _ _⟩
  have h8' : decide (8 < (l.length : Int)) = false := by simpa using h8
  have HLEN := Lib.hid (show decide (1 ≤ l.length) = true ∧ decide (l.length ≤ 8) = true from ⟨decide_eq_true (by omega), decide_eq_true (by omega)⟩)
  go_enter Tryz.func181, Tryz.ntmps181
  go_wp2
  go_loopw [15] (fun i wr => ∃ k : Nat, k ≤ l.length ∧ i = .int .i64 k ∧ Hid ((l.take k).all colB = true) ∧ Below w.heap.size w wr) (fun i _ => l.length - (intOf i).toNat)
  case atStart => exact ⟨0, by omega, rfl, Lib.hid (by simp), Below.refl _ _⟩
  case round =>
    obtain ⟨k, hk, rfl, hall, hb⟩ := hrel
    by_cases hlt : k < l.length
    · obtain ⟨b, off, -, rfl, q0, q1, q2, q3, q4, q5⟩ := ClR.at_ (h.below ClR.stays hb) hlt
      have hsn := all_take colB l k hlt
      rw [hall.out, Bool.true_and] at hsn
      have HZ := Lib.hid (cl_name_le HS.out k hlt)
      have hba := hb.alloc hb.size (.cells #[.string l[k].name, .int .i64 l[k].kind, .bool l[k].nn, .int .i64 l[k].d.k, .int .i64 l[k].d.n, .string l[k].d.s] 172)
      cases hc : colB l[k]
      · have HC := Lib.hid hc
        have HF := Lib.hid (show colsB l = false by unfold colsB; rw [all_no colB l k hlt hc]; simp)
        clear hsn hc hall
        go_wp2_with fail
        refine (implColOk _ _ HZ.out).mono ?_
        rintro e w1 ⟨rfl, hb1⟩
        rw [HC.out]
        go_wp2
        go_ret
        exact ⟨retB HF.out.symm, hba.trans (hb1.mono hba.size)⟩
      · have HC := Lib.hid hc
        have HA := Lib.hid (hsn.trans hc)
        clear hsn hc hall
        go_wp2_with fail
        refine (implColOk _ _ HZ.out).mono ?_
        rintro e w1 ⟨rfl, hb1⟩
        rw [HC.out]
        go_wp2
        go_roundw
        case rel => exact ⟨k + 1, by omega, by go_num, HA, hba.trans (hb1.mono hba.size)⟩
        case measure => simp [intOf]; omega
    · have e : l.take k = l := List.take_of_length_le (by omega)
      have h2 := hall.out
      rw [e] at h2
      have HA := Lib.hid h2
      have HF := Lib.hid (show colsB l = uniqGo [] (l.map Cl.name) by unfold colsB; rw [h2, HLEN.out.1, HLEN.out.2]; simp)
      clear h2 e hall
      go_wp2_with fail
      refine (implColPlaces A l.length c l ok _ (h.below ClR.stays hb) HS.out).mono ?_
      rintro e w1 ⟨bm, rfl, hp, hbb, hb1⟩
      obtain ⟨D, p1, p2, p3, p4, p5⟩ := hp
      have HU := Lib.hid (cntGo_uniq (l.map Cl.name) [])
      have HP := Lib.hid p5
      clear p3 p4 p5
      go_wp2_with (first | (at_len; refine wpList_len_own _ rfl _ 227 rfl 9 2 Tryz.underlying227 _ bm _ D rfl p1 ?_))
      go_ret
      refine ⟨retB ?_, hb.trans (hb1.mono hb.size)⟩
      rw [HF.out, ← HU.out, HP.out, Bool.eq_iff_iff]
      simp
      try omega
set_option maxRecDepth 100000 in
set_option maxHeartbeats 1000000 in
theorem implKeyOk (A1 A2 : Option Addr) (n1 c1 n2 c2 : Nat) (v0 v3 v4 v5 : Value) (cols : List Cl) (key : List Int) (ok : Nat → Prop) (w : World) (h : Sl ClR 6 ok w A1 n1 cols) (hk : Sl IntR 1 ok w A2 n2 key) (hn1 : n1 ≤ 1048576) (hn2 : n2 ≤ 1048576) :
    Calls Tryz.prog 182 #[.agg #[v0, .slice A1 n1 c1, .slice A2 n2 c2, v3, v4, v5]] w fun e w' => e = .returned (.bool (keyB cols key)) ∧ Below w.heap.size w w' := by
  obtain rfl : cols.length = n1 := h.1
  obtain rfl : key.length = n2 := hk.1
  have hb0 := (Below.refl w.heap.size w).alloc (Nat.le_refl _) (.cells #[v0, .slice A1 cols.length c1, .slice A2 key.length c2, v3, v4, v5] 86)
  have r0 := Row.new w 86 #[v0, .slice A1 cols.length c1, .slice A2 key.length c2, v3, v4, v5]
  cases hc : colsInB key cols.length
  · have HC := Lib.hid hc
    clear hc
    go_enter Tryz.func182, Tryz.ntmps182
    go_wp2_with fail
    refine (implAreColumns A2 key.length c2 key cols.length ok _ (hk.below IntR.stays hb0) hn2 hn1).mono ?_
    rintro e w1 ⟨rfl, hb1⟩
    rw [HC.out]
    go_wp2
    go_ret
    exact ⟨retB (by unfold keyB; rw [HC.out]; rfl), hb0.trans (hb1.mono hb0.size)⟩
  have HIN := Lib.hid (colsInB_len hc).2
  have HC := Lib.hid hc
  clear hc
  go_enter Tryz.func182, Tryz.ntmps182
  go_wp2_with fail
  refine (implAreColumns A2 key.length c2 key cols.length ok _ (hk.below IntR.stays hb0) hn2 hn1).mono ?_
  rintro e w1 ⟨rfl, hb1⟩
  rw [HC.out]
  have hbb := hb0.trans (hb1.mono hb0.size)
  have r1 := r0.below hb1
  obtain ⟨⟨a0, a1, a2, a3, a4, a5⟩, -⟩ := r1.all6
  have h1' := h.below ClR.stays hbb
  have hk1 := hk.below IntR.stays hbb
  clear r0 r1
  go_wp2_with fail
  go_loop [15] (fun i => ∃ k : Nat, k ≤ key.length ∧ i = .int .i64 k ∧ Hid ((key.take k).all (nnAt cols) = true)) (fun i => key.length - (intOf i).toNat)
  case atStart => exact ⟨0, by omega, rfl, Lib.hid (by simp)⟩
  case round =>
    obtain ⟨k, hkk, rfl, hall⟩ := hrel
    by_cases hlt : k < key.length
    · obtain ⟨b, off, -, rfl, q0⟩ := IntR.at_ hk1 hlt
      have hin := HIN.out _ (List.getElem_mem hlt)
      have hsn := all_take (nnAt cols) key k hlt
      rw [hall.out, Bool.true_and] at hsn
      have hno := fun hf => all_no (nnAt cols) key k hlt hf
      obtain ⟨j, hj⟩ : ∃ j : Nat, key[k] = (j : Int) := ⟨key[k].toNat, by omega⟩
      rw [hj] at q0 hsn hno hin
      have hjl : j < cols.length := by omega
      obtain ⟨b', off', -, rfl, p0, p1, p2, p3, p4, p5⟩ := ClR.at_ h1' hjl
      have hnn : nnAt cols j = cols[j].nn := by unfold nnAt; simp [List.getElem?_eq_getElem hjl]
      have i0 : (0 : Int) ≤ j := by omega
      have i1 : (j : Int) < cols.length := by omega
      cases hnb : cols[j].nn
      · rw [hnb] at p2
        have HF := Lib.hid (show keyB cols key = false by unfold keyB; rw [hno (hnn.trans hnb), Bool.and_false])
        clear hsn hno hnn hnb hj hall
        go_wp2
        go_ret
        exact ⟨retB HF.out.symm, hbb⟩
      · rw [hnb] at p2
        have HA := Lib.hid (hsn.trans (hnn.trans hnb))
        clear hsn hno hnn hnb hj hall
        go_wp2
        go_round
        case rel => exact ⟨k + 1, by omega, by go_num, HA⟩
        case measure => simp [intOf]; omega
    · have e : key.take k = key := List.take_of_length_le (by omega)
      have h2 := hall.out
      rw [e] at h2
      have HF := Lib.hid (show keyB cols key = true by unfold keyB; rw [h2, HC.out]; rfl)
      clear h2 e hall
      go_wp2
      go_ret
      exact ⟨retB HF.out.symm, hbb⟩
set_option maxRecDepth 100000 in
set_option maxHeartbeats 1000000 in
theorem implUniquesOk (A1 AL : Option Addr) (n1 c1 nL cL : Nat) (v0 v2 v4 v5 : Value) (cols : List Cl) (l : List Uq) (ok : Nat → Prop) (w : World) (h : Sl ClR 6 ok w A1 n1 cols) (hl : Sl UqR 1 ok w AL nL l) (hn1 : n1 ≤ 1048576) (hs : szL Uq.sz l ≤ 1048576) :
    Calls Tryz.prog 183 #[.agg #[v0, .slice A1 n1 c1, v2, .slice AL nL cL, v4, v5]] w fun e w' => e = .returned (.bool (uqsB cols l)) ∧ Below w.heap.size w w' := by
  obtain rfl : cols.length = n1 := h.1
  obtain rfl : l.length = nL := hl.1
  have hn2 : l.length ≤ 1048576 := by unfold szL at hs; omega
  have HSZ := Lib.hid hs
  clear hs
  have hb0 := (Below.refl w.heap.size w).alloc (Nat.le_refl _) (.cells #[v0, .slice A1 cols.length c1, v2, .slice AL l.length cL, v4, v5] 86)
  have r0 := Row.new w 86 #[v0, .slice A1 cols.length c1, v2, .slice AL l.length cL, v4, v5]
  by_cases hbig : 3 < (l.length : Int)
  · have HF := Lib.hid (show uqsB cols l = false by unfold uqsB; rw [decide_eq_false (by omega), Bool.false_and])
    go_enter Tryz.func183, Tryz.ntmps183
    go_wp2
    go_ret
    exact ⟨retB HF.out.symm, hb0⟩
  have hbig' : decide (3 < (l.length : Int)) = false := by simpa using hbig
  have H3 := Lib.hid (show decide (l.length ≤ 3) = true from decide_eq_true (by omega))
  go_enter Tryz.func183, Tryz.ntmps183
  go_wp2_with fail
  generalize w.alloc (.cells #[v0, .slice A1 cols.length c1, v2, .slice AL l.length cL, v4, v5] 86) = x0 at *
  go_loopw [12] (fun i wr => ∃ k : Nat, k ≤ l.length ∧ i = .int .i64 k ∧ Hid ((l.take k).all (fun u : Uq => colsInB u.cols cols.length) = true) ∧ Row wr w.heap.size 86 #[v0, .slice A1 cols.length c1, v2, .slice AL l.length cL, v4, v5] ∧ Below w.heap.size w wr) (fun i _ => l.length - (intOf i).toNat)
  case atStart => exact ⟨0, by omega, rfl, Lib.hid (by simp), r0, hb0⟩
  case round =>
    obtain ⟨k, hkk, rfl, hall, hr, hb⟩ := hrel
    obtain ⟨⟨a0, a1, a2, a3, a4, a5⟩, -⟩ := hr.all6
    by_cases hlt : k < l.length
    · obtain ⟨b, off, A9, n9, c9, -, rfl, q0, s0, hcp⟩ := UqR.at_ (hl.below UqR.stays hb) hlt
      obtain rfl : l[k].cols.length = n9 := s0.1
      have hsn := all_take (fun u : Uq => colsInB u.cols cols.length) l k hlt
      rw [hall.out, Bool.true_and] at hsn
      have hno := fun hf => all_no (fun u : Uq => colsInB u.cols cols.length) l k hlt hf
      have hk9 : l[k].cols.length ≤ 1048576 := by have := HSZ.out; have := sum_mem_le Uq.sz l k hlt; unfold szL at *; simp only [Uq.sz] at *;  omega
      have HK9 := Lib.hid hk9
      clear hk9
      have hbx := (Below.refl wr.heap.size wr).alloc (Nat.le_refl _) (.cells #[.slice A9 l[k].cols.length c9] 174)
      have hba := hb.trans (hbx.mono hb.size)
      have s1 := s0.below IntR.stays hbx
      have hr1 := hr.below hbx
      obtain ⟨⟨d0, d1, d2, d3, d4, d5⟩, -⟩ := hr1.all6
      cases hc : colsInB l[k].cols cols.length
      · have HC := Lib.hid hc
        have HF := Lib.hid (show uqsB cols l = false by unfold uqsB; rw [hno hc, Bool.and_false])
        clear hsn hno hc hall hr
        go_wp2_with fail
        refine (implAreColumns A9 l[k].cols.length c9 l[k].cols cols.length ok _ s1 HK9.out hn1).mono ?_
        rintro e w1 ⟨rfl, hb1⟩
        rw [HC.out]
        go_wp2
        go_ret
        exact ⟨retB HF.out.symm, hba.trans (hb1.mono hba.size)⟩
      · have HC := Lib.hid hc
        have HA := Lib.hid (hsn.trans hc)
        clear hsn hno hc hall hr
        go_wp2_with fail
        refine (implAreColumns A9 l[k].cols.length c9 l[k].cols cols.length ok _ s1 HK9.out hn1).mono ?_
        rintro e w1 ⟨rfl, hb1⟩
        rw [HC.out]
        have hr2 := hr1.below hb1
        go_wp2
        go_roundw
        case rel => exact ⟨k + 1, by omega, by go_num, HA, hr2, hba.trans (hb1.mono hba.size)⟩
        case measure => simp [intOf]; omega
    · have e : l.take k = l := List.take_of_length_le (by omega)
      have h2 := hall.out
      rw [e] at h2
      have HF := Lib.hid (show uqsB cols l = true by unfold uqsB; rw [h2, H3.out]; rfl)
      clear h2 e hall
      go_wp2
      go_ret
      exact ⟨retB HF.out.symm, hb⟩
set_option maxRecDepth 100000 in
set_option maxHeartbeats 1000000 in
theorem implChecksOk (A1 AL : Option Addr) (n1 c1 nL cL : Nat) (v0 v2 v3 v5 : Value) (cols : List Cl) (l : List Ck) (ok : Nat → Prop) (w : World) (h : Sl ClR 6 ok w A1 n1 cols) (hl : Sl CkR 1 ok w AL nL l) (hn1 : n1 ≤ 1048576) (hs : szL Ck.sz l ≤ 1048576) :
    Calls Tryz.prog 184 #[.agg #[v0, .slice A1 n1 c1, v2, v3, .slice AL nL cL, v5]] w fun e w' => e = .returned (.bool (cksB cols l)) ∧ Below w.heap.size w w' := by
  obtain rfl : cols.length = n1 := h.1
  obtain rfl : l.length = nL := hl.1
  have hn2 : l.length ≤ 1048576 := by unfold szL at hs; omega
  have HSZ := Lib.hid hs
  clear hs
  have hb0 := (Below.refl w.heap.size w).alloc (Nat.le_refl _) (.cells #[v0, .slice A1 cols.length c1, v2, v3, .slice AL l.length cL, v5] 86)
  have r0 := Row.new w 86 #[v0, .slice A1 cols.length c1, v2, v3, .slice AL l.length cL, v5]
  by_cases hbig : 3 < (l.length : Int)
  · have HF := Lib.hid (show cksB cols l = false by unfold cksB; rw [decide_eq_false (by omega), Bool.false_and])
    go_enter Tryz.func184, Tryz.ntmps184
    go_wp2
    go_ret
    exact ⟨retB HF.out.symm, hb0⟩
  have hbig' : decide (3 < (l.length : Int)) = false := by simpa using hbig
  have H3 := Lib.hid (show decide (l.length ≤ 3) = true from decide_eq_true (by omega))
  go_enter Tryz.func184, Tryz.ntmps184
  go_wp2_with fail
  generalize w.alloc (.cells #[v0, .slice A1 cols.length c1, v2, v3, .slice AL l.length cL, v5] 86) = x0 at *
  go_loopw [12] (fun i wr => ∃ k : Nat, k ≤ l.length ∧ i = .int .i64 k ∧ Hid ((l.take k).all (fun u : Ck => exprB u.expr cols.length) = true) ∧ Row wr w.heap.size 86 #[v0, .slice A1 cols.length c1, v2, v3, .slice AL l.length cL, v5] ∧ Below w.heap.size w wr) (fun i _ => l.length - (intOf i).toNat)
  case atStart => exact ⟨0, by omega, rfl, Lib.hid (by simp), r0, hb0⟩
  case round =>
    obtain ⟨k, hkk, rfl, hall, hr, hb⟩ := hrel
    obtain ⟨⟨a0, a1, a2, a3, a4, a5⟩, -⟩ := hr.all6
    by_cases hlt : k < l.length
    · obtain ⟨b, off, A9, n9, c9, -, rfl, q0, s0, hcp⟩ := CkR.at_ (hl.below CkR.stays hb) hlt
      obtain rfl : l[k].expr.length = n9 := s0.1
      have hsn := all_take (fun u : Ck => exprB u.expr cols.length) l k hlt
      rw [hall.out, Bool.true_and] at hsn
      have hno := fun hf => all_no (fun u : Ck => exprB u.expr cols.length) l k hlt hf
      have hk9 : l[k].expr.length ≤ 1048576 := by have := HSZ.out; have := sum_mem_le Ck.sz l k hlt; unfold szL at *; simp only [Ck.sz] at *; (try unfold szL at *); (try simp only at *); omega
      have HK9 := Lib.hid hk9
      clear hk9
      have hbx := (Below.refl wr.heap.size wr).alloc (Nat.le_refl _) (.cells #[.slice A9 l[k].expr.length c9] 176)
      have hba := hb.trans (hbx.mono hb.size)
      have s1 := s0.below TkR.stays hbx
      have hr1 := hr.below hbx
      obtain ⟨⟨d0, d1, d2, d3, d4, d5⟩, -⟩ := hr1.all6
      cases hc : exprB l[k].expr cols.length
      · have HC := Lib.hid hc
        have HF := Lib.hid (show cksB cols l = false by unfold cksB; rw [hno hc, Bool.and_false])
        clear hsn hno hc hall hr
        go_wp2_with fail
        refine (implExprOk A9 l[k].expr.length c9 l[k].expr cols.length _ (Sl.cellz (fun _ => rfl) s1) (by have := HK9.out; unfold maxLen; omega)).mono ?_
        rintro e w1 ⟨rfl, hb1⟩
        rw [HC.out]
        go_wp2
        go_ret
        exact ⟨retB HF.out.symm, hba.trans (hb1.mono hba.size)⟩
      · have HC := Lib.hid hc
        have HA := Lib.hid (hsn.trans hc)
        clear hsn hno hc hall hr
        go_wp2_with fail
        refine (implExprOk A9 l[k].expr.length c9 l[k].expr cols.length _ (Sl.cellz (fun _ => rfl) s1) (by have := HK9.out; unfold maxLen; omega)).mono ?_
        rintro e w1 ⟨rfl, hb1⟩
        rw [HC.out]
        have hr2 := hr1.below hb1
        go_wp2
        go_roundw
        case rel => exact ⟨k + 1, by omega, by go_num, HA, hr2, hba.trans (hb1.mono hba.size)⟩
        case measure => simp [intOf]; omega
    · have e : l.take k = l := List.take_of_length_le (by omega)
      have h2 := hall.out
      rw [e] at h2
      have HF := Lib.hid (show cksB cols l = true by unfold cksB; rw [h2, H3.out]; rfl)
      clear h2 e hall
      go_wp2
      go_ret
      exact ⟨retB HF.out.symm, hb⟩
set_option maxRecDepth 100000 in
set_option maxHeartbeats 1000000 in
theorem implFksOk (A1 AL : Option Addr) (n1 c1 nL cL : Nat) (v0 v2 v3 v4 : Value) (cols : List Cl) (l : List Fk) (ok : Nat → Prop) (w : World) (h : Sl ClR 6 ok w A1 n1 cols) (hl : Sl FkR 5 ok w AL nL l) (hn1 : n1 ≤ 1048576) (hs : szL Fk.sz l ≤ 1048576) :
    Calls Tryz.prog 185 #[.agg #[v0, .slice A1 n1 c1, v2, v3, v4, .slice AL nL cL]] w fun e w' => e = .returned (.bool (fksB cols l)) ∧ Below w.heap.size w w' := by
  obtain rfl : cols.length = n1 := h.1
  obtain rfl : l.length = nL := hl.1
  have hn2 : l.length ≤ 1048576 := by unfold szL at hs; omega
  have HSZ := Lib.hid hs
  clear hs
  have hb0 := (Below.refl w.heap.size w).alloc (Nat.le_refl _) (.cells #[v0, .slice A1 cols.length c1, v2, v3, v4, .slice AL l.length cL] 86)
  have r0 := Row.new w 86 #[v0, .slice A1 cols.length c1, v2, v3, v4, .slice AL l.length cL]
  by_cases hbig : 3 < (l.length : Int)
  · have HF := Lib.hid (show fksB cols l = false by unfold fksB; rw [decide_eq_false (by omega), Bool.false_and])
    go_enter Tryz.func185, Tryz.ntmps185
    go_wp2
    go_ret
    exact ⟨retB HF.out.symm, hb0⟩
  have hbig' : decide (3 < (l.length : Int)) = false := by simpa using hbig
  have H3 := Lib.hid (show decide (l.length ≤ 3) = true from decide_eq_true (by omega))
  go_enter Tryz.func185, Tryz.ntmps185
  go_wp2_with fail
  generalize w.alloc (.cells #[v0, .slice A1 cols.length c1, v2, v3, v4, .slice AL l.length cL] 86) = x0 at *
  go_loopw [12] (fun i wr => ∃ k : Nat, k ≤ l.length ∧ i = .int .i64 k ∧ Hid ((l.take k).all (fkB cols.length) = true) ∧ Row wr w.heap.size 86 #[v0, .slice A1 cols.length c1, v2, v3, v4, .slice AL l.length cL] ∧ Below w.heap.size w wr) (fun i _ => l.length - (intOf i).toNat)
  case atStart => exact ⟨0, by omega, rfl, Lib.hid (by simp), r0, hb0⟩
  case round =>
    obtain ⟨k, hkk, rfl, hall, hr, hb⟩ := hrel
    obtain ⟨⟨a0, a1, a2, a3, a4, a5⟩, -⟩ := hr.all6
    by_cases hlt : k < l.length
    · obtain ⟨b, off, A9, n9, c9, -, rfl, q0, q1, q2, q3, q4, s0, hcp⟩ := FkR.at_ (hl.below FkR.stays hb) hlt
      obtain rfl : l[k].cols.length = n9 := s0.1
      have hsn := all_take (fkB cols.length) l k hlt
      rw [hall.out, Bool.true_and] at hsn
      have hno := fun hf => all_no (fkB cols.length) l k hlt hf
      obtain ⟨hk9, hk8⟩ : l[k].cols.length ≤ 1048576 ∧ l[k].table.size ≤ 1048576 := by have := HSZ.out; have := sum_mem_le Fk.sz l k hlt; unfold szL at *; simp only [Fk.sz] at *; omega
      have HK9 := Lib.hid hk9
      have HK8 := Lib.hid (show l[k].table.size ≤ maxLen by unfold maxLen; omega)
      clear hk9 hk8
      have hbx := (Below.refl wr.heap.size wr).alloc (Nat.le_refl _) (.cells #[.slice A9 l[k].cols.length c9, .string l[k].table, .int .i64 l[k].del, .int .i64 l[k].upd, .bool l[k].dfr] 178)
      have hba := hb.trans (hbx.mono hb.size)
      have s1 := s0.below IntR.stays hbx
      have hr1 := hr.below hbx
      have rf := Row.new wr 178 #[.slice A9 l[k].cols.length c9, .string l[k].table, .int .i64 l[k].del, .int .i64 l[k].upd, .bool l[k].dfr]
      obtain ⟨⟨d0, d1, d2, d3, d4, d5⟩, -⟩ := hr1.all6
      have hcall := fun (w' : World) (hw : Sl IntR 1 ok w' A9 l[k].cols.length l[k].cols) => implAreColumns A9 l[k].cols.length c9 l[k].cols cols.length ok w' hw HK9.out hn1
      cases hc : colsInB l[k].cols cols.length
      · have HC := Lib.hid hc
        have HF := Lib.hid (show fksB cols l = false by unfold fksB; rw [hno (by unfold fkB; rw [hc]; rfl), Bool.and_false])
        clear hsn hno hc hall hr
        go_wp2_with fail
        refine (hcall _ s1).mono ?_
        rintro e w1 ⟨rfl, hb1⟩
        rw [HC.out]
        clear hcall
        go_wp2
        go_ret
        exact ⟨retB HF.out.symm, hba.trans (hb1.mono hba.size)⟩
      have HC := Lib.hid hc
      cases hnm : nameB l[k].table
      · have HN := Lib.hid hnm
        have HF := Lib.hid (show fksB cols l = false by unfold fksB; rw [hno (by unfold fkB; rw [hc, hnm]; rfl), Bool.and_false])
        clear hsn hno hc hall hr hnm
        go_wp2_with fail
        refine (hcall _ s1).mono ?_
        rintro e w1 ⟨rfl, hb1⟩
        rw [HC.out]
        clear hcall
        obtain ⟨⟨f0, f1, f2, f3, f4⟩, -⟩ := (rf.below hb1).five
        go_wp2_with fail
        refine (implIsName _ _ HK8.out).mono ?_
        rintro e w2 ⟨rfl, rfl⟩
        rw [HN.out]
        go_wp2
        go_ret
        exact ⟨retB HF.out.symm, hba.trans (hb1.mono hba.size)⟩
      have HN := Lib.hid hnm
      cases hd : actB l[k].del
      · have HD := Lib.hid hd
        have HF := Lib.hid (show fksB cols l = false by unfold fksB; rw [hno (by unfold fkB; rw [hc, hnm, hd]; rfl), Bool.and_false])
        clear hsn hno hc hall hr hnm hd
        go_wp2_with fail
        refine (hcall _ s1).mono ?_
        rintro e w1 ⟨rfl, hb1⟩
        rw [HC.out]
        clear hcall
        obtain ⟨⟨f0, f1, f2, f3, f4⟩, -⟩ := (rf.below hb1).five
        go_wp2_with fail
        refine (implIsName _ _ HK8.out).mono ?_
        rintro e w2 ⟨rfl, rfl⟩
        rw [HN.out]
        go_wp2_with fail
        refine (implAction _ _).mono ?_
        rintro e w2 ⟨rfl, rfl⟩
        rw [HD.out]
        go_wp2
        go_ret
        exact ⟨retB HF.out.symm, hba.trans (hb1.mono hba.size)⟩
      have HD := Lib.hid hd
      cases hu : actB l[k].upd
      · have HU := Lib.hid hu
        have HF := Lib.hid (show fksB cols l = false by unfold fksB; rw [hno (by unfold fkB; rw [hc, hnm, hd, hu]; rfl), Bool.and_false])
        clear hsn hno hc hall hr hnm hd hu
        go_wp2_with fail
        refine (hcall _ s1).mono ?_
        rintro e w1 ⟨rfl, hb1⟩
        rw [HC.out]
        clear hcall
        obtain ⟨⟨f0, f1, f2, f3, f4⟩, -⟩ := (rf.below hb1).five
        go_wp2_with fail
        refine (implIsName _ _ HK8.out).mono ?_
        rintro e w2 ⟨rfl, rfl⟩
        rw [HN.out]
        go_wp2_with fail
        refine (implAction _ _).mono ?_
        rintro e w2 ⟨rfl, rfl⟩
        rw [HD.out]
        go_wp2_with fail
        refine (implAction _ _).mono ?_
        rintro e w2 ⟨rfl, rfl⟩
        rw [HU.out]
        go_wp2
        go_ret
        exact ⟨retB HF.out.symm, hba.trans (hb1.mono hba.size)⟩
      · have HU := Lib.hid hu
        have HA := Lib.hid (hsn.trans (show fkB cols.length l[k] = true by unfold fkB; rw [hc, hnm, hd, hu]; rfl))
        clear hsn hno hc hall hr hnm hd hu
        go_wp2_with fail
        refine (hcall _ s1).mono ?_
        rintro e w1 ⟨rfl, hb1⟩
        rw [HC.out]
        clear hcall
        obtain ⟨⟨f0, f1, f2, f3, f4⟩, -⟩ := (rf.below hb1).five
        go_wp2_with fail
        refine (implIsName _ _ HK8.out).mono ?_
        rintro e w2 ⟨rfl, rfl⟩
        rw [HN.out]
        go_wp2_with fail
        refine (implAction _ _).mono ?_
        rintro e w2 ⟨rfl, rfl⟩
        rw [HD.out]
        go_wp2_with fail
        refine (implAction _ _).mono ?_
        rintro e w2 ⟨rfl, rfl⟩
        rw [HU.out]
        have hr2 := hr1.below hb1
        go_wp2
        go_roundw
        case rel => exact ⟨k + 1, by omega, by go_num, HA, hr2, hba.trans (hb1.mono hba.size)⟩
        case measure => simp [intOf]; omega
    · have e : l.take k = l := List.take_of_length_le (by omega)
      have h2 := hall.out
      rw [e] at h2
      have HF := Lib.hid (show fksB cols l = true by unfold fksB; rw [h2, H3.out]; rfl)
      clear h2 e hall
      go_wp2
      go_ret
      exact ⟨retB HF.out.symm, hb⟩
set_option maxRecDepth 100000 in
set_option maxHeartbeats 1000000 in
theorem implTableOk (x : Tb) (A1 : Option Addr) (n1 c1 : Nat) (A2 : Option Addr) (n2 c2 : Nat) (A3 : Option Addr) (n3 c3 : Nat) (A4 : Option Addr) (n4 c4 : Nat) (A5 : Option Addr) (n5 c5 : Nat) (ok : Nat → Prop) (w : World)
    (h1 : Sl ClR 6 ok w A1 n1 x.cols) (h2 : Sl IntR 1 ok w A2 n2 x.key) (h3 : Sl UqR 1 ok w A3 n3 x.uniqs) (h4 : Sl CkR 1 ok w A4 n4 x.checks) (h5 : Sl FkR 5 ok w A5 n5 x.fks) (hs : x.sz ≤ 1048576) :
    Calls Tryz.prog 145 #[.agg #[.string x.name, .slice A1 n1 c1, .slice A2 n2 c2, .slice A3 n3 c3, .slice A4 n4 c4, .slice A5 n5 c5]] w fun e w' => e = .returned (.bool (tableB x)) ∧ Below w.heap.size w w' := by
  have e1 := h1.1
  have e2 := h2.1
  have HNM := Lib.hid (show x.name.size ≤ maxLen by unfold Tb.sz at hs; unfold maxLen; omega)
  have HS1 := Lib.hid (show szL Cl.sz x.cols ≤ 1048576 by unfold Tb.sz at hs; omega)
  have HS3 := Lib.hid (show szL Uq.sz x.uniqs ≤ 1048576 by unfold Tb.sz at hs; omega)
  have HS4 := Lib.hid (show szL Ck.sz x.checks ≤ 1048576 by unfold Tb.sz at hs; omega)
  have HS5 := Lib.hid (show szL Fk.sz x.fks ≤ 1048576 by unfold Tb.sz at hs; omega)
  have HL1 := Lib.hid (show n1 ≤ 1048576 by unfold Tb.sz szL at hs; omega)
  have HL2 := Lib.hid (show n2 ≤ 1048576 by unfold Tb.sz szL at hs; omega)
  clear e1 e2 hs
  have hb0 := (Below.refl w.heap.size w).alloc (Nat.le_refl _) (.cells #[.string x.name, .slice A1 n1 c1, .slice A2 n2 c2, .slice A3 n3 c3, .slice A4 n4 c4, .slice A5 n5 c5] 86)
  have r0 := Row.new w 86 #[.string x.name, .slice A1 n1 c1, .slice A2 n2 c2, .slice A3 n3 c3, .slice A4 n4 c4, .slice A5 n5 c5]
  cases hN : nameB x.name
  · have HN := Lib.hid hN
    clear hN
    go_enter Tryz.func145, Tryz.ntmps145
    go_wp2_with fail
    refine (implIsName _ _ HNM.out).mono ?_
    rintro e w1 ⟨rfl, rfl⟩
    rw [HN.out]
    go_wp2_with fail
    go_ret
    exact ⟨retB (by unfold tableB; rw [HN.out]; rfl), hb0⟩
  have HN := Lib.hid hN
  clear hN
  cases hC : colsB x.cols
  · have HC := Lib.hid hC
    clear hC
    go_enter Tryz.func145, Tryz.ntmps145
    go_wp2_with fail
    refine (implIsName _ _ HNM.out).mono ?_
    rintro e w1 ⟨rfl, rfl⟩
    rw [HN.out]
    go_wp2_with fail
    refine (implColsOk A1 n1 c1 x.cols ok _ (h1.below ClR.stays hb0) HS1.out).mono ?_
    rintro e w2 ⟨rfl, hq2⟩
    have hb2 := hb0.trans (hq2.mono hb0.size)
    have r2 := r0.below hq2
    obtain ⟨⟨x2_0, x2_1, x2_2, x2_3, x2_4, x2_5⟩, -⟩ := r2.all6
    rw [HC.out]
    go_wp2_with fail
    go_ret
    exact ⟨retB (by unfold tableB; rw [HN.out, HC.out]; rfl), hb2⟩
  have HC := Lib.hid hC
  clear hC
  cases hK : keyB x.cols x.key
  · have HK := Lib.hid hK
    clear hK
    go_enter Tryz.func145, Tryz.ntmps145
    go_wp2_with fail
    refine (implIsName _ _ HNM.out).mono ?_
    rintro e w1 ⟨rfl, rfl⟩
    rw [HN.out]
    go_wp2_with fail
    refine (implColsOk A1 n1 c1 x.cols ok _ (h1.below ClR.stays hb0) HS1.out).mono ?_
    rintro e w2 ⟨rfl, hq2⟩
    have hb2 := hb0.trans (hq2.mono hb0.size)
    have r2 := r0.below hq2
    obtain ⟨⟨x2_0, x2_1, x2_2, x2_3, x2_4, x2_5⟩, -⟩ := r2.all6
    rw [HC.out]
    go_wp2_with fail
    refine (implKeyOk A1 A2 n1 c1 n2 c2 _ _ _ _ x.cols x.key ok _ (h1.below ClR.stays hb2) (h2.below IntR.stays hb2) HL1.out HL2.out).mono ?_
    rintro e w3 ⟨rfl, hq3⟩
    have hb3 := hb2.trans (hq3.mono hb2.size)
    have r3 := r2.below hq3
    obtain ⟨⟨x3_0, x3_1, x3_2, x3_3, x3_4, x3_5⟩, -⟩ := r3.all6
    rw [HK.out]
    go_wp2_with fail
    go_ret
    exact ⟨retB (by unfold tableB; rw [HN.out, HC.out, HK.out]; rfl), hb3⟩
  have HK := Lib.hid hK
  clear hK
  cases hU : uqsB x.cols x.uniqs
  · have HU := Lib.hid hU
    clear hU
    go_enter Tryz.func145, Tryz.ntmps145
    go_wp2_with fail
    refine (implIsName _ _ HNM.out).mono ?_
    rintro e w1 ⟨rfl, rfl⟩
    rw [HN.out]
    go_wp2_with fail
    refine (implColsOk A1 n1 c1 x.cols ok _ (h1.below ClR.stays hb0) HS1.out).mono ?_
    rintro e w2 ⟨rfl, hq2⟩
    have hb2 := hb0.trans (hq2.mono hb0.size)
    have r2 := r0.below hq2
    obtain ⟨⟨x2_0, x2_1, x2_2, x2_3, x2_4, x2_5⟩, -⟩ := r2.all6
    rw [HC.out]
    go_wp2_with fail
    refine (implKeyOk A1 A2 n1 c1 n2 c2 _ _ _ _ x.cols x.key ok _ (h1.below ClR.stays hb2) (h2.below IntR.stays hb2) HL1.out HL2.out).mono ?_
    rintro e w3 ⟨rfl, hq3⟩
    have hb3 := hb2.trans (hq3.mono hb2.size)
    have r3 := r2.below hq3
    obtain ⟨⟨x3_0, x3_1, x3_2, x3_3, x3_4, x3_5⟩, -⟩ := r3.all6
    rw [HK.out]
    go_wp2_with fail
    refine (implUniquesOk A1 A3 n1 c1 n3 c3 _ _ _ _ x.cols x.uniqs ok _ (h1.below ClR.stays hb3) (h3.below UqR.stays hb3) HL1.out HS3.out).mono ?_
    rintro e w4 ⟨rfl, hq4⟩
    have hb4 := hb3.trans (hq4.mono hb3.size)
    have r4 := r3.below hq4
    obtain ⟨⟨x4_0, x4_1, x4_2, x4_3, x4_4, x4_5⟩, -⟩ := r4.all6
    rw [HU.out]
    go_wp2_with fail
    go_ret
    exact ⟨retB (by unfold tableB; rw [HN.out, HC.out, HK.out, HU.out]; rfl), hb4⟩
  have HU := Lib.hid hU
  clear hU
  cases hE : cksB x.cols x.checks
  · have HE := Lib.hid hE
    clear hE
    go_enter Tryz.func145, Tryz.ntmps145
    go_wp2_with fail
    refine (implIsName _ _ HNM.out).mono ?_
    rintro e w1 ⟨rfl, rfl⟩
    rw [HN.out]
    go_wp2_with fail
    refine (implColsOk A1 n1 c1 x.cols ok _ (h1.below ClR.stays hb0) HS1.out).mono ?_
    rintro e w2 ⟨rfl, hq2⟩
    have hb2 := hb0.trans (hq2.mono hb0.size)
    have r2 := r0.below hq2
    obtain ⟨⟨x2_0, x2_1, x2_2, x2_3, x2_4, x2_5⟩, -⟩ := r2.all6
    rw [HC.out]
    go_wp2_with fail
    refine (implKeyOk A1 A2 n1 c1 n2 c2 _ _ _ _ x.cols x.key ok _ (h1.below ClR.stays hb2) (h2.below IntR.stays hb2) HL1.out HL2.out).mono ?_
    rintro e w3 ⟨rfl, hq3⟩
    have hb3 := hb2.trans (hq3.mono hb2.size)
    have r3 := r2.below hq3
    obtain ⟨⟨x3_0, x3_1, x3_2, x3_3, x3_4, x3_5⟩, -⟩ := r3.all6
    rw [HK.out]
    go_wp2_with fail
    refine (implUniquesOk A1 A3 n1 c1 n3 c3 _ _ _ _ x.cols x.uniqs ok _ (h1.below ClR.stays hb3) (h3.below UqR.stays hb3) HL1.out HS3.out).mono ?_
    rintro e w4 ⟨rfl, hq4⟩
    have hb4 := hb3.trans (hq4.mono hb3.size)
    have r4 := r3.below hq4
    obtain ⟨⟨x4_0, x4_1, x4_2, x4_3, x4_4, x4_5⟩, -⟩ := r4.all6
    rw [HU.out]
    go_wp2_with fail
    refine (implChecksOk A1 A4 n1 c1 n4 c4 _ _ _ _ x.cols x.checks ok _ (h1.below ClR.stays hb4) (h4.below CkR.stays hb4) HL1.out HS4.out).mono ?_
    rintro e w5 ⟨rfl, hq5⟩
    have hb5 := hb4.trans (hq5.mono hb4.size)
    have r5 := r4.below hq5
    obtain ⟨⟨x5_0, x5_1, x5_2, x5_3, x5_4, x5_5⟩, -⟩ := r5.all6
    rw [HE.out]
    go_wp2_with fail
    go_ret
    exact ⟨retB (by unfold tableB; rw [HN.out, HC.out, HK.out, HU.out, HE.out]; rfl), hb5⟩
  have HE := Lib.hid hE
  clear hE
  cases hF : fksB x.cols x.fks
  · have HF := Lib.hid hF
    clear hF
    go_enter Tryz.func145, Tryz.ntmps145
    go_wp2_with fail
    refine (implIsName _ _ HNM.out).mono ?_
    rintro e w1 ⟨rfl, rfl⟩
    rw [HN.out]
    go_wp2_with fail
    refine (implColsOk A1 n1 c1 x.cols ok _ (h1.below ClR.stays hb0) HS1.out).mono ?_
    rintro e w2 ⟨rfl, hq2⟩
    have hb2 := hb0.trans (hq2.mono hb0.size)
    have r2 := r0.below hq2
    obtain ⟨⟨x2_0, x2_1, x2_2, x2_3, x2_4, x2_5⟩, -⟩ := r2.all6
    rw [HC.out]
    go_wp2_with fail
    refine (implKeyOk A1 A2 n1 c1 n2 c2 _ _ _ _ x.cols x.key ok _ (h1.below ClR.stays hb2) (h2.below IntR.stays hb2) HL1.out HL2.out).mono ?_
    rintro e w3 ⟨rfl, hq3⟩
    have hb3 := hb2.trans (hq3.mono hb2.size)
    have r3 := r2.below hq3
    obtain ⟨⟨x3_0, x3_1, x3_2, x3_3, x3_4, x3_5⟩, -⟩ := r3.all6
    rw [HK.out]
    go_wp2_with fail
    refine (implUniquesOk A1 A3 n1 c1 n3 c3 _ _ _ _ x.cols x.uniqs ok _ (h1.below ClR.stays hb3) (h3.below UqR.stays hb3) HL1.out HS3.out).mono ?_
    rintro e w4 ⟨rfl, hq4⟩
    have hb4 := hb3.trans (hq4.mono hb3.size)
    have r4 := r3.below hq4
    obtain ⟨⟨x4_0, x4_1, x4_2, x4_3, x4_4, x4_5⟩, -⟩ := r4.all6
    rw [HU.out]
    go_wp2_with fail
    refine (implChecksOk A1 A4 n1 c1 n4 c4 _ _ _ _ x.cols x.checks ok _ (h1.below ClR.stays hb4) (h4.below CkR.stays hb4) HL1.out HS4.out).mono ?_
    rintro e w5 ⟨rfl, hq5⟩
    have hb5 := hb4.trans (hq5.mono hb4.size)
    have r5 := r4.below hq5
    obtain ⟨⟨x5_0, x5_1, x5_2, x5_3, x5_4, x5_5⟩, -⟩ := r5.all6
    rw [HE.out]
    go_wp2_with fail
    refine (implFksOk A1 A5 n1 c1 n5 c5 _ _ _ _ x.cols x.fks ok _ (h1.below ClR.stays hb5) (h5.below FkR.stays hb5) HL1.out HS5.out).mono ?_
    rintro e w6 ⟨rfl, hq6⟩
    have hb6 := hb5.trans (hq6.mono hb5.size)
    have r6 := r5.below hq6
    obtain ⟨⟨x6_0, x6_1, x6_2, x6_3, x6_4, x6_5⟩, -⟩ := r6.all6
    rw [HF.out]
    go_wp2_with fail
    go_ret
    exact ⟨retB (by unfold tableB; rw [HN.out, HC.out, HK.out, HU.out, HE.out, HF.out]; rfl), hb6⟩
  have HF := Lib.hid hF
  clear hF
  go_enter Tryz.func145, Tryz.ntmps145
  go_wp2_with fail
  refine (implIsName _ _ HNM.out).mono ?_
  rintro e w1 ⟨rfl, rfl⟩
  rw [HN.out]
  go_wp2_with fail
  refine (implColsOk A1 n1 c1 x.cols ok _ (h1.below ClR.stays hb0) HS1.out).mono ?_
  rintro e w2 ⟨rfl, hq2⟩
  have hb2 := hb0.trans (hq2.mono hb0.size)
  have r2 := r0.below hq2
  obtain ⟨⟨x2_0, x2_1, x2_2, x2_3, x2_4, x2_5⟩, -⟩ := r2.all6
  rw [HC.out]
  go_wp2_with fail
  refine (implKeyOk A1 A2 n1 c1 n2 c2 _ _ _ _ x.cols x.key ok _ (h1.below ClR.stays hb2) (h2.below IntR.stays hb2) HL1.out HL2.out).mono ?_
  rintro e w3 ⟨rfl, hq3⟩
  have hb3 := hb2.trans (hq3.mono hb2.size)
  have r3 := r2.below hq3
  obtain ⟨⟨x3_0, x3_1, x3_2, x3_3, x3_4, x3_5⟩, -⟩ := r3.all6
  rw [HK.out]
  go_wp2_with fail
  refine (implUniquesOk A1 A3 n1 c1 n3 c3 _ _ _ _ x.cols x.uniqs ok _ (h1.below ClR.stays hb3) (h3.below UqR.stays hb3) HL1.out HS3.out).mono ?_
  rintro e w4 ⟨rfl, hq4⟩
  have hb4 := hb3.trans (hq4.mono hb3.size)
  have r4 := r3.below hq4
  obtain ⟨⟨x4_0, x4_1, x4_2, x4_3, x4_4, x4_5⟩, -⟩ := r4.all6
  rw [HU.out]
  go_wp2_with fail
  refine (implChecksOk A1 A4 n1 c1 n4 c4 _ _ _ _ x.cols x.checks ok _ (h1.below ClR.stays hb4) (h4.below CkR.stays hb4) HL1.out HS4.out).mono ?_
  rintro e w5 ⟨rfl, hq5⟩
  have hb5 := hb4.trans (hq5.mono hb4.size)
  have r5 := r4.below hq5
  obtain ⟨⟨x5_0, x5_1, x5_2, x5_3, x5_4, x5_5⟩, -⟩ := r5.all6
  rw [HE.out]
  go_wp2_with fail
  refine (implFksOk A1 A5 n1 c1 n5 c5 _ _ _ _ x.cols x.fks ok _ (h1.below ClR.stays hb5) (h5.below FkR.stays hb5) HL1.out HS5.out).mono ?_
  rintro e w6 ⟨rfl, hq6⟩
  have hb6 := hb5.trans (hq6.mono hb5.size)
  have r6 := r5.below hq6
  obtain ⟨⟨x6_0, x6_1, x6_2, x6_3, x6_4, x6_5⟩, -⟩ := r6.all6
  rw [HF.out]
  go_wp2_with fail
  go_ret
  exact ⟨retB (by unfold tableB; rw [HN.out, HC.out, HK.out, HU.out, HE.out, HF.out]; rfl), hb6⟩
end Go.Proofs.YtemimhghhihllaaGreat
namespace Go.Proofs.YtemimhghhihllaaGreat
open Go.RowKit
theorem keep8 {w w' : World} {a0 a1 a2 a3 a4 a5 a6 a7 : Addr} {v0 v1 v2 v3 v4 v5 v6 v7 : Value} (h : w.cell? a0 = some v0 ∧ w.cell? a1 = some v1 ∧ w.cell? a2 = some v2 ∧ w.cell? a3 = some v3 ∧ w.cell? a4 = some v4 ∧ w.cell? a5 = some v5 ∧ w.cell? a6 = some v6 ∧ w.cell? a7 = some v7) (hb : Below w.heap.size w w') : w'.cell? a0 = some v0 ∧ w'.cell? a1 = some v1 ∧ w'.cell? a2 = some v2 ∧ w'.cell? a3 = some v3 ∧ w'.cell? a4 = some v4 ∧ w'.cell? a5 = some v5 ∧ w'.cell? a6 = some v6 ∧ w'.cell? a7 = some v7 := by
  obtain ⟨h0, h1, h2, h3, h4, h5, h6, h7⟩ := h
  exact ⟨(hb.cell (cell_lt h0)).trans h0, (hb.cell (cell_lt h1)).trans h1, (hb.cell (cell_lt h2)).trans h2, (hb.cell (cell_lt h3)).trans h3, (hb.cell (cell_lt h4)).trans h4, (hb.cell (cell_lt h5)).trans h5, (hb.cell (cell_lt h6)).trans h6, (hb.cell (cell_lt h7)).trans h7⟩
theorem ops_at (k : Nat) (h : k < 11) : ∃ o0 o2, opsCells[k * 3]? = some o0 ∧ opsCells[k * 3 + 2]? = some o2 := by
  have hs : opsCells.size = 33 := rfl
  exact ⟨opsCells[k * 3], opsCells[k * 3 + 2], Array.getElem?_eq_getElem (by omega), Array.getElem?_eq_getElem (by omega)⟩
theorem Vals.drew {w : World} {A : Option Addr} {n : Nat} {vs : List Vl} (h : Vals w A n vs) : Vals w.drew A n vs := h
theorem implTokValueM (kk : Nat) (hk : 1 ≤ kk ∧ kk ≤ 10) (a0 a1 a2 : Value) (h2 : opsCells[kk * 3 + 2]? = some a2) (c vk vn : Int) (vs : ByteArray) (A B : Option Addr) (cap capB m : Nat) (hm : m = takes kk) (row xs : List Vl) (w : World)
    (htok : tokB ⟨kk, c, vk, vn, vs⟩ row.length = true) (hr : Vals w A row.length row) (hx : Vals w B m xs) (hok : ∀ v ∈ xs, v.ok = true) :
    Calls Tryz.prog 191 #[.agg #[a0, a1, a2], .agg #[.int .i64 kk, .int .i64 c, .int .i64 vk, .int .i64 vn, .string vs], .slice A row.length cap, .slice B m capB] w (OptPost (tokVal row ⟨kk, c, vk, vn, vs⟩ xs) w) := by
  subst hm
  exact implTokValue kk hk a0 a1 a2 h2 ⟨kk, c, vk, vn, vs⟩ rfl A B cap capB row xs w htok hr hx hok
def EvalPost (o : Option Vl) (w : World) (e : Ending) (w' : World) : Prop := e = .returned (.tuple #[.agg #[.int .i64 (o.getD Vl.zero).k, .int .i64 (o.getD Vl.zero).n, .string (o.getD Vl.zero).s], .bool o.isSome]) ∧ Below w.heap.size w w'
set_option maxRecDepth 100000 in
set_option maxHeartbeats 1000000 in
theorem implEval (A R : Option Addr) (n m cap capR : Nat) (ts : List Tk) (row : List Vl) (w : World) (h : Toks w A n ts) (hr : Vals w R m row) (hn : n ≤ maxLen) (hm : m ≤ maxLen) :
    Calls Tryz.prog 153 #[.slice A n cap, .slice R m capR] w (EvalPost (evalB ts row) w) := by
  obtain rfl : n = ts.length := h.len.symm
  obtain rfl : m = row.length := hr.len.symm
  have rr := Row.new w 93 #[.int .i64 0, .int .i64 0, .string ⟨#[]⟩]
  have hb0 := (Below.refl w.heap.size w).alloc (Nat.le_refl _) (.cells #[.int .i64 0, .int .i64 0, .string ⟨#[]⟩] 93)
  have h0 := h.below hb0
  have hr0 := hr.below hb0
  cases hrow : rowB row
  · have HR := Lib.hid hrow
    have HV := Lib.hid (show evalB ts row = none by simp [evalB, hrow])
    clear hrow
    go_enter Tryz.func153, Tryz.ntmps153
    go_wp2_with fail
    generalize w.alloc (.cells #[.int .i64 0, .int .i64 0, .string ⟨#[]⟩] 93) = x at *
    refine (implSeenOk _ _ _ row _ hr0 hm).mono ?_
    rintro e w1 ⟨rfl, hb1⟩
    rw [HR.out]
    obtain ⟨⟨z0, z1, z2⟩, ⟨z3, z4, z5⟩⟩ := (rr.below hb1).three
    have hz := hb0.trans (hb1.mono hb0.size)
    clear rr
    go_wp2_with fail
    refine bodyPost_ret (v := .tuple #[.agg #[.int .i64 0, .int .i64 0, .string ⟨#[]⟩], .bool false]) (by simp [results, Tryz.results153, go_sem, z0, z1, z2]) rfl ⟨by rw [HV.out]; rfl, ?_⟩
    repeat (first | with_reducible exact hz | with_reducible refine Below.setCell ?_ (by simp) _)
  have HR := Lib.hid hrow
  have h16 : row.length ≤ 16 := by simp [rowB] at hrow; exact hrow.1
  cases hex : exprB ts row.length
  · have HE := Lib.hid hex
    have HV := Lib.hid (show evalB ts row = none by simp [evalB, hex])
    clear hrow hex
    go_enter Tryz.func153, Tryz.ntmps153
    go_wp2_with fail
    generalize w.alloc (.cells #[.int .i64 0, .int .i64 0, .string ⟨#[]⟩] 93) = x at *
    refine (implSeenOk _ _ _ row _ hr0 hm).mono ?_
    rintro e w1 ⟨rfl, hb1⟩
    rw [HR.out]
    have hz1 := hb0.trans (hb1.mono hb0.size)
    have rr1 := rr.below hb1
    clear rr
    go_wp2_with fail
    refine (implExprOk _ _ _ ts _ _ (h0.below hb1) hn).mono ?_
    rintro e w2 ⟨rfl, hb2⟩
    rw [HE.out]
    obtain ⟨⟨z0, z1, z2⟩, ⟨z3, z4, z5⟩⟩ := (rr1.below hb2).three
    have hz := hz1.trans (hb2.mono hz1.size)
    clear rr1
    go_wp2_with fail
    refine bodyPost_ret (v := .tuple #[.agg #[.int .i64 0, .int .i64 0, .string ⟨#[]⟩], .bool false]) (by simp [results, Tryz.results153, go_sem, z0, z1, z2]) rfl ⟨by rw [HV.out]; rfl, ?_⟩
    repeat (first | with_reducible exact hz | with_reducible refine Below.setCell ?_ (by simp) _)
  have HE := Lib.hid hex
  clear hrow hex
  go_enter Tryz.func153, Tryz.ntmps153
  go_wp2_with fail
  generalize w.alloc (.cells #[.int .i64 0, .int .i64 0, .string ⟨#[]⟩] 93) = x at *
  refine (implSeenOk _ _ _ row _ hr0 hm).mono ?_
  rintro e w1 ⟨rfl, hb1⟩
  rw [HR.out]
  have hz1 := hb0.trans (hb1.mono hb0.size)
  have rr1 := rr.below hb1
  clear rr
  go_wp2_with fail
  refine (implExprOk _ _ _ ts _ _ (h0.below hb1) hn).mono ?_
  rintro e w2 ⟨rfl, hb2⟩
  rw [HE.out]
  have rr2 := rr1.below hb2
  have hz2 := hz1.trans (hb2.mono hz1.size)
  clear rr1 hb1 hb2 h0 hr0 hz1 hb0
  go_wp2_with fail
  refine (implOpTable _).mono ?_
  rintro e w3 ⟨rfl, hb3⟩
  have rr3 := rr2.below hb3
  have hz3 := hz2.trans (hb3.mono hz2.size)
  clear rr2 hb3 hz2
  have hs1 : (Tryz.prog.info? 264).map (·.size) = some opsCells.size := by kernel_rfl
  have hs2 : opsCells.all (·.oneCell') = true := by simp [opsCells, Value.oneCell']
  have S1 := Lib.hid hs1
  have S2 := Lib.hid hs2
  clear hs1 hs2
  go_wp2_with (refine wpList_store_row rfl 264 (.tmp 6) (.tmp 25) rfl w3.heap.size opsCells rfl rfl 264 opsZero (Go.heap_alloc_last w3 (.cells opsZero 264)) S1.out rfl S2.out ?_)
  rw [World.setRow_alloc_new]
  obtain ⟨hgo, h24⟩ := exprB_go HE.out
  have HGO := Lib.hid hgo
  have hok : ∀ v ∈ row, v.ok = true := by have := HR.out; simp [rowB] at this; exact this.2
  have HOK := Lib.hid hok
  have ro := (Row.new w3 264 opsCells).alloc (.cells Tryz.zeroCells267 267)
  have rl := Row.newAt (w3.alloc (.cells opsCells 264)) 267 Tryz.zeroCells267 (w3.heap.size + 1) (by simp only [size1])
  have rz := (rr3.alloc (.cells opsCells 264)).alloc (.cells Tryz.zeroCells267 267)
  have hb4 := (hz3.alloc hz3.size (.cells opsCells 264)).alloc (by have := hz3.size; simp only [size1]; omega) (.cells Tryz.zeroCells267 267)
  have hw3 : w.heap.size < w3.heap.size := lt_of_block rr3
  have hzs : (Tryz.zeroCells267).size = 72 := by kernel_rfl
  have HZS := Lib.hid hzs
  clear hgo hok S1 S2 rr3 hzs
  generalize (w3.alloc (.cells opsCells 264)).alloc (.cells Tryz.zeroCells267 267) = x4 at *
  generalize Tryz.zeroCells267 = cs0 at *
  go_loopw [8, 28] (fun nn i wr => ∃ (k : Nat) (st : List Vl) (cs : Array Value), k ≤ ts.length ∧ i = .int .i64 k ∧ nn = .int .i64 st.length ∧ st.length ≤ k ∧ Hid (exprGo row.length (ts.take k) 0 = some st.length) ∧ Hid (evalGo row (ts.take k) [] = some st) ∧ Hid (∀ v ∈ st, v.ok = true) ∧
      Row wr w3.heap.size 264 opsCells ∧ Row wr (w3.heap.size + 1) 267 cs ∧ Hid (cs.size = 72) ∧ Hid (Laid cs 3 st.length (st.map Vl.cells)) ∧ Row wr w.heap.size 93 #[.int .i64 0, .int .i64 0, .string ⟨#[]⟩] ∧ Below w.heap.size w wr) (fun _ i _ => ts.length - (intOf i).toNat)
  case atStart => exact ⟨0, [], cs0, by omega, rfl, rfl, by simp, Lib.hid (by simp [exprGo]), Lib.hid (by simp [evalGo]), Lib.hid (by simp), ro, rl, HZS, Lib.hid (Laid.zero _ _ _), rz, hb4⟩
  case round =>
    obtain ⟨k, st, cs, hk, rfl, rfl, hlk, hexp, hev, hstok, hro, hrl, hcs, hlaid, hrz, hb⟩ := hrel
    by_cases hlt : k < ts.length
    · obtain ⟨b, off, rfl, c0, c1, c2, c3, c4⟩ := (h.below hb).at_ hlt
      obtain ⟨htok, htk, hexp2⟩ := right_at HGO.out hlt hexp.out
      have hev2 := evalGo_snoc row ts k hlt [] st hev.out
      have HEXP := Lib.hid hexp2
      have HEV := Lib.hid hev2
      have HTOK := Lib.hid htok
      clear hexp2 hev2
      clear hexp hev htok
      generalize ts[k] = t at *
      obtain ⟨k0, tc, tvk, tvn, tvs⟩ := t
      simp only at c0 c1 c2 c3 c4 htk HEXP HEV HTOK
      obtain ⟨k1, k10⟩ := tokB_kind HTOK.out
      simp only at k1 k10
      obtain ⟨kk, rfl⟩ := Int.eq_ofNat_of_zero_le (show 0 ≤ k0 by omega)
      have hk11 : kk < 11 := by omega
      have hq2 := takes_le kk
      obtain ⟨fr, hfr⟩ : ∃ fr, fr + takes kk = st.length := ⟨st.length - takes kk, by omega⟩
      have hsub : (st.length : Int) - (takes kk : Int) = (fr : Int) := by omega
      have hfr2 : fr ≤ st.length := by omega
      have HFR := Lib.hid hfr
      clear hfr
      obtain ⟨o0, o2, e0, e2⟩ := ops_at kk hk11
      have E2 := Lib.hid e2
      have ro5 := hro.alloc (.cells #[.int .i64 kk, .int .i64 tc, .int .i64 tvk, .int .i64 tvn, .string tvs] 180)
      have d0 := (ro5.cell (kk * 3)).trans e0
      have d1 := (ro5.cell (kk * 3 + 1)).trans (ops_takes kk hk11)
      have d2 := (ro5.cell (kk * 3 + 2)).trans e2
      have RO := Lib.hid ro5
      have RL := Lib.hid (hrl.alloc (.cells #[.int .i64 kk, .int .i64 tc, .int .i64 tvk, .int .i64 tvn, .string tvs] 180))
      have RZ := Lib.hid (hrz.alloc (.cells #[.int .i64 kk, .int .i64 tc, .int .i64 tvk, .int .i64 tvn, .string tvs] 180))
      have HB := Lib.hid (hb.alloc hb.size (.cells #[.int .i64 kk, .int .i64 tc, .int .i64 tvk, .int .i64 tvn, .string tvs] 180))
      clear e0 e2 ro5 hro hrl hrz
      have vals := Lib.hid (hr.below HB.out)
      obtain ⟨⟨t0, t1, t2, t3, t4⟩, -⟩ := (Row.new wr 180 #[.int .i64 kk, .int .i64 tc, .int .i64 tvk, .int .i64 tvn, .string tvs]).five
      go_wp2_with fail
      generalize wr.alloc (.cells #[.int .i64 kk, .int .i64 tc, .int .i64 tvk, .int .i64 tvn, .string tvs] 180) = x5 at *
      have j0 : (0 : Int) ≤ fr := by omega
      have j1 : (fr : Int) ≤ st.length := by omega
      have j2 : (st.length : Int) ≤ 24 := by omega
      have j3 : (0 : Int) ≤ kk := by omega
      have j5 : ¬ 24 = fr := by omega
      have j4 : (kk : Int) < 11 := by omega
      have OKX := Lib.hid (show ∀ v ∈ st.drop fr, v.ok = true from fun v hv => hstok.out v (List.mem_of_mem_drop hv))
      have args := Lib.hid (show Vals x5.drew (some ⟨w3.heap.size + 1, fr * 3, none⟩) (st.length - fr) (st.drop fr) by
        unfold Vals
        rw [List.map_drop]
        exact cellz_of_mid RL.out.drew hlaid.out (by simp) (by simp [Vl.cells]) hfr2)
      have vals' := Lib.hid (Vals.drew vals.out)
      have bz := (Below.refl x5.heap.size x5).alloc (Nat.le_refl _) (.cells #[.int .i64 0, .int .i64 0, .string ⟨#[]⟩] 93)
      have valsB := Lib.hid (Vals.drew (vals.out.below bz))
      have argsB := Lib.hid (show Vals (x5.alloc (.cells #[.int .i64 0, .int .i64 0, .string ⟨#[]⟩] 93)).drew (some ⟨w3.heap.size + 1, fr * 3, none⟩) (st.length - fr) (st.drop fr) from Vals.below (w := x5.drew) (w' := (x5.alloc (.cells #[.int .i64 0, .int .i64 0, .string ⟨#[]⟩] 93)).drew) args.out ⟨bz.os, bz.tape, bz.output, bz.size, bz.block⟩)
      have KB := Lib.hid (keep8 (w := x5) ⟨d0, d1, d2, t0, t1, t2, t3, t4⟩ bz)
      have ne1 : x5.heap.size ≠ w3.heap.size := Nat.ne_of_gt (cell_lt d0)
      have ne2 : x5.heap.size ≠ wr.heap.size := Nat.ne_of_gt (cell_lt t0)
      clear bz
      have HML := Lib.hid (show st.length - fr = takes kk by have := HFR.out; omega)
      clear vals
      go_region_held3 (fun w' => w'.cell? ⟨w3.heap.size, kk * 3, none⟩ = some o0 ∧ w'.cell? ⟨w3.heap.size, kk * 3 + 1, none⟩ = some (.int .i64 (takes kk)) ∧ w'.cell? ⟨w3.heap.size, kk * 3 + 2, none⟩ = some o2 ∧ w'.cell? ⟨wr.heap.size, 0, none⟩ = some (.int .i64 kk) ∧ w'.cell? ⟨wr.heap.size, 1, none⟩ = some (.int .i64 tc) ∧ w'.cell? ⟨wr.heap.size, 2, none⟩ = some (.int .i64 tvk) ∧ w'.cell? ⟨wr.heap.size, 3, none⟩ = some (.int .i64 tvn) ∧ w'.cell? ⟨wr.heap.size, 4, none⟩ = some (.string tvs))
        (first | go_keep | ((with_reducible refine keep8 ?_ hbA); assumption) | (with_reducible exact keep8 HK8.out ((Below.refl _ _).alloc (Nat.le_refl _) _)) | (with_reducible exact keep8s ne1 ne2 HK8.out))
        (first | (go_at_call 191; (with_reducible refine (implTokValueM kk ⟨by omega, by omega⟩ o0 _ o2 E2.out tc tvk tvn tvs R _ capR _ _ HML.out row (st.drop fr) _ HTOK.out vals'.out args.out OKX.out).mono ?_); rintro e yA ⟨v, rfl, hv, hbA⟩; have HK8 := Lib.hid (keep8 (w := x5.drew) ⟨d0, d1, d2, t0, t1, t2, t3, t4⟩ hbA); have HW := Lib.hid hv; clear hv) | (go_at_call 191; (with_reducible refine (implTokValueM kk ⟨by omega, by omega⟩ o0 _ o2 E2.out tc tvk tvn tvs R _ capR _ _ HML.out row (st.drop fr) _ HTOK.out valsB.out argsB.out OKX.out).mono ?_); rintro e yA ⟨v, rfl, hv, hbA⟩; have HK8 := Lib.hid (keep8 (w := (x5.alloc (.cells #[.int .i64 0, .int .i64 0, .string ⟨#[]⟩] 93)).drew) KB.out hbA); have HW := Lib.hid hv; clear hv; obtain ⟨⟨y0, y1, y2⟩, ⟨y3, y4, y5⟩⟩ := ((Row.new x5 93 #[.int .i64 0, .int .i64 0, .string ⟨#[]⟩]).drew.below hbA).three))
      · have hz0 := HB.out.drew.trans (hbA.mono HB.out.size)
        have hz := hz0.alloc hz0.size (.cells #[.int .i64 v.k, .int .i64 v.n, .string v.s] 93)
        have ro6 := (RO.out.drew.below hbA).alloc (.cells #[.int .i64 v.k, .int .i64 v.n, .string v.s] 93)
        have rl6 := (RL.out.drew.below hbA).alloc (.cells #[.int .i64 v.k, .int .i64 v.n, .string v.s] 93)
        have rz6 := (RZ.out.drew.below hbA).alloc (.cells #[.int .i64 v.k, .int .i64 v.n, .string v.s] 93)
        have rv6 := Row.new yA 93 #[.int .i64 v.k, .int .i64 v.n, .string v.s]
        clear HK8 hz0 hbA
        generalize yA.alloc (.cells #[.int .i64 v.k, .int .i64 v.n, .string v.s] 93) = x6 at *
        generalize yA.heap.size = gv at *
        have HFR' : st.length - takes kk = fr := by have := HFR.out; omega
        have hd : st.drop (st.length - takes (⟨kk, tc, tvk, tvn, tvs⟩ : Tk).k) = st.drop fr := by rw [← HFR']
        have hstep := HEV.out
        cases htv : tokVal row ⟨kk, tc, tvk, tvn, tvs⟩ (st.drop fr) with
        | none =>
          have HV := Lib.hid (show evalB ts row = none by
            rw [evalStep_none (by rw [hd]; exact htv)] at hstep
            have := evalGo_dead row ts (k + 1) [] hstep
            simp [evalB, this])
          obtain ⟨⟨z0, z1, z2⟩, ⟨z3, z4, z5⟩⟩ := rz6.three
          clear hstep htv hd HFR' hsub ro6 rl6 rz6 rv6
          go_wp2_with fail
          refine bodyPost_ret (v := .tuple #[.agg #[.int .i64 0, .int .i64 0, .string ⟨#[]⟩], .bool false]) (by simp [results, Tryz.results153, go_sem, z0, z1, z2]) rfl ⟨by rw [HV.out]; rfl, ?_⟩
          repeat (first | with_reducible exact hz | with_reducible refine Below.drew ?_ | with_reducible refine Below.setCell ?_ (by simp) _)
        | some v' =>
          obtain rfl : v = v' := HW.out v' htv
          have hvok := tokVal_ok HOK.out HTOK.out htv
          rw [evalStep_some (by rw [hd]; exact htv)] at hstep
          have htake : st.take (st.length - takes (⟨kk, tc, tvk, tvn, tvs⟩ : Tk).k) = st.take fr := by rw [← HFR']
          rw [htake] at hstep
          have HST := Lib.hid hstep
          have HLEN := Lib.hid (show (st.take fr ++ [v]).length = fr + 1 by simp; omega)
          have HEX := Lib.hid (show exprGo row.length (ts.take (k + 1)) 0 = some (st.take fr ++ [v]).length by rw [HEXP.out, HFR', HLEN.out])
          have HOKS := Lib.hid (show ∀ u ∈ st.take fr ++ [v], u.ok = true from fun u hu => by
            rw [List.mem_append, List.mem_singleton] at hu
            rcases hu with hu | rfl
            · exact hstok.out u (List.mem_of_mem_take hu)
            · exact hvok)
          have hsz1 : fr * 3 + 3 ≤ cs.size := by rw [hcs.out]; omega
          have HLAID := Lib.hid (hlaid.out.snoc3 (by simp) (by simp [Vl.cells]) hfr2 (.int .i64 v.k) (.int .i64 v.n) (.string v.s) hsz1)
          have hq : ∀ j, j < 3 → x6.cell? ⟨w3.heap.size + 1, fr * 3 + j, none⟩ = some (cs[fr * 3 + j]?.getD undef) := fun j hj => by
            rw [rl6.cell, Array.getElem?_eq_getElem (by omega)]; rfl
          have q0 : x6.cell? ⟨w3.heap.size + 1, fr * 3, none⟩ = some (cs[fr * 3]?.getD undef) := hq 0 (by omega)
          have q1 := hq 1 (by omega)
          have q2 := hq 2 (by omega)
          have f0 := rl6.free (fr * 3)
          have f1 := rl6.free (fr * 3 + 1)
          have f2 := rl6.free (fr * 3 + 2)
          obtain ⟨⟨v0, v1, v2⟩, -⟩ := rv6.three
          have RO6 := Lib.hid ro6
          have RL6 := Lib.hid rl6
          have RZ6 := Lib.hid rz6
          have HZ6 := Lib.hid hz
          clear hstep htv hd HFR' hsub ro6 rl6 rz6 rv6 hq htake hvok hz
          go_wp2_with fail
          go_roundw
          case rel => exact ⟨k + 1, st.take fr ++ [v], _, by omega, by go_num, by rw [HLEN.out]; go_num, by rw [HLEN.out]; omega, HEX, HST, HOKS,
            ((RO6.out.far (by simp) _).far (by simp) _).far (by simp) _, ((RL6.out.set _ _).set _ _).set _ _, Lib.hid (by simp [hcs.out]), Lib.hid (by rw [HLEN.out, List.map_append, List.map_take]; exact HLAID.out),
            ((RZ6.out.far (by simp; omega) _).far (by simp; omega) _).far (by simp; omega) _, ((HZ6.out.setCell (by simp; omega) _).setCell (by simp; omega) _).setCell (by simp; omega) _⟩
          case measure => simp [intOf]; omega
      · have bz := HB.out.alloc HB.out.size (.cells #[.int .i64 0, .int .i64 0, .string ⟨#[]⟩] 93)
        have hz0 := bz.drew.trans (hbA.mono bz.size)
        have hx5 := HB.out.size
        have lt1 : w3.heap.size + 1 < x5.heap.size := lt_of_block RL.out
        have m0 : w3.heap.size ≠ x5.heap.size := ne1.symm
        have m1 : w3.heap.size + 1 ≠ x5.heap.size := Nat.ne_of_lt lt1
        have m2 : w.heap.size ≠ x5.heap.size := by omega
        have hz := ((hz0.setCell (p := ⟨x5.heap.size, 0, none⟩) hx5 (.int .i64 v.k)).setCell (p := ⟨x5.heap.size, 1, none⟩) hx5 (.int .i64 v.n)).setCell (p := ⟨x5.heap.size, 2, none⟩) hx5 (.string v.s)
        have ro6 := ((((RO.out.alloc (.cells #[.int .i64 0, .int .i64 0, .string ⟨#[]⟩] 93)).drew.below hbA).far (p := ⟨x5.heap.size, 0, none⟩) m0 (.int .i64 v.k)).far (p := ⟨x5.heap.size, 1, none⟩) m0 (.int .i64 v.n)).far (p := ⟨x5.heap.size, 2, none⟩) m0 (.string v.s)
        have rl6 := ((((RL.out.alloc (.cells #[.int .i64 0, .int .i64 0, .string ⟨#[]⟩] 93)).drew.below hbA).far (p := ⟨x5.heap.size, 0, none⟩) m1 (.int .i64 v.k)).far (p := ⟨x5.heap.size, 1, none⟩) m1 (.int .i64 v.n)).far (p := ⟨x5.heap.size, 2, none⟩) m1 (.string v.s)
        have rz6 := ((((RZ.out.alloc (.cells #[.int .i64 0, .int .i64 0, .string ⟨#[]⟩] 93)).drew.below hbA).far (p := ⟨x5.heap.size, 0, none⟩) m2 (.int .i64 v.k)).far (p := ⟨x5.heap.size, 1, none⟩) m2 (.int .i64 v.n)).far (p := ⟨x5.heap.size, 2, none⟩) m2 (.string v.s)
        have rv6 : Row (((yA.setCell ⟨x5.heap.size, 0, none⟩ (.int .i64 v.k)).setCell ⟨x5.heap.size, 1, none⟩ (.int .i64 v.n)).setCell ⟨x5.heap.size, 2, none⟩ (.string v.s)) x5.heap.size 93 #[.int .i64 v.k, .int .i64 v.n, .string v.s] := ((((Row.new x5 93 #[.int .i64 0, .int .i64 0, .string ⟨#[]⟩]).drew.below hbA).set 0 _).set 1 _).set 2 _
        clear HK8 hz0 hbA bz y0 y1 y2 y3 y4 y5
        generalize ((yA.setCell ⟨x5.heap.size, 0, none⟩ (.int .i64 v.k)).setCell ⟨x5.heap.size, 1, none⟩ (.int .i64 v.n)).setCell ⟨x5.heap.size, 2, none⟩ (.string v.s) = x6 at *
        clear vals' valsB args argsB KB RO RL RZ HB d0 d1 d2 t0 t1 t2 t3 t4
        generalize x5.heap.size = gv at *
        have HFR' : st.length - takes kk = fr := by have := HFR.out; omega
        have hd : st.drop (st.length - takes (⟨kk, tc, tvk, tvn, tvs⟩ : Tk).k) = st.drop fr := by rw [← HFR']
        have hstep := HEV.out
        cases htv : tokVal row ⟨kk, tc, tvk, tvn, tvs⟩ (st.drop fr) with
        | none =>
          have HV := Lib.hid (show evalB ts row = none by
            rw [evalStep_none (by rw [hd]; exact htv)] at hstep
            have := evalGo_dead row ts (k + 1) [] hstep
            simp [evalB, this])
          obtain ⟨⟨z0, z1, z2⟩, ⟨z3, z4, z5⟩⟩ := rz6.three
          clear hstep htv hd HFR' hsub ro6 rl6 rz6 rv6
          go_wp2_with fail
          refine bodyPost_ret (v := .tuple #[.agg #[.int .i64 0, .int .i64 0, .string ⟨#[]⟩], .bool false]) (by simp [results, Tryz.results153, go_sem, z0, z1, z2]) rfl ⟨by rw [HV.out]; rfl, ?_⟩
          repeat (first | with_reducible exact hz | with_reducible refine Below.drew ?_ | with_reducible refine Below.setCell ?_ (by simp) _)
        | some v' =>
          obtain rfl : v = v' := HW.out v' htv
          have hvok := tokVal_ok HOK.out HTOK.out htv
          rw [evalStep_some (by rw [hd]; exact htv)] at hstep
          have htake : st.take (st.length - takes (⟨kk, tc, tvk, tvn, tvs⟩ : Tk).k) = st.take fr := by rw [← HFR']
          rw [htake] at hstep
          have HST := Lib.hid hstep
          have HLEN := Lib.hid (show (st.take fr ++ [v]).length = fr + 1 by simp; omega)
          have HEX := Lib.hid (show exprGo row.length (ts.take (k + 1)) 0 = some (st.take fr ++ [v]).length by rw [HEXP.out, HFR', HLEN.out])
          have HOKS := Lib.hid (show ∀ u ∈ st.take fr ++ [v], u.ok = true from fun u hu => by
            rw [List.mem_append, List.mem_singleton] at hu
            rcases hu with hu | rfl
            · exact hstok.out u (List.mem_of_mem_take hu)
            · exact hvok)
          have hsz1 : fr * 3 + 3 ≤ cs.size := by rw [hcs.out]; omega
          have HLAID := Lib.hid (hlaid.out.snoc3 (by simp) (by simp [Vl.cells]) hfr2 (.int .i64 v.k) (.int .i64 v.n) (.string v.s) hsz1)
          have hq : ∀ j, j < 3 → x6.cell? ⟨w3.heap.size + 1, fr * 3 + j, none⟩ = some (cs[fr * 3 + j]?.getD undef) := fun j hj => by
            rw [rl6.cell, Array.getElem?_eq_getElem (by omega)]; rfl
          have q0 : x6.cell? ⟨w3.heap.size + 1, fr * 3, none⟩ = some (cs[fr * 3]?.getD undef) := hq 0 (by omega)
          have q1 := hq 1 (by omega)
          have q2 := hq 2 (by omega)
          have f0 := rl6.free (fr * 3)
          have f1 := rl6.free (fr * 3 + 1)
          have f2 := rl6.free (fr * 3 + 2)
          obtain ⟨⟨v0, v1, v2⟩, -⟩ := rv6.three
          have RO6 := Lib.hid ro6
          have RL6 := Lib.hid rl6
          have RZ6 := Lib.hid rz6
          have HZ6 := Lib.hid hz
          clear hstep htv hd HFR' hsub ro6 rl6 rz6 rv6 hq htake hvok hz
          go_wp2_with fail
          go_roundw
          case rel => exact ⟨k + 1, st.take fr ++ [v], _, by omega, by go_num, by rw [HLEN.out]; go_num, by rw [HLEN.out]; omega, HEX, HST, HOKS,
            ((RO6.out.far (by simp) _).far (by simp) _).far (by simp) _, ((RL6.out.set _ _).set _ _).set _ _, Lib.hid (by simp [hcs.out]), Lib.hid (by rw [HLEN.out, List.map_append, List.map_take]; exact HLAID.out),
            ((RZ6.out.far (by simp; omega) _).far (by simp; omega) _).far (by simp; omega) _, ((HZ6.out.setCell (by simp; omega) _).setCell (by simp; omega) _).setCell (by simp; omega) _⟩
          case measure => simp [intOf]; omega
    · have e : ts.take k = ts := List.take_of_length_le (by omega)
      have h1 := hexp.out
      rw [e, HGO.out] at h1
      have h2 := hev.out
      rw [e] at h2
      match st, (Option.some.inj h1).symm with
      | [v], _ =>
        have HV := Lib.hid (show evalB ts row = some v by simp [evalB, HR.out, HE.out, h2])
        have g := hlaid.out
        have q0 := (hrl.cell 0).trans (g 0 0 _ _ (by simp) rfl rfl)
        have q1 := (hrl.cell 1).trans (g 0 1 _ _ (by simp) rfl rfl)
        have q2 := (hrl.cell 2).trans (g 0 2 _ _ (by simp) rfl rfl)
        obtain ⟨⟨z0, z1, z2⟩, ⟨z3, z4, z5⟩⟩ := hrz.three
        have hz := hb
        clear h1 h2 e g hexp hev hlaid hro hrl hrz hstok
        go_wp2
        refine bodyPost_ret (v := .tuple #[.agg #[.int .i64 v.k, .int .i64 v.n, .string v.s], .bool true]) (by simp [results, Tryz.results153, go_sem, z0, z1, z2]) rfl ⟨by rw [HV.out]; rfl, ?_⟩
        repeat (first | with_reducible exact hz | with_reducible refine Below.drew ?_ | with_reducible refine Below.setCell ?_ (by simp) _)
theorem evalGo_ok {row : List Vl} {cols : Int} (hrow : ∀ v ∈ row, v.ok = true) : ∀ (ts : List Tk) (l m : Nat) (st st' : List Vl), exprGo cols ts l = some m → (∀ v ∈ st, v.ok = true) → evalGo row ts st = some st' → ∀ v ∈ st', v.ok = true
  | [], _, _, st, st', _, hs, he => by simp [evalGo] at he; subst he; exact hs
  | t :: ts, l, m, st, st', hx, hs, he => by
    simp only [exprGo] at hx
    split at hx
    · rename_i hc
      simp only [evalGo, evalStep] at he
      cases htv : tokVal row t (st.drop (st.length - takes t.k)) with
      | none => simp [htv] at he
      | some v =>
        simp only [htv, Option.map_some, Option.bind_some] at he
        refine evalGo_ok hrow ts _ m _ st' hx ?_ he
        intro u hu
        rw [List.mem_append, List.mem_singleton] at hu
        rcases hu with hu | rfl
        · exact hs u (List.mem_of_mem_take hu)
        · exact tokVal_ok hrow hc.1 htv
    · cases hx
theorem evalB_ok {ts : List Tk} {row : List Vl} {v : Vl} (h : evalB ts row = some v) : v.ok = true := by
  unfold evalB at h
  split at h
  · rename_i hc
    rw [Bool.and_eq_true] at hc
    obtain ⟨st, hst, hv⟩ := Option.bind_eq_some_iff.1 h
    have hrow : ∀ v ∈ row, v.ok = true := by have := hc.1; simp [rowB] at this; exact this.2
    exact evalGo_ok hrow ts 0 1 [] st (exprB_go hc.2).1 (by simp) hst v (List.mem_of_getElem? hv)
  · cases h
def truthB (ts : List Tk) (row : List Vl) : Int := match evalB ts row with
  | some v => truOf v
  | none => -1
set_option maxRecDepth 100000 in
set_option maxHeartbeats 400000 in
theorem implTruth (A R : Option Addr) (n m cap capR : Nat) (ts : List Tk) (row : List Vl) (w : World) (h : Toks w A n ts) (hr : Vals w R m row) (hn : n ≤ maxLen) (hm : m ≤ maxLen) :
    Calls Tryz.prog 103 #[.slice A n cap, .slice R m capR] w fun e w' => e = .returned (.int .i64 (truthB ts row)) ∧ Below w.heap.size w w' := by
  cases hv : evalB ts row with
  | none =>
    have HV := Lib.hid (show truthB ts row = -1 by simp [truthB, hv])
    have HE := Lib.hid hv
    clear hv
    go_enter Tryz.func103, Tryz.ntmps103
    go_wp2_with fail
    refine (implEval A R n m cap capR ts row _ h hr hn hm).mono ?_
    rintro e w1 ⟨rfl, hb1⟩
    rw [HE.out]
    simp only [Option.getD_none, Option.isSome_none]
    go_wp2
    go_ret
    first | exact ⟨retI (by rw [HV.out]), hb1.alloc hb1.size _⟩ | exact ⟨retI (by rw [HV.out]), hb1⟩
  | some v =>
    have HV := Lib.hid (show truthB ts row = truOf v by simp [truthB, hv])
    have hok := evalB_ok hv
    have HE := Lib.hid hv
    have HO := Lib.hid hok
    clear hv hok
    go_enter Tryz.func103, Tryz.ntmps103
    go_wp2_with fail
    refine (implEval A R n m cap capR ts row _ h hr hn hm).mono ?_
    rintro e w1 ⟨rfl, hb1⟩
    rw [HE.out]
    simp only [Option.getD_some, Option.isSome_some]
    go_wp2_with fail
    refine (implTruthOf v _ HO.out).mono ?_
    rintro e w2 ⟨rfl, hb2⟩
    go_wp2
    go_ret
    have hz := hb1.alloc hb1.size (.cells #[.int .i64 v.k, .int .i64 v.n, .string v.s] 93)
    exact ⟨retI (by rw [HV.out]), hz.trans (hb2.mono hz.size)⟩
end Go.Proofs.YtemimhghhihllaaGreat
namespace Go.Proofs.YtemimhghhihllaaGreat
open Go.RowKit Go.Maps
def kindAt (cols : List Cl) (i : Int) : Int := (cols[i.toNat]?.map Cl.kind).getD 0
def kindV (c1 c2 : List Cl) (p : Int × Int) : Bool := kindAt c1 p.1 == kindAt c2 p.2
def sameB (c1 : List Cl) (l1 : List Int) (c2 : List Cl) (l2 : List Int) : Bool := decide (l1.length = l2.length) && (l1.zip l2).all (kindV c1 c2)
def leadB (s : List Tb) (x : Tb) (f : Fk) : Bool := decide (atN (s.map Tb.name) f.table ≠ -1) && (match s[(atN (s.map Tb.name) f.table).toNat]? with | some o => sameB x.cols f.cols o.cols o.key | none => false)
def leadsB (s : List Tb) (x : Tb) : Bool := x.fks.all (leadB s x)
def schemaB (s : List Tb) : Bool := decide (s.length ≤ 5) && (s.all tableB && (uniqGo [] (s.map Tb.name) && s.all (leadsB s)))
theorem kindAt_nat {cols : List Cl} {j : Nat} (h : j < cols.length) : kindAt cols j = cols[j].kind := by
  unfold kindAt; simp [List.getElem?_eq_getElem h]
theorem PlacesIn.below {w w' : World} {b : Nat} {names : List ByteArray} (h : PlacesIn w b names) (hb : Below w.heap.size w w') : PlacesIn w' b names :=
  h.kept (row := none) ⟨hb.os, hb.tape, hb.output, hb.size, fun k hk _ => hb.block k hk⟩ (by simp)
set_option maxRecDepth 100000 in
set_option maxHeartbeats 1000000 in
theorem implSameKinds (A1 AK B1 BK : Option Addr) (n1 c1 nK cK m1 d1 mK dK : Nat) (v0 v2 v3 v4 v5 u0 u2 u3 u4 u5 : Value) (cols1 cols2 : List Cl) (l1 l2 : List Int) (ok : Nat → Prop) (w : World)
    (h1 : Sl ClR 6 ok w A1 n1 cols1) (hk1 : Sl IntR 1 ok w AK nK l1) (h2 : Sl ClR 6 ok w B1 m1 cols2) (hk2 : Sl IntR 1 ok w BK mK l2) (hin1 : ∀ x ∈ l1, 0 ≤ x ∧ x < cols1.length) (hin2 : ∀ x ∈ l2, 0 ≤ x ∧ x < cols2.length)
    (hn1 : n1 ≤ 1048576) (hnK : nK ≤ 1048576) (hm1 : m1 ≤ 1048576) (hmK : mK ≤ 1048576) :
    Calls Tryz.prog 187 #[.agg #[v0, .slice A1 n1 c1, v2, v3, v4, v5], .slice AK nK cK, .agg #[u0, .slice B1 m1 d1, u2, u3, u4, u5], .slice BK mK dK] w fun e w' => e = .returned (.bool (sameB cols1 l1 cols2 l2)) ∧ Below w.heap.size w w' := by
  obtain rfl : cols1.length = n1 := h1.1
  obtain rfl : cols2.length = m1 := h2.1
  obtain rfl : l1.length = nK := hk1.1
  obtain rfl : l2.length = mK := hk2.1
  have HI1 := Lib.hid hin1
  have HI2 := Lib.hid hin2
  clear hin1 hin2
  have hb0 := ((Below.refl w.heap.size w).alloc (Nat.le_refl _) (.cells #[v0, .slice A1 cols1.length c1, v2, v3, v4, v5] 86)).alloc (by simp) (.cells #[u0, .slice B1 cols2.length d1, u2, u3, u4, u5] 86)
  have r1 := (Row.new w 86 #[v0, .slice A1 cols1.length c1, v2, v3, v4, v5]).alloc (.cells #[u0, .slice B1 cols2.length d1, u2, u3, u4, u5] 86)
  have r2 := Row.newAt (w.alloc (.cells #[v0, .slice A1 cols1.length c1, v2, v3, v4, v5] 86)) 86 #[u0, .slice B1 cols2.length d1, u2, u3, u4, u5] (w.heap.size + 1) (by simp)
  cases hl : (l1.length == l2.length)
  · have hl' : ¬ ((l1.length : Int) = l2.length) := by have := beq_eq_false_iff_ne.1 hl; omega
    have HF := Lib.hid (show sameB cols1 l1 cols2 l2 = false by unfold sameB; rw [decide_eq_false (beq_eq_false_iff_ne.1 hl)]; rfl)
    clear hl
    go_enter Tryz.func187, Tryz.ntmps187
    go_wp2
    go_ret
    exact ⟨retB HF.out.symm, hb0⟩
  have hlen : l1.length = l2.length := by simpa using hl
  have hl' : (l1.length : Int) = l2.length := by omega
  have hz : (l1.zip l2).length = l1.length := by simp [hlen]
  have HZ := Lib.hid hz
  have HL := Lib.hid hlen
  have HE := Lib.hid (show sameB cols1 l1 cols2 l2 = (l1.zip l2).all (kindV cols1 cols2) by unfold sameB; rw [decide_eq_true hlen]; rfl)
  clear hl hz hlen
  go_enter Tryz.func187, Tryz.ntmps187
  go_wp2_with fail
  clear hl'
  generalize (w.alloc (.cells #[v0, .slice A1 cols1.length c1, v2, v3, v4, v5] 86)).alloc (.cells #[u0, .slice B1 cols2.length d1, u2, u3, u4, u5] 86) = x0 at *
  go_loopw [17] (fun i wr => ∃ k : Nat, k ≤ l1.length ∧ i = .int .i64 k ∧ Hid (((l1.zip l2).take k).all (kindV cols1 cols2) = true) ∧ Row wr w.heap.size 86 #[v0, .slice A1 cols1.length c1, v2, v3, v4, v5] ∧ Row wr (w.heap.size + 1) 86 #[u0, .slice B1 cols2.length d1, u2, u3, u4, u5] ∧ Below w.heap.size w wr) (fun i _ => l1.length - (intOf i).toNat)
  case atStart => exact ⟨0, by omega, rfl, Lib.hid (by simp), r1, r2, hb0⟩
  case round =>
    obtain ⟨k, hk, rfl, hall, hr1, hr2, hb⟩ := hrel
    by_cases hlt : k < l1.length
    · have hlt2 : k < l2.length := by have := HL.out; omega
      obtain ⟨⟨a0, a1, a2, a3, a4, a5⟩, -⟩ := hr1.all6
      obtain ⟨⟨z0, z1, z2, z3, z4, z5⟩, -⟩ := hr2.all6
      obtain ⟨bk, offk, -, rfl, p0⟩ := IntR.at_ (hk1.below IntR.stays hb) hlt
      obtain ⟨bl, offl, -, rfl, p1⟩ := IntR.at_ (hk2.below IntR.stays hb) hlt2
      have hi1 := HI1.out _ (List.getElem_mem hlt)
      have hi2 := HI2.out _ (List.getElem_mem hlt2)
      have hsn := all_take (kindV cols1 cols2) (l1.zip l2) k (by rw [HZ.out]; exact hlt)
      have hno := fun hf => all_no (kindV cols1 cols2) (l1.zip l2) k (by rw [HZ.out]; exact hlt) hf
      obtain ⟨j1, hj1⟩ : ∃ j : Nat, l1[k] = (j : Int) := ⟨l1[k].toNat, by omega⟩
      obtain ⟨j2, hj2⟩ : ∃ j : Nat, l2[k] = (j : Int) := ⟨l2[k].toNat, by omega⟩
      rw [hj1] at p0 hi1
      rw [hj2] at p1 hi2
      have hjl1 : j1 < cols1.length := by omega
      have hjl2 : j2 < cols2.length := by omega
      have eg : kindV cols1 cols2 ((l1.zip l2)[k]'(by rw [HZ.out]; exact hlt)) = (cols1[j1].kind == cols2[j2].kind) := by
        rw [List.getElem_zip]; unfold kindV; simp only [hj1, hj2, kindAt_nat hjl1, kindAt_nat hjl2]
      rw [hall.out, Bool.true_and, eg] at hsn
      rw [eg] at hno
      obtain ⟨b, off, -, rfl, q0, q1, q2, q3, q4, q5⟩ := ClR.at_ (h1.below ClR.stays hb) hjl1
      obtain ⟨b', off', -, rfl, y0, y1, y2, y3, y4, y5⟩ := ClR.at_ (h2.below ClR.stays hb) hjl2
      have i0 : (0 : Int) ≤ k := by omega
      have i1 : (k : Int) < l1.length := by omega
      have i2 : (k : Int) < l2.length := by omega
      have i3 : (0 : Int) ≤ j1 := by omega
      have i4 : (j1 : Int) < cols1.length := by omega
      have i5 : (0 : Int) ≤ j2 := by omega
      have i6 : (j2 : Int) < cols2.length := by omega
      clear eg hj1 hj2 hi1 hi2
      cases hc : (cols1[j1].kind == cols2[j2].kind)
      · have HF := Lib.hid (show sameB cols1 l1 cols2 l2 = false by rw [HE.out]; exact hno hc)
        have hc2 : (cols1[j1].kind != cols2[j2].kind) = true := by rw [bne, hc]; rfl
        clear hsn hno hall
        go_wp2_with fail
        go_quiet (fail)
        go_wp2_with fail
        go_ret
        exact ⟨retB HF.out.symm, below_drewN hb _⟩
      · have HA := Lib.hid (hsn.trans hc)
        have hc2 : (cols1[j1].kind != cols2[j2].kind) = false := by rw [bne, hc]; rfl
        clear hsn hno hall
        go_wp2_with fail
        go_quiet (fail)
        go_wp2_with fail
        go_roundw
        case rel => exact ⟨k + 1, by omega, by go_num, Lib.hid HA.out, hr1.drewN _, hr2.drewN _, below_drewN hb _⟩
        case measure => simp [intOf]; omega
    · have e : (l1.zip l2).take k = l1.zip l2 := List.take_of_length_le (by rw [HZ.out]; omega)
      have h1 := hall.out
      rw [e] at h1
      have HF := Lib.hid (show sameB cols1 l1 cols2 l2 = true by rw [HE.out]; exact h1)
      have i3 : ¬ (k : Int) < l2.length := by have := HL.out; omega
      clear e h1 hall
      go_wp2
      go_ret
      exact ⟨retB HF.out.symm, hb⟩
theorem fk_cols {x : Tb} (hx : tableB x = true) {k : Nat} (hlt : k < x.fks.length) : ∀ y ∈ x.fks[k].cols, 0 ≤ y ∧ y < x.cols.length := by
  unfold tableB fksB at hx
  simp only [Bool.and_eq_true, decide_eq_true_eq] at hx
  have := List.all_eq_true.1 hx.2.2.2.2.2.2 _ (List.getElem_mem hlt)
  unfold fkB at this
  rw [Bool.and_eq_true] at this
  exact (colsInB_len this.1).2
theorem key_cols {x : Tb} (hx : tableB x = true) : ∀ y ∈ x.key, 0 ≤ y ∧ y < x.cols.length := by
  unfold tableB keyB at hx
  simp only [Bool.and_eq_true] at hx
  exact (colsInB_len hx.2.2.1.1).2
set_option maxRecDepth 100000 in
set_option maxHeartbeats 2000000 in
theorem implFksLead (s : List Tb) (x : Tb) (AS : Option Addr) (nS cS bm : Nat) (A1 : Option Addr) (n1 c1 : Nat) (A2 : Option Addr) (n2 c2 : Nat) (A3 : Option Addr) (n3 c3 : Nat) (A4 : Option Addr) (n4 c4 : Nat) (A5 : Option Addr) (n5 c5 : Nat) (ok : Nat → Prop) (w : World)
    (hs : Sl TbR 6 ok w AS nS s) (hp : PlacesIn w bm (s.map Tb.name)) (h1 : Sl ClR 6 ok w A1 n1 x.cols) (h5 : Sl FkR 5 ok w A5 n5 x.fks) (hx : tableB x = true) (hall : s.all tableB = true) (hsz : szL Tb.sz s ≤ 1048576) (hxs : x.sz ≤ 1048576) :
    Calls Tryz.prog 147 #[.slice AS nS cS, .map (some bm), .agg #[.string x.name, .slice A1 n1 c1, .slice A2 n2 c2, .slice A3 n3 c3, .slice A4 n4 c4, .slice A5 n5 c5]] w fun e w' => e = .returned (.bool (leadsB s x)) ∧ Below w.heap.size w w' := by
  obtain rfl : s.length = nS := hs.1
  obtain rfl : x.fks.length = n5 := h5.1
  have e1 := h1.1
  have HN1 := Lib.hid (show n1 ≤ 1048576 by unfold Tb.sz szL at hxs; omega)
  have hn5 : x.fks.length ≤ 1048576 := by unfold Tb.sz szL at hxs; omega
  have HXS := Lib.hid (show szL Fk.sz x.fks ≤ 1048576 by unfold Tb.sz at hxs; omega)
  have HSZ := Lib.hid hsz
  have HX := Lib.hid hx
  have HALL := Lib.hid hall
  clear hsz hxs hx hall e1
  have hb0 := (Below.refl w.heap.size w).alloc (Nat.le_refl _) (.cells #[.string x.name, .slice A1 n1 c1, .slice A2 n2 c2, .slice A3 n3 c3, .slice A4 n4 c4, .slice A5 x.fks.length c5] 86)
  have r0 := Row.new w 86 #[.string x.name, .slice A1 n1 c1, .slice A2 n2 c2, .slice A3 n3 c3, .slice A4 n4 c4, .slice A5 x.fks.length c5]
  have hp0 := hp.alloc (.cells #[.string x.name, .slice A1 n1 c1, .slice A2 n2 c2, .slice A3 n3 c3, .slice A4 n4 c4, .slice A5 x.fks.length c5] 86)
  go_enter Tryz.func147, Tryz.ntmps147
  go_wp2_with fail
  generalize w.alloc (.cells #[.string x.name, .slice A1 n1 c1, .slice A2 n2 c2, .slice A3 n3 c3, .slice A4 n4 c4, .slice A5 x.fks.length c5] 86) = x0 at *
  go_loopw [14] (fun i wr => ∃ k : Nat, k ≤ x.fks.length ∧ i = .int .i64 k ∧ Hid ((x.fks.take k).all (leadB s x) = true) ∧ Row wr w.heap.size 86 #[.string x.name, .slice A1 n1 c1, .slice A2 n2 c2, .slice A3 n3 c3, .slice A4 n4 c4, .slice A5 x.fks.length c5] ∧ PlacesIn wr bm (s.map Tb.name) ∧ Below w.heap.size w wr) (fun i _ => x.fks.length - (intOf i).toNat)
  case atStart => exact ⟨0, by omega, rfl, Lib.hid (by simp), r0, hp0, hb0⟩
  case round =>
    clear hp hp0 r0 hb0
    obtain ⟨k, hk, rfl, hall, hr, hp, hb⟩ := hrel
    by_cases hlt : k < x.fks.length
    · obtain ⟨b, off, A9, n9, c9, -, rfl, q0, q1, q2, q3, q4, hfc, -⟩ := FkR.at_ (h5.below FkR.stays hb) hlt
      obtain rfl : x.fks[k].cols.length = n9 := hfc.1
      have hsn := all_take (leadB s x) x.fks k hlt
      rw [hall.out, Bool.true_and] at hsn
      have hno := fun hf : leadB s x x.fks[k] = false => show leadsB s x = false from all_no (leadB s x) x.fks k hlt hf
      have hfk : x.fks[k].cols.length ≤ 1048576 ∧ x.fks[k].table.size ≤ 1048576 := by have := HXS.out; have := sum_mem_le Fk.sz x.fks k hlt; unfold szL at *; simp only [Fk.sz] at *; omega
      have HN9 := Lib.hid hfk.1
      have HTB := Lib.hid (show x.fks[k].table.size ≤ maxLen by have := hfk.2; unfold maxLen; omega)
      have HI1 := Lib.hid (show ∀ y ∈ x.fks[k].cols, 0 ≤ y ∧ y < x.cols.length from fk_cols HX.out hlt)
      clear hfk
      generalize x.fks[k] = f at *
      have hbx := (Below.refl wr.heap.size wr).alloc (Nat.le_refl _) (.cells #[.slice A9 f.cols.length c9, .string f.table, .int .i64 f.del, .int .i64 f.upd, .bool f.dfr] 178)
      have hba := hb.trans (hbx.mono hb.size)
      have rf := Row.new wr 178 #[.slice A9 f.cols.length c9, .string f.table, .int .i64 f.del, .int .i64 f.upd, .bool f.dfr]
      have hr1 := hr.below hbx
      have hp1 := hp.below hbx
      obtain ⟨⟨f0, f1, f2, f3, f4⟩, -⟩ := rf.five
      obtain ⟨⟨x0, x1, x2, x3, x4, x5⟩, -⟩ := hr1.all6
      obtain ⟨D, m1', m2', m3, m4, m5⟩ := id hp1
      have hh := m3 f.table
      clear m5 m3 m2'
      by_cases hno1 : atN (s.map Tb.name) f.table = -1
      · rw [decide_eq_false (by simp [hno1])] at hh
        have HH := Lib.hid hh
        have HF := Lib.hid (hno (by unfold leadB; rw [decide_eq_false (by simp [hno1])]; rfl))
        clear hh hno1 hno hsn hall m4
        go_wp2_with (first
          | (at_lookup; refine wpList_lookup_own_ok_int _ rfl _ _ 227 rfl 9 2 .i64 lawS Tryz.underlying227 Tryz.underlying2 (zeroI _) bm _ D rfl m1' _ _ rfl (keyS_of f.table HTB.out) ?_; intro c hat hwc; rw [HH.out]))
        clear hat hwc m1'
        go_quiet (fail)
        go_wp2_with fail
        go_ret
        exact ⟨retB HF.out.symm, below_drewN hba _⟩
      rw [decide_eq_true hno1] at hh
      have HH := Lib.hid hh
      obtain ⟨j, hj, hjl⟩ : ∃ j : Nat, atN (s.map Tb.name) f.table = (j : Int) ∧ j < s.length := by
        rcases atN_rng (s.map Tb.name) f.table with h | h
        · exact absurd h hno1
        · rw [List.length_map] at h; exact ⟨(atN (s.map Tb.name) f.table).toNat, by omega, by omega⟩
      have hm4 := m4 f.table hno1
      rw [hj] at hm4
      have HA := Lib.hid hm4
      have hld : leadB s x f = sameB x.cols f.cols s[j].cols s[j].key := by
        unfold leadB; rw [decide_eq_true hno1, hj]; simp [List.getElem?_eq_getElem hjl]
      rw [hld] at hsn hno
      obtain ⟨bs, offs, B1, m1, d1, B2, m2, d2, B3, m3, d3, B4, m4', d4, B5, m5, d5, -, rfl, y0, y1, y2, y3, y4, y5, hs1, hs2, -, -, -, -⟩ := TbR.at_ (hs.below TbR.stays hba) hjl
      have hx1 := h1.below ClR.stays hba
      have hfc := hfc.below IntR.stays hbx
      have hto : tableB s[j] = true := List.all_eq_true.1 HALL.out _ (List.getElem_mem hjl)
      have HI2 := Lib.hid (show ∀ y ∈ s[j].key, 0 ≤ y ∧ y < s[j].cols.length from key_cols hto)
      have hsj : m1 ≤ 1048576 ∧ m2 ≤ 1048576 := by have := HSZ.out; have := sum_mem_le Tb.sz s j hjl; have := hs1.1; have := hs2.1; unfold szL at *; simp only [Tb.sz] at *; unfold szL at *; omega
      have HM1 := Lib.hid hsj.1
      have HM2 := Lib.hid hsj.2
      have i0 : (0 : Int) ≤ j := by omega
      have i1 : (j : Int) < s.length := by omega
      clear hh hno1 hall m4 hm4 hj hld hto hsj
      cases hsm : sameB x.cols f.cols s[j].cols s[j].key
      · have HSM := Lib.hid hsm
        have HF := Lib.hid (hno hsm)
        clear hsn hno hsm
        go_wp2_with (first
          | (at_lookup; refine wpList_lookup_own_ok_int _ rfl _ _ 227 rfl 9 2 .i64 lawS Tryz.underlying227 Tryz.underlying2 (zeroI _) bm _ D rfl m1' _ _ rfl (keyS_of f.table HTB.out) ?_; intro c hat hwc; rw [HH.out]))
        obtain rfl : c = (j : Int) := by have := HA.out; rw [hat] at this; simpa using this
        clear hat hwc m1'
        generalize wr.alloc (.cells #[.slice A9 f.cols.length c9, .string f.table, .int .i64 f.del, .int .i64 f.upd, .bool f.dfr] 178) = z1 at *
        refine wp_region_noPanic ?_
        refine wp_region_held_drew (S := fun w' => w'.cell? ⟨w.heap.size, 0, none⟩ = some (.string x.name) ∧ w'.cell? ⟨w.heap.size, 1, none⟩ = some (.slice A1 n1 c1) ∧ w'.cell? ⟨w.heap.size, 2, none⟩ = some (.slice A2 n2 c2) ∧ w'.cell? ⟨w.heap.size, 3, none⟩ = some (.slice A3 n3 c3) ∧ w'.cell? ⟨w.heap.size, 4, none⟩ = some (.slice A4 n4 c4) ∧ w'.cell? ⟨w.heap.size, 5, none⟩ = some (.slice (some ⟨b,off,none⟩) x.fks.length c5) ∧ w'.cell? ⟨wr.heap.size, 0, none⟩ = some (.slice A9 f.cols.length c9) ∧ w'.cell? ⟨bs, offs + j * 6, none⟩ = some (.string s[j].name) ∧ w'.cell? ⟨bs, offs + j * 6 + 1, none⟩ = some (.slice B1 m1 d1) ∧ w'.cell? ⟨bs, offs + j * 6 + 2, none⟩ = some (.slice B2 m2 d2) ∧ w'.cell? ⟨bs, offs + j * 6 + 3, none⟩ = some (.slice B3 m3 d3) ∧ w'.cell? ⟨bs, offs + j * 6 + 4, none⟩ = some (.slice B4 m4' d4) ∧ w'.cell? ⟨bs, offs + j * 6 + 5, none⟩ = some (.slice B5 m5 d5)) (by kernel_rfl) ⟨x0, x1, x2, x3, x4, x5, f0, y0, y1, y2, y3, y4, y5⟩ (fun hHeld => ?_)
        refine wpAnyH_take (i := 0) (v := ?v1) rfl (by kernel_rfl) (by kernel_rfl) (by kernel_rfl) (fun _ _ _ h => h) (Or.inl ⟨by rfl, ?hy1⟩) hHeld ?rest1
        case hy1 => (intro w' hSw; (try dsimp only at hSw); first | (go_simp; done) | (go_simp; with_reducible rfl))
        simp only [Act.put, pz0, pz1, pz2, pz3, pz4, pz5]
        refine wpAnyH_take (i := 1) (v := ?v2) rfl (by kernel_rfl) (by kernel_rfl) (by kernel_rfl) (fun _ _ _ h => h) (Or.inl ⟨by rfl, ?hy2⟩) hHeld ?rest2
        case hy2 => (intro w' hSw; (try dsimp only at hSw); first | (go_simp; done) | (go_simp; with_reducible rfl))
        simp only [Act.put, pz0, pz1, pz2, pz3, pz4, pz5]
        refine wpAnyH_take (i := 2) (v := ?v3) rfl (by kernel_rfl) (by kernel_rfl) (by kernel_rfl) (fun _ _ _ h => h) (Or.inl ⟨by rfl, ?hy3⟩) hHeld ?rest3
        case hy3 => (intro w' hSw; (try dsimp only at hSw); first | (go_simp; done) | (go_simp; with_reducible rfl))
        simp only [Act.put, pz0, pz1, pz2, pz3, pz4, pz5]
        refine wpAnyH_take (i := 3) (v := ?v4) rfl (by kernel_rfl) (by kernel_rfl) (by kernel_rfl) (fun _ _ _ h => h) (Or.inl ⟨by rfl, ?hy4⟩) hHeld ?rest4
        case hy4 => (intro w' hSw; (try dsimp only at hSw); first | (go_simp; done) | (go_simp; with_reducible rfl))
        simp only [Act.put, pz0, pz1, pz2, pz3, pz4, pz5]
        refine wpAnyH_take (i := 4) (v := ?v5) rfl (by kernel_rfl) (by kernel_rfl) (by kernel_rfl) (fun _ _ _ h => h) (Or.inl ⟨by rfl, ?hy5⟩) hHeld ?rest5
        case hy5 => (intro w' hSw; (try dsimp only at hSw); first | (go_simp; done) | (go_simp; with_reducible rfl))
        simp only [Act.put, pz0, pz1, pz2, pz3, pz4, pz5]
        refine wpAnyH_take (i := 5) (v := ?v6) rfl (by kernel_rfl) (by kernel_rfl) (by kernel_rfl) (fun _ _ _ h => h) (Or.inl ⟨by rfl, ?hy6⟩) hHeld ?rest6
        case hy6 => (intro w' hSw; (try dsimp only at hSw); first | (go_simp; done) | (go_simp; with_reducible rfl))
        simp only [Act.put, pz0, pz1, pz2, pz3, pz4, pz5]
        refine wpAnyH_take (i := 6) (v := ?v7) rfl (by kernel_rfl) (by kernel_rfl) (by kernel_rfl) (fun _ _ _ h => h) (Or.inl ⟨by rfl, ?hy7⟩) hHeld ?rest7
        case hy7 => (intro w' hSw; (try dsimp only at hSw); first | (go_simp; done) | (go_simp; with_reducible rfl))
        simp only [Act.put, pz0, pz1, pz2, pz3, pz4, pz5]
        refine wpAnyH_take (i := 7) (v := ?v8) rfl (by kernel_rfl) (by kernel_rfl) (by kernel_rfl) (fun _ _ _ h => h) (Or.inl ⟨by rfl, ?hy8⟩) hHeld ?rest8
        case hy8 => (intro w' hSw; (try dsimp only at hSw); first | (go_simp; done) | (go_simp; with_reducible rfl))
        simp only [Act.put, pz0, pz1, pz2, pz3, pz4, pz5]
        refine wpAnyH_take (i := 8) (v := ?v9) rfl (by kernel_rfl) (by kernel_rfl) (by kernel_rfl) (fun _ _ _ h => h) (Or.inl ⟨by rfl, ?hy9⟩) hHeld ?rest9
        case hy9 => (intro w' hSw; (try dsimp only at hSw); first | (go_simp; done) | (go_simp; with_reducible rfl))
        simp only [Act.put, pz0, pz1, pz2, pz3, pz4, pz5]
        refine wpAnyH_take (i := 9) (v := ?v10) rfl (by kernel_rfl) (by kernel_rfl) (by kernel_rfl) (fun _ _ _ h => h) (Or.inl ⟨by rfl, ?hy10⟩) hHeld ?rest10
        case hy10 => (intro w' hSw; (try dsimp only at hSw); first | (go_simp; done) | (go_simp; with_reducible rfl))
        simp only [Act.put, pz0, pz1, pz2, pz3, pz4, pz5]
        refine wpAnyH_take (i := 10) (v := ?v11) rfl (by kernel_rfl) (by kernel_rfl) (by kernel_rfl) (fun _ _ _ h => h) (Or.inl ⟨by rfl, ?hy11⟩) hHeld ?rest11
        case hy11 => (intro w' hSw; (try dsimp only at hSw); first | (go_simp; done) | (go_simp; with_reducible rfl))
        simp only [Act.put, pz0, pz1, pz2, pz3, pz4, pz5]
        refine wpAnyH_take (i := 11) (v := ?v12) rfl (by kernel_rfl) (by kernel_rfl) (by kernel_rfl) (fun _ _ _ h => h) (Or.inl ⟨by rfl, ?hy12⟩) hHeld ?rest12
        case hy12 => (intro w' hSw; (try dsimp only at hSw); first | (go_simp; done) | (go_simp; with_reducible rfl))
        simp only [Act.put, pz0, pz1, pz2, pz3, pz4, pz5]
        refine wpAnyH_take (i := 12) (v := ?v13) rfl (by kernel_rfl) (by kernel_rfl) (by kernel_rfl) (fun _ _ _ h => h) (Or.inl ⟨by rfl, ?hy13⟩) hHeld ?rest13
        case hy13 => (intro w' hSw; (try dsimp only at hSw); first | (go_simp; done) | (go_simp; with_reducible rfl))
        simp only [Act.put, pz0, pz1, pz2, pz3, pz4, pz5]
        refine wpAnyH_take (i := 13) (v := ?v14) rfl (by kernel_rfl) (by kernel_rfl) (by kernel_rfl) (fun _ _ _ h => h) (Or.inl ⟨by rfl, ?hy14⟩) hHeld ?rest14
        case hy14 => (intro w' hSw; (try dsimp only at hSw); first | (go_simp; done) | (go_simp; with_reducible rfl))
        simp only [Act.put, pz0, pz1, pz2, pz3, pz4, pz5]
        refine wpAnyH_take (i := 14) (v := ?v15) rfl (by kernel_rfl) (by kernel_rfl) (by kernel_rfl) (fun _ _ _ h => h) (Or.inl ⟨by rfl, ?hy15⟩) hHeld ?rest15
        case hy15 => (intro w' hSw; (try dsimp only at hSw); first | (go_simp; done) | (go_simp; with_reducible rfl))
        simp only [Act.put, pz0, pz1, pz2, pz3, pz4, pz5]
        refine wpAnyH_ready (rs := [15]) (by kernel_rfl) (by simp) ?_
        refine AllReadyH.cons rfl (fun K hK => ?_) AllReadyH.nil
        go_simp
        refine (implSameKinds A1 A9 B1 B2 n1 c1 f.cols.length c9 m1 d1 m2 d2 _ _ _ _ _ _ _ _ _ _ x.cols s[j].cols f.cols s[j].key ok _ (hx1.drew ClR.stays) (hfc.drew IntR.stays) (hs1.drew ClR.stays) (hs2.drew IntR.stays) HI1.out HI2.out HN1.out HN9.out HM1.out HM2.out).mono ?_
        rintro e wd ⟨rfl, hqd⟩
        rw [HSM.out]
        go_wp2_with fail
        refine hK.out _ _ ⟨below_keep hqd _ _ hHeld.1, below_keep hqd _ _ hHeld.2.1, below_keep hqd _ _ hHeld.2.2.1, below_keep hqd _ _ hHeld.2.2.2.1, below_keep hqd _ _ hHeld.2.2.2.2.1, below_keep hqd _ _ hHeld.2.2.2.2.2.1, below_keep hqd _ _ hHeld.2.2.2.2.2.2.1, below_keep hqd _ _ hHeld.2.2.2.2.2.2.2.1, below_keep hqd _ _ hHeld.2.2.2.2.2.2.2.2.1, below_keep hqd _ _ hHeld.2.2.2.2.2.2.2.2.2.1, below_keep hqd _ _ hHeld.2.2.2.2.2.2.2.2.2.2.1, below_keep hqd _ _ hHeld.2.2.2.2.2.2.2.2.2.2.2.1, below_keep hqd _ _ hHeld.2.2.2.2.2.2.2.2.2.2.2.2⟩ (fun hHeld => ?_)
        clear hK K
        (try simp only [Act.put, pz0, pz1, pz2, pz3, pz4, pz5])
        refine wpAnyH_take (i := 16) (v := ?v16) rfl (by kernel_rfl) (by kernel_rfl) (by kernel_rfl) (fun _ _ _ h => h) (Or.inl ⟨by rfl, ?hy16⟩) hHeld ?rest16
        case hy16 => (intro w' hSw; (try dsimp only at hSw); first | (go_simp; done) | (go_simp; with_reducible rfl))
        simp only [Act.put, pz0, pz1, pz2, pz3, pz4, pz5]
        refine wpAnyH_take (i := 17) (v := ?v17) rfl (by kernel_rfl) (by kernel_rfl) (by kernel_rfl) (fun _ _ _ h => h) (Or.inl ⟨by rfl, ?hy17⟩) hHeld ?rest17
        case hy17 => (intro w' hSw; (try dsimp only at hSw); first | (go_simp; done) | (go_simp; with_reducible rfl))
        simp only [Act.put, pz0, pz1, pz2, pz3, pz4, pz5]
        refine wpAnyH_done (by kernel_rfl) ?_ _
        refine NoPanic.normal ?_
        have hz := hba.drew.trans (hqd.mono hba.drew.size)
        have rz := hr1.drew.below hqd
        have hpz := hp1.drew.below hqd
        clear hHeld x0 x1 x2 x3 x4 x5 f0 y0 y1 y2 y3 y4 y5
        go_wp2_with fail
        go_ret
        exact ⟨retB HF.out.symm, hz⟩
      · have HSM := Lib.hid hsm
        have HG := Lib.hid (hsn.trans hsm)
        clear hsn hno hsm
        go_wp2_with (first
          | (at_lookup; refine wpList_lookup_own_ok_int _ rfl _ _ 227 rfl 9 2 .i64 lawS Tryz.underlying227 Tryz.underlying2 (zeroI _) bm _ D rfl m1' _ _ rfl (keyS_of f.table HTB.out) ?_; intro c hat hwc; rw [HH.out]))
        obtain rfl : c = (j : Int) := by have := HA.out; rw [hat] at this; simpa using this
        clear hat hwc m1'
        generalize wr.alloc (.cells #[.slice A9 f.cols.length c9, .string f.table, .int .i64 f.del, .int .i64 f.upd, .bool f.dfr] 178) = z1 at *
        refine wp_region_noPanic ?_
        refine wp_region_held_drew (S := fun w' => w'.cell? ⟨w.heap.size, 0, none⟩ = some (.string x.name) ∧ w'.cell? ⟨w.heap.size, 1, none⟩ = some (.slice A1 n1 c1) ∧ w'.cell? ⟨w.heap.size, 2, none⟩ = some (.slice A2 n2 c2) ∧ w'.cell? ⟨w.heap.size, 3, none⟩ = some (.slice A3 n3 c3) ∧ w'.cell? ⟨w.heap.size, 4, none⟩ = some (.slice A4 n4 c4) ∧ w'.cell? ⟨w.heap.size, 5, none⟩ = some (.slice (some ⟨b,off,none⟩) x.fks.length c5) ∧ w'.cell? ⟨wr.heap.size, 0, none⟩ = some (.slice A9 f.cols.length c9) ∧ w'.cell? ⟨bs, offs + j * 6, none⟩ = some (.string s[j].name) ∧ w'.cell? ⟨bs, offs + j * 6 + 1, none⟩ = some (.slice B1 m1 d1) ∧ w'.cell? ⟨bs, offs + j * 6 + 2, none⟩ = some (.slice B2 m2 d2) ∧ w'.cell? ⟨bs, offs + j * 6 + 3, none⟩ = some (.slice B3 m3 d3) ∧ w'.cell? ⟨bs, offs + j * 6 + 4, none⟩ = some (.slice B4 m4' d4) ∧ w'.cell? ⟨bs, offs + j * 6 + 5, none⟩ = some (.slice B5 m5 d5)) (by kernel_rfl) ⟨x0, x1, x2, x3, x4, x5, f0, y0, y1, y2, y3, y4, y5⟩ (fun hHeld => ?_)
        refine wpAnyH_take (i := 0) (v := ?v18) rfl (by kernel_rfl) (by kernel_rfl) (by kernel_rfl) (fun _ _ _ h => h) (Or.inl ⟨by rfl, ?hy18⟩) hHeld ?rest18
        case hy18 => (intro w' hSw; (try dsimp only at hSw); first | (go_simp; done) | (go_simp; with_reducible rfl))
        simp only [Act.put, pz0, pz1, pz2, pz3, pz4, pz5]
        refine wpAnyH_take (i := 1) (v := ?v19) rfl (by kernel_rfl) (by kernel_rfl) (by kernel_rfl) (fun _ _ _ h => h) (Or.inl ⟨by rfl, ?hy19⟩) hHeld ?rest19
        case hy19 => (intro w' hSw; (try dsimp only at hSw); first | (go_simp; done) | (go_simp; with_reducible rfl))
        simp only [Act.put, pz0, pz1, pz2, pz3, pz4, pz5]
        refine wpAnyH_take (i := 2) (v := ?v20) rfl (by kernel_rfl) (by kernel_rfl) (by kernel_rfl) (fun _ _ _ h => h) (Or.inl ⟨by rfl, ?hy20⟩) hHeld ?rest20
        case hy20 => (intro w' hSw; (try dsimp only at hSw); first | (go_simp; done) | (go_simp; with_reducible rfl))
        simp only [Act.put, pz0, pz1, pz2, pz3, pz4, pz5]
        refine wpAnyH_take (i := 3) (v := ?v21) rfl (by kernel_rfl) (by kernel_rfl) (by kernel_rfl) (fun _ _ _ h => h) (Or.inl ⟨by rfl, ?hy21⟩) hHeld ?rest21
        case hy21 => (intro w' hSw; (try dsimp only at hSw); first | (go_simp; done) | (go_simp; with_reducible rfl))
        simp only [Act.put, pz0, pz1, pz2, pz3, pz4, pz5]
        refine wpAnyH_take (i := 4) (v := ?v22) rfl (by kernel_rfl) (by kernel_rfl) (by kernel_rfl) (fun _ _ _ h => h) (Or.inl ⟨by rfl, ?hy22⟩) hHeld ?rest22
        case hy22 => (intro w' hSw; (try dsimp only at hSw); first | (go_simp; done) | (go_simp; with_reducible rfl))
        simp only [Act.put, pz0, pz1, pz2, pz3, pz4, pz5]
        refine wpAnyH_take (i := 5) (v := ?v23) rfl (by kernel_rfl) (by kernel_rfl) (by kernel_rfl) (fun _ _ _ h => h) (Or.inl ⟨by rfl, ?hy23⟩) hHeld ?rest23
        case hy23 => (intro w' hSw; (try dsimp only at hSw); first | (go_simp; done) | (go_simp; with_reducible rfl))
        simp only [Act.put, pz0, pz1, pz2, pz3, pz4, pz5]
        refine wpAnyH_take (i := 6) (v := ?v24) rfl (by kernel_rfl) (by kernel_rfl) (by kernel_rfl) (fun _ _ _ h => h) (Or.inl ⟨by rfl, ?hy24⟩) hHeld ?rest24
        case hy24 => (intro w' hSw; (try dsimp only at hSw); first | (go_simp; done) | (go_simp; with_reducible rfl))
        simp only [Act.put, pz0, pz1, pz2, pz3, pz4, pz5]
        refine wpAnyH_take (i := 7) (v := ?v25) rfl (by kernel_rfl) (by kernel_rfl) (by kernel_rfl) (fun _ _ _ h => h) (Or.inl ⟨by rfl, ?hy25⟩) hHeld ?rest25
        case hy25 => (intro w' hSw; (try dsimp only at hSw); first | (go_simp; done) | (go_simp; with_reducible rfl))
        simp only [Act.put, pz0, pz1, pz2, pz3, pz4, pz5]
        refine wpAnyH_take (i := 8) (v := ?v26) rfl (by kernel_rfl) (by kernel_rfl) (by kernel_rfl) (fun _ _ _ h => h) (Or.inl ⟨by rfl, ?hy26⟩) hHeld ?rest26
        case hy26 => (intro w' hSw; (try dsimp only at hSw); first | (go_simp; done) | (go_simp; with_reducible rfl))
        simp only [Act.put, pz0, pz1, pz2, pz3, pz4, pz5]
        refine wpAnyH_take (i := 9) (v := ?v27) rfl (by kernel_rfl) (by kernel_rfl) (by kernel_rfl) (fun _ _ _ h => h) (Or.inl ⟨by rfl, ?hy27⟩) hHeld ?rest27
        case hy27 => (intro w' hSw; (try dsimp only at hSw); first | (go_simp; done) | (go_simp; with_reducible rfl))
        simp only [Act.put, pz0, pz1, pz2, pz3, pz4, pz5]
        refine wpAnyH_take (i := 10) (v := ?v28) rfl (by kernel_rfl) (by kernel_rfl) (by kernel_rfl) (fun _ _ _ h => h) (Or.inl ⟨by rfl, ?hy28⟩) hHeld ?rest28
        case hy28 => (intro w' hSw; (try dsimp only at hSw); first | (go_simp; done) | (go_simp; with_reducible rfl))
        simp only [Act.put, pz0, pz1, pz2, pz3, pz4, pz5]
        refine wpAnyH_take (i := 11) (v := ?v29) rfl (by kernel_rfl) (by kernel_rfl) (by kernel_rfl) (fun _ _ _ h => h) (Or.inl ⟨by rfl, ?hy29⟩) hHeld ?rest29
        case hy29 => (intro w' hSw; (try dsimp only at hSw); first | (go_simp; done) | (go_simp; with_reducible rfl))
        simp only [Act.put, pz0, pz1, pz2, pz3, pz4, pz5]
        refine wpAnyH_take (i := 12) (v := ?v30) rfl (by kernel_rfl) (by kernel_rfl) (by kernel_rfl) (fun _ _ _ h => h) (Or.inl ⟨by rfl, ?hy30⟩) hHeld ?rest30
        case hy30 => (intro w' hSw; (try dsimp only at hSw); first | (go_simp; done) | (go_simp; with_reducible rfl))
        simp only [Act.put, pz0, pz1, pz2, pz3, pz4, pz5]
        refine wpAnyH_take (i := 13) (v := ?v31) rfl (by kernel_rfl) (by kernel_rfl) (by kernel_rfl) (fun _ _ _ h => h) (Or.inl ⟨by rfl, ?hy31⟩) hHeld ?rest31
        case hy31 => (intro w' hSw; (try dsimp only at hSw); first | (go_simp; done) | (go_simp; with_reducible rfl))
        simp only [Act.put, pz0, pz1, pz2, pz3, pz4, pz5]
        refine wpAnyH_take (i := 14) (v := ?v32) rfl (by kernel_rfl) (by kernel_rfl) (by kernel_rfl) (fun _ _ _ h => h) (Or.inl ⟨by rfl, ?hy32⟩) hHeld ?rest32
        case hy32 => (intro w' hSw; (try dsimp only at hSw); first | (go_simp; done) | (go_simp; with_reducible rfl))
        simp only [Act.put, pz0, pz1, pz2, pz3, pz4, pz5]
        refine wpAnyH_ready (rs := [15]) (by kernel_rfl) (by simp) ?_
        refine AllReadyH.cons rfl (fun K hK => ?_) AllReadyH.nil
        go_simp
        refine (implSameKinds A1 A9 B1 B2 n1 c1 f.cols.length c9 m1 d1 m2 d2 _ _ _ _ _ _ _ _ _ _ x.cols s[j].cols f.cols s[j].key ok _ (hx1.drew ClR.stays) (hfc.drew IntR.stays) (hs1.drew ClR.stays) (hs2.drew IntR.stays) HI1.out HI2.out HN1.out HN9.out HM1.out HM2.out).mono ?_
        rintro e wd ⟨rfl, hqd⟩
        rw [HSM.out]
        go_wp2_with fail
        refine hK.out _ _ ⟨below_keep hqd _ _ hHeld.1, below_keep hqd _ _ hHeld.2.1, below_keep hqd _ _ hHeld.2.2.1, below_keep hqd _ _ hHeld.2.2.2.1, below_keep hqd _ _ hHeld.2.2.2.2.1, below_keep hqd _ _ hHeld.2.2.2.2.2.1, below_keep hqd _ _ hHeld.2.2.2.2.2.2.1, below_keep hqd _ _ hHeld.2.2.2.2.2.2.2.1, below_keep hqd _ _ hHeld.2.2.2.2.2.2.2.2.1, below_keep hqd _ _ hHeld.2.2.2.2.2.2.2.2.2.1, below_keep hqd _ _ hHeld.2.2.2.2.2.2.2.2.2.2.1, below_keep hqd _ _ hHeld.2.2.2.2.2.2.2.2.2.2.2.1, below_keep hqd _ _ hHeld.2.2.2.2.2.2.2.2.2.2.2.2⟩ (fun hHeld => ?_)
        clear hK K
        (try simp only [Act.put, pz0, pz1, pz2, pz3, pz4, pz5])
        refine wpAnyH_take (i := 16) (v := ?v33) rfl (by kernel_rfl) (by kernel_rfl) (by kernel_rfl) (fun _ _ _ h => h) (Or.inl ⟨by rfl, ?hy33⟩) hHeld ?rest33
        case hy33 => (intro w' hSw; (try dsimp only at hSw); first | (go_simp; done) | (go_simp; with_reducible rfl))
        simp only [Act.put, pz0, pz1, pz2, pz3, pz4, pz5]
        refine wpAnyH_take (i := 17) (v := ?v34) rfl (by kernel_rfl) (by kernel_rfl) (by kernel_rfl) (fun _ _ _ h => h) (Or.inl ⟨by rfl, ?hy34⟩) hHeld ?rest34
        case hy34 => (intro w' hSw; (try dsimp only at hSw); first | (go_simp; done) | (go_simp; with_reducible rfl))
        simp only [Act.put, pz0, pz1, pz2, pz3, pz4, pz5]
        refine wpAnyH_done (by kernel_rfl) ?_ _
        refine NoPanic.normal ?_
        have hz := hba.drew.trans (hqd.mono hba.drew.size)
        have rz := hr1.drew.below hqd
        have hpz := hp1.drew.below hqd
        clear hHeld x0 x1 x2 x3 x4 x5 f0 y0 y1 y2 y3 y4 y5
        go_wp2_with fail
        go_roundw
        case rel => exact ⟨k + 1, by omega, by go_num, Lib.hid HG.out, rz, hpz, hz⟩
        case measure => simp [intOf]; omega
    · have e : x.fks.take k = x.fks := List.take_of_length_le (by omega)
      have g1 := hall.out
      rw [e] at g1
      have HF := Lib.hid (show leadsB s x = true from g1)
      clear e g1 hall
      go_wp2
      go_ret
      exact ⟨retB HF.out.symm, hb⟩
end Go.Proofs.YtemimhghhihllaaGreat
