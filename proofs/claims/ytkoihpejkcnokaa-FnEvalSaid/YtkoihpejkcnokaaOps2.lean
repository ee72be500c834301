/-
  Contracts on the ops of expressions: of two values, in the model.
-/
import Derived.Test.YtkoihpejkcnokaaOps
namespace Go.Proofs.Ytkoihpejkcnokaa
open Go.RowKit

/-- Two values that came in, and the answer's place. -/
theorem boxes3 (w : World) (a b : Vl) (T : TypeId) :
    Row (((w.alloc (.cells #[.int .i64 a.k, .int .i64 a.n, .string a.s] T)).alloc (.cells #[.int .i64 b.k, .int .i64 b.n, .string b.s] T)).alloc (.cells #[.int .i64 0, .int .i64 0, .string ⟨#[]⟩] T)) w.heap.size T #[.int .i64 a.k, .int .i64 a.n, .string a.s] ∧
    Row (((w.alloc (.cells #[.int .i64 a.k, .int .i64 a.n, .string a.s] T)).alloc (.cells #[.int .i64 b.k, .int .i64 b.n, .string b.s] T)).alloc (.cells #[.int .i64 0, .int .i64 0, .string ⟨#[]⟩] T)) (w.heap.size + 1) T #[.int .i64 b.k, .int .i64 b.n, .string b.s] ∧
    Row (((w.alloc (.cells #[.int .i64 a.k, .int .i64 a.n, .string a.s] T)).alloc (.cells #[.int .i64 b.k, .int .i64 b.n, .string b.s] T)).alloc (.cells #[.int .i64 0, .int .i64 0, .string ⟨#[]⟩] T)) (w.heap.size + 1 + 1) T #[.int .i64 0, .int .i64 0, .string ⟨#[]⟩] ∧
    Below w.heap.size w (((w.alloc (.cells #[.int .i64 a.k, .int .i64 a.n, .string a.s] T)).alloc (.cells #[.int .i64 b.k, .int .i64 b.n, .string b.s] T)).alloc (.cells #[.int .i64 0, .int .i64 0, .string ⟨#[]⟩] T)) :=
  ⟨((Row.new w T _).alloc _).alloc _, (Row.newAt _ T _ _ (by simp only [size1])).alloc _, Row.newAt _ T _ _ (by simp only [size1]), (((Below.refl w.heap.size w).alloc (Nat.le_refl _) _).alloc (by simp only [size1]; omega) _).alloc (by simp only [size1]; omega) _⟩

theorem yes_ne (b : Bool) : ¬ yes b = -1 := by rcases yes01 b with h | h <;> omega
theorem eq3_ne (k n : Int) (s : ByteArray) (k' n' : Int) (s' : ByteArray) : ¬ eq3 k n s k' n' s' = -1 := by
  unfold eq3; split
  · exact yes_ne _
  · omega
theorem less3_ne (k n : Int) (s : ByteArray) (k' n' : Int) (s' : ByteArray) : ¬ less3 k n s k' n' s' = -1 := by
  unfold less3; split
  · exact yes_ne _
  · omega
theorem asOpt_some {a : Int} (h : ¬ a = -1) : asOpt a = some (asVl a) := by simp [asOpt, h]

set_option maxHeartbeats 1000000 in
theorem specTwo3 (a b : Vl) (w : World) :
    Calls Try.prog 61 #[.int .i64 3, .agg #[.int .i64 a.k, .int .i64 a.n, .string a.s], .agg #[.int .i64 b.k, .int .i64 b.n, .string b.s]] w (OptPost (op2 3 a b) w) := by
  obtain ⟨ra, rb, rr, hb0⟩ := boxes3 w a b 30
  have HV := Lib.hid (show op2 3 a b = some (asVl (eq3 a.k a.n a.s b.k b.n b.s)) by
    have h : ¬ eq3 a.k a.n a.s b.k b.n b.s = -1 := eq3_ne _ _ _ _ _ _
    simp [op2, asOpt_some h])
  go_enter Try.func61, Try.ntmps61
  go_wp2_with fail
  generalize ((w.alloc (.cells #[.int .i64 a.k, .int .i64 a.n, .string a.s] 30)).alloc (.cells #[.int .i64 b.k, .int .i64 b.n, .string b.s] 30)).alloc (.cells #[.int .i64 0, .int .i64 0, .string ⟨#[]⟩] 30) = x at *
  refine (specEqual3 a.k a.n a.s b.k b.n b.s _).mono ?_
  rintro e w1 ⟨rfl, hb1⟩
  have hz1 := hb0.trans (hb1.mono hb0.size)
  have rr1 := rr.below hb1
  generalize eq3 a.k a.n a.s b.k b.n b.s = q at *
  go_wp2_with fail
  refine (specAs _ _).mono ?_
  rintro e w2 ⟨rfl, hb2⟩
  have hz := hz1.trans (hb2.mono hz1.size)
  obtain ⟨⟨z0, z1, z2⟩, ⟨z3, z4, z5⟩⟩ := (rr1.below hb2).three
  clear rr1 rr ra rb
  go_wp2_with fail
  refine bodyPost_ret (v := .tuple #[.agg #[.int .i64 (asVl q).k, .int .i64 (asVl q).n, .string (asVl q).s], .bool true]) (by simp [results, Try.results61, go_sem, z0, z1, z2]) rfl ⟨asVl q, by rw [HV.out]; rfl, by rw [HV.out]; simp, ?_⟩
  repeat (first | with_reducible exact hz | with_reducible refine Below.drew ?_ | with_reducible refine Below.setCell ?_ (by simp; omega) _ | with_reducible refine Below.setCell ?_ (by simp) _)

set_option maxHeartbeats 1000000 in
theorem specTwo4 (a b : Vl) (w : World) :
    Calls Try.prog 61 #[.int .i64 4, .agg #[.int .i64 a.k, .int .i64 a.n, .string a.s], .agg #[.int .i64 b.k, .int .i64 b.n, .string b.s]] w (OptPost (op2 4 a b) w) := by
  obtain ⟨ra, rb, rr, hb0⟩ := boxes3 w a b 30
  have HV := Lib.hid (show op2 4 a b = some (asVl (less3 a.k a.n a.s b.k b.n b.s)) by
    have h : ¬ less3 a.k a.n a.s b.k b.n b.s = -1 := less3_ne _ _ _ _ _ _
    simp [op2, asOpt_some h])
  go_enter Try.func61, Try.ntmps61
  go_wp2_with fail
  generalize ((w.alloc (.cells #[.int .i64 a.k, .int .i64 a.n, .string a.s] 30)).alloc (.cells #[.int .i64 b.k, .int .i64 b.n, .string b.s] 30)).alloc (.cells #[.int .i64 0, .int .i64 0, .string ⟨#[]⟩] 30) = x at *
  refine (specLess3 a.k a.n a.s b.k b.n b.s _).mono ?_
  rintro e w1 ⟨rfl, hb1⟩
  have hz1 := hb0.trans (hb1.mono hb0.size)
  have rr1 := rr.below hb1
  generalize less3 a.k a.n a.s b.k b.n b.s = q at *
  go_wp2_with fail
  refine (specAs _ _).mono ?_
  rintro e w2 ⟨rfl, hb2⟩
  have hz := hz1.trans (hb2.mono hz1.size)
  obtain ⟨⟨z0, z1, z2⟩, ⟨z3, z4, z5⟩⟩ := (rr1.below hb2).three
  clear rr1 rr ra rb
  go_wp2_with fail
  refine bodyPost_ret (v := .tuple #[.agg #[.int .i64 (asVl q).k, .int .i64 (asVl q).n, .string (asVl q).s], .bool true]) (by simp [results, Try.results61, go_sem, z0, z1, z2]) rfl ⟨asVl q, by rw [HV.out]; rfl, by rw [HV.out]; simp, ?_⟩
  repeat (first | with_reducible exact hz | with_reducible refine Below.drew ?_ | with_reducible refine Below.setCell ?_ (by simp; omega) _ | with_reducible refine Below.setCell ?_ (by simp) _)

set_option maxHeartbeats 1000000 in
theorem specTwo9 (a b : Vl) (w : World) (ha : a.ok = true) (hb : b.ok = true) :
    Calls Try.prog 61 #[.int .i64 9, .agg #[.int .i64 a.k, .int .i64 a.n, .string a.s], .agg #[.int .i64 b.k, .int .i64 b.n, .string b.s]] w (OptPost (op2 9 a b) w) := by
  obtain ⟨ra, rb, rr, hb0⟩ := boxes3 w a b 30
  have HV := Lib.hid (show op2 9 a b = sumVl a b 1 by simp [op2])
  go_enter Try.func61, Try.ntmps61
  go_wp2_with fail
  generalize ((w.alloc (.cells #[.int .i64 a.k, .int .i64 a.n, .string a.s] 30)).alloc (.cells #[.int .i64 b.k, .int .i64 b.n, .string b.s] 30)).alloc (.cells #[.int .i64 0, .int .i64 0, .string ⟨#[]⟩] 30) = x at *
  refine (specSum a b 1 _ ha hb (by omega)).mono ?_
  rintro e w1 ⟨v, rfl, hv, hb1⟩
  have hz := hb0.trans (hb1.mono hb0.size)
  obtain ⟨⟨z0, z1, z2⟩, ⟨z3, z4, z5⟩⟩ := (rr.below hb1).three
  clear rr ra rb
  have HW := Lib.hid hv
  clear hv
  go_wp2_with fail
  refine bodyPost_ret (v := .tuple #[.agg #[.int .i64 v.k, .int .i64 v.n, .string v.s], .bool (sumVl a b 1).isSome]) (by simp [results, Try.results61, go_sem, z0, z1, z2]) rfl ⟨v, by rw [HV.out], by rw [HV.out]; exact HW.out, ?_⟩
  repeat (first | with_reducible exact hz | with_reducible refine Below.drew ?_ | with_reducible refine Below.setCell ?_ (by simp; omega) _ | with_reducible refine Below.setCell ?_ (by simp) _)

set_option maxHeartbeats 1000000 in
theorem specTwo10 (a b : Vl) (w : World) (ha : a.ok = true) (hb : b.ok = true) :
    Calls Try.prog 61 #[.int .i64 10, .agg #[.int .i64 a.k, .int .i64 a.n, .string a.s], .agg #[.int .i64 b.k, .int .i64 b.n, .string b.s]] w (OptPost (op2 10 a b) w) := by
  obtain ⟨ra, rb, rr, hb0⟩ := boxes3 w a b 30
  have HV := Lib.hid (show op2 10 a b = sumVl a b (-1) by simp [op2])
  go_enter Try.func61, Try.ntmps61
  go_wp2_with fail
  generalize ((w.alloc (.cells #[.int .i64 a.k, .int .i64 a.n, .string a.s] 30)).alloc (.cells #[.int .i64 b.k, .int .i64 b.n, .string b.s] 30)).alloc (.cells #[.int .i64 0, .int .i64 0, .string ⟨#[]⟩] 30) = x at *
  refine (specSum a b (-1) _ ha hb (by omega)).mono ?_
  rintro e w1 ⟨v, rfl, hv, hb1⟩
  have hz := hb0.trans (hb1.mono hb0.size)
  obtain ⟨⟨z0, z1, z2⟩, ⟨z3, z4, z5⟩⟩ := (rr.below hb1).three
  clear rr ra rb
  have HW := Lib.hid hv
  clear hv
  go_wp2_with fail
  refine bodyPost_ret (v := .tuple #[.agg #[.int .i64 v.k, .int .i64 v.n, .string v.s], .bool (sumVl a b (-1)).isSome]) (by simp [results, Try.results61, go_sem, z0, z1, z2]) rfl ⟨v, by rw [HV.out], by rw [HV.out]; exact HW.out, ?_⟩
  repeat (first | with_reducible exact hz | with_reducible refine Below.drew ?_ | with_reducible refine Below.setCell ?_ (by simp; omega) _ | with_reducible refine Below.setCell ?_ (by simp) _)

theorem truOf_rng (v : Vl) : truOf v = -1 ∨ tru (truOf v) = true := by
  unfold truOf
  split
  · right; rfl
  · split
    · right; rcases yes01 (v.n != 0) with h | h <;> rw [h] <;> rfl
    · left; rfl
theorem and3_ne {a b : Vl} (ha : ¬ truOf a = -1) (hb : ¬ truOf b = -1) : ¬ and3 (truOf a) (truOf b) = -1 := by
  have h1 := (truOf_rng a).resolve_left ha
  have h2 := (truOf_rng b).resolve_left hb
  unfold and3
  simp only [h1, h2, Bool.not_true, Bool.or_self, Bool.false_eq_true, if_false]
  split
  · omega
  · split <;> omega
theorem or3_ne {a b : Vl} (ha : ¬ truOf a = -1) (hb : ¬ truOf b = -1) : ¬ or3 (truOf a) (truOf b) = -1 := by
  have h1 := (truOf_rng a).resolve_left ha
  have h2 := (truOf_rng b).resolve_left hb
  unfold or3
  simp only [h1, h2, Bool.not_true, Bool.or_self, Bool.false_eq_true, if_false]
  split
  · omega
  · split <;> omega

set_option maxHeartbeats 1000000 in
theorem specTwo5 (a b : Vl) (w : World) :
    Calls Try.prog 61 #[.int .i64 5, .agg #[.int .i64 a.k, .int .i64 a.n, .string a.s], .agg #[.int .i64 b.k, .int .i64 b.n, .string b.s]] w (OptPost (op2 5 a b) w) := by
  obtain ⟨ra, rb, rr, hb0⟩ := boxes3 w a b 30
  have HV := Lib.hid (show op2 5 a b = asOpt (and3 (truOf a) (truOf b)) by simp [op2])
  cases ha : truS a
  · have HA := Lib.hid ha
    have ha' : truOf a = -1 := by simpa [truS] using ha
    have HN := Lib.hid (show op2 5 a b = none by rw [HV.out, ha', and3_a (by decide)]; rfl)
    clear ha ha'
    go_enter Try.func61, Try.ntmps61
    go_wp2_with fail
    generalize ((w.alloc (.cells #[.int .i64 a.k, .int .i64 a.n, .string a.s] 30)).alloc (.cells #[.int .i64 b.k, .int .i64 b.n, .string b.s] 30)).alloc (.cells #[.int .i64 0, .int .i64 0, .string ⟨#[]⟩] 30) = x at *
    refine (specOf a _).mono ?_
    rintro e w1 ⟨rfl, hb1⟩
    rw [HA.out]
    have hz1 := hb0.trans (hb1.mono hb0.size)
    have rb1 := rb.below hb1
    have rr1 := rr.below hb1
    obtain ⟨⟨c0, c1, c2⟩, -⟩ := rb1.three
    clear ra rb rr
    have RR := Lib.hid rr1
    clear rr1 rb1
    go_wp2_with fail
    refine (specOf b _).mono ?_
    rintro e w2 ⟨rfl, hb2⟩
    skip
    have hz2 := hz1.trans (hb2.mono hz1.size)
    have rr2 := RR.out.below hb2
    obtain ⟨⟨z0, z1, z2⟩, ⟨z3, z4, z5⟩⟩ := rr2.three
    have RR2 := Lib.hid rr2
    clear rr2 RR c0 c1 c2
    go_wp2_with fail
    refine bodyPost_ret (v := .tuple #[.agg #[.int .i64 0, .int .i64 0, .string ⟨#[]⟩], .bool false]) (by simp [results, Try.results61, go_sem, z0, z1, z2]) rfl ⟨Vl.zero, by rw [HN.out]; rfl, by rw [HN.out]; simp, ?_⟩
    have hz := hz2
    repeat (first | with_reducible exact hz | with_reducible refine Below.drew ?_ | with_reducible refine Below.setCell ?_ (by simp; omega) _ | with_reducible refine Below.setCell ?_ (by simp) _)
  have ha' : ¬ truOf a = -1 := by simpa [truS] using ha
  have HA := Lib.hid ha
  clear ha
  cases hb : truS b
  · have HB := Lib.hid hb
    have hb' : truOf b = -1 := by simpa [truS] using hb
    have HN := Lib.hid (show op2 5 a b = none by rw [HV.out, hb', and3_b (by decide)]; rfl)
    clear hb hb' ha'
    go_enter Try.func61, Try.ntmps61
    go_wp2_with fail
    generalize ((w.alloc (.cells #[.int .i64 a.k, .int .i64 a.n, .string a.s] 30)).alloc (.cells #[.int .i64 b.k, .int .i64 b.n, .string b.s] 30)).alloc (.cells #[.int .i64 0, .int .i64 0, .string ⟨#[]⟩] 30) = x at *
    refine (specOf a _).mono ?_
    rintro e w1 ⟨rfl, hb1⟩
    rw [HA.out]
    have hz1 := hb0.trans (hb1.mono hb0.size)
    have rb1 := rb.below hb1
    have rr1 := rr.below hb1
    obtain ⟨⟨c0, c1, c2⟩, -⟩ := rb1.three
    clear ra rb rr
    have RR := Lib.hid rr1
    clear rr1 rb1
    go_wp2_with fail
    refine (specOf b _).mono ?_
    rintro e w2 ⟨rfl, hb2⟩
    rw [HB.out]
    have hz2 := hz1.trans (hb2.mono hz1.size)
    have rr2 := RR.out.below hb2
    obtain ⟨⟨z0, z1, z2⟩, ⟨z3, z4, z5⟩⟩ := rr2.three
    have RR2 := Lib.hid rr2
    clear rr2 RR c0 c1 c2
    go_wp2_with fail
    refine bodyPost_ret (v := .tuple #[.agg #[.int .i64 0, .int .i64 0, .string ⟨#[]⟩], .bool false]) (by simp [results, Try.results61, go_sem, z0, z1, z2]) rfl ⟨Vl.zero, by rw [HN.out]; rfl, by rw [HN.out]; simp, ?_⟩
    have hz := hz2
    repeat (first | with_reducible exact hz | with_reducible refine Below.drew ?_ | with_reducible refine Below.setCell ?_ (by simp; omega) _ | with_reducible refine Below.setCell ?_ (by simp) _)
  · have hb' : ¬ truOf b = -1 := by simpa [truS] using hb
    have HB := Lib.hid hb
    have HN := Lib.hid (show op2 5 a b = some (asVl (and3 (truN a) (truN b))) by rw [HV.out, asOpt_some (and3_ne ha' hb')]; simp [truN, ha', hb'])
    clear hb ha' hb'
    go_enter Try.func61, Try.ntmps61
    go_wp2_with fail
    generalize ((w.alloc (.cells #[.int .i64 a.k, .int .i64 a.n, .string a.s] 30)).alloc (.cells #[.int .i64 b.k, .int .i64 b.n, .string b.s] 30)).alloc (.cells #[.int .i64 0, .int .i64 0, .string ⟨#[]⟩] 30) = x at *
    refine (specOf a _).mono ?_
    rintro e w1 ⟨rfl, hb1⟩
    rw [HA.out]
    have hz1 := hb0.trans (hb1.mono hb0.size)
    have rb1 := rb.below hb1
    have rr1 := rr.below hb1
    obtain ⟨⟨c0, c1, c2⟩, -⟩ := rb1.three
    clear ra rb rr
    have RR := Lib.hid rr1
    clear rr1 rb1
    go_wp2_with fail
    refine (specOf b _).mono ?_
    rintro e w2 ⟨rfl, hb2⟩
    rw [HB.out]
    have hz2 := hz1.trans (hb2.mono hz1.size)
    have rr2 := RR.out.below hb2
    obtain ⟨⟨z0, z1, z2⟩, ⟨z3, z4, z5⟩⟩ := rr2.three
    have RR2 := Lib.hid rr2
    clear rr2 RR c0 c1 c2
    clear z0 z1 z2 z3 z4 z5
    generalize truN a = p at *
    generalize truN b = q at *
    go_wp2_with fail
    refine (specAnd3 _ _ _).mono ?_
    rintro e w3 ⟨rfl, rfl⟩
    generalize and3 p q = u at *
    go_wp2_with fail
    refine (specAs _ _).mono ?_
    rintro e w3 ⟨rfl, hb3⟩
    have hz := hz2.trans (hb3.mono hz2.size)
    obtain ⟨⟨z0, z1, z2⟩, ⟨z3, z4, z5⟩⟩ := (RR2.out.below hb3).three
    go_wp2_with fail
    refine bodyPost_ret (v := .tuple #[.agg #[.int .i64 (asVl u).k, .int .i64 (asVl u).n, .string (asVl u).s], .bool true]) (by simp [results, Try.results61, go_sem, z0, z1, z2]) rfl ⟨asVl u, by rw [HN.out]; rfl, by rw [HN.out]; simp, ?_⟩
    repeat (first | with_reducible exact hz | with_reducible refine Below.drew ?_ | with_reducible refine Below.setCell ?_ (by simp; omega) _ | with_reducible refine Below.setCell ?_ (by simp) _)

set_option maxHeartbeats 1000000 in
theorem specTwo6 (a b : Vl) (w : World) :
    Calls Try.prog 61 #[.int .i64 6, .agg #[.int .i64 a.k, .int .i64 a.n, .string a.s], .agg #[.int .i64 b.k, .int .i64 b.n, .string b.s]] w (OptPost (op2 6 a b) w) := by
  obtain ⟨ra, rb, rr, hb0⟩ := boxes3 w a b 30
  have HV := Lib.hid (show op2 6 a b = asOpt (or3 (truOf a) (truOf b)) by simp [op2])
  cases ha : truS a
  · have HA := Lib.hid ha
    have ha' : truOf a = -1 := by simpa [truS] using ha
    have HN := Lib.hid (show op2 6 a b = none by rw [HV.out, ha', or3_a (by decide)]; rfl)
    clear ha ha'
    go_enter Try.func61, Try.ntmps61
    go_wp2_with fail
    generalize ((w.alloc (.cells #[.int .i64 a.k, .int .i64 a.n, .string a.s] 30)).alloc (.cells #[.int .i64 b.k, .int .i64 b.n, .string b.s] 30)).alloc (.cells #[.int .i64 0, .int .i64 0, .string ⟨#[]⟩] 30) = x at *
    refine (specOf a _).mono ?_
    rintro e w1 ⟨rfl, hb1⟩
    rw [HA.out]
    have hz1 := hb0.trans (hb1.mono hb0.size)
    have rb1 := rb.below hb1
    have rr1 := rr.below hb1
    obtain ⟨⟨c0, c1, c2⟩, -⟩ := rb1.three
    clear ra rb rr
    have RR := Lib.hid rr1
    clear rr1 rb1
    go_wp2_with fail
    refine (specOf b _).mono ?_
    rintro e w2 ⟨rfl, hb2⟩
    skip
    have hz2 := hz1.trans (hb2.mono hz1.size)
    have rr2 := RR.out.below hb2
    obtain ⟨⟨z0, z1, z2⟩, ⟨z3, z4, z5⟩⟩ := rr2.three
    have RR2 := Lib.hid rr2
    clear rr2 RR c0 c1 c2
    go_wp2_with fail
    refine bodyPost_ret (v := .tuple #[.agg #[.int .i64 0, .int .i64 0, .string ⟨#[]⟩], .bool false]) (by simp [results, Try.results61, go_sem, z0, z1, z2]) rfl ⟨Vl.zero, by rw [HN.out]; rfl, by rw [HN.out]; simp, ?_⟩
    have hz := hz2
    repeat (first | with_reducible exact hz | with_reducible refine Below.drew ?_ | with_reducible refine Below.setCell ?_ (by simp; omega) _ | with_reducible refine Below.setCell ?_ (by simp) _)
  have ha' : ¬ truOf a = -1 := by simpa [truS] using ha
  have HA := Lib.hid ha
  clear ha
  cases hb : truS b
  · have HB := Lib.hid hb
    have hb' : truOf b = -1 := by simpa [truS] using hb
    have HN := Lib.hid (show op2 6 a b = none by rw [HV.out, hb', or3_b (by decide)]; rfl)
    clear hb hb' ha'
    go_enter Try.func61, Try.ntmps61
    go_wp2_with fail
    generalize ((w.alloc (.cells #[.int .i64 a.k, .int .i64 a.n, .string a.s] 30)).alloc (.cells #[.int .i64 b.k, .int .i64 b.n, .string b.s] 30)).alloc (.cells #[.int .i64 0, .int .i64 0, .string ⟨#[]⟩] 30) = x at *
    refine (specOf a _).mono ?_
    rintro e w1 ⟨rfl, hb1⟩
    rw [HA.out]
    have hz1 := hb0.trans (hb1.mono hb0.size)
    have rb1 := rb.below hb1
    have rr1 := rr.below hb1
    obtain ⟨⟨c0, c1, c2⟩, -⟩ := rb1.three
    clear ra rb rr
    have RR := Lib.hid rr1
    clear rr1 rb1
    go_wp2_with fail
    refine (specOf b _).mono ?_
    rintro e w2 ⟨rfl, hb2⟩
    rw [HB.out]
    have hz2 := hz1.trans (hb2.mono hz1.size)
    have rr2 := RR.out.below hb2
    obtain ⟨⟨z0, z1, z2⟩, ⟨z3, z4, z5⟩⟩ := rr2.three
    have RR2 := Lib.hid rr2
    clear rr2 RR c0 c1 c2
    go_wp2_with fail
    refine bodyPost_ret (v := .tuple #[.agg #[.int .i64 0, .int .i64 0, .string ⟨#[]⟩], .bool false]) (by simp [results, Try.results61, go_sem, z0, z1, z2]) rfl ⟨Vl.zero, by rw [HN.out]; rfl, by rw [HN.out]; simp, ?_⟩
    have hz := hz2
    repeat (first | with_reducible exact hz | with_reducible refine Below.drew ?_ | with_reducible refine Below.setCell ?_ (by simp; omega) _ | with_reducible refine Below.setCell ?_ (by simp) _)
  · have hb' : ¬ truOf b = -1 := by simpa [truS] using hb
    have HB := Lib.hid hb
    have HN := Lib.hid (show op2 6 a b = some (asVl (or3 (truN a) (truN b))) by rw [HV.out, asOpt_some (or3_ne ha' hb')]; simp [truN, ha', hb'])
    clear hb ha' hb'
    go_enter Try.func61, Try.ntmps61
    go_wp2_with fail
    generalize ((w.alloc (.cells #[.int .i64 a.k, .int .i64 a.n, .string a.s] 30)).alloc (.cells #[.int .i64 b.k, .int .i64 b.n, .string b.s] 30)).alloc (.cells #[.int .i64 0, .int .i64 0, .string ⟨#[]⟩] 30) = x at *
    refine (specOf a _).mono ?_
    rintro e w1 ⟨rfl, hb1⟩
    rw [HA.out]
    have hz1 := hb0.trans (hb1.mono hb0.size)
    have rb1 := rb.below hb1
    have rr1 := rr.below hb1
    obtain ⟨⟨c0, c1, c2⟩, -⟩ := rb1.three
    clear ra rb rr
    have RR := Lib.hid rr1
    clear rr1 rb1
    go_wp2_with fail
    refine (specOf b _).mono ?_
    rintro e w2 ⟨rfl, hb2⟩
    rw [HB.out]
    have hz2 := hz1.trans (hb2.mono hz1.size)
    have rr2 := RR.out.below hb2
    obtain ⟨⟨z0, z1, z2⟩, ⟨z3, z4, z5⟩⟩ := rr2.three
    have RR2 := Lib.hid rr2
    clear rr2 RR c0 c1 c2
    clear z0 z1 z2 z3 z4 z5
    generalize truN a = p at *
    generalize truN b = q at *
    go_wp2_with fail
    refine (specOr3 _ _ _).mono ?_
    rintro e w3 ⟨rfl, rfl⟩
    generalize or3 p q = u at *
    go_wp2_with fail
    refine (specAs _ _).mono ?_
    rintro e w3 ⟨rfl, hb3⟩
    have hz := hz2.trans (hb3.mono hz2.size)
    obtain ⟨⟨z0, z1, z2⟩, ⟨z3, z4, z5⟩⟩ := (RR2.out.below hb3).three
    go_wp2_with fail
    refine bodyPost_ret (v := .tuple #[.agg #[.int .i64 (asVl u).k, .int .i64 (asVl u).n, .string (asVl u).s], .bool true]) (by simp [results, Try.results61, go_sem, z0, z1, z2]) rfl ⟨asVl u, by rw [HN.out]; rfl, by rw [HN.out]; simp, ?_⟩
    repeat (first | with_reducible exact hz | with_reducible refine Below.drew ?_ | with_reducible refine Below.setCell ?_ (by simp; omega) _ | with_reducible refine Below.setCell ?_ (by simp) _)

end Go.Proofs.Ytkoihpejkcnokaa
