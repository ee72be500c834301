/-
  Several texts in one: what the proof leans on, part 2.
-/
import Derived.Test.YteiifabdbkpkiaaGreatPa
import Derived.Maps.Own
import Derived.Maps.OwnOps
import Derived.Maps.OwnSet
import Derived.IntWalk
set_option linter.unusedVariables false
set_option linter.unusedSimpArgs false
namespace Go.Proofs.YteiifabdbkpkiaaGreat
open Go.RowKit
theorem boxes3 (w : World) (a b : Vl) (T : TypeId) :
  Row (((w.alloc (.cells #[.int .i64 a.k, .int .i64 a.n, .string a.s] T)).alloc (.cells #[.int .i64 b.k, .int .i64 b.n, .string b.s] T)).alloc (.cells #[.int .i64 0, .int .i64 0, .string ⟨#[]⟩] T)) w.heap.size T #[.int .i64 a.k, .int .i64 a.n, .string a.s] ∧
  Row (((w.alloc (.cells #[.int .i64 a.k, .int .i64 a.n, .string a.s] T)).alloc (.cells #[.int .i64 b.k, .int .i64 b.n, .string b.s] T)).alloc (.cells #[.int .i64 0, .int .i64 0, .string ⟨#[]⟩] T)) (w.heap.size + 1) T #[.int .i64 b.k, .int .i64 b.n, .string b.s] ∧
  Row (((w.alloc (.cells #[.int .i64 a.k, .int .i64 a.n, .string a.s] T)).alloc (.cells #[.int .i64 b.k, .int .i64 b.n, .string b.s] T)).alloc (.cells #[.int .i64 0, .int .i64 0, .string ⟨#[]⟩] T)) (w.heap.size + 1 + 1) T #[.int .i64 0, .int .i64 0, .string ⟨#[]⟩] ∧
  Below w.heap.size w (((w.alloc (.cells #[.int .i64 a.k, .int .i64 a.n, .string a.s] T)).alloc (.cells #[.int .i64 b.k, .int .i64 b.n, .string b.s] T)).alloc (.cells #[.int .i64 0, .int .i64 0, .string ⟨#[]⟩] T)) :=
 ⟨((Row.new w T _).alloc _).alloc _, (Row.newAt _ T _ _ (by simp only [size1])).alloc _, Row.newAt _ T _ _ (by simp only [size1]), (((Below.refl w.heap.size w).alloc (Nat.le_refl _) _).alloc (by simp only [size1]; omega) _).alloc (by simp only [size1]; omega) _⟩
theorem yes_ne (b : Bool) : ¬ yes b = -1 := by rcases yes01 b with h | h <;> omega
theorem eq3_ne (k n : Int) (s : ByteArray) (k' n' : Int) (s' : ByteArray) : ¬ eq3 k n s k' n' s' = -1 := by
 unfold eq3; split
 ·exact yes_ne _
 ·omega
theorem less3_ne (k n : Int) (s : ByteArray) (k' n' : Int) (s' : ByteArray) : ¬ less3 k n s k' n' s' = -1 := by
 unfold less3; split
 ·exact yes_ne _
 ·omega
theorem asOpt_some {a : Int} (h : ¬ a = -1) : asOpt a = some (asVl a) := by simp [asOpt, h]
set_option maxHeartbeats 1000000 in
theorem specTwo3 (a b : Vl) (w : World) :
  Calls Tryz.prog 86 #[.int .i64 3, .agg #[.int .i64 a.k, .int .i64 a.n, .string a.s], .agg #[.int .i64 b.k, .int .i64 b.n, .string b.s]] w (OptPost (op2 3 a b) w) := by
 obtain ⟨ra, rb, rr, hb0⟩ := boxes3 w a b 66
 have HV := Lib.hid (show op2 3 a b = some (asVl (eq3 a.k a.n a.s b.k b.n b.s)) by
  have h : ¬ eq3 a.k a.n a.s b.k b.n b.s = -1 := eq3_ne _ _ _ _ _ _
  simp [op2, asOpt_some h])
 go_enter Tryz.func86, Tryz.ntmps86
 go_wp2_with fail
 generalize ((w.alloc (.cells #[.int .i64 a.k, .int .i64 a.n, .string a.s] 66)).alloc (.cells #[.int .i64 b.k, .int .i64 b.n, .string b.s] 66)).alloc (.cells #[.int .i64 0, .int .i64 0, .string ⟨#[]⟩] 66) = x at *
 refine (specEqual3 a.k a.n a.s b.k b.n b.s _).mono ?_
 rintro e w1 ⟨rfl, hb1⟩
 have hz1 := hb0.trans (hb1.mono hb0.size)
 have rr1 := rr.below hb1
 generalize eq3 a.k a.n a.s b.k b.n b.s = q at *
 go_wp2_with fail
 refine (specAs _ _).mono ?_
 rintro e w2 ⟨rfl, hb2⟩
 have hz := hz1.trans (hb2.mono hz1.size)
 obtain ⟨⟨z0, z1, z2⟩, ⟨z3, z4, z5⟩⟩ := (rr1.below hb2).three
 clear rr1 rr ra rb
 go_wp2_with fail
 refine bodyPost_ret (v := .tuple #[.agg #[.int .i64 (asVl q).k, .int .i64 (asVl q).n, .string (asVl q).s], .bool true]) (by simp [results, Tryz.results86, go_sem, z0, z1, z2]) rfl ⟨asVl q, by rw [HV.out]; rfl, by rw [HV.out]; simp, ?_⟩
 repeat (first | with_reducible exact hz | with_reducible refine Below.drew ?_ | with_reducible refine Below.setCell ?_ (by simp; omega) _ | with_reducible refine Below.setCell ?_ (by simp) _)
set_option maxHeartbeats 1000000 in
theorem specTwo4 (a b : Vl) (w : World) :
  Calls Tryz.prog 86 #[.int .i64 4, .agg #[.int .i64 a.k, .int .i64 a.n, .string a.s], .agg #[.int .i64 b.k, .int .i64 b.n, .string b.s]] w (OptPost (op2 4 a b) w) := by
 obtain ⟨ra, rb, rr, hb0⟩ := boxes3 w a b 66
 have HV := Lib.hid (show op2 4 a b = some (asVl (less3 a.k a.n a.s b.k b.n b.s)) by
  have h : ¬ less3 a.k a.n a.s b.k b.n b.s = -1 := less3_ne _ _ _ _ _ _
  simp [op2, asOpt_some h])
 go_enter Tryz.func86, Tryz.ntmps86
 go_wp2_with fail
 generalize ((w.alloc (.cells #[.int .i64 a.k, .int .i64 a.n, .string a.s] 66)).alloc (.cells #[.int .i64 b.k, .int .i64 b.n, .string b.s] 66)).alloc (.cells #[.int .i64 0, .int .i64 0, .string ⟨#[]⟩] 66) = x at *
 refine (specLess3 a.k a.n a.s b.k b.n b.s _).mono ?_
 rintro e w1 ⟨rfl, hb1⟩
 have hz1 := hb0.trans (hb1.mono hb0.size)
 have rr1 := rr.below hb1
 generalize less3 a.k a.n a.s b.k b.n b.s = q at *
 go_wp2_with fail
 refine (specAs _ _).mono ?_
 rintro e w2 ⟨rfl, hb2⟩
 have hz := hz1.trans (hb2.mono hz1.size)
 obtain ⟨⟨z0, z1, z2⟩, ⟨z3, z4, z5⟩⟩ := (rr1.below hb2).three
 clear rr1 rr ra rb
 go_wp2_with fail
 refine bodyPost_ret (v := .tuple #[.agg #[.int .i64 (asVl q).k, .int .i64 (asVl q).n, .string (asVl q).s], .bool true]) (by simp [results, Tryz.results86, go_sem, z0, z1, z2]) rfl ⟨asVl q, by rw [HV.out]; rfl, by rw [HV.out]; simp, ?_⟩
 repeat (first | with_reducible exact hz | with_reducible refine Below.drew ?_ | with_reducible refine Below.setCell ?_ (by simp; omega) _ | with_reducible refine Below.setCell ?_ (by simp) _)
set_option maxHeartbeats 1000000 in
theorem specTwo9 (a b : Vl) (w : World) (ha : a.ok = true) (hb : b.ok = true) :
  Calls Tryz.prog 86 #[.int .i64 9, .agg #[.int .i64 a.k, .int .i64 a.n, .string a.s], .agg #[.int .i64 b.k, .int .i64 b.n, .string b.s]] w (OptPost (op2 9 a b) w) := by
 obtain ⟨ra, rb, rr, hb0⟩ := boxes3 w a b 66
 have HV := Lib.hid (show op2 9 a b = sumVl a b 1 by simp [op2])
 go_enter Tryz.func86, Tryz.ntmps86
 go_wp2_with fail
 generalize ((w.alloc (.cells #[.int .i64 a.k, .int .i64 a.n, .string a.s] 66)).alloc (.cells #[.int .i64 b.k, .int .i64 b.n, .string b.s] 66)).alloc (.cells #[.int .i64 0, .int .i64 0, .string ⟨#[]⟩] 66) = x at *
 refine (specSum a b 1 _ ha hb (by omega)).mono ?_
 rintro e w1 ⟨v, rfl, hv, hb1⟩
 have hz := hb0.trans (hb1.mono hb0.size)
 obtain ⟨⟨z0, z1, z2⟩, ⟨z3, z4, z5⟩⟩ := (rr.below hb1).three
 clear rr ra rb
 have HW := Lib.hid hv
 clear hv
 go_wp2_with fail
 refine bodyPost_ret (v := .tuple #[.agg #[.int .i64 v.k, .int .i64 v.n, .string v.s], .bool (sumVl a b 1).isSome]) (by simp [results, Tryz.results86, go_sem, z0, z1, z2]) rfl ⟨v, by rw [HV.out], by rw [HV.out]; exact HW.out, ?_⟩
 repeat (first | with_reducible exact hz | with_reducible refine Below.drew ?_ | with_reducible refine Below.setCell ?_ (by simp; omega) _ | with_reducible refine Below.setCell ?_ (by simp) _)
set_option maxHeartbeats 1000000 in
theorem specTwo10 (a b : Vl) (w : World) (ha : a.ok = true) (hb : b.ok = true) :
  Calls Tryz.prog 86 #[.int .i64 10, .agg #[.int .i64 a.k, .int .i64 a.n, .string a.s], .agg #[.int .i64 b.k, .int .i64 b.n, .string b.s]] w (OptPost (op2 10 a b) w) := by
 obtain ⟨ra, rb, rr, hb0⟩ := boxes3 w a b 66
 have HV := Lib.hid (show op2 10 a b = sumVl a b (-1) by simp [op2])
 go_enter Tryz.func86, Tryz.ntmps86
 go_wp2_with fail
 generalize ((w.alloc (.cells #[.int .i64 a.k, .int .i64 a.n, .string a.s] 66)).alloc (.cells #[.int .i64 b.k, .int .i64 b.n, .string b.s] 66)).alloc (.cells #[.int .i64 0, .int .i64 0, .string ⟨#[]⟩] 66) = x at *
 refine (specSum a b (-1) _ ha hb (by omega)).mono ?_
 rintro e w1 ⟨v, rfl, hv, hb1⟩
 have hz := hb0.trans (hb1.mono hb0.size)
 obtain ⟨⟨z0, z1, z2⟩, ⟨z3, z4, z5⟩⟩ := (rr.below hb1).three
 clear rr ra rb
 have HW := Lib.hid hv
 clear hv
 go_wp2_with fail
 refine bodyPost_ret (v := .tuple #[.agg #[.int .i64 v.k, .int .i64 v.n, .string v.s], .bool (sumVl a b (-1)).isSome]) (by simp [results, Tryz.results86, go_sem, z0, z1, z2]) rfl ⟨v, by rw [HV.out], by rw [HV.out]; exact HW.out, ?_⟩
 repeat (first | with_reducible exact hz | with_reducible refine Below.drew ?_ | with_reducible refine Below.setCell ?_ (by simp; omega) _ | with_reducible refine Below.setCell ?_ (by simp) _)
theorem truOf_rng (v : Vl) : truOf v = -1 ∨ tru (truOf v) = true := by
 unfold truOf
 split
 ·right; rfl
 ·split
  ·right; rcases yes01 (v.n != 0) with h | h <;> rw [h] <;> rfl
  ·left; rfl
theorem and3_ne {a b : Vl} (ha : ¬ truOf a = -1) (hb : ¬ truOf b = -1) : ¬ and3 (truOf a) (truOf b) = -1 := by
 have h1 := (truOf_rng a).resolve_left ha
 have h2 := (truOf_rng b).resolve_left hb
 unfold and3
 simp only [h1, h2, Bool.not_true, Bool.or_self, Bool.false_eq_true, if_false]
 split
 ·omega
 ·split <;> omega
theorem or3_ne {a b : Vl} (ha : ¬ truOf a = -1) (hb : ¬ truOf b = -1) : ¬ or3 (truOf a) (truOf b) = -1 := by
 have h1 := (truOf_rng a).resolve_left ha
 have h2 := (truOf_rng b).resolve_left hb
 unfold or3
 simp only [h1, h2, Bool.not_true, Bool.or_self, Bool.false_eq_true, if_false]
 split
 ·omega
 ·split <;> omega
set_option maxHeartbeats 1000000 in
theorem specTwo5 (a b : Vl) (w : World) :
  Calls Tryz.prog 86 #[.int .i64 5, .agg #[.int .i64 a.k, .int .i64 a.n, .string a.s], .agg #[.int .i64 b.k, .int .i64 b.n, .string b.s]] w (OptPost (op2 5 a b) w) := by
 obtain ⟨ra, rb, rr, hb0⟩ := boxes3 w a b 66
 have HV := Lib.hid (show op2 5 a b = asOpt (and3 (truOf a) (truOf b)) by simp [op2])
 cases ha : truS a
 ·have HA := Lib.hid ha
  have ha' : truOf a = -1 := by simpa [truS] using ha
  have HN := Lib.hid (show op2 5 a b = none by rw [HV.out, ha', and3_a (by decide)]; rfl)
  clear ha ha'
  go_enter Tryz.func86, Tryz.ntmps86
  go_wp2_with fail
  generalize ((w.alloc (.cells #[.int .i64 a.k, .int .i64 a.n, .string a.s] 66)).alloc (.cells #[.int .i64 b.k, .int .i64 b.n, .string b.s] 66)).alloc (.cells #[.int .i64 0, .int .i64 0, .string ⟨#[]⟩] 66) = x at *
  refine (specOf a _).mono ?_
  rintro e w1 ⟨rfl, hb1⟩
  rw [HA.out]
  have hz1 := hb0.trans (hb1.mono hb0.size)
  have rb1 := rb.below hb1
  have rr1 := rr.below hb1
  obtain ⟨⟨c0, c1, c2⟩, -⟩ := rb1.three
  clear ra rb rr
  have RR := Lib.hid rr1
  clear rr1 rb1
  go_wp2_with fail
  refine (specOf b _).mono ?_
  rintro e w2 ⟨rfl, hb2⟩
  skip
  have hz2 := hz1.trans (hb2.mono hz1.size)
  have rr2 := RR.out.below hb2
  obtain ⟨⟨z0, z1, z2⟩, ⟨z3, z4, z5⟩⟩ := rr2.three
  have RR2 := Lib.hid rr2
  clear rr2 RR c0 c1 c2
  go_wp2_with fail
  refine bodyPost_ret (v := .tuple #[.agg #[.int .i64 0, .int .i64 0, .string ⟨#[]⟩], .bool false]) (by simp [results, Tryz.results86, go_sem, z0, z1, z2]) rfl ⟨Vl.zero, by rw [HN.out]; rfl, by rw [HN.out]; simp, ?_⟩
  have hz := hz2
  repeat (first | with_reducible exact hz | with_reducible refine Below.drew ?_ | with_reducible refine Below.setCell ?_ (by simp; omega) _ | with_reducible refine Below.setCell ?_ (by simp) _)
 have ha' : ¬ truOf a = -1 := by simpa [truS] using ha
 have HA := Lib.hid ha
 clear ha
 cases hb : truS b
 ·have HB := Lib.hid hb
  have hb' : truOf b = -1 := by simpa [truS] using hb
  have HN := Lib.hid (show op2 5 a b = none by rw [HV.out, hb', and3_b (by decide)]; rfl)
  clear hb hb' ha'
  go_enter Tryz.func86, Tryz.ntmps86
  go_wp2_with fail
  generalize ((w.alloc (.cells #[.int .i64 a.k, .int .i64 a.n, .string a.s] 66)).alloc (.cells #[.int .i64 b.k, .int .i64 b.n, .string b.s] 66)).alloc (.cells #[.int .i64 0, .int .i64 0, .string ⟨#[]⟩] 66) = x at *
  refine (specOf a _).mono ?_
  rintro e w1 ⟨rfl, hb1⟩
  rw [HA.out]
  have hz1 := hb0.trans (hb1.mono hb0.size)
  have rb1 := rb.below hb1
  have rr1 := rr.below hb1
  obtain ⟨⟨c0, c1, c2⟩, -⟩ := rb1.three
  clear ra rb rr
  have RR := Lib.hid rr1
  clear rr1 rb1
  go_wp2_with fail
  refine (specOf b _).mono ?_
  rintro e w2 ⟨rfl, hb2⟩
  rw [HB.out]
  have hz2 := hz1.trans (hb2.mono hz1.size)
  have rr2 := RR.out.below hb2
  obtain ⟨⟨z0, z1, z2⟩, ⟨z3, z4, z5⟩⟩ := rr2.three
  have RR2 := Lib.hid rr2
  clear rr2 RR c0 c1 c2
  go_wp2_with fail
  refine bodyPost_ret (v := .tuple #[.agg #[.int .i64 0, .int .i64 0, .string ⟨#[]⟩], .bool false]) (by simp [results, Tryz.results86, go_sem, z0, z1, z2]) rfl ⟨Vl.zero, by rw [HN.out]; rfl, by rw [HN.out]; simp, ?_⟩
  have hz := hz2
  repeat (first | with_reducible exact hz | with_reducible refine Below.drew ?_ | with_reducible refine Below.setCell ?_ (by simp; omega) _ | with_reducible refine Below.setCell ?_ (by simp) _)
 ·have hb' : ¬ truOf b = -1 := by simpa [truS] using hb
  have HB := Lib.hid hb
  have HN := Lib.hid (show op2 5 a b = some (asVl (and3 (truN a) (truN b))) by rw [HV.out, asOpt_some (and3_ne ha' hb')]; simp [truN, ha', hb'])
  clear hb ha' hb'
  go_enter Tryz.func86, Tryz.ntmps86
  go_wp2_with fail
  generalize ((w.alloc (.cells #[.int .i64 a.k, .int .i64 a.n, .string a.s] 66)).alloc (.cells #[.int .i64 b.k, .int .i64 b.n, .string b.s] 66)).alloc (.cells #[.int .i64 0, .int .i64 0, .string ⟨#[]⟩] 66) = x at *
  refine (specOf a _).mono ?_
  rintro e w1 ⟨rfl, hb1⟩
  rw [HA.out]
  have hz1 := hb0.trans (hb1.mono hb0.size)
  have rb1 := rb.below hb1
  have rr1 := rr.below hb1
  obtain ⟨⟨c0, c1, c2⟩, -⟩ := rb1.three
  clear ra rb rr
  have RR := Lib.hid rr1
  clear rr1 rb1
  go_wp2_with fail
  refine (specOf b _).mono ?_
  rintro e w2 ⟨rfl, hb2⟩
  rw [HB.out]
  have hz2 := hz1.trans (hb2.mono hz1.size)
  have rr2 := RR.out.below hb2
  obtain ⟨⟨z0, z1, z2⟩, ⟨z3, z4, z5⟩⟩ := rr2.three
  have RR2 := Lib.hid rr2
  clear rr2 RR c0 c1 c2
  clear z0 z1 z2 z3 z4 z5
  generalize truN a = p at *
  generalize truN b = q at *
  go_wp2_with fail
  refine (specAnd3 _ _ _).mono ?_
  rintro e w3 ⟨rfl, rfl⟩
  generalize and3 p q = u at *
  go_wp2_with fail
  refine (specAs _ _).mono ?_
  rintro e w3 ⟨rfl, hb3⟩
  have hz := hz2.trans (hb3.mono hz2.size)
  obtain ⟨⟨z0, z1, z2⟩, ⟨z3, z4, z5⟩⟩ := (RR2.out.below hb3).three
  go_wp2_with fail
  refine bodyPost_ret (v := .tuple #[.agg #[.int .i64 (asVl u).k, .int .i64 (asVl u).n, .string (asVl u).s], .bool true]) (by simp [results, Tryz.results86, go_sem, z0, z1, z2]) rfl ⟨asVl u, by rw [HN.out]; rfl, by rw [HN.out]; simp, ?_⟩
  repeat (first | with_reducible exact hz | with_reducible refine Below.drew ?_ | with_reducible refine Below.setCell ?_ (by simp; omega) _ | with_reducible refine Below.setCell ?_ (by simp) _)
set_option maxHeartbeats 1000000 in
theorem specTwo6 (a b : Vl) (w : World) :
  Calls Tryz.prog 86 #[.int .i64 6, .agg #[.int .i64 a.k, .int .i64 a.n, .string a.s], .agg #[.int .i64 b.k, .int .i64 b.n, .string b.s]] w (OptPost (op2 6 a b) w) := by
 obtain ⟨ra, rb, rr, hb0⟩ := boxes3 w a b 66
 have HV := Lib.hid (show op2 6 a b = asOpt (or3 (truOf a) (truOf b)) by simp [op2])
 cases ha : truS a
 ·have HA := Lib.hid ha
  have ha' : truOf a = -1 := by simpa [truS] using ha
  have HN := Lib.hid (show op2 6 a b = none by rw [HV.out, ha', or3_a (by decide)]; rfl)
  clear ha ha'
  go_enter Tryz.func86, Tryz.ntmps86
  go_wp2_with fail
  generalize ((w.alloc (.cells #[.int .i64 a.k, .int .i64 a.n, .string a.s] 66)).alloc (.cells #[.int .i64 b.k, .int .i64 b.n, .string b.s] 66)).alloc (.cells #[.int .i64 0, .int .i64 0, .string ⟨#[]⟩] 66) = x at *
  refine (specOf a _).mono ?_
  rintro e w1 ⟨rfl, hb1⟩
  rw [HA.out]
  have hz1 := hb0.trans (hb1.mono hb0.size)
  have rb1 := rb.below hb1
  have rr1 := rr.below hb1
  obtain ⟨⟨c0, c1, c2⟩, -⟩ := rb1.three
  clear ra rb rr
  have RR := Lib.hid rr1
  clear rr1 rb1
  go_wp2_with fail
  refine (specOf b _).mono ?_
  rintro e w2 ⟨rfl, hb2⟩
  skip
  have hz2 := hz1.trans (hb2.mono hz1.size)
  have rr2 := RR.out.below hb2
  obtain ⟨⟨z0, z1, z2⟩, ⟨z3, z4, z5⟩⟩ := rr2.three
  have RR2 := Lib.hid rr2
  clear rr2 RR c0 c1 c2
  go_wp2_with fail
  refine bodyPost_ret (v := .tuple #[.agg #[.int .i64 0, .int .i64 0, .string ⟨#[]⟩], .bool false]) (by simp [results, Tryz.results86, go_sem, z0, z1, z2]) rfl ⟨Vl.zero, by rw [HN.out]; rfl, by rw [HN.out]; simp, ?_⟩
  have hz := hz2
  repeat (first | with_reducible exact hz | with_reducible refine Below.drew ?_ | with_reducible refine Below.setCell ?_ (by simp; omega) _ | with_reducible refine Below.setCell ?_ (by simp) _)
 have ha' : ¬ truOf a = -1 := by simpa [truS] using ha
 have HA := Lib.hid ha
 clear ha
 cases hb : truS b
 ·have HB := Lib.hid hb
  have hb' : truOf b = -1 := by simpa [truS] using hb
  have HN := Lib.hid (show op2 6 a b = none by rw [HV.out, hb', or3_b (by decide)]; rfl)
  clear hb hb' ha'
  go_enter Tryz.func86, Tryz.ntmps86
  go_wp2_with fail
  generalize ((w.alloc (.cells #[.int .i64 a.k, .int .i64 a.n, .string a.s] 66)).alloc (.cells #[.int .i64 b.k, .int .i64 b.n, .string b.s] 66)).alloc (.cells #[.int .i64 0, .int .i64 0, .string ⟨#[]⟩] 66) = x at *
  refine (specOf a _).mono ?_
  rintro e w1 ⟨rfl, hb1⟩
  rw [HA.out]
  have hz1 := hb0.trans (hb1.mono hb0.size)
  have rb1 := rb.below hb1
  have rr1 := rr.below hb1
  obtain ⟨⟨c0, c1, c2⟩, -⟩ := rb1.three
  clear ra rb rr
  have RR := Lib.hid rr1
  clear rr1 rb1
  go_wp2_with fail
  refine (specOf b _).mono ?_
  rintro e w2 ⟨rfl, hb2⟩
  rw [HB.out]
  have hz2 := hz1.trans (hb2.mono hz1.size)
  have rr2 := RR.out.below hb2
  obtain ⟨⟨z0, z1, z2⟩, ⟨z3, z4, z5⟩⟩ := rr2.three
  have RR2 := Lib.hid rr2
  clear rr2 RR c0 c1 c2
  go_wp2_with fail
  refine bodyPost_ret (v := .tuple #[.agg #[.int .i64 0, .int .i64 0, .string ⟨#[]⟩], .bool false]) (by simp [results, Tryz.results86, go_sem, z0, z1, z2]) rfl ⟨Vl.zero, by rw [HN.out]; rfl, by rw [HN.out]; simp, ?_⟩
  have hz := hz2
  repeat (first | with_reducible exact hz | with_reducible refine Below.drew ?_ | with_reducible refine Below.setCell ?_ (by simp; omega) _ | with_reducible refine Below.setCell ?_ (by simp) _)
 ·have hb' : ¬ truOf b = -1 := by simpa [truS] using hb
  have HB := Lib.hid hb
  have HN := Lib.hid (show op2 6 a b = some (asVl (or3 (truN a) (truN b))) by rw [HV.out, asOpt_some (or3_ne ha' hb')]; simp [truN, ha', hb'])
  clear hb ha' hb'
  go_enter Tryz.func86, Tryz.ntmps86
  go_wp2_with fail
  generalize ((w.alloc (.cells #[.int .i64 a.k, .int .i64 a.n, .string a.s] 66)).alloc (.cells #[.int .i64 b.k, .int .i64 b.n, .string b.s] 66)).alloc (.cells #[.int .i64 0, .int .i64 0, .string ⟨#[]⟩] 66) = x at *
  refine (specOf a _).mono ?_
  rintro e w1 ⟨rfl, hb1⟩
  rw [HA.out]
  have hz1 := hb0.trans (hb1.mono hb0.size)
  have rb1 := rb.below hb1
  have rr1 := rr.below hb1
  obtain ⟨⟨c0, c1, c2⟩, -⟩ := rb1.three
  clear ra rb rr
  have RR := Lib.hid rr1
  clear rr1 rb1
  go_wp2_with fail
  refine (specOf b _).mono ?_
  rintro e w2 ⟨rfl, hb2⟩
  rw [HB.out]
  have hz2 := hz1.trans (hb2.mono hz1.size)
  have rr2 := RR.out.below hb2
  obtain ⟨⟨z0, z1, z2⟩, ⟨z3, z4, z5⟩⟩ := rr2.three
  have RR2 := Lib.hid rr2
  clear rr2 RR c0 c1 c2
  clear z0 z1 z2 z3 z4 z5
  generalize truN a = p at *
  generalize truN b = q at *
  go_wp2_with fail
  refine (specOr3 _ _ _).mono ?_
  rintro e w3 ⟨rfl, rfl⟩
  generalize or3 p q = u at *
  go_wp2_with fail
  refine (specAs _ _).mono ?_
  rintro e w3 ⟨rfl, hb3⟩
  have hz := hz2.trans (hb3.mono hz2.size)
  obtain ⟨⟨z0, z1, z2⟩, ⟨z3, z4, z5⟩⟩ := (RR2.out.below hb3).three
  go_wp2_with fail
  refine bodyPost_ret (v := .tuple #[.agg #[.int .i64 (asVl u).k, .int .i64 (asVl u).n, .string (asVl u).s], .bool true]) (by simp [results, Tryz.results86, go_sem, z0, z1, z2]) rfl ⟨asVl u, by rw [HN.out]; rfl, by rw [HN.out]; simp, ?_⟩
  repeat (first | with_reducible exact hz | with_reducible refine Below.drew ?_ | with_reducible refine Below.setCell ?_ (by simp; omega) _ | with_reducible refine Below.setCell ?_ (by simp) _)
theorem as_not_not (v : Value) (w : World) : (Instr.typeAssert (.iface 134 v) 130 134 true).run Tryz.prog w = .ok (.tuple #[v, .bool true]) w := by kernel_rfl
theorem as_num_not (v : Value) (w : World) : (Instr.typeAssert (.iface 135 v) 130 134 true).run Tryz.prog w = .ok (.tuple #[.agg #[], .bool false]) w := by kernel_rfl
theorem as_str_not (v : Value) (w : World) : (Instr.typeAssert (.iface 142 v) 130 134 true).run Tryz.prog w = .ok (.tuple #[.agg #[], .bool false]) w := by kernel_rfl
theorem held0V (n : Int) (s : ByteArray) : heldV 0 n s = .iface 134 (.agg #[]) := by simp [heldV]
theorem held1V (n : Int) (s : ByteArray) : heldV 1 n s = .iface 135 (.int .i64 n) := by simp [heldV]
theorem held2V (n : Int) (s : ByteArray) : heldV 2 n s = .iface 142 (.string s) := by simp [heldV]
set_option maxRecDepth 100000 in
theorem implTruthOf (v : Vl) (w : World) (h : v.ok = true) :
  Calls Tryz.prog 58 #[.agg #[.int .i64 v.k, .int .i64 v.n, .string v.s]] w fun e w' => e = .returned (.int .i64 (truOf v)) ∧ Below w.heap.size w w' := by
 obtain ⟨k, n, s⟩ := v
 rcases Vl.kinds h with h0 | ⟨h0, -, -⟩ | h0
 ·simp only at h0
  subst h0
  have HV := Lib.hid (show truOf ⟨0, n, s⟩ = 2 by simp [truOf])
  have a1 := as_not_not (.agg #[])
  go_enter Tryz.func58, Tryz.ntmps58
  go_wp2_with fail
  refine (heldYes _ _ _ _ h).mono ?_
  rintro e w1 ⟨rfl, hb1⟩
  rw [held0V]
  go_wp2
  go_ret
  have hz := ((Below.refl w.heap.size w).alloc (Nat.le_refl _) _).trans (hb1.mono (by simp))
  exact ⟨retI (by rw [HV.out]), hz.alloc hz.size _⟩
 ·simp only at h0
  subst h0
  have HV := Lib.hid (show truOf ⟨1, n, s⟩ = yes (n != 0) by simp [truOf])
  have a1 := as_num_not (.int .i64 n)
  have a2 := as_num_num (.int .i64 n)
  go_enter Tryz.func58, Tryz.ntmps58
  go_wp2_with fail
  refine (heldYes _ _ _ _ h).mono ?_
  rintro e w1 ⟨rfl, hb1⟩
  rw [held1V]
  go_wp2_with fail
  refine (implTruthIf _ _).mono ?_
  rintro e w2 ⟨rfl, rfl⟩
  go_wp2
  go_ret
  exact ⟨retI (by rw [HV.out]), ((Below.refl _ _).alloc (Nat.le_refl _) _).trans (hb1.mono (by simp))⟩
 ·simp only at h0
  subst h0
  have HV := Lib.hid (show truOf ⟨2, n, s⟩ = -1 by simp [truOf])
  have a1 := as_str_not (.string s)
  have a2 := as_str_num (.string s)
  go_enter Tryz.func58, Tryz.ntmps58
  go_wp2_with fail
  refine (heldYes _ _ _ _ h).mono ?_
  rintro e w1 ⟨rfl, hb1⟩
  rw [held2V]
  go_wp2
  go_ret
  exact ⟨retI (by rw [HV.out]), ((Below.refl _ _).alloc (Nat.le_refl _) _).trans (hb1.mono (by simp))⟩
set_option maxHeartbeats 400000 in
theorem implTruthVal (a : Int) (w : World) (h : a = -1 ∨ a = 0 ∨ a = 1 ∨ a = 2) :
  Calls Tryz.prog 107 #[.int .i64 a] w (OptPost (asOpt a) w) := by
 rcases h with rfl | rfl | rfl | rfl
 ·have HV := Lib.hid (show asOpt (-1) = none by rfl)
  go_enter Tryz.func107, Tryz.ntmps107
  go_wp2
  exact bodyPost_ret (v := .tuple #[.agg #[.int .i64 0, .int .i64 0, .string ⟨#[]⟩], .bool false]) (by simp [results, Tryz.results107, go_sem]) rfl ⟨Vl.zero, by rw [HV.out]; rfl, by rw [HV.out]; simp, (Below.refl _ _).alloc (Nat.le_refl _) _⟩
 ·have HV := Lib.hid (show asOpt 0 = some ⟨1, 0, ⟨#[]⟩⟩ by rfl)
  go_enter Tryz.func107, Tryz.ntmps107
  go_wp2
  exact bodyPost_ret (v := .tuple #[.agg #[.int .i64 1, .int .i64 0, .string ⟨#[]⟩], .bool true]) (by simp [results, Tryz.results107, go_sem]) rfl ⟨⟨1, 0, ⟨#[]⟩⟩, by rw [HV.out]; rfl, by rw [HV.out]; simp, (Below.refl _ _).alloc (Nat.le_refl _) _⟩
 ·have HV := Lib.hid (show asOpt 1 = some ⟨1, 1, ⟨#[]⟩⟩ by rfl)
  go_enter Tryz.func107, Tryz.ntmps107
  go_wp2
  exact bodyPost_ret (v := .tuple #[.agg #[.int .i64 1, .int .i64 1, .string ⟨#[]⟩], .bool true]) (by simp [results, Tryz.results107, go_sem]) rfl ⟨⟨1, 1, ⟨#[]⟩⟩, by rw [HV.out]; rfl, by rw [HV.out]; simp, (Below.refl _ _).alloc (Nat.le_refl _) _⟩
 ·have HV := Lib.hid (show asOpt 2 = some Vl.zero by rfl)
  go_enter Tryz.func107, Tryz.ntmps107
  go_wp2
  exact bodyPost_ret (v := .tuple #[.agg #[.int .i64 0, .int .i64 0, .string ⟨#[]⟩], .bool true]) (by simp [results, Tryz.results107, go_sem]) rfl ⟨Vl.zero, by rw [HV.out]; rfl, by rw [HV.out]; simp, (Below.refl _ _).alloc (Nat.le_refl _) _⟩
def Six (w : World) (b off : Nat) (x y : Vl) : Prop :=
 w.cell? ⟨b, off, none⟩ = some (.int .i64 x.k) ∧ w.cell? ⟨b, off + 1, none⟩ = some (.int .i64 x.n) ∧ w.cell? ⟨b, off + 2, none⟩ = some (.string x.s) ∧
 w.cell? ⟨b, off + 3, none⟩ = some (.int .i64 y.k) ∧ w.cell? ⟨b, off + 3 + 1, none⟩ = some (.int .i64 y.n) ∧ w.cell? ⟨b, off + 3 + 2, none⟩ = some (.string y.s)
def Tri (w : World) (b off : Nat) (x : Vl) : Prop :=
 w.cell? ⟨b, off, none⟩ = some (.int .i64 x.k) ∧ w.cell? ⟨b, off + 1, none⟩ = some (.int .i64 x.n) ∧ w.cell? ⟨b, off + 2, none⟩ = some (.string x.s)
set_option maxHeartbeats 1000000 in
theorem implEqualOf (b off cap : Nat) (x y : Vl) (w : World) (h : Six w b off x y) :
  Calls Tryz.prog 92 #[.slice (some ⟨b, off, none⟩) 2 cap] w (OptPost (op2 3 x y) w) := by
 have HV := Lib.hid (show op2 3 x y = asOpt (eq3 x.k x.n x.s y.k y.n y.s) by simp [op2])
 have hb0 := (Below.refl w.heap.size w).alloc (Nat.le_refl _) (.cells #[.int .i64 0, .int .i64 0, .string ⟨#[]⟩] 66)
 have rr := Row.new w 66 #[.int .i64 0, .int .i64 0, .string ⟨#[]⟩]
 have hne : w.heap.size ≠ b := Nat.ne_of_gt (cell_lt h.1)
 obtain ⟨c0, c1, c2, d0, d1, d2⟩ := keep6 h hb0
 clear h
 go_enter Tryz.func92, Tryz.ntmps92
 go_wp2_with fail
 generalize w.alloc (.cells #[.int .i64 0, .int .i64 0, .string ⟨#[]⟩] 66) = u at *
 have RR := Lib.hid rr
 clear rr
 go_region_held3 (fun w' => w'.cell? ⟨b, off, none⟩ = some (.int .i64 x.k) ∧ w'.cell? ⟨b, off + 1, none⟩ = some (.int .i64 x.n) ∧ w'.cell? ⟨b, off + 2, none⟩ = some (.string x.s) ∧ w'.cell? ⟨b, off + 3, none⟩ = some (.int .i64 y.k) ∧ w'.cell? ⟨b, off + 3 + 1, none⟩ = some (.int .i64 y.n) ∧ w'.cell? ⟨b, off + 3 + 2, none⟩ = some (.string y.s))
  (first | go_keep | with_reducible exact keep6s hne (by assumption) | exact keep6 (by assumption) hbZ | exact keep6 (by assumption) hbA)
  (first | (go_at_call 108; refine (implEqual3 x.k x.n x.s y.k y.n y.s _).mono ?_; rintro e yA ⟨rfl, hbA⟩) | (go_at_call 107; refine (implTruthVal _ _ (eq3_rng _ _ _ _ _ _)).mono ?_; rintro e yZ ⟨v, rfl, hv, hbZ⟩; have HW := Lib.hid hv; clear hv; obtain ⟨⟨z0, z1, z2⟩, ⟨z3, z4, z5⟩⟩ := ((RR.out.drew.below hbA).below hbZ).three))
 go_wp2
 have hz1 := hb0.drew.trans (hbA.mono hb0.size)
 have hz := hz1.trans (hbZ.mono hz1.size)
 refine bodyPost_ret (v := .tuple #[.agg #[.int .i64 v.k, .int .i64 v.n, .string v.s], .bool (asOpt (eq3 x.k x.n x.s y.k y.n y.s)).isSome]) (by simp [results, Tryz.results92, go_sem, z0, z1, z2]) rfl ⟨v, by rw [HV.out], by rw [HV.out]; exact HW.out, ?_⟩
 repeat (first | with_reducible exact hz | with_reducible refine Below.drew ?_ | with_reducible refine Below.setCell ?_ (by simp; omega) _ | with_reducible refine Below.setCell ?_ (by simp) _)
set_option maxHeartbeats 1000000 in
theorem implLessOf (b off cap : Nat) (x y : Vl) (w : World) (h : Six w b off x y) :
  Calls Tryz.prog 93 #[.slice (some ⟨b, off, none⟩) 2 cap] w (OptPost (op2 4 x y) w) := by
 have HV := Lib.hid (show op2 4 x y = asOpt (less3 x.k x.n x.s y.k y.n y.s) by simp [op2])
 have hb0 := (Below.refl w.heap.size w).alloc (Nat.le_refl _) (.cells #[.int .i64 0, .int .i64 0, .string ⟨#[]⟩] 66)
 have rr := Row.new w 66 #[.int .i64 0, .int .i64 0, .string ⟨#[]⟩]
 have hne : w.heap.size ≠ b := Nat.ne_of_gt (cell_lt h.1)
 obtain ⟨c0, c1, c2, d0, d1, d2⟩ := keep6 h hb0
 clear h
 go_enter Tryz.func93, Tryz.ntmps93
 go_wp2_with fail
 generalize w.alloc (.cells #[.int .i64 0, .int .i64 0, .string ⟨#[]⟩] 66) = u at *
 have RR := Lib.hid rr
 clear rr
 go_region_held3 (fun w' => w'.cell? ⟨b, off, none⟩ = some (.int .i64 x.k) ∧ w'.cell? ⟨b, off + 1, none⟩ = some (.int .i64 x.n) ∧ w'.cell? ⟨b, off + 2, none⟩ = some (.string x.s) ∧ w'.cell? ⟨b, off + 3, none⟩ = some (.int .i64 y.k) ∧ w'.cell? ⟨b, off + 3 + 1, none⟩ = some (.int .i64 y.n) ∧ w'.cell? ⟨b, off + 3 + 2, none⟩ = some (.string y.s))
  (first | go_keep | with_reducible exact keep6s hne (by assumption) | exact keep6 (by assumption) hbZ | exact keep6 (by assumption) hbA)
  (first | (go_at_call 109; refine (implLess3 x.k x.n x.s y.k y.n y.s _).mono ?_; rintro e yA ⟨rfl, hbA⟩) | (go_at_call 107; refine (implTruthVal _ _ (less3_rng _ _ _ _ _ _)).mono ?_; rintro e yZ ⟨v, rfl, hv, hbZ⟩; have HW := Lib.hid hv; clear hv; obtain ⟨⟨z0, z1, z2⟩, ⟨z3, z4, z5⟩⟩ := ((RR.out.drew.below hbA).below hbZ).three))
 go_wp2
 have hz1 := hb0.drew.trans (hbA.mono hb0.size)
 have hz := hz1.trans (hbZ.mono hz1.size)
 refine bodyPost_ret (v := .tuple #[.agg #[.int .i64 v.k, .int .i64 v.n, .string v.s], .bool (asOpt (less3 x.k x.n x.s y.k y.n y.s)).isSome]) (by simp [results, Tryz.results93, go_sem, z0, z1, z2]) rfl ⟨v, by rw [HV.out], by rw [HV.out]; exact HW.out, ?_⟩
 repeat (first | with_reducible exact hz | with_reducible refine Below.drew ?_ | with_reducible refine Below.setCell ?_ (by simp; omega) _ | with_reducible refine Below.setCell ?_ (by simp) _)
set_option maxHeartbeats 1000000 in
theorem implBothOf (b off cap : Nat) (x y : Vl) (w : World) (h : Six w b off x y) (hx : x.ok = true) (hy : y.ok = true) :
  Calls Tryz.prog 94 #[.slice (some ⟨b, off, none⟩) 2 cap] w (OptPost (op2 5 x y) w) := by
 have HV := Lib.hid (show op2 5 x y = asOpt (and3 (truOf x) (truOf y)) by simp [op2])
 have hb0 := (Below.refl w.heap.size w).alloc (Nat.le_refl _) (.cells #[.int .i64 0, .int .i64 0, .string ⟨#[]⟩] 66)
 have rr := Row.new w 66 #[.int .i64 0, .int .i64 0, .string ⟨#[]⟩]
 have hne : w.heap.size ≠ b := Nat.ne_of_gt (cell_lt h.1)
 obtain ⟨c0, c1, c2, d0, d1, d2⟩ := keep6 h hb0
 clear h
 go_enter Tryz.func94, Tryz.ntmps94
 go_wp2_with fail
 generalize w.alloc (.cells #[.int .i64 0, .int .i64 0, .string ⟨#[]⟩] 66) = u at *
 have RR := Lib.hid rr
 clear rr
 go_region_held3 (fun w' => w'.cell? ⟨b, off, none⟩ = some (.int .i64 x.k) ∧ w'.cell? ⟨b, off + 1, none⟩ = some (.int .i64 x.n) ∧ w'.cell? ⟨b, off + 2, none⟩ = some (.string x.s) ∧ w'.cell? ⟨b, off + 3, none⟩ = some (.int .i64 y.k) ∧ w'.cell? ⟨b, off + 3 + 1, none⟩ = some (.int .i64 y.n) ∧ w'.cell? ⟨b, off + 3 + 2, none⟩ = some (.string y.s))
  (first | go_keep | with_reducible exact keep6s hne (by assumption) | exact keep6 (by assumption) hbZ | exact keep6 (by assumption) hbB | exact keep6 (by assumption) hbA)
  (first | (go_at_call_of 58 (Value.agg #[.int .i64 x.k, .int .i64 x.n, .string x.s]); refine (implTruthOf x _ hx).mono ?_; rintro e yA ⟨rfl, hbA⟩) | (go_at_call_of 58 (Value.agg #[.int .i64 y.k, .int .i64 y.n, .string y.s]); refine (implTruthOf y _ hy).mono ?_; rintro e yB ⟨rfl, hbB⟩) | (go_at_call 110; refine (implAnd3 _ _ _).mono ?_; rintro e yC ⟨rfl, rfl⟩) | (go_at_call 107; refine (implTruthVal _ _ (and3_rng _ _)).mono ?_; rintro e yZ ⟨v, rfl, hv, hbZ⟩; have HW := Lib.hid hv; clear hv; obtain ⟨⟨z0, z1, z2⟩, ⟨z3, z4, z5⟩⟩ := (((RR.out.drew.below hbA).below hbB).below hbZ).three))
 go_wp2
 have hz1 := hb0.drew.trans (hbA.mono hb0.size)
 have hz2 := hz1.trans (hbB.mono hz1.size)
 have hz := hz2.trans (hbZ.mono hz2.size)
 refine bodyPost_ret (v := .tuple #[.agg #[.int .i64 v.k, .int .i64 v.n, .string v.s], .bool (asOpt (and3 (truOf x) (truOf y))).isSome]) (by simp [results, Tryz.results94, go_sem, z0, z1, z2]) rfl ⟨v, by rw [HV.out], by rw [HV.out]; exact HW.out, ?_⟩
 repeat (first | with_reducible exact hz | with_reducible refine Below.drew ?_ | with_reducible refine Below.setCell ?_ (by simp; omega) _ | with_reducible refine Below.setCell ?_ (by simp) _)
set_option maxHeartbeats 1000000 in
theorem implEitherOf (b off cap : Nat) (x y : Vl) (w : World) (h : Six w b off x y) (hx : x.ok = true) (hy : y.ok = true) :
  Calls Tryz.prog 95 #[.slice (some ⟨b, off, none⟩) 2 cap] w (OptPost (op2 6 x y) w) := by
 have HV := Lib.hid (show op2 6 x y = asOpt (or3 (truOf x) (truOf y)) by simp [op2])
 have hb0 := (Below.refl w.heap.size w).alloc (Nat.le_refl _) (.cells #[.int .i64 0, .int .i64 0, .string ⟨#[]⟩] 66)
 have rr := Row.new w 66 #[.int .i64 0, .int .i64 0, .string ⟨#[]⟩]
 have hne : w.heap.size ≠ b := Nat.ne_of_gt (cell_lt h.1)
 obtain ⟨c0, c1, c2, d0, d1, d2⟩ := keep6 h hb0
 clear h
 go_enter Tryz.func95, Tryz.ntmps95
 go_wp2_with fail
 generalize w.alloc (.cells #[.int .i64 0, .int .i64 0, .string ⟨#[]⟩] 66) = u at *
 have RR := Lib.hid rr
 clear rr
 go_region_held3 (fun w' => w'.cell? ⟨b, off, none⟩ = some (.int .i64 x.k) ∧ w'.cell? ⟨b, off + 1, none⟩ = some (.int .i64 x.n) ∧ w'.cell? ⟨b, off + 2, none⟩ = some (.string x.s) ∧ w'.cell? ⟨b, off + 3, none⟩ = some (.int .i64 y.k) ∧ w'.cell? ⟨b, off + 3 + 1, none⟩ = some (.int .i64 y.n) ∧ w'.cell? ⟨b, off + 3 + 2, none⟩ = some (.string y.s))
  (first | go_keep | with_reducible exact keep6s hne (by assumption) | exact keep6 (by assumption) hbZ | exact keep6 (by assumption) hbB | exact keep6 (by assumption) hbA)
  (first | (go_at_call_of 58 (Value.agg #[.int .i64 x.k, .int .i64 x.n, .string x.s]); refine (implTruthOf x _ hx).mono ?_; rintro e yA ⟨rfl, hbA⟩) | (go_at_call_of 58 (Value.agg #[.int .i64 y.k, .int .i64 y.n, .string y.s]); refine (implTruthOf y _ hy).mono ?_; rintro e yB ⟨rfl, hbB⟩) | (go_at_call 111; refine (implOr3 _ _ _).mono ?_; rintro e yC ⟨rfl, rfl⟩) | (go_at_call 107; refine (implTruthVal _ _ (or3_rng _ _)).mono ?_; rintro e yZ ⟨v, rfl, hv, hbZ⟩; have HW := Lib.hid hv; clear hv; obtain ⟨⟨z0, z1, z2⟩, ⟨z3, z4, z5⟩⟩ := (((RR.out.drew.below hbA).below hbB).below hbZ).three))
 go_wp2
 have hz1 := hb0.drew.trans (hbA.mono hb0.size)
 have hz2 := hz1.trans (hbB.mono hz1.size)
 have hz := hz2.trans (hbZ.mono hz2.size)
 refine bodyPost_ret (v := .tuple #[.agg #[.int .i64 v.k, .int .i64 v.n, .string v.s], .bool (asOpt (or3 (truOf x) (truOf y))).isSome]) (by simp [results, Tryz.results95, go_sem, z0, z1, z2]) rfl ⟨v, by rw [HV.out], by rw [HV.out]; exact HW.out, ?_⟩
 repeat (first | with_reducible exact hz | with_reducible refine Below.drew ?_ | with_reducible refine Below.setCell ?_ (by simp; omega) _ | with_reducible refine Below.setCell ?_ (by simp) _)
set_option maxHeartbeats 1000000 in
theorem implAdded (a b : Vl) (sg : Int) (w : World) (ha : a.ok = true) (hb : b.ok = true) (hsg : sg = 1 ∨ sg = -1) :
  Calls Tryz.prog 113 #[.agg #[.int .i64 a.k, .int .i64 a.n, .string a.s], .agg #[.int .i64 b.k, .int .i64 b.n, .string b.s], .int .i64 sg] w (OptPost (sumVl a b sg) w) := by
 obtain ⟨ra, rb, rr, hb0⟩ := boxes3 w a b 66
 have ka := Vl.kinds ha
 have kb := Vl.kinds hb
 clear ha hb
 obtain ⟨k, n, s⟩ := a
 obtain ⟨k', n', s'⟩ := b
 simp only at ka kb ra rb rr hb0
 by_cases a2 : k = 2
 ·subst a2
  have HV := Lib.hid (show sumVl ⟨2, n, s⟩ ⟨k', n', s'⟩ sg = none by simp [sumVl])
  go_enter Tryz.func113, Tryz.ntmps113
  go_wp2
  exact bodyPost_ret (v := .tuple #[.agg #[.int .i64 0, .int .i64 0, .string ⟨#[]⟩], .bool false]) (by simp [results, Tryz.results113, go_sem]) rfl ⟨Vl.zero, by rw [HV.out]; rfl, by rw [HV.out]; simp, ((((Below.refl _ _).alloc (Nat.le_refl _) _).alloc (by simp) _).alloc (by simp; omega) _)⟩
 have a2' : (k == 2) = false := by simpa using a2
 by_cases b2 : k' = 2
 ·subst b2
  have HV := Lib.hid (show sumVl ⟨k, n, s⟩ ⟨2, n', s'⟩ sg = none by simp [sumVl])
  go_enter Tryz.func113, Tryz.ntmps113
  go_wp2
  exact bodyPost_ret (v := .tuple #[.agg #[.int .i64 0, .int .i64 0, .string ⟨#[]⟩], .bool false]) (by simp [results, Tryz.results113, go_sem]) rfl ⟨Vl.zero, by rw [HV.out]; rfl, by rw [HV.out]; simp, ((((Below.refl _ _).alloc (Nat.le_refl _) _).alloc (by simp) _).alloc (by simp; omega) _)⟩
 have b2' : (k' == 2) = false := by simpa using b2
 by_cases a0 : k = 0
 ·subst a0
  have HV := Lib.hid (show sumVl ⟨0, n, s⟩ ⟨k', n', s'⟩ sg = some Vl.zero by simp [sumVl, b2])
  go_enter Tryz.func113, Tryz.ntmps113
  go_wp2
  exact bodyPost_ret (v := .tuple #[.agg #[.int .i64 0, .int .i64 0, .string ⟨#[]⟩], .bool true]) (by simp [results, Tryz.results113, go_sem]) rfl ⟨Vl.zero, by rw [HV.out]; rfl, by rw [HV.out]; simp, ((((Below.refl _ _).alloc (Nat.le_refl _) _).alloc (by simp) _).alloc (by simp; omega) _)⟩
 have a0' : (k == 0) = false := by simpa using a0
 by_cases b0 : k' = 0
 ·subst b0
  have HV := Lib.hid (show sumVl ⟨k, n, s⟩ ⟨0, n', s'⟩ sg = some Vl.zero by simp [sumVl, a2])
  go_enter Tryz.func113, Tryz.ntmps113
  go_wp2
  exact bodyPost_ret (v := .tuple #[.agg #[.int .i64 0, .int .i64 0, .string ⟨#[]⟩], .bool true]) (by simp [results, Tryz.results113, go_sem]) rfl ⟨Vl.zero, by rw [HV.out]; rfl, by rw [HV.out]; simp, ((((Below.refl _ _).alloc (Nat.le_refl _) _).alloc (by simp) _).alloc (by simp; omega) _)⟩
 have b0' : (k' == 0) = false := by simpa using b0
 obtain ⟨s1, s2⟩ := sum_wraps (x := n) (y := n') (sg := sg) (by omega) (by omega) hsg
 have HV := Lib.hid (show sumVl ⟨k, n, s⟩ ⟨k', n', s'⟩ sg = if -1000000000 ≤ n + sg * n' ∧ n + sg * n' ≤ 1000000000 then some ⟨1, n + sg * n', ⟨#[]⟩⟩ else none by simp [sumVl, a2, b2, a0, b0])
 by_cases hm : -1000000000 ≤ n + sg * n' ∧ n + sg * n' ≤ 1000000000
 ·have HR := Lib.hid (show (decide (-1000000000 ≤ n + sg * n') && decide (n + sg * n' ≤ 1000000000)) = true by simp [hm.1, hm.2])
  have HN := Lib.hid (HV.out.trans (if_pos hm))
  clear hm HV
  go_enter Tryz.func113, Tryz.ntmps113
  go_wp2_with fail
  generalize n + sg * n' = m at *
  generalize ((w.alloc (.cells #[.int .i64 k, .int .i64 n, .string s] 66)).alloc (.cells #[.int .i64 k', .int .i64 n', .string s'] 66)).alloc (.cells #[.int .i64 0, .int .i64 0, .string ⟨#[]⟩] 66) = x at *
  refine (rightNum _ _).mono ?_
  rintro e w1 ⟨rfl, rfl⟩
  rw [HR.out]
  have S2 := Lib.hid s2
  clear s1 s2
  go_wp2_with fail
  refine (implValOfNum _ _).mono ?_
  rintro e w2 ⟨rfl, hb2⟩
  have hz := hb0.trans (hb2.mono hb0.size)
  obtain ⟨⟨z0, z1, z2⟩, ⟨z3, z4, z5⟩⟩ := (rr.below hb2).three
  clear ra rb rr
  go_wp2_with fail
  refine bodyPost_ret (v := .tuple #[.agg #[.int .i64 1, .int .i64 m, .string ⟨#[]⟩], .bool true]) (by simp [results, Tryz.results113, go_sem, z0, z1, z2, S2.out]) rfl ⟨⟨1, m, ⟨#[]⟩⟩, by rw [HN.out]; rfl, by rw [HN.out]; simp, ?_⟩
  repeat (first | with_reducible exact hz | with_reducible refine Below.drew ?_ | with_reducible refine Below.setCell ?_ (by simp; omega) _ | with_reducible refine Below.setCell ?_ (by simp) _)
 ·have HR := Lib.hid (show (decide (-1000000000 ≤ n + sg * n') && decide (n + sg * n' ≤ 1000000000)) = false by simp; omega)
  have HN := Lib.hid (HV.out.trans (if_neg hm))
  clear hm HV
  go_enter Tryz.func113, Tryz.ntmps113
  go_wp2_with fail
  generalize n + sg * n' = m at *
  generalize ((w.alloc (.cells #[.int .i64 k, .int .i64 n, .string s] 66)).alloc (.cells #[.int .i64 k', .int .i64 n', .string s'] 66)).alloc (.cells #[.int .i64 0, .int .i64 0, .string ⟨#[]⟩] 66) = x at *
  refine (rightNum _ _).mono ?_
  rintro e w1 ⟨rfl, rfl⟩
  rw [HR.out]
  clear s1 s2
  obtain ⟨⟨z0, z1, z2⟩, ⟨z3, z4, z5⟩⟩ := rr.three
  have hz := hb0
  clear ra rb rr
  go_wp2_with fail
  refine bodyPost_ret (v := .tuple #[.agg #[.int .i64 0, .int .i64 0, .string ⟨#[]⟩], .bool false]) (by simp [results, Tryz.results113, go_sem, z0, z1, z2]) rfl ⟨Vl.zero, by rw [HN.out]; rfl, by rw [HN.out]; simp, ?_⟩
  repeat (first | with_reducible exact hz | with_reducible refine Below.drew ?_ | with_reducible refine Below.setCell ?_ (by simp; omega) _ | with_reducible refine Below.setCell ?_ (by simp) _)
set_option maxHeartbeats 1000000 in
theorem implSumOf (b off cap : Nat) (x y : Vl) (w : World) (h : Six w b off x y) (hx : x.ok = true) (hy : y.ok = true) :
  Calls Tryz.prog 98 #[.slice (some ⟨b, off, none⟩) 2 cap] w (OptPost (op2 9 x y) w) := by
 have HV := Lib.hid (show op2 9 x y = sumVl x y 1 by simp [op2])
 have hb0 := (Below.refl w.heap.size w).alloc (Nat.le_refl _) (.cells #[.int .i64 0, .int .i64 0, .string ⟨#[]⟩] 66)
 have rr := Row.new w 66 #[.int .i64 0, .int .i64 0, .string ⟨#[]⟩]
 have hne : w.heap.size ≠ b := Nat.ne_of_gt (cell_lt h.1)
 obtain ⟨c0, c1, c2, d0, d1, d2⟩ := keep6 h hb0
 clear h
 go_enter Tryz.func98, Tryz.ntmps98
 go_wp2_with fail
 generalize w.alloc (.cells #[.int .i64 0, .int .i64 0, .string ⟨#[]⟩] 66) = u at *
 have RR := Lib.hid rr
 clear rr
 go_region_held3 (fun w' => w'.cell? ⟨b, off, none⟩ = some (.int .i64 x.k) ∧ w'.cell? ⟨b, off + 1, none⟩ = some (.int .i64 x.n) ∧ w'.cell? ⟨b, off + 2, none⟩ = some (.string x.s) ∧ w'.cell? ⟨b, off + 3, none⟩ = some (.int .i64 y.k) ∧ w'.cell? ⟨b, off + 3 + 1, none⟩ = some (.int .i64 y.n) ∧ w'.cell? ⟨b, off + 3 + 2, none⟩ = some (.string y.s))
  (first | go_keep | with_reducible exact keep6s hne (by assumption) | exact keep6 (by assumption) hbZ)
  (first | (go_at_call 113; refine (implAdded x y 1 _ hx hy (by omega)).mono ?_; rintro e yZ ⟨v, rfl, hv, hbZ⟩; have HW := Lib.hid hv; clear hv; obtain ⟨⟨z0, z1, z2⟩, ⟨z3, z4, z5⟩⟩ := (RR.out.drew.below hbZ).three))
 go_wp2
 have hz := hb0.drew.trans (hbZ.mono hb0.size)
 refine bodyPost_ret (v := .tuple #[.agg #[.int .i64 v.k, .int .i64 v.n, .string v.s], .bool (sumVl x y 1).isSome]) (by simp [results, Tryz.results98, go_sem, z0, z1, z2]) rfl ⟨v, by rw [HV.out], by rw [HV.out]; exact HW.out, ?_⟩
 repeat (first | with_reducible exact hz | with_reducible refine Below.drew ?_ | with_reducible refine Below.setCell ?_ (by simp; omega) _ | with_reducible refine Below.setCell ?_ (by simp) _)
set_option maxHeartbeats 1000000 in
theorem implDifferenceOf (b off cap : Nat) (x y : Vl) (w : World) (h : Six w b off x y) (hx : x.ok = true) (hy : y.ok = true) :
  Calls Tryz.prog 99 #[.slice (some ⟨b, off, none⟩) 2 cap] w (OptPost (op2 10 x y) w) := by
 have HV := Lib.hid (show op2 10 x y = sumVl x y (-1) by simp [op2])
 have hb0 := (Below.refl w.heap.size w).alloc (Nat.le_refl _) (.cells #[.int .i64 0, .int .i64 0, .string ⟨#[]⟩] 66)
 have rr := Row.new w 66 #[.int .i64 0, .int .i64 0, .string ⟨#[]⟩]
 have hne : w.heap.size ≠ b := Nat.ne_of_gt (cell_lt h.1)
 obtain ⟨c0, c1, c2, d0, d1, d2⟩ := keep6 h hb0
 clear h
 go_enter Tryz.func99, Tryz.ntmps99
 go_wp2_with fail
 generalize w.alloc (.cells #[.int .i64 0, .int .i64 0, .string ⟨#[]⟩] 66) = u at *
 have RR := Lib.hid rr
 clear rr
 go_region_held3 (fun w' => w'.cell? ⟨b, off, none⟩ = some (.int .i64 x.k) ∧ w'.cell? ⟨b, off + 1, none⟩ = some (.int .i64 x.n) ∧ w'.cell? ⟨b, off + 2, none⟩ = some (.string x.s) ∧ w'.cell? ⟨b, off + 3, none⟩ = some (.int .i64 y.k) ∧ w'.cell? ⟨b, off + 3 + 1, none⟩ = some (.int .i64 y.n) ∧ w'.cell? ⟨b, off + 3 + 2, none⟩ = some (.string y.s))
  (first | go_keep | with_reducible exact keep6s hne (by assumption) | exact keep6 (by assumption) hbZ)
  (first | (go_at_call 113; refine (implAdded x y (-1) _ hx hy (by omega)).mono ?_; rintro e yZ ⟨v, rfl, hv, hbZ⟩; have HW := Lib.hid hv; clear hv; obtain ⟨⟨z0, z1, z2⟩, ⟨z3, z4, z5⟩⟩ := (RR.out.drew.below hbZ).three))
 go_wp2
 have hz := hb0.drew.trans (hbZ.mono hb0.size)
 refine bodyPost_ret (v := .tuple #[.agg #[.int .i64 v.k, .int .i64 v.n, .string v.s], .bool (sumVl x y (-1)).isSome]) (by simp [results, Tryz.results99, go_sem, z0, z1, z2]) rfl ⟨v, by rw [HV.out], by rw [HV.out]; exact HW.out, ?_⟩
 repeat (first | with_reducible exact hz | with_reducible refine Below.drew ?_ | with_reducible refine Below.setCell ?_ (by simp; omega) _ | with_reducible refine Below.setCell ?_ (by simp) _)
set_option maxHeartbeats 1000000 in
theorem implNotOf (b off cap : Nat) (x : Vl) (w : World) (h : Tri w b off x) (hx : x.ok = true) :
  Calls Tryz.prog 96 #[.slice (some ⟨b, off, none⟩) 1 cap] w (OptPost (op1 7 x) w) := by
 have HV := Lib.hid (show op1 7 x = asOpt (not3 (truOf x)) by simp [op1])
 have hb0 := (Below.refl w.heap.size w).alloc (Nat.le_refl _) (.cells #[.int .i64 0, .int .i64 0, .string ⟨#[]⟩] 66)
 have rr := Row.new w 66 #[.int .i64 0, .int .i64 0, .string ⟨#[]⟩]
 obtain ⟨c0, c1, c2⟩ := keep3 h hb0
 clear h
 go_enter Tryz.func96, Tryz.ntmps96
 go_wp2_with fail
 generalize w.alloc (.cells #[.int .i64 0, .int .i64 0, .string ⟨#[]⟩] 66) = u at *
 refine (implTruthOf x _ hx).mono ?_
 rintro e y1 ⟨rfl, hb1⟩
 have hz1 := hb0.trans (hb1.mono hb0.size)
 have rr1 := rr.below hb1
 clear rr
 go_wp2_with fail
 refine (implNot3 _ _).mono ?_
 rintro e y2 ⟨rfl, rfl⟩
 go_wp2_with fail
 refine (implTruthVal _ _ (not3_rng _)).mono ?_
 rintro e y2 ⟨v, rfl, hv, hb2⟩
 have HW := Lib.hid hv
 have hz := hz1.trans (hb2.mono hz1.size)
 obtain ⟨⟨z0, z1, z2⟩, ⟨z3, z4, z5⟩⟩ := (rr1.below hb2).three
 clear hv rr1
 go_wp2_with fail
 refine bodyPost_ret (v := .tuple #[.agg #[.int .i64 v.k, .int .i64 v.n, .string v.s], .bool (asOpt (not3 (truOf x))).isSome]) (by simp [results, Tryz.results96, go_sem, z0, z1, z2]) rfl ⟨v, by rw [HV.out], by rw [HV.out]; exact HW.out, ?_⟩
 repeat (first | with_reducible exact hz | with_reducible refine Below.drew ?_ | with_reducible refine Below.setCell ?_ (by simp; omega) _ | with_reducible refine Below.setCell ?_ (by simp) _)
set_option maxHeartbeats 1000000 in
theorem implNullOf (b off cap : Nat) (x : Vl) (w : World) (h : Tri w b off x) :
  Calls Tryz.prog 97 #[.slice (some ⟨b, off, none⟩) 1 cap] w (OptPost (op1 8 x) w) := by
 have HV := Lib.hid (show op1 8 x = asOpt (yes (x.k == 0)) by simp [op1])
 have hb0 := (Below.refl w.heap.size w).alloc (Nat.le_refl _) (.cells #[.int .i64 0, .int .i64 0, .string ⟨#[]⟩] 66)
 have rr := Row.new w 66 #[.int .i64 0, .int .i64 0, .string ⟨#[]⟩]
 obtain ⟨c0, c1, c2⟩ := keep3 h hb0
 clear h
 go_enter Tryz.func97, Tryz.ntmps97
 go_wp2_with fail
 generalize w.alloc (.cells #[.int .i64 0, .int .i64 0, .string ⟨#[]⟩] 66) = u at *
 refine (implTruthIf _ _).mono ?_
 rintro e y1 ⟨rfl, rfl⟩
 go_wp2_with fail
 refine (implTruthVal _ _ (by rcases yes01 (x.k == 0) with h | h <;> simp [h])).mono ?_
 rintro e y2 ⟨v, rfl, hv, hb2⟩
 have HW := Lib.hid hv
 have hz := hb0.trans (hb2.mono hb0.size)
 obtain ⟨⟨z0, z1, z2⟩, ⟨z3, z4, z5⟩⟩ := (rr.below hb2).three
 clear hv rr
 go_wp2_with fail
 refine bodyPost_ret (v := .tuple #[.agg #[.int .i64 v.k, .int .i64 v.n, .string v.s], .bool (asOpt (yes (x.k == 0))).isSome]) (by simp [results, Tryz.results97, go_sem, z0, z1, z2]) rfl ⟨v, by rw [HV.out], by rw [HV.out]; exact HW.out, ?_⟩
 repeat (first | with_reducible exact hz | with_reducible refine Below.drew ?_ | with_reducible refine Below.setCell ?_ (by simp; omega) _ | with_reducible refine Below.setCell ?_ (by simp) _)
set_option maxRecDepth 100000 in
set_option maxHeartbeats 1000000 in
theorem implTokValue1 (a0 a1 a2 args : Value) (t : Tk) (A : Option Addr) (cap : Nat) (row : List Vl) (w : World) (hr : Vals w A row.length row) (ht : t.k = 1) (hc : 0 ≤ t.c) (hc2 : t.c < row.length) :
  Calls Tryz.prog 80 #[.agg #[a0, a1, a2], .agg #[.int .i64 t.k, .int .i64 t.c, .int .i64 t.vk, .int .i64 t.vn, .string t.vs], .slice A row.length cap, args] w (OptPost row[t.c.toNat]? w) := by
 obtain ⟨k, c, vk, vn, vs⟩ := t
 simp only at ht hc hc2
 subst ht
 obtain ⟨j, rfl⟩ := Int.eq_ofNat_of_zero_le hc
 have hj : j < row.length := by omega
 obtain ⟨b, off, rfl, c0, c1, c2⟩ := hr.at_ hj
 have hb0 := (Below.refl w.heap.size w |>.alloc (Nat.le_refl _) (.cells #[a0, a1, a2] 122) |>.alloc (by simp only [size1]; omega) (.cells #[.int .i64 1, .int .i64 j, .int .i64 vk, .int .i64 vn, .string vs] 73) |>.alloc (by simp only [size1]; omega) (.cells #[.int .i64 0, .int .i64 0, .string ⟨#[]⟩] 66))
 obtain ⟨c0, c1, c2⟩ := keep3 ⟨c0, c1, c2⟩ hb0
 have rr := Row.newAt ((w.alloc (.cells #[a0, a1, a2] 122)).alloc (.cells #[.int .i64 1, .int .i64 j, .int .i64 vk, .int .i64 vn, .string vs] 73)) 66 #[.int .i64 0, .int .i64 0, .string ⟨#[]⟩] (w.heap.size + 1 + 1) (by simp only [size1])
 have HV := Lib.hid (show row[((j : Int)).toNat]? = some row[j] by simp [hj])
 go_enter Tryz.func80, Tryz.ntmps80
 go_wp2
 have hz := hb0
 refine bodyPost_ret (v := .tuple #[.agg #[.int .i64 row[j].k, .int .i64 row[j].n, .string row[j].s], .bool true]) (by simp [results, Tryz.results80, go_sem]) rfl ⟨row[j], by rw [HV.out]; rfl, by rw [HV.out]; simp, ?_⟩
 exact (((Below.refl w.heap.size w).alloc (Nat.le_refl _) _).alloc (by simp only [size1]; omega) _).alloc (by simp only [size1]; omega) _
set_option maxRecDepth 100000 in
set_option maxHeartbeats 1000000 in
theorem implTokValue2 (a0 a1 a2 args rows : Value) (t : Tk) (w : World) (ht : t.k = 2) :
  Calls Tryz.prog 80 #[.agg #[a0, a1, a2], .agg #[.int .i64 t.k, .int .i64 t.c, .int .i64 t.vk, .int .i64 t.vn, .string t.vs], rows, args] w (OptPost (some ⟨t.vk, t.vn, t.vs⟩) w) := by
 obtain ⟨k, c, vk, vn, vs⟩ := t
 simp only at ht
 subst ht
 go_enter Tryz.func80, Tryz.ntmps80
 go_wp2
 refine bodyPost_ret (v := .tuple #[.agg #[.int .i64 vk, .int .i64 vn, .string vs], .bool true]) (by simp [results, Tryz.results80, go_sem]) rfl ⟨⟨vk, vn, vs⟩, rfl, by simp, ?_⟩
 exact (((Below.refl w.heap.size w).alloc (Nat.le_refl _) _).alloc (by simp only [size1]; omega) _).alloc (by simp only [size1]; omega) _
set_option maxRecDepth 100000 in
set_option maxHeartbeats 1000000 in
theorem implTokValue3 (a0 a1 rows : Value) (t : Tk) (b off cap : Nat) (x y : Vl) (w : World) (ht : t.k = 3) (h : Six w b off x y) :
  Calls Tryz.prog 80 #[.agg #[a0, a1, .func (.func 92) #[] #[]], .agg #[.int .i64 t.k, .int .i64 t.c, .int .i64 t.vk, .int .i64 t.vn, .string t.vs], rows, .slice (some ⟨b, off, none⟩) 2 cap] w (OptPost (op2 3 x y) w) := by
 obtain ⟨k, c, vk, vn, vs⟩ := t
 simp only at ht
 subst ht
 have hb0 := (Below.refl w.heap.size w |>.alloc (Nat.le_refl _) (.cells #[a0, a1, .func (.func 92) #[] #[]] 122) |>.alloc (by simp only [size1]; omega) (.cells #[.int .i64 3, .int .i64 c, .int .i64 vk, .int .i64 vn, .string vs] 73) |>.alloc (by simp only [size1]; omega) (.cells #[.int .i64 0, .int .i64 0, .string ⟨#[]⟩] 66))
 have hs : Six (((w.alloc (.cells #[a0, a1, .func (.func 92) #[] #[]] 122)).alloc (.cells #[.int .i64 3, .int .i64 c, .int .i64 vk, .int .i64 vn, .string vs] 73)).alloc (.cells #[.int .i64 0, .int .i64 0, .string ⟨#[]⟩] 66)) b off x y := keep6 h hb0
 have rr := Row.newAt ((w.alloc (.cells #[a0, a1, .func (.func 92) #[] #[]] 122)).alloc (.cells #[.int .i64 3, .int .i64 c, .int .i64 vk, .int .i64 vn, .string vs] 73)) 66 #[.int .i64 0, .int .i64 0, .string ⟨#[]⟩] (w.heap.size + 1 + 1) (by simp only [size1])
 go_enter Tryz.func80, Tryz.ntmps80
 go_wp2_with fail
 generalize ((w.alloc (.cells #[a0, a1, .func (.func 92) #[] #[]] 122)).alloc (.cells #[.int .i64 3, .int .i64 c, .int .i64 vk, .int .i64 vn, .string vs] 73)).alloc (.cells #[.int .i64 0, .int .i64 0, .string ⟨#[]⟩] 66) = u at *
 refine (implEqualOf b off cap x y _ hs).mono ?_
 rintro e y1 ⟨v, rfl, hv, hb1⟩
 have HW := Lib.hid hv
 have hz := hb0.trans (hb1.mono hb0.size)
 obtain ⟨⟨z0, z1, z2⟩, ⟨z3, z4, z5⟩⟩ := (rr.below hb1).three
 clear hv rr hs h
 go_wp2_with fail
 refine bodyPost_ret (v := .tuple #[.agg #[.int .i64 v.k, .int .i64 v.n, .string v.s], .bool (op2 3 x y).isSome]) (by simp [results, Tryz.results80, go_sem, z0, z1, z2]) rfl ⟨v, rfl, HW.out, ?_⟩
 repeat (first | with_reducible exact hz | with_reducible refine Below.drew ?_ | with_reducible refine Below.setCell ?_ (by simp; omega) _ | with_reducible refine Below.setCell ?_ (by simp) _)
set_option maxRecDepth 100000 in
set_option maxHeartbeats 1000000 in
theorem implTokValue4 (a0 a1 rows : Value) (t : Tk) (b off cap : Nat) (x y : Vl) (w : World) (ht : t.k = 4) (h : Six w b off x y) :
  Calls Tryz.prog 80 #[.agg #[a0, a1, .func (.func 93) #[] #[]], .agg #[.int .i64 t.k, .int .i64 t.c, .int .i64 t.vk, .int .i64 t.vn, .string t.vs], rows, .slice (some ⟨b, off, none⟩) 2 cap] w (OptPost (op2 4 x y) w) := by
 obtain ⟨k, c, vk, vn, vs⟩ := t
 simp only at ht
 subst ht
 have hb0 := (Below.refl w.heap.size w |>.alloc (Nat.le_refl _) (.cells #[a0, a1, .func (.func 93) #[] #[]] 122) |>.alloc (by simp only [size1]; omega) (.cells #[.int .i64 4, .int .i64 c, .int .i64 vk, .int .i64 vn, .string vs] 73) |>.alloc (by simp only [size1]; omega) (.cells #[.int .i64 0, .int .i64 0, .string ⟨#[]⟩] 66))
 have hs : Six (((w.alloc (.cells #[a0, a1, .func (.func 93) #[] #[]] 122)).alloc (.cells #[.int .i64 4, .int .i64 c, .int .i64 vk, .int .i64 vn, .string vs] 73)).alloc (.cells #[.int .i64 0, .int .i64 0, .string ⟨#[]⟩] 66)) b off x y := keep6 h hb0
 have rr := Row.newAt ((w.alloc (.cells #[a0, a1, .func (.func 93) #[] #[]] 122)).alloc (.cells #[.int .i64 4, .int .i64 c, .int .i64 vk, .int .i64 vn, .string vs] 73)) 66 #[.int .i64 0, .int .i64 0, .string ⟨#[]⟩] (w.heap.size + 1 + 1) (by simp only [size1])
 go_enter Tryz.func80, Tryz.ntmps80
 go_wp2_with fail
 generalize ((w.alloc (.cells #[a0, a1, .func (.func 93) #[] #[]] 122)).alloc (.cells #[.int .i64 4, .int .i64 c, .int .i64 vk, .int .i64 vn, .string vs] 73)).alloc (.cells #[.int .i64 0, .int .i64 0, .string ⟨#[]⟩] 66) = u at *
 refine (implLessOf b off cap x y _ hs).mono ?_
 rintro e y1 ⟨v, rfl, hv, hb1⟩
 have HW := Lib.hid hv
 have hz := hb0.trans (hb1.mono hb0.size)
 obtain ⟨⟨z0, z1, z2⟩, ⟨z3, z4, z5⟩⟩ := (rr.below hb1).three
 clear hv rr hs h
 go_wp2_with fail
 refine bodyPost_ret (v := .tuple #[.agg #[.int .i64 v.k, .int .i64 v.n, .string v.s], .bool (op2 4 x y).isSome]) (by simp [results, Tryz.results80, go_sem, z0, z1, z2]) rfl ⟨v, rfl, HW.out, ?_⟩
 repeat (first | with_reducible exact hz | with_reducible refine Below.drew ?_ | with_reducible refine Below.setCell ?_ (by simp; omega) _ | with_reducible refine Below.setCell ?_ (by simp) _)
set_option maxRecDepth 100000 in
set_option maxHeartbeats 1000000 in
theorem implTokValue5 (a0 a1 rows : Value) (t : Tk) (b off cap : Nat) (x y : Vl) (w : World) (ht : t.k = 5) (h : Six w b off x y) (hx : x.ok = true) (hy : y.ok = true) :
  Calls Tryz.prog 80 #[.agg #[a0, a1, .func (.func 94) #[] #[]], .agg #[.int .i64 t.k, .int .i64 t.c, .int .i64 t.vk, .int .i64 t.vn, .string t.vs], rows, .slice (some ⟨b, off, none⟩) 2 cap] w (OptPost (op2 5 x y) w) := by
 obtain ⟨k, c, vk, vn, vs⟩ := t
 simp only at ht
 subst ht
 have hb0 := (Below.refl w.heap.size w |>.alloc (Nat.le_refl _) (.cells #[a0, a1, .func (.func 94) #[] #[]] 122) |>.alloc (by simp only [size1]; omega) (.cells #[.int .i64 5, .int .i64 c, .int .i64 vk, .int .i64 vn, .string vs] 73) |>.alloc (by simp only [size1]; omega) (.cells #[.int .i64 0, .int .i64 0, .string ⟨#[]⟩] 66))
 have hs : Six (((w.alloc (.cells #[a0, a1, .func (.func 94) #[] #[]] 122)).alloc (.cells #[.int .i64 5, .int .i64 c, .int .i64 vk, .int .i64 vn, .string vs] 73)).alloc (.cells #[.int .i64 0, .int .i64 0, .string ⟨#[]⟩] 66)) b off x y := keep6 h hb0
 have rr := Row.newAt ((w.alloc (.cells #[a0, a1, .func (.func 94) #[] #[]] 122)).alloc (.cells #[.int .i64 5, .int .i64 c, .int .i64 vk, .int .i64 vn, .string vs] 73)) 66 #[.int .i64 0, .int .i64 0, .string ⟨#[]⟩] (w.heap.size + 1 + 1) (by simp only [size1])
 go_enter Tryz.func80, Tryz.ntmps80
 go_wp2_with fail
 generalize ((w.alloc (.cells #[a0, a1, .func (.func 94) #[] #[]] 122)).alloc (.cells #[.int .i64 5, .int .i64 c, .int .i64 vk, .int .i64 vn, .string vs] 73)).alloc (.cells #[.int .i64 0, .int .i64 0, .string ⟨#[]⟩] 66) = u at *
 refine (implBothOf b off cap x y _ hs hx hy).mono ?_
 rintro e y1 ⟨v, rfl, hv, hb1⟩
 have HW := Lib.hid hv
 have hz := hb0.trans (hb1.mono hb0.size)
 obtain ⟨⟨z0, z1, z2⟩, ⟨z3, z4, z5⟩⟩ := (rr.below hb1).three
 clear hv rr hs h
 go_wp2_with fail
 refine bodyPost_ret (v := .tuple #[.agg #[.int .i64 v.k, .int .i64 v.n, .string v.s], .bool (op2 5 x y).isSome]) (by simp [results, Tryz.results80, go_sem, z0, z1, z2]) rfl ⟨v, rfl, HW.out, ?_⟩
 repeat (first | with_reducible exact hz | with_reducible refine Below.drew ?_ | with_reducible refine Below.setCell ?_ (by simp; omega) _ | with_reducible refine Below.setCell ?_ (by simp) _)
set_option maxRecDepth 100000 in
set_option maxHeartbeats 1000000 in
theorem implTokValue6 (a0 a1 rows : Value) (t : Tk) (b off cap : Nat) (x y : Vl) (w : World) (ht : t.k = 6) (h : Six w b off x y) (hx : x.ok = true) (hy : y.ok = true) :
  Calls Tryz.prog 80 #[.agg #[a0, a1, .func (.func 95) #[] #[]], .agg #[.int .i64 t.k, .int .i64 t.c, .int .i64 t.vk, .int .i64 t.vn, .string t.vs], rows, .slice (some ⟨b, off, none⟩) 2 cap] w (OptPost (op2 6 x y) w) := by
 obtain ⟨k, c, vk, vn, vs⟩ := t
 simp only at ht
 subst ht
 have hb0 := (Below.refl w.heap.size w |>.alloc (Nat.le_refl _) (.cells #[a0, a1, .func (.func 95) #[] #[]] 122) |>.alloc (by simp only [size1]; omega) (.cells #[.int .i64 6, .int .i64 c, .int .i64 vk, .int .i64 vn, .string vs] 73) |>.alloc (by simp only [size1]; omega) (.cells #[.int .i64 0, .int .i64 0, .string ⟨#[]⟩] 66))
 have hs : Six (((w.alloc (.cells #[a0, a1, .func (.func 95) #[] #[]] 122)).alloc (.cells #[.int .i64 6, .int .i64 c, .int .i64 vk, .int .i64 vn, .string vs] 73)).alloc (.cells #[.int .i64 0, .int .i64 0, .string ⟨#[]⟩] 66)) b off x y := keep6 h hb0
 have rr := Row.newAt ((w.alloc (.cells #[a0, a1, .func (.func 95) #[] #[]] 122)).alloc (.cells #[.int .i64 6, .int .i64 c, .int .i64 vk, .int .i64 vn, .string vs] 73)) 66 #[.int .i64 0, .int .i64 0, .string ⟨#[]⟩] (w.heap.size + 1 + 1) (by simp only [size1])
 go_enter Tryz.func80, Tryz.ntmps80
 go_wp2_with fail
 generalize ((w.alloc (.cells #[a0, a1, .func (.func 95) #[] #[]] 122)).alloc (.cells #[.int .i64 6, .int .i64 c, .int .i64 vk, .int .i64 vn, .string vs] 73)).alloc (.cells #[.int .i64 0, .int .i64 0, .string ⟨#[]⟩] 66) = u at *
 refine (implEitherOf b off cap x y _ hs hx hy).mono ?_
 rintro e y1 ⟨v, rfl, hv, hb1⟩
 have HW := Lib.hid hv
 have hz := hb0.trans (hb1.mono hb0.size)
 obtain ⟨⟨z0, z1, z2⟩, ⟨z3, z4, z5⟩⟩ := (rr.below hb1).three
 clear hv rr hs h
 go_wp2_with fail
 refine bodyPost_ret (v := .tuple #[.agg #[.int .i64 v.k, .int .i64 v.n, .string v.s], .bool (op2 6 x y).isSome]) (by simp [results, Tryz.results80, go_sem, z0, z1, z2]) rfl ⟨v, rfl, HW.out, ?_⟩
 repeat (first | with_reducible exact hz | with_reducible refine Below.drew ?_ | with_reducible refine Below.setCell ?_ (by simp; omega) _ | with_reducible refine Below.setCell ?_ (by simp) _)
set_option maxRecDepth 100000 in
set_option maxHeartbeats 1000000 in
theorem implTokValue7 (a0 a1 rows : Value) (t : Tk) (b off cap : Nat) (x : Vl) (w : World) (ht : t.k = 7) (h : Tri w b off x) (hx : x.ok = true) :
  Calls Tryz.prog 80 #[.agg #[a0, a1, .func (.func 96) #[] #[]], .agg #[.int .i64 t.k, .int .i64 t.c, .int .i64 t.vk, .int .i64 t.vn, .string t.vs], rows, .slice (some ⟨b, off, none⟩) 1 cap] w (OptPost (op1 7 x) w) := by
 obtain ⟨k, c, vk, vn, vs⟩ := t
 simp only at ht
 subst ht
 have hb0 := (Below.refl w.heap.size w |>.alloc (Nat.le_refl _) (.cells #[a0, a1, .func (.func 96) #[] #[]] 122) |>.alloc (by simp only [size1]; omega) (.cells #[.int .i64 7, .int .i64 c, .int .i64 vk, .int .i64 vn, .string vs] 73) |>.alloc (by simp only [size1]; omega) (.cells #[.int .i64 0, .int .i64 0, .string ⟨#[]⟩] 66))
 have hs : Tri (((w.alloc (.cells #[a0, a1, .func (.func 96) #[] #[]] 122)).alloc (.cells #[.int .i64 7, .int .i64 c, .int .i64 vk, .int .i64 vn, .string vs] 73)).alloc (.cells #[.int .i64 0, .int .i64 0, .string ⟨#[]⟩] 66)) b off x := keep3 h hb0
 have rr := Row.newAt ((w.alloc (.cells #[a0, a1, .func (.func 96) #[] #[]] 122)).alloc (.cells #[.int .i64 7, .int .i64 c, .int .i64 vk, .int .i64 vn, .string vs] 73)) 66 #[.int .i64 0, .int .i64 0, .string ⟨#[]⟩] (w.heap.size + 1 + 1) (by simp only [size1])
 go_enter Tryz.func80, Tryz.ntmps80
 go_wp2_with fail
 generalize ((w.alloc (.cells #[a0, a1, .func (.func 96) #[] #[]] 122)).alloc (.cells #[.int .i64 7, .int .i64 c, .int .i64 vk, .int .i64 vn, .string vs] 73)).alloc (.cells #[.int .i64 0, .int .i64 0, .string ⟨#[]⟩] 66) = u at *
 refine (implNotOf b off cap x _ hs hx).mono ?_
 rintro e y1 ⟨v, rfl, hv, hb1⟩
 have HW := Lib.hid hv
 have hz := hb0.trans (hb1.mono hb0.size)
 obtain ⟨⟨z0, z1, z2⟩, ⟨z3, z4, z5⟩⟩ := (rr.below hb1).three
 clear hv rr hs h
 go_wp2_with fail
 refine bodyPost_ret (v := .tuple #[.agg #[.int .i64 v.k, .int .i64 v.n, .string v.s], .bool (op1 7 x).isSome]) (by simp [results, Tryz.results80, go_sem, z0, z1, z2]) rfl ⟨v, rfl, HW.out, ?_⟩
 repeat (first | with_reducible exact hz | with_reducible refine Below.drew ?_ | with_reducible refine Below.setCell ?_ (by simp; omega) _ | with_reducible refine Below.setCell ?_ (by simp) _)
set_option maxRecDepth 100000 in
set_option maxHeartbeats 1000000 in
theorem implTokValue8 (a0 a1 rows : Value) (t : Tk) (b off cap : Nat) (x : Vl) (w : World) (ht : t.k = 8) (h : Tri w b off x) :
  Calls Tryz.prog 80 #[.agg #[a0, a1, .func (.func 97) #[] #[]], .agg #[.int .i64 t.k, .int .i64 t.c, .int .i64 t.vk, .int .i64 t.vn, .string t.vs], rows, .slice (some ⟨b, off, none⟩) 1 cap] w (OptPost (op1 8 x) w) := by
 obtain ⟨k, c, vk, vn, vs⟩ := t
 simp only at ht
 subst ht
 have hb0 := (Below.refl w.heap.size w |>.alloc (Nat.le_refl _) (.cells #[a0, a1, .func (.func 97) #[] #[]] 122) |>.alloc (by simp only [size1]; omega) (.cells #[.int .i64 8, .int .i64 c, .int .i64 vk, .int .i64 vn, .string vs] 73) |>.alloc (by simp only [size1]; omega) (.cells #[.int .i64 0, .int .i64 0, .string ⟨#[]⟩] 66))
 have hs : Tri (((w.alloc (.cells #[a0, a1, .func (.func 97) #[] #[]] 122)).alloc (.cells #[.int .i64 8, .int .i64 c, .int .i64 vk, .int .i64 vn, .string vs] 73)).alloc (.cells #[.int .i64 0, .int .i64 0, .string ⟨#[]⟩] 66)) b off x := keep3 h hb0
 have rr := Row.newAt ((w.alloc (.cells #[a0, a1, .func (.func 97) #[] #[]] 122)).alloc (.cells #[.int .i64 8, .int .i64 c, .int .i64 vk, .int .i64 vn, .string vs] 73)) 66 #[.int .i64 0, .int .i64 0, .string ⟨#[]⟩] (w.heap.size + 1 + 1) (by simp only [size1])
 go_enter Tryz.func80, Tryz.ntmps80
 go_wp2_with fail
 generalize ((w.alloc (.cells #[a0, a1, .func (.func 97) #[] #[]] 122)).alloc (.cells #[.int .i64 8, .int .i64 c, .int .i64 vk, .int .i64 vn, .string vs] 73)).alloc (.cells #[.int .i64 0, .int .i64 0, .string ⟨#[]⟩] 66) = u at *
 refine (implNullOf b off cap x _ hs).mono ?_
 rintro e y1 ⟨v, rfl, hv, hb1⟩
 have HW := Lib.hid hv
 have hz := hb0.trans (hb1.mono hb0.size)
 obtain ⟨⟨z0, z1, z2⟩, ⟨z3, z4, z5⟩⟩ := (rr.below hb1).three
 clear hv rr hs h
 go_wp2_with fail
 refine bodyPost_ret (v := .tuple #[.agg #[.int .i64 v.k, .int .i64 v.n, .string v.s], .bool (op1 8 x).isSome]) (by simp [results, Tryz.results80, go_sem, z0, z1, z2]) rfl ⟨v, rfl, HW.out, ?_⟩
 repeat (first | with_reducible exact hz | with_reducible refine Below.drew ?_ | with_reducible refine Below.setCell ?_ (by simp; omega) _ | with_reducible refine Below.setCell ?_ (by simp) _)
set_option maxRecDepth 100000 in
set_option maxHeartbeats 1000000 in
theorem implTokValue9 (a0 a1 rows : Value) (t : Tk) (b off cap : Nat) (x y : Vl) (w : World) (ht : t.k = 9) (h : Six w b off x y) (hx : x.ok = true) (hy : y.ok = true) :
  Calls Tryz.prog 80 #[.agg #[a0, a1, .func (.func 98) #[] #[]], .agg #[.int .i64 t.k, .int .i64 t.c, .int .i64 t.vk, .int .i64 t.vn, .string t.vs], rows, .slice (some ⟨b, off, none⟩) 2 cap] w (OptPost (op2 9 x y) w) := by
 obtain ⟨k, c, vk, vn, vs⟩ := t
 simp only at ht
 subst ht
 have hb0 := (Below.refl w.heap.size w |>.alloc (Nat.le_refl _) (.cells #[a0, a1, .func (.func 98) #[] #[]] 122) |>.alloc (by simp only [size1]; omega) (.cells #[.int .i64 9, .int .i64 c, .int .i64 vk, .int .i64 vn, .string vs] 73) |>.alloc (by simp only [size1]; omega) (.cells #[.int .i64 0, .int .i64 0, .string ⟨#[]⟩] 66))
 have hs : Six (((w.alloc (.cells #[a0, a1, .func (.func 98) #[] #[]] 122)).alloc (.cells #[.int .i64 9, .int .i64 c, .int .i64 vk, .int .i64 vn, .string vs] 73)).alloc (.cells #[.int .i64 0, .int .i64 0, .string ⟨#[]⟩] 66)) b off x y := keep6 h hb0
 have rr := Row.newAt ((w.alloc (.cells #[a0, a1, .func (.func 98) #[] #[]] 122)).alloc (.cells #[.int .i64 9, .int .i64 c, .int .i64 vk, .int .i64 vn, .string vs] 73)) 66 #[.int .i64 0, .int .i64 0, .string ⟨#[]⟩] (w.heap.size + 1 + 1) (by simp only [size1])
 go_enter Tryz.func80, Tryz.ntmps80
 go_wp2_with fail
 generalize ((w.alloc (.cells #[a0, a1, .func (.func 98) #[] #[]] 122)).alloc (.cells #[.int .i64 9, .int .i64 c, .int .i64 vk, .int .i64 vn, .string vs] 73)).alloc (.cells #[.int .i64 0, .int .i64 0, .string ⟨#[]⟩] 66) = u at *
 refine (implSumOf b off cap x y _ hs hx hy).mono ?_
 rintro e y1 ⟨v, rfl, hv, hb1⟩
 have HW := Lib.hid hv
 have hz := hb0.trans (hb1.mono hb0.size)
 obtain ⟨⟨z0, z1, z2⟩, ⟨z3, z4, z5⟩⟩ := (rr.below hb1).three
 clear hv rr hs h
 go_wp2_with fail
 refine bodyPost_ret (v := .tuple #[.agg #[.int .i64 v.k, .int .i64 v.n, .string v.s], .bool (op2 9 x y).isSome]) (by simp [results, Tryz.results80, go_sem, z0, z1, z2]) rfl ⟨v, rfl, HW.out, ?_⟩
 repeat (first | with_reducible exact hz | with_reducible refine Below.drew ?_ | with_reducible refine Below.setCell ?_ (by simp; omega) _ | with_reducible refine Below.setCell ?_ (by simp) _)
set_option maxRecDepth 100000 in
set_option maxHeartbeats 1000000 in
theorem implTokValue10 (a0 a1 rows : Value) (t : Tk) (b off cap : Nat) (x y : Vl) (w : World) (ht : t.k = 10) (h : Six w b off x y) (hx : x.ok = true) (hy : y.ok = true) :
  Calls Tryz.prog 80 #[.agg #[a0, a1, .func (.func 99) #[] #[]], .agg #[.int .i64 t.k, .int .i64 t.c, .int .i64 t.vk, .int .i64 t.vn, .string t.vs], rows, .slice (some ⟨b, off, none⟩) 2 cap] w (OptPost (op2 10 x y) w) := by
 obtain ⟨k, c, vk, vn, vs⟩ := t
 simp only at ht
 subst ht
 have hb0 := (Below.refl w.heap.size w |>.alloc (Nat.le_refl _) (.cells #[a0, a1, .func (.func 99) #[] #[]] 122) |>.alloc (by simp only [size1]; omega) (.cells #[.int .i64 10, .int .i64 c, .int .i64 vk, .int .i64 vn, .string vs] 73) |>.alloc (by simp only [size1]; omega) (.cells #[.int .i64 0, .int .i64 0, .string ⟨#[]⟩] 66))
 have hs : Six (((w.alloc (.cells #[a0, a1, .func (.func 99) #[] #[]] 122)).alloc (.cells #[.int .i64 10, .int .i64 c, .int .i64 vk, .int .i64 vn, .string vs] 73)).alloc (.cells #[.int .i64 0, .int .i64 0, .string ⟨#[]⟩] 66)) b off x y := keep6 h hb0
 have rr := Row.newAt ((w.alloc (.cells #[a0, a1, .func (.func 99) #[] #[]] 122)).alloc (.cells #[.int .i64 10, .int .i64 c, .int .i64 vk, .int .i64 vn, .string vs] 73)) 66 #[.int .i64 0, .int .i64 0, .string ⟨#[]⟩] (w.heap.size + 1 + 1) (by simp only [size1])
 go_enter Tryz.func80, Tryz.ntmps80
 go_wp2_with fail
 generalize ((w.alloc (.cells #[a0, a1, .func (.func 99) #[] #[]] 122)).alloc (.cells #[.int .i64 10, .int .i64 c, .int .i64 vk, .int .i64 vn, .string vs] 73)).alloc (.cells #[.int .i64 0, .int .i64 0, .string ⟨#[]⟩] 66) = u at *
 refine (implDifferenceOf b off cap x y _ hs hx hy).mono ?_
 rintro e y1 ⟨v, rfl, hv, hb1⟩
 have HW := Lib.hid hv
 have hz := hb0.trans (hb1.mono hb0.size)
 obtain ⟨⟨z0, z1, z2⟩, ⟨z3, z4, z5⟩⟩ := (rr.below hb1).three
 clear hv rr hs h
 go_wp2_with fail
 refine bodyPost_ret (v := .tuple #[.agg #[.int .i64 v.k, .int .i64 v.n, .string v.s], .bool (op2 10 x y).isSome]) (by simp [results, Tryz.results80, go_sem, z0, z1, z2]) rfl ⟨v, rfl, HW.out, ?_⟩
 repeat (first | with_reducible exact hz | with_reducible refine Below.drew ?_ | with_reducible refine Below.setCell ?_ (by simp; omega) _ | with_reducible refine Below.setCell ?_ (by simp) _)
theorem Vals.six {w : World} {B : Option Addr} {x y : Vl} (h : Vals w B 2 [x, y]) : ∃ b off, B = some ⟨b, off, none⟩ ∧ Six w b off x y := by
 obtain ⟨b, off, rfl, c0, c1, c2⟩ := h.at_ (i := 0) (by simp)
 obtain ⟨b', off', e, d0, d1, d2⟩ := h.at_ (i := 1) (by simp)
 cases e
 exact ⟨b, off, rfl, by simpa using c0, by simpa using c1, by simpa using c2, by simpa using d0, by simpa using d1, by simpa using d2⟩
theorem Vals.tri {w : World} {B : Option Addr} {x : Vl} (h : Vals w B 1 [x]) : ∃ b off, B = some ⟨b, off, none⟩ ∧ Tri w b off x := by
 obtain ⟨b, off, rfl, c0, c1, c2⟩ := h.at_ (i := 0) (by simp)
 exact ⟨b, off, rfl, by simpa using c0, by simpa using c1, by simpa using c2⟩
theorem implTokValue (kk : Nat) (hk : 1 ≤ kk ∧ kk ≤ 10) (a0 a1 a2 : Value) (h2 : opsCells[kk * 3 + 2]? = some a2) (t : Tk) (ht : t.k = kk) (A B : Option Addr) (cap capB : Nat) (row xs : List Vl) (w : World)
  (htok : tokB t row.length = true) (hr : Vals w A row.length row) (hx : Vals w B (takes kk) xs) (hok : ∀ v ∈ xs, v.ok = true) :
  Calls Tryz.prog 80 #[.agg #[a0, a1, a2], .agg #[.int .i64 t.k, .int .i64 t.c, .int .i64 t.vk, .int .i64 t.vn, .string t.vs], .slice A row.length cap, .slice B (takes kk) capB] w (OptPost (tokVal row t xs) w) := by
 have hl := hx.len
 have hcases : kk = 1 ∨ kk = 2 ∨ kk = 3 ∨ kk = 4 ∨ kk = 5 ∨ kk = 6 ∨ kk = 7 ∨ kk = 8 ∨ kk = 9 ∨ kk = 10 := by omega
 rcases hcases with rfl | rfl | rfl | rfl | rfl | rfl | rfl | rfl | rfl | rfl
 ·have ht' : t.k = 1 := ht
  have e : tokVal row t xs = row[t.c.toNat]? := by simp [tokVal, ht']
  rw [e]
  simp only [tokB, ht', if_true, Bool.and_eq_true, decide_eq_true_eq] at htok
  exact implTokValue1 _ _ _ _ t A cap row w hr ht' htok.1 htok.2.1
 ·have ht' : t.k = 2 := ht
  have e : tokVal row t xs = some ⟨t.vk, t.vn, t.vs⟩ := by simp [tokVal, ht']
  rw [e]
  exact implTokValue2 _ _ _ _ _ t w ht'
 ·have ht' : t.k = 3 := ht
  have ea : a2 = .func (.func 92) #[] #[] := (Option.some.inj (h2.symm.trans rfl))
  subst ea
  match xs, hl with
  | [x, y], _ =>
   have e : tokVal row t [x, y] = op2 3 x y := by simp [tokVal, ht', opOf]
   rw [e]
   obtain ⟨b, off, rfl, h6⟩ := Vals.six (w := w) (B := B) hx
   exact implTokValue3 _ _ _ t b off capB x y w ht' h6
 ·have ht' : t.k = 4 := ht
  have ea : a2 = .func (.func 93) #[] #[] := (Option.some.inj (h2.symm.trans rfl))
  subst ea
  match xs, hl with
  | [x, y], _ =>
   have e : tokVal row t [x, y] = op2 4 x y := by simp [tokVal, ht', opOf]
   rw [e]
   obtain ⟨b, off, rfl, h6⟩ := Vals.six (w := w) (B := B) hx
   exact implTokValue4 _ _ _ t b off capB x y w ht' h6
 ·have ht' : t.k = 5 := ht
  have ea : a2 = .func (.func 94) #[] #[] := (Option.some.inj (h2.symm.trans rfl))
  subst ea
  match xs, hl with
  | [x, y], _ =>
   have e : tokVal row t [x, y] = op2 5 x y := by simp [tokVal, ht', opOf]
   rw [e]
   obtain ⟨b, off, rfl, h6⟩ := Vals.six (w := w) (B := B) hx
   exact implTokValue5 _ _ _ t b off capB x y w ht' h6 (hok x (by simp)) (hok y (by simp))
 ·have ht' : t.k = 6 := ht
  have ea : a2 = .func (.func 95) #[] #[] := (Option.some.inj (h2.symm.trans rfl))
  subst ea
  match xs, hl with
  | [x, y], _ =>
   have e : tokVal row t [x, y] = op2 6 x y := by simp [tokVal, ht', opOf]
   rw [e]
   obtain ⟨b, off, rfl, h6⟩ := Vals.six (w := w) (B := B) hx
   exact implTokValue6 _ _ _ t b off capB x y w ht' h6 (hok x (by simp)) (hok y (by simp))
 ·have ht' : t.k = 7 := ht
  have ea : a2 = .func (.func 96) #[] #[] := (Option.some.inj (h2.symm.trans rfl))
  subst ea
  match xs, hl with
  | [x], _ =>
   have e : tokVal row t [x] = op1 7 x := by simp [tokVal, ht', opOf]
   rw [e]
   obtain ⟨b, off, rfl, h6⟩ := Vals.tri (w := w) (B := B) hx
   exact implTokValue7 _ _ _ t b off capB x w ht' h6 (hok x (by simp))
 ·have ht' : t.k = 8 := ht
  have ea : a2 = .func (.func 97) #[] #[] := (Option.some.inj (h2.symm.trans rfl))
  subst ea
  match xs, hl with
  | [x], _ =>
   have e : tokVal row t [x] = op1 8 x := by simp [tokVal, ht', opOf]
   rw [e]
   obtain ⟨b, off, rfl, h6⟩ := Vals.tri (w := w) (B := B) hx
   exact implTokValue8 _ _ _ t b off capB x w ht' h6
 ·have ht' : t.k = 9 := ht
  have ea : a2 = .func (.func 98) #[] #[] := (Option.some.inj (h2.symm.trans rfl))
  subst ea
  match xs, hl with
  | [x, y], _ =>
   have e : tokVal row t [x, y] = op2 9 x y := by simp [tokVal, ht', opOf]
   rw [e]
   obtain ⟨b, off, rfl, h6⟩ := Vals.six (w := w) (B := B) hx
   exact implTokValue9 _ _ _ t b off capB x y w ht' h6 (hok x (by simp)) (hok y (by simp))
 ·have ht' : t.k = 10 := ht
  have ea : a2 = .func (.func 99) #[] #[] := (Option.some.inj (h2.symm.trans rfl))
  subst ea
  match xs, hl with
  | [x, y], _ =>
   have e : tokVal row t [x, y] = op2 10 x y := by simp [tokVal, ht', opOf]
   rw [e]
   obtain ⟨b, off, rfl, h6⟩ := Vals.six (w := w) (B := B) hx
   exact implTokValue10 _ _ _ t b off capB x y w ht' h6 (hok x (by simp)) (hok y (by simp))
set_option maxRecDepth 100000 in
theorem implSeenOk (A : Option Addr) (n cap : Nat) (row : List Vl) (w : World) (h : Vals w A n row) (hn : n ≤ maxLen) :
  Calls Tryz.prog 79 #[.slice A n cap] w fun e w' => e = .returned (.bool (rowB row)) ∧ Below w.heap.size w w' := by
 unfold maxLen at hn
 obtain rfl : n = row.length := h.len.symm
 by_cases h16 : (16 : Int) < row.length
 ·go_enter Tryz.func79, Tryz.ntmps79
  go_wp2
  go_ret
  exact ⟨retB (by simp [rowB]; omega), Below.refl _ _⟩
 have h16' : decide ((16 : Int) < row.length) = false := by simpa using h16
 go_enter Tryz.func79, Tryz.ntmps79
 go_wp2
 go_loopw [10] (fun i wr => ∃ k : Nat, k ≤ row.length ∧ i = .int .i64 k ∧ Hid ((row.take k).all Vl.ok = true) ∧ Below w.heap.size w wr) (fun i _ => row.length - (intOf i).toNat)
 case atStart => exact ⟨0, by omega, rfl, Lib.hid (by simp), Below.refl _ _⟩
 case round =>
  obtain ⟨k, hk, rfl, hall, hb⟩ := hrel
  by_cases hlt : k < row.length
  ·obtain ⟨b, off, rfl, c0, c1, c2⟩ := (h.below hb).at_ hlt
   cases hv : row[k].ok
   ·have HV := Lib.hid hv
    have HF := Lib.hid (show rowB row = false by
     have : row.all Vl.ok = false := List.all_eq_false.2 ⟨row[k], List.getElem_mem hlt, by simp [hv]⟩
     simp [rowB, this])
    clear hv
    go_wp2_with fail
    refine (implValOk row[k].k row[k].n row[k].s _).mono ?_
    rintro e w1 ⟨rfl, hb1⟩
    rw [show valOkB row[k].k row[k].n row[k].s = false from HV.out]
    go_wp2_with fail
    go_ret
    exact ⟨retB (by rw [HF.out]), hb.trans (((((Below.refl wr.heap.size wr).alloc (Nat.le_refl _) _).trans (hb1.mono (by simp))).mono hb.size))⟩
   ·have HV := Lib.hid hv
    have hall2 := Lib.hid (show (row.take (k + 1)).all Vl.ok = true by
     rw [List.take_succ_eq_append_getElem hlt, List.all_append, hall.out]
     simp [hv])
    clear hv hall
    go_wp2_with fail
    refine (implValOk row[k].k row[k].n row[k].s _).mono ?_
    rintro e w1 ⟨rfl, hb1⟩
    rw [show valOkB row[k].k row[k].n row[k].s = true from HV.out]
    go_wp2_with fail
    go_roundw
    case rel => exact ⟨k + 1, by omega, by go_num, hall2, hb.trans (((((Below.refl wr.heap.size wr).alloc (Nat.le_refl _) _).trans (hb1.mono (by simp))).mono hb.size))⟩
    case measure => simp [intOf]; omega
  ·have e : row.take k = row := List.take_of_length_le (by omega)
   have ha := hall.out
   rw [e] at ha
   have HA := Lib.hid ha
   clear hall ha e
   go_wp2
   go_ret
   exact ⟨retB (by simp [rowB, HA.out]; omega), hb⟩
theorem Sl.drew {α : Type} {R : Rd α} (hR : Stays R) {sz : Nat} {ok : Nat → Prop} {w : World} {A : Option Addr} {n : Nat} {ds : List α} (h : Sl R sz ok w A n ds) : Sl R sz ok w.drew A n ds := h.stays hR (fun _ h => h) fun _ _ _ h => h
end Go.Proofs.YteiifabdbkpkiaaGreat
namespace Go.Proofs.YteiifabdbkpkiaaGreat
open Go.RowKit Go.Maps
def atGo (s : ByteArray) : List ByteArray → Nat → Int
 | [], _ => -1
 | x :: xs, i => if (x.toList == s.toList) = true then (i : Int) else atGo s xs (i + 1)
def atN (names : List ByteArray) (s : ByteArray) : Int := atGo s names 0
theorem atGo_snoc (s x : ByteArray) : ∀ (l : List ByteArray) (i : Nat), atGo s (l ++ [x]) i = if atGo s l i = -1 then (if (x.toList == s.toList) = true then ((i + l.length : Nat) : Int) else -1) else atGo s l i
 | [], i => by simp [atGo]
 | y :: ys, i => by
  cases hb : (y.toList == s.toList)
  ·simp only [List.cons_append, atGo, hb, Bool.false_eq_true, if_false]
   rw [atGo_snoc s x ys (i + 1), show i + 1 + ys.length = i + (y :: ys).length by simp; omega]
  ·simp only [List.cons_append, atGo, hb, if_true]
   rw [if_neg (by omega)]
theorem atGo_rng (s : ByteArray) : ∀ (l : List ByteArray) (i : Nat), atGo s l i = -1 ∨ ((i : Int) ≤ atGo s l i ∧ atGo s l i < i + l.length)
 | [], i => .inl rfl
 | y :: ys, i => by
  cases hb : (y.toList == s.toList)
  ·simp only [atGo, hb, Bool.false_eq_true, if_false]
   rcases atGo_rng s ys (i + 1) with h1 | h1
   ·exact .inl h1
   ·right; simp at h1 ⊢; omega
  ·simp only [atGo, hb, if_true]
   right; simp; omega
theorem atN_snoc (l : List ByteArray) (s x : ByteArray) : atN (l ++ [x]) s = if atN l s = -1 then (if (x.toList == s.toList) = true then (l.length : Int) else -1) else atN l s := by
 unfold atN; rw [atGo_snoc]; simp
theorem atN_rng (l : List ByteArray) (s : ByteArray) : atN l s = -1 ∨ (0 ≤ atN l s ∧ atN l s < l.length) := by
 rcases atGo_rng s l 0 with h | h
 ·exact .inl h
 ·right; unfold atN; simpa using h
def cntGo (seen : List ByteArray) : List ByteArray → Nat
 | [] => 0
 | x :: xs => (if atN seen x = -1 then 1 else 0) + cntGo (seen ++ [x]) xs
theorem cntGo_snoc (x : ByteArray) : ∀ (l seen : List ByteArray), cntGo seen (l ++ [x]) = cntGo seen l + (if atN (seen ++ l) x = -1 then 1 else 0)
 | [], seen => by simp [cntGo]
 | y :: ys, seen => by
  simp only [List.cons_append, cntGo, cntGo_snoc x ys (seen ++ [y]), List.append_assoc, List.nil_append]
  omega
def uniqGo (seen : List ByteArray) : List ByteArray → Bool
 | [] => true
 | x :: xs => decide (atN seen x = -1) && uniqGo (seen ++ [x]) xs
theorem cntGo_le : ∀ (l seen : List ByteArray), cntGo seen l ≤ l.length
 | [], _ => Nat.le_refl _
 | x :: xs, seen => by
  have := cntGo_le xs (seen ++ [x])
  simp only [cntGo, List.length_cons]
  split <;> omega
theorem cntGo_uniq : ∀ (l seen : List ByteArray), (cntGo seen l == l.length) = uniqGo seen l
 | [], _ => rfl
 | x :: xs, seen => by
  have h1 := cntGo_le xs (seen ++ [x])
  have h2 := cntGo_uniq xs (seen ++ [x])
  simp only [cntGo, uniqGo, List.length_cons, ← h2]
  by_cases h : atN seen x = -1
  ·rw [if_pos h, decide_eq_true h, Bool.true_and, Bool.eq_iff_iff]; simp; omega
  ·rw [if_neg h, decide_eq_false h, Bool.false_and]; simp; omega
def keyS (s : ByteArray) : Lit := .string s.data.toList
def PlacesIn (w : World) (b : Nat) (names : List ByteArray) : Prop := ∃ D : DataW Unit, w.ownsMap Tryz.prog 9 (plainElem Tryz.prog 2) b names.length D ∧ Tidy D ∧
 (∀ s : ByteArray, Maps.has D (keyS s) = decide (atN names s ≠ -1)) ∧ (∀ s : ByteArray, atN names s ≠ -1 → D.atKey (keyS s) (.lit (.int .i64 0)) = .lit (.int .i64 (atN names s))) ∧ Maps.size D = cntGo [] names
theorem keyS_key (s : ByteArray) : WideAt.IsKeyLit (keyS s) := by first | trivial | (simp [keyS, WideAt.IsKeyLit]) | (unfold keyS WideAt.IsKeyLit; trivial)
theorem keyS_of (s : ByteArray) (hs : s.size ≤ maxLen) : Go.keyOf Tryz.prog 9 (.string s) = some (keyS s) := Go.WideMaps.keyOf_string_mk Tryz.underlying9 hs
theorem lawS : Keyed Tryz.prog 9 := string_keyed Tryz.underlying9
theorem zeroI (w : World) : (zeroValue 2).run Tryz.prog w = .ok (.int .i64 0) w := by kernel_rfl
theorem keyS_eq {s x : ByteArray} : keyS x = keyS s ↔ (x.toList == s.toList) = true := by
 rw [ByteArray.toList_eq, ByteArray.toList_eq]
 simp [keyS]
theorem PlacesIn.made (w : World) : PlacesIn (w.alloc (.map #[] 0)) w.heap.size [] :=
 ⟨.map [], World.ownsMap_made _ _ _ _, tidy_empty, fun s => by simp [Maps.has, atN, atGo], fun s h => absurd rfl h, rfl⟩
theorem PlacesIn.kept {w w' : World} {b : Nat} {names : List ByteArray} {row : Option Nat} (h : PlacesIn w b names) (hg : w.grownBy w' row) (hne : some b ≠ row) : PlacesIn w' b names := by
 obtain ⟨D, h1, h2, h3, h4, h5⟩ := h
 exact ⟨D, h1.kept hg hne, h2, h3, h4, h5⟩
theorem PlacesIn.alloc {w : World} {b : Nat} {names : List ByteArray} (h : PlacesIn w b names) (o : Obj) : PlacesIn (w.alloc o) b names := h.kept (World.grownBy_alloc w o none) (by simp)
theorem PlacesIn.drew {w : World} {b : Nat} {names : List ByteArray} (h : PlacesIn w b names) : PlacesIn w.drew b names := h
theorem places_more {w' : World} {b : Nat} {names : List ByteArray} {s : ByteArray} {D : DataW Unit} (hno : atN names s = -1) (h1 : w'.ownsMap Tryz.prog 9 (plainElem Tryz.prog 2) b (names.length + 1) (D.put (keyS s) (.lit (.int .i64 names.length)))) (h2 : Tidy D)
  (h3 : ∀ s : ByteArray, Maps.has D (keyS s) = decide (atN names s ≠ -1)) (h4 : ∀ s : ByteArray, atN names s ≠ -1 → D.atKey (keyS s) (.lit (.int .i64 0)) = .lit (.int .i64 (atN names s))) (h5 : Maps.size D = cntGo [] names) : PlacesIn w' b (names ++ [s]) := by
 refine ⟨_, by simpa using h1, h2.put (keyS_key s) _, fun u => ?_, fun u hu => ?_, by
  rw [Maps.size_put h2, h3 s, decide_eq_false (by simp [hno]), cntGo_snoc, List.nil_append, if_pos hno, ← h5]; rfl⟩
 ·rw [atN_snoc]
  by_cases e : keyS u = keyS s
  ·rw [e, Maps.has_put_same h2.isMap (keyS_key s)]
   have e2 : (s.toList == u.toList) = true := keyS_eq.1 e.symm
   by_cases hu : atN names u = -1
   ·rw [if_pos hu, if_pos e2]; simp
   ·rw [if_neg hu]; simp [hu]
  ·rw [Maps.has_put_other e, h3]
   have e2 : ¬ (s.toList == u.toList) = true := fun h => e (keyS_eq.2 h).symm
   by_cases hu : atN names u = -1
   ·rw [if_pos hu, if_neg e2]; simp [hu]
   ·rw [if_neg hu]
 ·rw [atN_snoc] at hu ⊢
  by_cases e : keyS u = keyS s
  ·have e2 : (s.toList == u.toList) = true := keyS_eq.1 e.symm
   have hu2 : atN names u = -1 := by
    have e3 : s.toList = u.toList := by simpa using e2
    have : atN names u = atN names s := by
     have hh : ∀ (l : List ByteArray) (i : Nat), atGo u l i = atGo s l i := by
      intro l
      induction l with
      | nil => intro i; rfl
      | cons y ys ih => intro i; simp only [atGo, e3, ih]
     exact hh _ _
    rw [this]; exact hno
   rw [if_pos hu2, if_pos e2, e, Maps.atKey_put_same h2.isMap (keyS_key s)]
  ·have e2 : ¬ (s.toList == u.toList) = true := fun h => e (keyS_eq.2 h).symm
   by_cases hu2 : atN names u = -1
   ·rw [if_pos hu2, if_neg e2] at hu; exact absurd rfl hu
   ·rw [if_neg hu2] at hu ⊢
    rw [Maps.atKey_put_other e]
    exact h4 u hu2
theorem places_same {w : World} {b : Nat} {names : List ByteArray} {s : ByteArray} (hyes : atN names s ≠ -1) (h : PlacesIn w b names) : PlacesIn w b (names ++ [s]) := by
 obtain ⟨D, h1, h2, h3, h4, h5⟩ := h
 have key : ∀ u, atN (names ++ [s]) u = atN names u := fun u => by
  rw [atN_snoc]
  by_cases hu : atN names u = -1
  ·rw [if_pos hu]
   by_cases e : (s.toList == u.toList) = true
   ·exfalso
    have e3 : s.toList = u.toList := by simpa using e
    have hh : ∀ (l : List ByteArray) (i : Nat), atGo u l i = atGo s l i := by
     intro l
     induction l with
     | nil => intro i; rfl
     | cons y ys ih => intro i; simp only [atGo, e3, ih]
    exact hyes ((hh names 0).symm.trans hu)
   ·rw [if_neg e, hu]
  ·rw [if_neg hu]
 exact ⟨D, h1.mono (by simp), h2, fun u => by rw [key]; exact h3 u, fun u hu => by rw [key] at hu ⊢; exact h4 u hu, by rw [cntGo_snoc, List.nil_append, if_neg hyes, Nat.add_zero]; exact h5⟩
theorem implAddFirst (b : Nat) (names : List ByteArray) (s : ByteArray) (w : World) (h : PlacesIn w b names) (hs : s.size ≤ maxLen) (hn : names.length ≤ 1048576) :
  Calls Tryz.prog 73 #[.map (some b), .string s, .int .i64 names.length] w fun e w' => e = .returned (.tuple #[]) ∧ PlacesIn w' b (names ++ [s]) ∧ w.grownBy w' (some b) := by
 obtain ⟨D, h1, h2, h3, h4, h5⟩ := h
 have wf : (Lit.int .i64 (names.length : Int)).wf = true := WalkArith.wf_i64 (by omega)
 have hval := plainElem_int (H := Unit) Tryz.underlying2 wf
 by_cases hno : atN names s = -1
 ·have hh := h3 s
  rw [decide_eq_false (by simp [hno])] at hh
  have HH := Lib.hid hh
  have HN := Lib.hid hno
  have H3 := Lib.hid h3
  have H4 := Lib.hid h4
  have H5 := Lib.hid h5
  clear hh hno h3 h4 h5
  go_enter Tryz.func73, Tryz.ntmps73
  go_wp2_with (first
   | (at_lookup; refine wpList_lookup_own_ok_int _ rfl _ _ 98 rfl 9 2 .i64 lawS Tryz.underlying98 Tryz.underlying2 (zeroI _) b names.length D rfl h1 _ _ rfl (keyS_of s hs) ?_; intro c hat hwc; rw [HH.out])
   | (at_mapUpdate; refine wpList_mapUpdate_own _ rfl _ _ _ 98 rfl 9 2 lawS Tryz.underlying98 _ b names.length D rfl h1 (by unfold maxLen; omega) _ _ _ rfl rfl (keyS_of s hs) _ [] hval ?_; intro w1 hown1 hgrow1))
  go_end0
  exact ⟨rfl, places_more HN.out hown1 h2 H3.out H4.out H5.out, hgrow1⟩
 ·have hh := h3 s
  rw [decide_eq_true hno] at hh
  have HH := Lib.hid hh
  have HP := Lib.hid (places_same hno ⟨D, h1, h2, h3, h4, h5⟩)
  clear hh hno h3 h4 h5
  go_enter Tryz.func73, Tryz.ntmps73
  go_wp2_with (first
   | (at_lookup; refine wpList_lookup_own_ok_int _ rfl _ _ 98 rfl 9 2 .i64 lawS Tryz.underlying98 Tryz.underlying2 (zeroI _) b names.length D rfl h1 _ _ rfl (keyS_of s hs) ?_; intro c hat hwc; rw [HH.out]))
  go_end0
  exact ⟨rfl, HP.out, ⟨rfl, rfl, rfl, Nat.le_refl _, fun _ _ _ => rfl⟩⟩
theorem implPlaceOf (b : Nat) (names : List ByteArray) (s : ByteArray) (w : World) (h : PlacesIn w b names) (hs : s.size ≤ maxLen) :
  Calls Tryz.prog 75 #[.map (some b), .string s] w fun e w' => e = .returned (.int .i64 (atN names s)) ∧ w = w' := by
 obtain ⟨D, h1, h2, h3, h4, h5⟩ := h
 have hh := h3 s
 by_cases hno : atN names s = -1
 ·rw [decide_eq_false (by simp [hno])] at hh
  have HH := Lib.hid hh
  have HN := Lib.hid hno
  clear hh hno h3 h4 h5
  go_enter Tryz.func75, Tryz.ntmps75
  go_wp2_with (first
   | (at_lookup; refine wpList_lookup_own_ok_int _ rfl _ _ 98 rfl 9 2 .i64 lawS Tryz.underlying98 Tryz.underlying2 (zeroI _) b names.length D rfl h1 _ _ rfl (keyS_of s hs) ?_; intro c hat hwc; rw [HH.out]))
  go_ret
  exact ⟨retI (by rw [HN.out]), rfl⟩
 ·rw [decide_eq_true hno] at hh
  have HH := Lib.hid hh
  have HA := Lib.hid (h4 s hno)
  clear hh hno h3 h4 h5
  go_enter Tryz.func75, Tryz.ntmps75
  go_wp2_with (first
   | (at_lookup; refine wpList_lookup_own_ok_int _ rfl _ _ 98 rfl 9 2 .i64 lawS Tryz.underlying98 Tryz.underlying2 (zeroI _) b names.length D rfl h1 _ _ rfl (keyS_of s hs) ?_; intro c hat hwc; rw [HH.out]))
  go_ret
  exact ⟨retI (by have := HA.out; rw [hat] at this; simpa using this), rfl⟩
theorem atGo_drop (nm : ByteArray) (names : List ByteArray) (k : Nat) (h : k < names.length) : atGo nm (names.drop k) k = if (names[k].toList == nm.toList) = true then (k : Int) else atGo nm (names.drop (k + 1)) (k + 1) := by
 rw [List.drop_eq_getElem_cons h]; rfl
theorem tb_name_le {s : List Tb} (hs : szL Tb.sz s ≤ 1048576) (k : Nat) (h : k < s.length) : s[k].name.size ≤ maxLen := by
 have := sum_mem_le Tb.sz s k h
 unfold szL at hs
 have h2 : s[k].name.size ≤ s[k].sz := by unfold Tb.sz; omega
 unfold maxLen; omega
theorem cl_name_le {s : List Cl} (hs : szL Cl.sz s ≤ 1048576) (k : Nat) (h : k < s.length) : s[k].name.size ≤ maxLen := by
 have := sum_mem_le Cl.sz s k h
 unfold szL at hs
 have h2 : s[k].name.size ≤ s[k].sz := by unfold Cl.sz; omega
 unfold maxLen; omega
set_option maxRecDepth 100000 in
set_option maxHeartbeats 1000000 in
theorem specL3At (A : Option Addr) (n c : Nat) (s : List Tb) (nm : ByteArray) (ok : Nat → Prop) (w : World) (h : Sl TbR 6 ok w A n s) (hn : n ≤ 1048576) :
  Calls Tryz.prog 45 #[.slice A n c, .string nm] w fun e w' => e = .returned (.int .i64 (atN (s.map Tb.name) nm)) ∧ Below w.heap.size w w' := by
 obtain rfl : s.length = n := h.1
 have hlen : (s.map Tb.name).length = s.length := by simp
 have HL := Lib.hid hlen
 clear hlen
 go_enter Tryz.func45, Tryz.ntmps45
 go_wp2
 go_loopw [5] (fun i wr => ∃ k : Nat, k ≤ s.length ∧ i = .int .i64 k ∧ Hid (atN (s.map Tb.name) nm = atGo nm ((s.map Tb.name).drop k) k) ∧ Below w.heap.size w wr) (fun i _ => s.length - (intOf i).toNat)
 case atStart => exact ⟨0, by omega, rfl, Lib.hid rfl, Below.refl _ _⟩
 case round =>
  obtain ⟨k, hk, rfl, hat, hb⟩ := hrel
  by_cases hlt : k < s.length
  ·obtain ⟨b, off, A1, n1, c1, A2, n2, c2, A3, n3, c3, A4, n4, c4, A5, n5, c5, -, rfl, q0, q1, q2, q3, q4, q5, -⟩ := TbR.at_ (h.below TbR.stays hb) hlt
   have hd := atGo_drop nm (s.map Tb.name) k (by rw [HL.out]; exact hlt)
   rw [List.getElem_map] at hd
   have i0 : (0 : Int) ≤ k := by omega
   have i1 : (k : Int) < s.length := by omega
   cases he : (s[k].name.toList == nm.toList)
   ·rw [he] at hd
    have HA := Lib.hid (hat.out.trans hd)
    clear hd hat
    go_wp2_with fail
    go_roundw
    case rel => exact ⟨k + 1, by omega, by go_num, Lib.hid (by simpa using HA.out), hb⟩
    case measure => simp [intOf]; omega
   ·rw [he] at hd
    have HA := Lib.hid (hat.out.trans hd)
    clear hd hat
    go_wp2_with fail
    go_ret
    exact ⟨retI (by simpa using HA.out.symm), hb⟩
  ·have e : (s.map Tb.name).drop k = [] := List.drop_eq_nil_of_le (by rw [HL.out]; omega)
   have h1 := hat.out
   rw [e] at h1
   have HA := Lib.hid h1
   clear h1 hat e
   go_wp2
   go_ret
   exact ⟨retI HA.out.symm, hb⟩
def MadePlaces (names : List ByteArray) (w : World) (e : Ending) (w' : World) : Prop := ∃ b, e = .returned (.map (some b)) ∧ PlacesIn w' b names ∧ w.heap.size ≤ b ∧ Below w.heap.size w w'
set_option maxRecDepth 100000 in
set_option maxHeartbeats 1000000 in
theorem implTablePlaces (A : Option Addr) (n c : Nat) (s : List Tb) (ok : Nat → Prop) (w : World) (h : Sl TbR 6 ok w A n s) (hs : szL Tb.sz s ≤ 1048576) :
  Calls Tryz.prog 50 #[.slice A n c] w (MadePlaces (s.map Tb.name) w) := by
 obtain rfl : s.length = n := h.1
 have hn : s.length ≤ 1048576 := by unfold szL at hs; omega
 have HS := Lib.hid hs
 clear hs
 have hmm := @run_makeMap Tryz.prog
 go_enter Tryz.func50, Tryz.ntmps50
 go_wp2
 have hm0 := PlacesIn.made w
 have hb0 := (Below.refl w.heap.size w).alloc (Nat.le_refl _) (.map #[] 0)
 generalize w.alloc (.map #[] 0) = x0 at *
 clear hmm
 go_loopw [9] (fun i wr => ∃ k : Nat, k ≤ s.length ∧ i = .int .i64 k ∧ PlacesIn wr w.heap.size ((s.map Tb.name).take k) ∧ Below w.heap.size w wr) (fun i _ => s.length - (intOf i).toNat)
 case atStart => exact ⟨0, by omega, rfl, hm0, hb0⟩
 case round =>
  obtain ⟨k, hk, rfl, hpl, hb⟩ := hrel
  by_cases hlt : k < s.length
  ·obtain ⟨b, off, A1, n1, c1, A2, n2, c2, A3, n3, c3, A4, n4, c4, A5, n5, c5, -, rfl, q0, q1, q2, q3, q4, q5, -⟩ := TbR.at_ (h.below TbR.stays hb) hlt
   have hl : ((s.map Tb.name).take k).length = k := by simp; omega
   have hsn : (s.map Tb.name).take (k + 1) = (s.map Tb.name).take k ++ [s[k].name] := by rw [List.take_succ_eq_append_getElem (by simpa using hlt)]; simp
   have hz := Lib.hid (tb_name_le HS.out k hlt)
   have HL := Lib.hid hl
   have HSN := Lib.hid hsn
   clear hl hsn
   have hpa := hpl.alloc (.cells #[.string s[k].name, .slice A1 n1 c1, .slice A2 n2 c2, .slice A3 n3 c3, .slice A4 n4 c4, .slice A5 n5 c5] 42)
   have hba := hb.alloc hb.size (.cells #[.string s[k].name, .slice A1 n1 c1, .slice A2 n2 c2, .slice A3 n3 c3, .slice A4 n4 c4, .slice A5 n5 c5] 42)
   go_wp2_with fail
   have hcall := implAddFirst w.heap.size _ s[k].name _ hpa hz.out (by rw [HL.out]; omega)
   rw [HL.out] at hcall
   refine hcall.mono ?_
   rintro e w1 ⟨rfl, hp1, hg1⟩
   clear hcall
   go_wp2_with fail
   go_roundw
   case rel => exact ⟨k + 1, by omega, by go_num, by rw [HSN.out]; exact hp1, hba.grown hg1 hba.size (fun j hj => by cases hj; exact Nat.le_refl _)⟩
   case measure => simp [intOf]; omega
  ·have e : (s.map Tb.name).take k = s.map Tb.name := List.take_of_length_le (by simp; omega)
   rw [e] at hpl
   clear e
   go_wp2
   go_ret
   exact ⟨_, rfl, hpl, Nat.le_refl _, hb⟩
theorem implTableAt (A : Option Addr) (n c : Nat) (s : List Tb) (nm : ByteArray) (ok : Nat → Prop) (w : World) (h : Sl TbR 6 ok w A n s) (hs : szL Tb.sz s ≤ 1048576) (hnm : nm.size ≤ maxLen) :
  Calls Tryz.prog 52 #[.slice A n c, .string nm] w fun e w' => e = .returned (.int .i64 (atN (s.map Tb.name) nm)) ∧ Below w.heap.size w w' := by
 go_enter Tryz.func52, Tryz.ntmps52
 go_wp2_with fail
 refine (implTablePlaces A n c s ok w h hs).mono ?_
 rintro e w1 ⟨b, rfl, hp, hb0, hb⟩
 go_wp2_with fail
 refine (implPlaceOf b _ nm _ hp hnm).mono ?_
 rintro e w2 ⟨rfl, rfl⟩
 go_wp2
 go_ret
 exact ⟨rfl, hb⟩
set_option maxRecDepth 100000 in
set_option maxHeartbeats 1000000 in
theorem implColPlaces (A : Option Addr) (n c : Nat) (s : List Cl) (ok : Nat → Prop) (w : World) (h : Sl ClR 6 ok w A n s) (hs : szL Cl.sz s ≤ 1048576) :
  Calls Tryz.prog 89 #[.slice A n c] w (MadePlaces (s.map Cl.name) w) := by
 obtain rfl : s.length = n := h.1
 have hn : s.length ≤ 1048576 := by unfold szL at hs; omega
 have HS := Lib.hid hs
 clear hs
 have hmm := @run_makeMap Tryz.prog
 go_enter Tryz.func89, Tryz.ntmps89
 go_wp2
 have hm0 := PlacesIn.made w
 have hb0 := (Below.refl w.heap.size w).alloc (Nat.le_refl _) (.map #[] 0)
 generalize w.alloc (.map #[] 0) = x0 at *
 clear hmm
 go_loopw [9] (fun i wr => ∃ k : Nat, k ≤ s.length ∧ i = .int .i64 k ∧ PlacesIn wr w.heap.size ((s.map Cl.name).take k) ∧ Below w.heap.size w wr) (fun i _ => s.length - (intOf i).toNat)
 case atStart => exact ⟨0, by omega, rfl, hm0, hb0⟩
 case round =>
  obtain ⟨k, hk, rfl, hpl, hb⟩ := hrel
  by_cases hlt : k < s.length
  ·obtain ⟨b, off, -, rfl, q0, q1, q2, q3, q4, q5⟩ := ClR.at_ (h.below ClR.stays hb) hlt
   have hl : ((s.map Cl.name).take k).length = k := by simp; omega
   have hsn : (s.map Cl.name).take (k + 1) = (s.map Cl.name).take k ++ [s[k].name] := by rw [List.take_succ_eq_append_getElem (by simpa using hlt)]; simp
   have hz := Lib.hid (cl_name_le HS.out k hlt)
   have HL := Lib.hid hl
   have HSN := Lib.hid hsn
   clear hl hsn
   have hpa := hpl.alloc (.cells #[.string s[k].name, .int .i64 s[k].kind, .bool s[k].nn, .int .i64 s[k].d.k, .int .i64 s[k].d.n, .string s[k].d.s] 68)
   have hba := hb.alloc hb.size (.cells #[.string s[k].name, .int .i64 s[k].kind, .bool s[k].nn, .int .i64 s[k].d.k, .int .i64 s[k].d.n, .string s[k].d.s] 68)
   go_wp2_with fail
   have hcall := implAddFirst w.heap.size _ s[k].name _ hpa hz.out (by rw [HL.out]; omega)
   rw [HL.out] at hcall
   refine hcall.mono ?_
   rintro e w1 ⟨rfl, hp1, hg1⟩
   clear hcall
   go_wp2_with fail
   go_roundw
   case rel => exact ⟨k + 1, by omega, by go_num, by rw [HSN.out]; exact hp1, hba.grown hg1 hba.size (fun j hj => by cases hj; exact Nat.le_refl _)⟩
   case measure => simp [intOf]; omega
  ·have e : (s.map Cl.name).take k = s.map Cl.name := List.take_of_length_le (by simp; omega)
   rw [e] at hpl
   clear e
   go_wp2
   go_ret
   exact ⟨_, rfl, hpl, Nat.le_refl _, hb⟩
set_option maxRecDepth 100000 in
set_option maxHeartbeats 1000000 in
theorem specColAt (A1 : Option Addr) (n1 c1 : Nat) (v0 v2 v3 v4 v5 : Value) (s : List Cl) (nm : ByteArray) (ok : Nat → Prop) (w : World) (h : Sl ClR 6 ok w A1 n1 s) (hn : n1 ≤ 1048576) :
  Calls Tryz.prog 64 #[.agg #[v0, .slice A1 n1 c1, v2, v3, v4, v5], .string nm] w fun e w' => e = .returned (.int .i64 (atN (s.map Cl.name) nm)) ∧ Below w.heap.size w w' := by
 obtain rfl : s.length = n1 := h.1
 have hlen : (s.map Cl.name).length = s.length := by simp
 have HL := Lib.hid hlen
 clear hlen
 have hb0 := (Below.refl w.heap.size w).alloc (Nat.le_refl _) (.cells #[v0, .slice A1 s.length c1, v2, v3, v4, v5] 42)
 have r0 := Row.new w 42 #[v0, .slice A1 s.length c1, v2, v3, v4, v5]
 go_enter Tryz.func64, Tryz.ntmps64
 go_wp2
 generalize w.alloc (.cells #[v0, .slice A1 s.length c1, v2, v3, v4, v5] 42) = x0 at *
 go_loopw [5] (fun i wr => ∃ k : Nat, k ≤ s.length ∧ i = .int .i64 k ∧ Hid (atN (s.map Cl.name) nm = atGo nm ((s.map Cl.name).drop k) k) ∧ x0 = wr) (fun i _ => s.length - (intOf i).toNat)
 case atStart => exact ⟨0, by omega, rfl, Lib.hid rfl, rfl⟩
 case round =>
  obtain ⟨k, hk, rfl, hat, rfl⟩ := hrel
  obtain ⟨⟨a0, a1, a2, a3, a4, a5⟩, -⟩ := r0.all6
  by_cases hlt : k < s.length
  ·obtain ⟨b, off, -, rfl, q0, q1, q2, q3, q4, q5⟩ := ClR.at_ (h.below ClR.stays hb0) hlt
   have hd := atGo_drop nm (s.map Cl.name) k (by rw [HL.out]; exact hlt)
   rw [List.getElem_map] at hd
   have i0 : (0 : Int) ≤ k := by omega
   have i1 : (k : Int) < s.length := by omega
   cases he : (s[k].name.toList == nm.toList)
   ·rw [he] at hd
    have HA := Lib.hid (hat.out.trans hd)
    clear hd hat
    go_wp2_with fail
    go_roundw
    case rel => exact ⟨k + 1, by omega, by go_num, Lib.hid (by simpa using HA.out), by first | trivial | rfl⟩
    case measure => simp [intOf]; omega
   ·rw [he] at hd
    have HA := Lib.hid (hat.out.trans hd)
    clear hd hat
    go_wp2_with fail
    go_ret
    exact ⟨retI (by simpa using HA.out.symm), hb0⟩
  ·have e : (s.map Cl.name).drop k = [] := List.drop_eq_nil_of_le (by rw [HL.out]; omega)
   have h1 := hat.out
   rw [e] at h1
   have HA := Lib.hid h1
   clear h1 hat e
   go_wp2
   go_ret
   exact ⟨retI HA.out.symm, hb0⟩
def lowC (c : UInt8) : Bool := decide (97 ≤ (c.toNat : Int)) && decide ((c.toNat : Int) ≤ 122)
def charsB (s : ByteArray) : Bool := s.data.toList.all lowC
def nameB (s : ByteArray) : Bool := charsB s && (decide (1 ≤ (s.size : Int)) && decide ((s.size : Int) ≤ 8))
theorem all_take {α : Type} (f : α → Bool) (l : List α) (k : Nat) (h : k < l.length) : (l.take (k + 1)).all f = ((l.take k).all f && f l[k]) := by
 rw [List.take_succ_eq_append_getElem h, List.all_append]; simp
theorem all_no {α : Type} (f : α → Bool) (l : List α) (k : Nat) (h : k < l.length) (hf : f l[k] = false) : l.all f = false := by
 rw [Bool.eq_false_iff]; intro ha
 have := List.all_eq_true.1 ha l[k] (List.getElem_mem h)
 rw [hf] at this; cases this
set_option maxHeartbeats 400000 in
theorem specName (s : ByteArray) (w : World) (hs : s.size ≤ maxLen) :
  Calls Tryz.prog 62 #[.string s] w fun e w' => e = .returned (.bool (nameB s)) ∧ w = w' := by
 unfold maxLen at hs
 go_enter Tryz.func62, Tryz.ntmps62
 go_wp2
 go_loop [3] (fun i => ∃ k : Nat, k ≤ s.size ∧ i = .int .i64 k ∧ Hid ((s.data.toList.take k).all lowC = true)) (fun i => s.size - (intOf i).toNat)
 case atStart => exact ⟨0, by omega, rfl, Lib.hid (by simp)⟩
 case round =>
  obtain ⟨k, hk, rfl, hall⟩ := hrel
  by_cases hlt : k < s.size
  ·have hl : k < s.data.toList.length := by simpa using hlt
   have hsn := all_take lowC s.data.toList k hl
   have hget : s.data.toList[k] = s[k] := by simp [ByteArray.getElem_eq_getElem_data]
   rw [hall.out, hget, Bool.true_and] at hsn
   by_cases h1 : (s[k].toNat : Int) < 97
   ·have HN := Lib.hid (show nameB s = false by
     unfold nameB charsB
     rw [all_no lowC _ k hl (by rw [hget]; unfold lowC; rw [decide_eq_false (by omega)]; rfl), Bool.false_and])
    clear hsn hget hall
    go_wp2
    go_ret
    exact ⟨retB HN.out.symm, rfl⟩
   by_cases h2 : 122 < (s[k].toNat : Int)
   ·have HN := Lib.hid (show nameB s = false by
     unfold nameB charsB
     rw [all_no lowC _ k hl (by rw [hget]; unfold lowC; rw [decide_eq_false (p := (s[k].toNat : Int) ≤ 122) (by omega), Bool.and_false]), Bool.false_and])
    have h1' : decide ((s[k].toNat : Int) < 97) = false := by simpa using h1
    clear hsn hget hall
    go_wp2
    go_ret
    exact ⟨retB HN.out.symm, rfl⟩
   ·have HA := Lib.hid (show (s.data.toList.take (k + 1)).all lowC = true by rw [hsn]; unfold lowC; rw [decide_eq_true (by omega), decide_eq_true (by omega)]; rfl)
    have h1' : decide ((s[k].toNat : Int) < 97) = false := by simpa using h1
    have h2' : decide (122 < (s[k].toNat : Int)) = false := by simpa using h2
    clear hsn hget hall
    go_wp2
    go_round
    case rel => exact ⟨k + 1, by omega, by go_num, HA⟩
    case measure => simp [intOf]; omega
  ·have e : s.data.toList.take k = s.data.toList := List.take_of_length_le (by simp; omega)
   have h1 := hall.out
   rw [e] at h1
   have HN := Lib.hid (show nameB s = (decide (1 ≤ (s.size : Int)) && decide ((s.size : Int) ≤ 8)) by unfold nameB charsB; rw [h1, Bool.true_and])
   clear h1 e hall
   go_wp2_with fail
   refine (specIn _ _ _ _).mono ?_
   rintro e w1 ⟨rfl, rfl⟩
   go_wp2
   go_ret
   exact ⟨retB HN.out.symm, rfl⟩
set_option maxHeartbeats 400000 in
theorem implIsName (s : ByteArray) (w : World) (hs : s.size ≤ maxLen) :
  Calls Tryz.prog 67 #[.string s] w fun e w' => e = .returned (.bool (nameB s)) ∧ w = w' := by
 unfold maxLen at hs
 by_cases hsm : (s.size : Int) < 1
 ·have HN := Lib.hid (show nameB s = false by unfold nameB; rw [decide_eq_false (p := 1 ≤ (s.size : Int)) (by omega), Bool.false_and, Bool.and_false])
  go_enter Tryz.func67, Tryz.ntmps67
  go_wp2
  go_ret
  exact ⟨retB HN.out.symm, rfl⟩
 have hsm' : decide ((s.size : Int) < 1) = false := by simpa using hsm
 by_cases hbig : 8 < (s.size : Int)
 ·have HN := Lib.hid (show nameB s = false by unfold nameB; rw [decide_eq_false (p := (s.size : Int) ≤ 8) (by omega), Bool.and_false, Bool.and_false])
  go_enter Tryz.func67, Tryz.ntmps67
  go_wp2
  go_ret
  exact ⟨retB HN.out.symm, rfl⟩
 have hbig' : decide (8 < (s.size : Int)) = false := by simpa using hbig
 have HSZ := Lib.hid (show (decide (1 ≤ (s.size : Int)) && decide ((s.size : Int) ≤ 8)) = true by rw [decide_eq_true (by omega), decide_eq_true (by omega)]; rfl)
 go_enter Tryz.func67, Tryz.ntmps67
 go_wp2
 go_loop [14] (fun i => ∃ k : Nat, k ≤ s.size ∧ i = .int .i64 k ∧ Hid ((s.data.toList.take k).all lowC = true)) (fun i => s.size - (intOf i).toNat)
 case atStart => exact ⟨0, by omega, rfl, Lib.hid (by simp)⟩
 case round =>
  obtain ⟨k, hk, rfl, hall⟩ := hrel
  by_cases hlt : k < s.size
  ·have hl : k < s.data.toList.length := by simpa using hlt
   have hsn := all_take lowC s.data.toList k hl
   have hget : s.data.toList[k] = s[k] := by simp [ByteArray.getElem_eq_getElem_data]
   rw [hall.out, hget, Bool.true_and] at hsn
   by_cases h1 : (s[k].toNat : Int) < 97
   ·have HN := Lib.hid (show nameB s = false by
     unfold nameB charsB
     rw [all_no lowC _ k hl (by rw [hget]; unfold lowC; rw [decide_eq_false (by omega)]; rfl), Bool.false_and])
    clear hsn hget hall
    go_wp2
    go_ret
    exact ⟨retB HN.out.symm, rfl⟩
   by_cases h2 : 122 < (s[k].toNat : Int)
   ·have HN := Lib.hid (show nameB s = false by
     unfold nameB charsB
     rw [all_no lowC _ k hl (by rw [hget]; unfold lowC; rw [decide_eq_false (p := (s[k].toNat : Int) ≤ 122) (by omega), Bool.and_false]), Bool.false_and])
    have h1' : decide ((s[k].toNat : Int) < 97) = false := by simpa using h1
    clear hsn hget hall
    go_wp2
    go_ret
    exact ⟨retB HN.out.symm, rfl⟩
   ·have HA := Lib.hid (show (s.data.toList.take (k + 1)).all lowC = true by rw [hsn]; unfold lowC; rw [decide_eq_true (by omega), decide_eq_true (by omega)]; rfl)
    have h1' : decide ((s[k].toNat : Int) < 97) = false := by simpa using h1
    have h2' : decide (122 < (s[k].toNat : Int)) = false := by simpa using h2
    clear hsn hget hall
    go_wp2
    go_round
    case rel => exact ⟨k + 1, by omega, by go_num, HA⟩
    case measure => simp [intOf]; omega
  ·have e : s.data.toList.take k = s.data.toList := List.take_of_length_le (by simp; omega)
   have h1 := hall.out
   rw [e] at h1
   have HN := Lib.hid (show nameB s = true by unfold nameB charsB; rw [h1, Bool.true_and]; exact HSZ.out)
   clear h1 e hall
   go_wp2
   go_ret
   exact ⟨retB HN.out.symm, rfl⟩
def hasB (l : List Int) (x : Int) : Bool := l.contains x
def colsGo (n : Int) (seen : List Int) : List Int → Bool
 | [] => true
 | x :: xs => (decide (0 ≤ x) && decide (x < n) && !hasB seen x) && colsGo n (seen ++ [x]) xs
def colsInB (l : List Int) (n : Int) : Bool := colsGo n [] l && decide (0 < l.length)
theorem colsGo_at (n : Int) (l : List Int) (k : Nat) (h : k < l.length) : colsGo n (l.take k) (l.drop k) = ((decide (0 ≤ l[k]) && decide (l[k] < n) && !hasB (l.take k) l[k]) && colsGo n (l.take (k + 1)) (l.drop (k + 1))) := by
 rw [List.drop_eq_getElem_cons h, List.take_succ_eq_append_getElem h]; rfl
theorem php : ∀ (n : Nat) (l : List Int), l.Nodup → (∀ x ∈ l, 0 ≤ x ∧ x < n) → l.length ≤ n
 | 0, l, _, h => by
  cases l with
  | nil => simp
  | cons x xs => have := h x (by simp); omega
 | n + 1, l, hd, h => by
  by_cases hm : (n : Int) ∈ l
  ·have h1 := php n (l.erase (n : Int)) (hd.erase _) fun x hx => by
    have hx' := (List.Nodup.mem_erase_iff hd).1 hx
    have := h x hx'.2
    have hne := hx'.1
    omega
   rw [List.length_erase_of_mem hm] at h1
   omega
  ·have h1 := php n l hd fun x hx => by
    have := h x hx
    have hne : x ≠ (n : Int) := fun e => hm (e ▸ hx)
    omega
   omega
theorem colsGo_nodup (n : Int) : ∀ (l seen : List Int), seen.Nodup → (∀ x ∈ seen, 0 ≤ x ∧ x < n) → colsGo n seen l = true → (seen ++ l).Nodup ∧ ∀ x ∈ seen ++ l, 0 ≤ x ∧ x < n
 | [], seen, h1, h2, _ => by simpa using ⟨h1, h2⟩
 | x :: xs, seen, h1, h2, h => by
  simp only [colsGo, Bool.and_eq_true, decide_eq_true_eq, Bool.not_eq_true'] at h
  obtain ⟨⟨⟨h3, h4⟩, h5⟩, h6⟩ := h
  have hn : x ∉ seen := by simpa [hasB] using h5
  have := colsGo_nodup n xs (seen ++ [x]) (by
   rw [List.nodup_append]
   refine ⟨h1, by simp, fun a ha b hb => ?_⟩
   rw [List.mem_singleton] at hb
   intro e; subst e; subst hb; exact hn ha) (by
   intro y hy
   rw [List.mem_append, List.mem_singleton] at hy
   rcases hy with hy | rfl
   ·exact h2 y hy
   ·exact ⟨h3, h4⟩) h6
  simpa using this
theorem colsInB_len {l : List Int} {n : Nat} (h : colsInB l n = true) : l.length ≤ n ∧ ∀ x ∈ l, 0 ≤ x ∧ x < n := by
 unfold colsInB at h
 rw [Bool.and_eq_true] at h
 have := colsGo_nodup n l [] (by simp) (by simp) h.1
 simp only [List.nil_append] at this
 exact ⟨php n l this.1 this.2, this.2⟩
theorem Sl.take {α : Type} {R : Rd α} {sz : Nat} {ok : Nat → Prop} {w : World} {A : Option Addr} {n m : Nat} {ds : List α} (h : Sl R sz ok w A n ds) (hm : m ≤ n) : Sl R sz ok w A m (ds.take m) := by
 have hl := h.1
 refine ⟨by simp; omega, fun h0 => ?_⟩
 obtain ⟨b, off, e, hb, hi⟩ := h.2 (by omega)
 refine ⟨b, off, e, hb, fun i hlt => ?_⟩
 simp only [List.length_take] at hlt
 obtain ⟨cs, h1, h2, h3⟩ := hi i (by omega)
 exact ⟨cs, h1, by rw [List.getElem_take]; exact h2, h3⟩
theorem contains_take (l : List Int) (x : Int) (k : Nat) (h : k < l.length) : hasB (l.take (k + 1)) x = (hasB (l.take k) x || l[k] == x) := by
 unfold hasB
 rw [List.take_succ_eq_append_getElem h, List.contains_eq_any_beq, List.any_append, List.contains_eq_any_beq]
 simp [Bool.beq_comm]
theorem specHas (A : Option Addr) (n c : Nat) (l : List Int) (x : Int) (ok : Nat → Prop) (w : World) (h : Sl IntR 1 ok w A n l) (hn : n ≤ 1048576) :
  Calls Tryz.prog 87 #[.slice A n c, .int .i64 x] w fun e w' => e = .returned (.bool (hasB l x)) ∧ w = w' := by
 obtain rfl : l.length = n := h.1
 go_enter Tryz.func87, Tryz.ntmps87
 go_wp2
 go_loop [5] (fun i => ∃ k : Nat, k ≤ l.length ∧ i = .int .i64 k ∧ Hid (hasB (l.take k) x = false)) (fun i => l.length - (intOf i).toNat)
 case atStart => exact ⟨0, by omega, rfl, Lib.hid rfl⟩
 case round =>
  obtain ⟨k, hk, rfl, hno⟩ := hrel
  by_cases hlt : k < l.length
  ·obtain ⟨b, off, -, rfl, q0⟩ := IntR.at_ h hlt
   have hs := contains_take l x k hlt
   rw [hno.out, Bool.false_or] at hs
   have i0 : (0 : Int) ≤ k := by omega
   have i1 : (k : Int) < l.length := by omega
   cases he : (l[k] == x)
   ·have HA := Lib.hid (hs.trans he)
    clear hs
    go_wp2
    go_round
    case rel => exact ⟨k + 1, by omega, by go_num, HA⟩
    case measure => simp [intOf]; omega
   ·have HA := Lib.hid (show hasB l x = true by
     have e : l[k] = x := by simpa using he
     unfold hasB; rw [List.contains_iff_mem]; exact e ▸ List.getElem_mem hlt)
    clear hs
    go_wp2
    go_ret
    exact ⟨retB HA.out.symm, rfl⟩
  ·have e : l.take k = l := List.take_of_length_le (by omega)
   have h1 := hno.out
   rw [e] at h1
   have HA := Lib.hid h1
   clear h1 e hno
   go_wp2
   go_ret
   exact ⟨retB HA.out.symm, rfl⟩
theorem Sl.drewN {α : Type} {R : Rd α} (hR : Stays R) {sz : Nat} {ok : Nat → Prop} {w : World} {A : Option Addr} {n : Nat} {ds : List α} (h : Sl R sz ok w A n ds) (m : Nat) : Sl R sz ok (w.drewN m) A n ds := h.stays hR (fun _ h => h) fun _ _ _ h => h
theorem below_drewN {B : Nat} {w w' : World} (h : Below B w w') (m : Nat) : Below B w (w'.drewN m) := ⟨h.os, h.tape, h.output, h.size, h.block⟩
theorem specInV {n lo hi : Int} {b : Bool} (h : (decide (lo ≤ n) && decide (n ≤ hi)) = b) (w : World) :
  Calls Tryz.prog 21 #[.int .i64 n, .int .i64 lo, .int .i64 hi] w fun e w' => e = .returned (.bool b) ∧ w' = w := (specIn n lo hi w).mono fun _ _ ⟨h1, h2⟩ => ⟨by rw [h1, h], h2.symm⟩
theorem specHasV {A : Option Addr} {n c : Nat} {l : List Int} {x : Int} {b : Bool} (hb : hasB l x = b) {ok : Nat → Prop} (w : World) (h : Sl IntR 1 ok w A n l) (hn : n ≤ 1048576) :
  Calls Tryz.prog 87 #[.slice A n c, .int .i64 x] w fun e w' => e = .returned (.bool b) ∧ w' = w := (specHas A n c l x ok w h hn).mono fun _ _ ⟨h1, h2⟩ => ⟨by rw [h1, hb], h2.symm⟩
set_option maxRecDepth 100000 in
set_option maxHeartbeats 1000000 in
theorem specCols (A : Option Addr) (n c : Nat) (l : List Int) (nc : Int) (ok : Nat → Prop) (w : World) (h : Sl IntR 1 ok w A n l) (hc : n ≤ c) (hn : n ≤ 1048576) (h0 : 0 ≤ nc) (h1 : nc ≤ 1048576) :
  Calls Tryz.prog 63 #[.slice A n c, .int .i64 nc] w fun e w' => e = .returned (.bool (colsInB l nc)) ∧ Below w.heap.size w w' := by
 obtain rfl : l.length = n := h.1
 have i2 : IntKind.i64.wrap (nc - 1) = nc - 1 := IntWalk.i64_in _ (by omega)
 go_enter Tryz.func63, Tryz.ntmps63
 go_wp2
 go_loopw [5] (fun i wr => ∃ k : Nat, k ≤ l.length ∧ i = .int .i64 k ∧ Hid (colsGo nc [] l = colsGo nc (l.take k) (l.drop k)) ∧ Below w.heap.size w wr) (fun i _ => l.length - (intOf i).toNat)
 case atStart => exact ⟨0, by omega, rfl, Lib.hid (by simp), Below.refl _ _⟩
 case round =>
  obtain ⟨k, hk, rfl, hgo, hb⟩ := hrel
  by_cases hlt : k < l.length
  ·have hw := h.below IntR.stays hb
   obtain ⟨b, off, -, rfl, q0⟩ := IntR.at_ hw hlt
   have ht := hw.take (m := k) (by omega)
   have hs := colsGo_at nc l k hlt
   have i0 : (0 : Int) ≤ k := by omega
   have i1 : (k : Int) < l.length := by omega
   have i3 : (k : Int) ≤ c := by omega
   cases hin : (decide (0 ≤ l[k]) && decide (l[k] ≤ nc - 1))
   ·have HI := Lib.hid hin
    have HF := Lib.hid (show colsInB l nc = false by
     unfold colsInB
     rw [hgo.out, hs, show (decide (0 ≤ l[k]) && decide (l[k] < nc)) = false by
      rw [← hin]; congr 1; rw [decide_eq_decide]; omega]
     simp)
    clear hs hin
    go_wp2_with fail
    go_quiet ((go_at_call 21; exact Calls.quiet_of_same (specInV HI.out _)))
    go_wp2
    go_ret
    exact ⟨retB HF.out.symm, below_drewN hb _⟩
   ·have HI := Lib.hid hin
    have hin2 : (decide (0 ≤ l[k]) && decide (l[k] < nc)) = true := by
     rw [← hin]; congr 1; rw [decide_eq_decide]; omega
    rw [hin2, Bool.true_and] at hs
    cases hhas : hasB (l.take k) l[k]
    ·rw [hhas] at hs
     have HH := Lib.hid hhas
     have HG := Lib.hid (hgo.out.trans hs)
     clear hs hin hhas hgo hin2
     go_wp2_with fail
     go_quiet ((first | (go_at_call 21; exact Calls.quiet_of_same (specInV HI.out _)) | (go_at_call 87; exact Calls.quiet_of_same (specHasV HH.out _ (ht.drewN IntR.stays _) (by omega)))))
     go_wp2
     go_roundw
     case rel => exact ⟨k + 1, by omega, by go_num, Lib.hid (by simpa using HG.out), below_drewN hb _⟩
     case measure => simp [intOf]; omega
    ·rw [hhas] at hs
     have HH := Lib.hid hhas
     have HF := Lib.hid (show colsInB l nc = false by unfold colsInB; rw [hgo.out, hs]; simp)
     clear hs hin hhas hgo hin2
     go_wp2_with fail
     go_quiet ((first | (go_at_call 21; exact Calls.quiet_of_same (specInV HI.out _)) | (go_at_call 87; exact Calls.quiet_of_same (specHasV HH.out _ (ht.drewN IntR.stays _) (by omega)))))
     go_wp2
     go_ret
     exact ⟨retB HF.out.symm, below_drewN hb _⟩
  ·have e1 : l.take k = l := List.take_of_length_le (by omega)
   have e2 : l.drop k = [] := List.drop_eq_nil_of_le (by omega)
   have hg := hgo.out
   rw [e1, e2] at hg
   have HA := Lib.hid (show colsInB l nc = decide (0 < l.length) by
    unfold colsInB; rw [hg]; simp [colsGo])
   clear hg e1 e2 hgo
   go_wp2
   go_ret
   exact ⟨retB HA.out.symm, hb⟩
def MetIn (w : World) (b n : Nat) (l : List Int) : Prop := ∃ D : DataW Unit, w.ownsMap Tryz.prog 2 (plainElem Tryz.prog 4) b n D ∧ IsMap D ∧ ∀ x : Int, D.atKey (.int .i64 x) (.lit (.bool false)) = .lit (.bool (hasB l x))
theorem MetIn.made (w : World) : MetIn (w.alloc (.map #[] 0)) w.heap.size 0 [] := ⟨.map [], World.ownsMap_made _ _ _ _, isMap_empty, fun x => by simp [DataW.atKey, hasB]⟩
theorem lawI : Keyed Tryz.prog 2 := int_keyed Tryz.underlying2
theorem zeroB' (w : World) : (zeroValue 4).run Tryz.prog w = .ok (.bool false) w := by kernel_rfl
theorem plainElem_bool_inv {P : Program} {e : TypeId} (he : P.underlying e = some .bool) {v : Value} {z : DataW Unit × List MemPlace} (h : plainElem P e v = some z) : ∃ x, v = .bool x ∧ z = (.lit (.bool x), []) := by
 unfold plainElem at h
 rw [he] at h
 cases v <;> simp at h
 exact ⟨_, rfl, h.symm⟩
theorem MetIn.look {w : World} {b n : Nat} {l : List Int} (h : MetIn w b n l) {x : Int} (hw : (Lit.int .i64 x).wf = true) : (Instr.lookup 147 (.map (some b)) (.int .i64 x) false).run Tryz.prog w = .ok (.bool (hasB l x)) w := by
 obtain ⟨D, h1, h2, h3⟩ := h
 obtain ⟨v, ps, hrun, hv⟩ := h1.lookup lawI Tryz.underlying147 (zeroB' w) (plainElem_bool Tryz.underlying4 false) (keyOf_int_mk Tryz.underlying2 hw)
 obtain ⟨y, rfl, hy⟩ := plainElem_bool_inv Tryz.underlying4 hv
 simp only [Prod.mk.injEq] at hy
 rw [h3 x] at hy
 have : hasB l x = y := by simpa using hy.1
 rw [this]; exact hrun
theorem implIsPlace (p nc : Int) (w : World) : Calls Tryz.prog 18 #[.int .i64 p, .int .i64 nc] w fun e w' => e = .returned (.bool (decide (0 ≤ p) && decide (p < nc))) ∧ w = w' := by
 by_cases h : 0 ≤ p
 ·go_enter Tryz.func18, Tryz.ntmps18
  go_wp2
  go_ret
  exact ⟨retB (by simp [h]), rfl⟩
 ·have h' : decide (0 ≤ p) = false := by simpa using h
  go_enter Tryz.func18, Tryz.ntmps18
  go_wp2
  go_ret
  exact ⟨retB (by simp), rfl⟩
theorem IsMap.key_int (x : Int) : WideAt.IsKeyLit (.int .i64 x) := by first | trivial | (simp [WideAt.IsKeyLit]) | (unfold WideAt.IsKeyLit; trivial)
set_option maxRecDepth 100000 in
set_option maxHeartbeats 1000000 in
theorem implAreColumns (A : Option Addr) (n c : Nat) (l : List Int) (nc : Nat) (ok : Nat → Prop) (w : World) (h : Sl IntR 1 ok w A n l) (hn : n ≤ 1048576) (h1 : nc ≤ 1048576) :
  Calls Tryz.prog 90 #[.slice A n c, .int .i64 nc] w fun e w' => e = .returned (.bool (colsInB l nc)) ∧ Below w.heap.size w w' := by
 obtain rfl : l.length = n := h.1
 by_cases hsm : (l.length : Int) < 1
 ·have HF := Lib.hid (show colsInB l nc = false by unfold colsInB; rw [decide_eq_false (p := 0 < l.length) (by omega), Bool.and_false])
  go_enter Tryz.func90, Tryz.ntmps90
  go_wp2
  go_ret
  exact ⟨retB HF.out.symm, Below.refl _ _⟩
 have hsm' : decide ((l.length : Int) < 1) = false := by simpa using hsm
 by_cases hbig : nc < l.length
 ·have HF := Lib.hid (show colsInB l nc = false by
   rw [Bool.eq_false_iff]; intro e
   have := (colsInB_len e).1; omega)
  have hbig' : decide ((nc : Int) < (l.length : Int)) = true := by simpa using hbig
  have hbig2 : decide (nc < l.length) = true := by simpa using hbig
  go_enter Tryz.func90, Tryz.ntmps90
  go_wp2
  go_ret
  exact ⟨retB HF.out.symm, Below.refl _ _⟩
 have hbig' : decide ((nc : Int) < (l.length : Int)) = false := by simpa using hbig
 have hbig2 : decide (nc < l.length) = false := by simpa using hbig
 have hmm := @run_makeMap Tryz.prog
 go_enter Tryz.func90, Tryz.ntmps90
 go_wp2
 have hm0 := MetIn.made w
 have hb0 := (Below.refl w.heap.size w).alloc (Nat.le_refl _) (.map #[] 0)
 generalize w.alloc (.map #[] 0) = x0 at *
 clear hmm
 go_loopw [20] (fun i wr => ∃ k : Nat, k ≤ l.length ∧ i = .int .i64 k ∧ MetIn wr w.heap.size k (l.take k) ∧ Hid (colsGo nc [] l = colsGo nc (l.take k) (l.drop k)) ∧ Below w.heap.size w wr) (fun i _ => l.length - (intOf i).toNat)
 case atStart => exact ⟨0, by omega, rfl, hm0, Lib.hid (by simp), hb0⟩
 case round =>
  obtain ⟨k, hk, rfl, hmet, hgo, hb⟩ := hrel
  by_cases hlt : k < l.length
  ·obtain ⟨b, off, -, rfl, q0⟩ := IntR.at_ (h.below IntR.stays hb) hlt
   have hs := colsGo_at nc l k hlt
   have i0 : (0 : Int) ≤ k := by omega
   have i1 : (k : Int) < l.length := by omega
   cases hin : (decide (0 ≤ l[k]) && decide (l[k] < nc))
   ·have HI := Lib.hid hin
    have HF := Lib.hid (show colsInB l nc = false by unfold colsInB; rw [hgo.out, hs, hin]; simp)
    clear hs hin
    go_wp2_with fail
    refine (implIsPlace _ _ _).mono ?_
    rintro e w1 ⟨rfl, rfl⟩
    rw [HI.out]
    go_wp2
    go_ret
    exact ⟨retB HF.out.symm, hb⟩
   ·have HI := Lib.hid hin
    have hwf : (Lit.int .i64 l[k]).wf = true := WalkArith.wf_i64 (by rw [Bool.and_eq_true, decide_eq_true_eq, decide_eq_true_eq] at hin; omega)
    have hlk := hmet.look hwf
    rw [hin, Bool.true_and] at hs
    cases hhas : hasB (l.take k) l[k]
    ·rw [hhas] at hs hlk
     have HG := Lib.hid (hgo.out.trans hs)
     have HH := Lib.hid hhas
     obtain ⟨D, m1, m2, m3⟩ := hmet
     have M3 := Lib.hid m3
     have hval := plainElem_bool (H := Unit) Tryz.underlying4 true
     clear hs hin hhas hgo m3
     go_wp2_with fail
     refine (implIsPlace _ _ _).mono ?_
     rintro e w1 ⟨rfl, rfl⟩
     rw [HI.out]
     go_wp2_with (first
      | (at_mapUpdate; refine wpList_mapUpdate_own _ rfl _ _ _ 147 rfl 2 4 lawI Tryz.underlying147 _ w.heap.size k D rfl m1 (by unfold maxLen; omega) _ _ _ rfl rfl (keyOf_int_mk Tryz.underlying2 hwf) _ [] hval ?_; intro w1 hown1 hgrow1))
     go_roundw
     case rel =>
      refine ⟨k + 1, by omega, by go_num, ⟨_, hown1, m2.put _ _, fun x => ?_⟩, Lib.hid (by simpa using HG.out), hb.grown hgrow1 hb.size (fun j hj => by cases hj; exact Nat.le_refl _)⟩
      rw [contains_take l x k hlt]
      by_cases e : (Lit.int .i64 x) = .int .i64 l[k]
      ·have e2 : x = l[k] := by injection e
       rw [e, Maps.atKey_put_same m2 (IsMap.key_int _), e2]
       simp
      ·rw [Maps.atKey_put_other e, M3.out x]
       have e2 : (l[k] == x) = false := by
        rw [beq_eq_false_iff_ne]; intro h; exact e (by rw [h])
       rw [e2, Bool.or_false]
     case measure => simp [intOf]; omega
    ·rw [hhas] at hs hlk
     have HF := Lib.hid (show colsInB l nc = false by unfold colsInB; rw [hgo.out, hs]; simp)
     clear hs hin hhas hgo
     go_wp2_with fail
     refine (implIsPlace _ _ _).mono ?_
     rintro e w1 ⟨rfl, rfl⟩
     rw [HI.out]
     go_wp2
     go_ret
     exact ⟨retB HF.out.symm, hb⟩
  ·have e1 : l.take k = l := List.take_of_length_le (by omega)
   have e2 : l.drop k = [] := List.drop_eq_nil_of_le (by omega)
   have hg := hgo.out
   rw [e1, e2] at hg
   have HA := Lib.hid (show colsInB l nc = true by unfold colsInB; rw [hg, decide_eq_true (by omega)]; rfl)
   clear hg e1 e2 hgo
   go_wp2
   go_ret
   exact ⟨retB HA.out.symm, hb⟩
end Go.Proofs.YteiifabdbkpkiaaGreat
