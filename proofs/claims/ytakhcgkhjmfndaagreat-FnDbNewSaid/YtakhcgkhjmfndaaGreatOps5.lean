/-
  Contracts on the ops of expressions, of the program: sums, nots, nulls.
-/
import Derived.Test.YtakhcgkhjmfndaaGreatOps4
namespace Go.Proofs.YtakhcgkhjmfndaaGreat
open Go.RowKit

set_option maxHeartbeats 1000000 in
theorem implAdded (a b : Vl) (sg : Int) (w : World) (ha : a.ok = true) (hb : b.ok = true) (hsg : sg = 1 ∨ sg = -1) :
    Calls Tryz.prog 99 #[.agg #[.int .i64 a.k, .int .i64 a.n, .string a.s], .agg #[.int .i64 b.k, .int .i64 b.n, .string b.s], .int .i64 sg] w (OptPost (sumVl a b sg) w) := by
  obtain ⟨ra, rb, rr, hb0⟩ := boxes3 w a b 57
  have ka := Vl.kinds ha
  have kb := Vl.kinds hb
  clear ha hb
  obtain ⟨k, n, s⟩ := a
  obtain ⟨k', n', s'⟩ := b
  simp only at ka kb ra rb rr hb0
  by_cases a2 : k = 2
  · subst a2
    have HV := Lib.hid (show sumVl ⟨2, n, s⟩ ⟨k', n', s'⟩ sg = none by simp [sumVl])
    go_enter Tryz.func99, Tryz.ntmps99
    go_wp2
    exact bodyPost_ret (v := .tuple #[.agg #[.int .i64 0, .int .i64 0, .string ⟨#[]⟩], .bool false]) (by simp [results, Tryz.results99, go_sem]) rfl ⟨Vl.zero, by rw [HV.out]; rfl, by rw [HV.out]; simp, ((((Below.refl _ _).alloc (Nat.le_refl _) _).alloc (by simp) _).alloc (by simp; omega) _)⟩
  have a2' : (k == 2) = false := by simpa using a2
  by_cases b2 : k' = 2
  · subst b2
    have HV := Lib.hid (show sumVl ⟨k, n, s⟩ ⟨2, n', s'⟩ sg = none by simp [sumVl])
    go_enter Tryz.func99, Tryz.ntmps99
    go_wp2
    exact bodyPost_ret (v := .tuple #[.agg #[.int .i64 0, .int .i64 0, .string ⟨#[]⟩], .bool false]) (by simp [results, Tryz.results99, go_sem]) rfl ⟨Vl.zero, by rw [HV.out]; rfl, by rw [HV.out]; simp, ((((Below.refl _ _).alloc (Nat.le_refl _) _).alloc (by simp) _).alloc (by simp; omega) _)⟩
  have b2' : (k' == 2) = false := by simpa using b2
  by_cases a0 : k = 0
  · subst a0
    have HV := Lib.hid (show sumVl ⟨0, n, s⟩ ⟨k', n', s'⟩ sg = some Vl.zero by simp [sumVl, b2])
    go_enter Tryz.func99, Tryz.ntmps99
    go_wp2
    exact bodyPost_ret (v := .tuple #[.agg #[.int .i64 0, .int .i64 0, .string ⟨#[]⟩], .bool true]) (by simp [results, Tryz.results99, go_sem]) rfl ⟨Vl.zero, by rw [HV.out]; rfl, by rw [HV.out]; simp, ((((Below.refl _ _).alloc (Nat.le_refl _) _).alloc (by simp) _).alloc (by simp; omega) _)⟩
  have a0' : (k == 0) = false := by simpa using a0
  by_cases b0 : k' = 0
  · subst b0
    have HV := Lib.hid (show sumVl ⟨k, n, s⟩ ⟨0, n', s'⟩ sg = some Vl.zero by simp [sumVl, a2])
    go_enter Tryz.func99, Tryz.ntmps99
    go_wp2
    exact bodyPost_ret (v := .tuple #[.agg #[.int .i64 0, .int .i64 0, .string ⟨#[]⟩], .bool true]) (by simp [results, Tryz.results99, go_sem]) rfl ⟨Vl.zero, by rw [HV.out]; rfl, by rw [HV.out]; simp, ((((Below.refl _ _).alloc (Nat.le_refl _) _).alloc (by simp) _).alloc (by simp; omega) _)⟩
  have b0' : (k' == 0) = false := by simpa using b0
  obtain ⟨s1, s2⟩ := sum_wraps (x := n) (y := n') (sg := sg) (by omega) (by omega) hsg
  have HV := Lib.hid (show sumVl ⟨k, n, s⟩ ⟨k', n', s'⟩ sg = if -1000000000 ≤ n + sg * n' ∧ n + sg * n' ≤ 1000000000 then some ⟨1, n + sg * n', ⟨#[]⟩⟩ else none by simp [sumVl, a2, b2, a0, b0])
  by_cases hm : -1000000000 ≤ n + sg * n' ∧ n + sg * n' ≤ 1000000000
  · have HR := Lib.hid (show (decide (-1000000000 ≤ n + sg * n') && decide (n + sg * n' ≤ 1000000000)) = true by simp [hm.1, hm.2])
    have HN := Lib.hid (HV.out.trans (if_pos hm))
    clear hm HV
    go_enter Tryz.func99, Tryz.ntmps99
    go_wp2_with fail
    generalize n + sg * n' = m at *
    generalize ((w.alloc (.cells #[.int .i64 k, .int .i64 n, .string s] 57)).alloc (.cells #[.int .i64 k', .int .i64 n', .string s'] 57)).alloc (.cells #[.int .i64 0, .int .i64 0, .string ⟨#[]⟩] 57) = x at *
    refine (rightNum _ _).mono ?_
    rintro e w1 ⟨rfl, rfl⟩
    rw [HR.out]
    have S2 := Lib.hid s2
    clear s1 s2
    go_wp2_with fail
    refine (implValOfNum _ _).mono ?_
    rintro e w2 ⟨rfl, hb2⟩
    have hz := hb0.trans (hb2.mono hb0.size)
    obtain ⟨⟨z0, z1, z2⟩, ⟨z3, z4, z5⟩⟩ := (rr.below hb2).three
    clear ra rb rr
    go_wp2_with fail
    refine bodyPost_ret (v := .tuple #[.agg #[.int .i64 1, .int .i64 m, .string ⟨#[]⟩], .bool true]) (by simp [results, Tryz.results99, go_sem, z0, z1, z2, S2.out]) rfl ⟨⟨1, m, ⟨#[]⟩⟩, by rw [HN.out]; rfl, by rw [HN.out]; simp, ?_⟩
    repeat (first | with_reducible exact hz | with_reducible refine Below.drew ?_ | with_reducible refine Below.setCell ?_ (by simp; omega) _ | with_reducible refine Below.setCell ?_ (by simp) _)
  · have HR := Lib.hid (show (decide (-1000000000 ≤ n + sg * n') && decide (n + sg * n' ≤ 1000000000)) = false by simp; omega)
    have HN := Lib.hid (HV.out.trans (if_neg hm))
    clear hm HV
    go_enter Tryz.func99, Tryz.ntmps99
    go_wp2_with fail
    generalize n + sg * n' = m at *
    generalize ((w.alloc (.cells #[.int .i64 k, .int .i64 n, .string s] 57)).alloc (.cells #[.int .i64 k', .int .i64 n', .string s'] 57)).alloc (.cells #[.int .i64 0, .int .i64 0, .string ⟨#[]⟩] 57) = x at *
    refine (rightNum _ _).mono ?_
    rintro e w1 ⟨rfl, rfl⟩
    rw [HR.out]
    clear s1 s2
    obtain ⟨⟨z0, z1, z2⟩, ⟨z3, z4, z5⟩⟩ := rr.three
    have hz := hb0
    clear ra rb rr
    go_wp2_with fail
    refine bodyPost_ret (v := .tuple #[.agg #[.int .i64 0, .int .i64 0, .string ⟨#[]⟩], .bool false]) (by simp [results, Tryz.results99, go_sem, z0, z1, z2]) rfl ⟨Vl.zero, by rw [HN.out]; rfl, by rw [HN.out]; simp, ?_⟩
    repeat (first | with_reducible exact hz | with_reducible refine Below.drew ?_ | with_reducible refine Below.setCell ?_ (by simp; omega) _ | with_reducible refine Below.setCell ?_ (by simp) _)

set_option maxHeartbeats 1000000 in
theorem implSumOf (b off cap : Nat) (x y : Vl) (w : World) (h : Six w b off x y) (hx : x.ok = true) (hy : y.ok = true) :
    Calls Tryz.prog 81 #[.slice (some ⟨b, off, none⟩) 2 cap] w (OptPost (op2 9 x y) w) := by
  have HV := Lib.hid (show op2 9 x y = sumVl x y 1 by simp [op2])
  have hb0 := (Below.refl w.heap.size w).alloc (Nat.le_refl _) (.cells #[.int .i64 0, .int .i64 0, .string ⟨#[]⟩] 57)
  have rr := Row.new w 57 #[.int .i64 0, .int .i64 0, .string ⟨#[]⟩]
  have hne : w.heap.size ≠ b := Nat.ne_of_gt (cell_lt h.1)
  obtain ⟨c0, c1, c2, d0, d1, d2⟩ := keep6 h hb0
  clear h
  go_enter Tryz.func81, Tryz.ntmps81
  go_wp2_with fail
  generalize w.alloc (.cells #[.int .i64 0, .int .i64 0, .string ⟨#[]⟩] 57) = u at *
  have RR := Lib.hid rr
  clear rr
  go_region_held3 (fun w' => w'.cell? ⟨b, off, none⟩ = some (.int .i64 x.k) ∧ w'.cell? ⟨b, off + 1, none⟩ = some (.int .i64 x.n) ∧ w'.cell? ⟨b, off + 2, none⟩ = some (.string x.s) ∧ w'.cell? ⟨b, off + 3, none⟩ = some (.int .i64 y.k) ∧ w'.cell? ⟨b, off + 3 + 1, none⟩ = some (.int .i64 y.n) ∧ w'.cell? ⟨b, off + 3 + 2, none⟩ = some (.string y.s))
    (first | go_keep | with_reducible exact keep6s hne (by assumption) | exact keep6 (by assumption) hbZ)
    (first | (go_at_call 99; refine (implAdded x y 1 _ hx hy (by omega)).mono ?_; rintro e yZ ⟨v, rfl, hv, hbZ⟩; have HW := Lib.hid hv; clear hv; obtain ⟨⟨z0, z1, z2⟩, ⟨z3, z4, z5⟩⟩ := (RR.out.drew.below hbZ).three))
  go_wp2
  have hz := hb0.drew.trans (hbZ.mono hb0.size)
  refine bodyPost_ret (v := .tuple #[.agg #[.int .i64 v.k, .int .i64 v.n, .string v.s], .bool (sumVl x y 1).isSome]) (by simp [results, Tryz.results81, go_sem, z0, z1, z2]) rfl ⟨v, by rw [HV.out], by rw [HV.out]; exact HW.out, ?_⟩
  repeat (first | with_reducible exact hz | with_reducible refine Below.drew ?_ | with_reducible refine Below.setCell ?_ (by simp; omega) _ | with_reducible refine Below.setCell ?_ (by simp) _)

set_option maxHeartbeats 1000000 in
theorem implDifferenceOf (b off cap : Nat) (x y : Vl) (w : World) (h : Six w b off x y) (hx : x.ok = true) (hy : y.ok = true) :
    Calls Tryz.prog 82 #[.slice (some ⟨b, off, none⟩) 2 cap] w (OptPost (op2 10 x y) w) := by
  have HV := Lib.hid (show op2 10 x y = sumVl x y (-1) by simp [op2])
  have hb0 := (Below.refl w.heap.size w).alloc (Nat.le_refl _) (.cells #[.int .i64 0, .int .i64 0, .string ⟨#[]⟩] 57)
  have rr := Row.new w 57 #[.int .i64 0, .int .i64 0, .string ⟨#[]⟩]
  have hne : w.heap.size ≠ b := Nat.ne_of_gt (cell_lt h.1)
  obtain ⟨c0, c1, c2, d0, d1, d2⟩ := keep6 h hb0
  clear h
  go_enter Tryz.func82, Tryz.ntmps82
  go_wp2_with fail
  generalize w.alloc (.cells #[.int .i64 0, .int .i64 0, .string ⟨#[]⟩] 57) = u at *
  have RR := Lib.hid rr
  clear rr
  go_region_held3 (fun w' => w'.cell? ⟨b, off, none⟩ = some (.int .i64 x.k) ∧ w'.cell? ⟨b, off + 1, none⟩ = some (.int .i64 x.n) ∧ w'.cell? ⟨b, off + 2, none⟩ = some (.string x.s) ∧ w'.cell? ⟨b, off + 3, none⟩ = some (.int .i64 y.k) ∧ w'.cell? ⟨b, off + 3 + 1, none⟩ = some (.int .i64 y.n) ∧ w'.cell? ⟨b, off + 3 + 2, none⟩ = some (.string y.s))
    (first | go_keep | with_reducible exact keep6s hne (by assumption) | exact keep6 (by assumption) hbZ)
    (first | (go_at_call 99; refine (implAdded x y (-1) _ hx hy (by omega)).mono ?_; rintro e yZ ⟨v, rfl, hv, hbZ⟩; have HW := Lib.hid hv; clear hv; obtain ⟨⟨z0, z1, z2⟩, ⟨z3, z4, z5⟩⟩ := (RR.out.drew.below hbZ).three))
  go_wp2
  have hz := hb0.drew.trans (hbZ.mono hb0.size)
  refine bodyPost_ret (v := .tuple #[.agg #[.int .i64 v.k, .int .i64 v.n, .string v.s], .bool (sumVl x y (-1)).isSome]) (by simp [results, Tryz.results82, go_sem, z0, z1, z2]) rfl ⟨v, by rw [HV.out], by rw [HV.out]; exact HW.out, ?_⟩
  repeat (first | with_reducible exact hz | with_reducible refine Below.drew ?_ | with_reducible refine Below.setCell ?_ (by simp; omega) _ | with_reducible refine Below.setCell ?_ (by simp) _)

set_option maxHeartbeats 1000000 in
theorem implNotOf (b off cap : Nat) (x : Vl) (w : World) (h : Tri w b off x) (hx : x.ok = true) :
    Calls Tryz.prog 79 #[.slice (some ⟨b, off, none⟩) 1 cap] w (OptPost (op1 7 x) w) := by
  have HV := Lib.hid (show op1 7 x = asOpt (not3 (truOf x)) by simp [op1])
  have hb0 := (Below.refl w.heap.size w).alloc (Nat.le_refl _) (.cells #[.int .i64 0, .int .i64 0, .string ⟨#[]⟩] 57)
  have rr := Row.new w 57 #[.int .i64 0, .int .i64 0, .string ⟨#[]⟩]
  obtain ⟨c0, c1, c2⟩ := keep3 h hb0
  clear h
  go_enter Tryz.func79, Tryz.ntmps79
  go_wp2_with fail
  generalize w.alloc (.cells #[.int .i64 0, .int .i64 0, .string ⟨#[]⟩] 57) = u at *
  refine (implTruthOf x _ hx).mono ?_
  rintro e y1 ⟨rfl, hb1⟩
  have hz1 := hb0.trans (hb1.mono hb0.size)
  have rr1 := rr.below hb1
  clear rr
  go_wp2_with fail
  refine (implNot3 _ _).mono ?_
  rintro e y2 ⟨rfl, rfl⟩
  go_wp2_with fail
  refine (implTruthVal _ _ (not3_rng _)).mono ?_
  rintro e y2 ⟨v, rfl, hv, hb2⟩
  have HW := Lib.hid hv
  have hz := hz1.trans (hb2.mono hz1.size)
  obtain ⟨⟨z0, z1, z2⟩, ⟨z3, z4, z5⟩⟩ := (rr1.below hb2).three
  clear hv rr1
  go_wp2_with fail
  refine bodyPost_ret (v := .tuple #[.agg #[.int .i64 v.k, .int .i64 v.n, .string v.s], .bool (asOpt (not3 (truOf x))).isSome]) (by simp [results, Tryz.results79, go_sem, z0, z1, z2]) rfl ⟨v, by rw [HV.out], by rw [HV.out]; exact HW.out, ?_⟩
  repeat (first | with_reducible exact hz | with_reducible refine Below.drew ?_ | with_reducible refine Below.setCell ?_ (by simp; omega) _ | with_reducible refine Below.setCell ?_ (by simp) _)

set_option maxHeartbeats 1000000 in
theorem implNullOf (b off cap : Nat) (x : Vl) (w : World) (h : Tri w b off x) :
    Calls Tryz.prog 80 #[.slice (some ⟨b, off, none⟩) 1 cap] w (OptPost (op1 8 x) w) := by
  have HV := Lib.hid (show op1 8 x = asOpt (yes (x.k == 0)) by simp [op1])
  have hb0 := (Below.refl w.heap.size w).alloc (Nat.le_refl _) (.cells #[.int .i64 0, .int .i64 0, .string ⟨#[]⟩] 57)
  have rr := Row.new w 57 #[.int .i64 0, .int .i64 0, .string ⟨#[]⟩]
  obtain ⟨c0, c1, c2⟩ := keep3 h hb0
  clear h
  go_enter Tryz.func80, Tryz.ntmps80
  go_wp2_with fail
  generalize w.alloc (.cells #[.int .i64 0, .int .i64 0, .string ⟨#[]⟩] 57) = u at *
  refine (implTruthIf _ _).mono ?_
  rintro e y1 ⟨rfl, rfl⟩
  go_wp2_with fail
  refine (implTruthVal _ _ (by rcases yes01 (x.k == 0) with h | h <;> simp [h])).mono ?_
  rintro e y2 ⟨v, rfl, hv, hb2⟩
  have HW := Lib.hid hv
  have hz := hb0.trans (hb2.mono hb0.size)
  obtain ⟨⟨z0, z1, z2⟩, ⟨z3, z4, z5⟩⟩ := (rr.below hb2).three
  clear hv rr
  go_wp2_with fail
  refine bodyPost_ret (v := .tuple #[.agg #[.int .i64 v.k, .int .i64 v.n, .string v.s], .bool (asOpt (yes (x.k == 0))).isSome]) (by simp [results, Tryz.results80, go_sem, z0, z1, z2]) rfl ⟨v, by rw [HV.out], by rw [HV.out]; exact HW.out, ?_⟩
  repeat (first | with_reducible exact hz | with_reducible refine Below.drew ?_ | with_reducible refine Below.setCell ?_ (by simp; omega) _ | with_reducible refine Below.setCell ?_ (by simp) _)
end Go.Proofs.YtakhcgkhjmfndaaGreat
