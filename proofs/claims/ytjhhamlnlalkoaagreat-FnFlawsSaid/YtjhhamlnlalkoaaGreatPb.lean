/-
  Several texts in one: what the proof leans on, part 2.
-/
import Derived.Test.YtjhhamlnlalkoaaGreatPa
import Derived.Maps.Own
import Derived.Maps.OwnOps
import Derived.Maps.OwnSet
import Derived.IntWalk
set_option linter.unusedVariables false
set_option linter.unusedSimpArgs false
namespace Go.Proofs.YtjhhamlnlalkoaaGreat
open Go.RowKit
theorem as_not_not (v : Value) (w : World) : (Instr.typeAssert (.iface 138 v) 134 138 true).run Tryz.prog w = .ok (.tuple #[v, .bool true]) w := by kernel_rfl
theorem as_num_not (v : Value) (w : World) : (Instr.typeAssert (.iface 139 v) 134 138 true).run Tryz.prog w = .ok (.tuple #[.agg #[], .bool false]) w := by kernel_rfl
theorem as_str_not (v : Value) (w : World) : (Instr.typeAssert (.iface 162 v) 134 138 true).run Tryz.prog w = .ok (.tuple #[.agg #[], .bool false]) w := by kernel_rfl
theorem held0V (n : Int) (s : ByteArray) : heldV 0 n s = .iface 138 (.agg #[]) := by simp [heldV]
theorem held1V (n : Int) (s : ByteArray) : heldV 1 n s = .iface 139 (.int .i64 n) := by simp [heldV]
theorem held2V (n : Int) (s : ByteArray) : heldV 2 n s = .iface 162 (.string s) := by simp [heldV]
set_option maxRecDepth 100000 in
theorem implTruthOf (v : Vl) (w : World) (h : v.ok = true) :
  Calls Tryz.prog 46 #[.agg #[.int .i64 v.k, .int .i64 v.n, .string v.s]] w fun e w' => e = .returned (.int .i64 (truOf v)) ∧ Below w.heap.size w w' := by
 obtain ⟨k, n, s⟩ := v
 rcases Vl.kinds h with h0 | ⟨h0, -, -⟩ | h0
 ·simp only at h0
  subst h0
  have HV := Lib.hid (show truOf ⟨0, n, s⟩ = 2 by simp [truOf])
  have a1 := as_not_not (.agg #[])
  go_enter Tryz.func46, Tryz.ntmps46
  go_wp2_with fail
  refine (heldYes _ _ _ _ h).mono ?_
  rintro e w1 ⟨rfl, hb1⟩
  rw [held0V]
  go_wp2
  go_ret
  have hz := ((Below.refl w.heap.size w).alloc (Nat.le_refl _) _).trans (hb1.mono (by simp))
  exact ⟨retI (by rw [HV.out]), hz.alloc hz.size _⟩
 ·simp only at h0
  subst h0
  have HV := Lib.hid (show truOf ⟨1, n, s⟩ = yes (n != 0) by simp [truOf])
  have a1 := as_num_not (.int .i64 n)
  have a2 := as_num_num (.int .i64 n)
  go_enter Tryz.func46, Tryz.ntmps46
  go_wp2_with fail
  refine (heldYes _ _ _ _ h).mono ?_
  rintro e w1 ⟨rfl, hb1⟩
  rw [held1V]
  go_wp2_with fail
  refine (implTruthIf _ _).mono ?_
  rintro e w2 ⟨rfl, rfl⟩
  go_wp2
  go_ret
  exact ⟨retI (by rw [HV.out]), ((Below.refl _ _).alloc (Nat.le_refl _) _).trans (hb1.mono (by simp))⟩
 ·simp only at h0
  subst h0
  have HV := Lib.hid (show truOf ⟨2, n, s⟩ = -1 by simp [truOf])
  have a1 := as_str_not (.string s)
  have a2 := as_str_num (.string s)
  go_enter Tryz.func46, Tryz.ntmps46
  go_wp2_with fail
  refine (heldYes _ _ _ _ h).mono ?_
  rintro e w1 ⟨rfl, hb1⟩
  rw [held2V]
  go_wp2
  go_ret
  exact ⟨retI (by rw [HV.out]), ((Below.refl _ _).alloc (Nat.le_refl _) _).trans (hb1.mono (by simp))⟩
set_option maxHeartbeats 400000 in
theorem implTruthVal (a : Int) (w : World) (h : a = -1 ∨ a = 0 ∨ a = 1 ∨ a = 2) :
  Calls Tryz.prog 142 #[.int .i64 a] w (OptPost (asOpt a) w) := by
 rcases h with rfl | rfl | rfl | rfl
 ·have HV := Lib.hid (show asOpt (-1) = none by rfl)
  go_enter Tryz.func142, Tryz.ntmps142
  go_wp2
  exact bodyPost_ret (v := .tuple #[.agg #[.int .i64 0, .int .i64 0, .string ⟨#[]⟩], .bool false]) (by simp [results, Tryz.results142, go_sem]) rfl ⟨Vl.zero, by rw [HV.out]; rfl, by rw [HV.out]; simp, (Below.refl _ _).alloc (Nat.le_refl _) _⟩
 ·have HV := Lib.hid (show asOpt 0 = some ⟨1, 0, ⟨#[]⟩⟩ by rfl)
  go_enter Tryz.func142, Tryz.ntmps142
  go_wp2
  exact bodyPost_ret (v := .tuple #[.agg #[.int .i64 1, .int .i64 0, .string ⟨#[]⟩], .bool true]) (by simp [results, Tryz.results142, go_sem]) rfl ⟨⟨1, 0, ⟨#[]⟩⟩, by rw [HV.out]; rfl, by rw [HV.out]; simp, (Below.refl _ _).alloc (Nat.le_refl _) _⟩
 ·have HV := Lib.hid (show asOpt 1 = some ⟨1, 1, ⟨#[]⟩⟩ by rfl)
  go_enter Tryz.func142, Tryz.ntmps142
  go_wp2
  exact bodyPost_ret (v := .tuple #[.agg #[.int .i64 1, .int .i64 1, .string ⟨#[]⟩], .bool true]) (by simp [results, Tryz.results142, go_sem]) rfl ⟨⟨1, 1, ⟨#[]⟩⟩, by rw [HV.out]; rfl, by rw [HV.out]; simp, (Below.refl _ _).alloc (Nat.le_refl _) _⟩
 ·have HV := Lib.hid (show asOpt 2 = some Vl.zero by rfl)
  go_enter Tryz.func142, Tryz.ntmps142
  go_wp2
  exact bodyPost_ret (v := .tuple #[.agg #[.int .i64 0, .int .i64 0, .string ⟨#[]⟩], .bool true]) (by simp [results, Tryz.results142, go_sem]) rfl ⟨Vl.zero, by rw [HV.out]; rfl, by rw [HV.out]; simp, (Below.refl _ _).alloc (Nat.le_refl _) _⟩
def Six (w : World) (b off : Nat) (x y : Vl) : Prop :=
 w.cell? ⟨b, off, none⟩ = some (.int .i64 x.k) ∧ w.cell? ⟨b, off + 1, none⟩ = some (.int .i64 x.n) ∧ w.cell? ⟨b, off + 2, none⟩ = some (.string x.s) ∧
 w.cell? ⟨b, off + 3, none⟩ = some (.int .i64 y.k) ∧ w.cell? ⟨b, off + 3 + 1, none⟩ = some (.int .i64 y.n) ∧ w.cell? ⟨b, off + 3 + 2, none⟩ = some (.string y.s)
def Tri (w : World) (b off : Nat) (x : Vl) : Prop :=
 w.cell? ⟨b, off, none⟩ = some (.int .i64 x.k) ∧ w.cell? ⟨b, off + 1, none⟩ = some (.int .i64 x.n) ∧ w.cell? ⟨b, off + 2, none⟩ = some (.string x.s)
set_option maxHeartbeats 1000000 in
theorem implEqualOf (b off cap : Nat) (x y : Vl) (w : World) (h : Six w b off x y) :
  Calls Tryz.prog 111 #[.slice (some ⟨b, off, none⟩) 2 cap] w (OptPost (op2 3 x y) w) := by
 have HV := Lib.hid (show op2 3 x y = asOpt (eq3 x.k x.n x.s y.k y.n y.s) by simp [op2])
 have hb0 := (Below.refl w.heap.size w).alloc (Nat.le_refl _) (.cells #[.int .i64 0, .int .i64 0, .string ⟨#[]⟩] 53)
 have rr := Row.new w 53 #[.int .i64 0, .int .i64 0, .string ⟨#[]⟩]
 have hne : w.heap.size ≠ b := Nat.ne_of_gt (cell_lt h.1)
 obtain ⟨c0, c1, c2, d0, d1, d2⟩ := keep6 h hb0
 clear h
 go_enter Tryz.func111, Tryz.ntmps111
 go_wp2_with fail
 generalize w.alloc (.cells #[.int .i64 0, .int .i64 0, .string ⟨#[]⟩] 53) = u at *
 have RR := Lib.hid rr
 clear rr
 go_region_held3 (fun w' => w'.cell? ⟨b, off, none⟩ = some (.int .i64 x.k) ∧ w'.cell? ⟨b, off + 1, none⟩ = some (.int .i64 x.n) ∧ w'.cell? ⟨b, off + 2, none⟩ = some (.string x.s) ∧ w'.cell? ⟨b, off + 3, none⟩ = some (.int .i64 y.k) ∧ w'.cell? ⟨b, off + 3 + 1, none⟩ = some (.int .i64 y.n) ∧ w'.cell? ⟨b, off + 3 + 2, none⟩ = some (.string y.s))
  (first | go_keep | with_reducible exact keep6s hne (by assumption) | exact keep6 (by assumption) hbZ | exact keep6 (by assumption) hbA)
  (first | (go_at_call 143; refine (implEqual3 x.k x.n x.s y.k y.n y.s _).mono ?_; rintro e yA ⟨rfl, hbA⟩) | (go_at_call 142; refine (implTruthVal _ _ (eq3_rng _ _ _ _ _ _)).mono ?_; rintro e yZ ⟨v, rfl, hv, hbZ⟩; have HW := Lib.hid hv; clear hv; obtain ⟨⟨z0, z1, z2⟩, ⟨z3, z4, z5⟩⟩ := ((RR.out.drew.below hbA).below hbZ).three))
 go_wp2
 have hz1 := hb0.drew.trans (hbA.mono hb0.size)
 have hz := hz1.trans (hbZ.mono hz1.size)
 refine bodyPost_ret (v := .tuple #[.agg #[.int .i64 v.k, .int .i64 v.n, .string v.s], .bool (asOpt (eq3 x.k x.n x.s y.k y.n y.s)).isSome]) (by simp [results, Tryz.results111, go_sem, z0, z1, z2]) rfl ⟨v, by rw [HV.out], by rw [HV.out]; exact HW.out, ?_⟩
 repeat (first | with_reducible exact hz | with_reducible refine Below.drew ?_ | with_reducible refine Below.setCell ?_ (by simp; omega) _ | with_reducible refine Below.setCell ?_ (by simp) _)
set_option maxHeartbeats 1000000 in
theorem implLessOf (b off cap : Nat) (x y : Vl) (w : World) (h : Six w b off x y) :
  Calls Tryz.prog 112 #[.slice (some ⟨b, off, none⟩) 2 cap] w (OptPost (op2 4 x y) w) := by
 have HV := Lib.hid (show op2 4 x y = asOpt (less3 x.k x.n x.s y.k y.n y.s) by simp [op2])
 have hb0 := (Below.refl w.heap.size w).alloc (Nat.le_refl _) (.cells #[.int .i64 0, .int .i64 0, .string ⟨#[]⟩] 53)
 have rr := Row.new w 53 #[.int .i64 0, .int .i64 0, .string ⟨#[]⟩]
 have hne : w.heap.size ≠ b := Nat.ne_of_gt (cell_lt h.1)
 obtain ⟨c0, c1, c2, d0, d1, d2⟩ := keep6 h hb0
 clear h
 go_enter Tryz.func112, Tryz.ntmps112
 go_wp2_with fail
 generalize w.alloc (.cells #[.int .i64 0, .int .i64 0, .string ⟨#[]⟩] 53) = u at *
 have RR := Lib.hid rr
 clear rr
 go_region_held3 (fun w' => w'.cell? ⟨b, off, none⟩ = some (.int .i64 x.k) ∧ w'.cell? ⟨b, off + 1, none⟩ = some (.int .i64 x.n) ∧ w'.cell? ⟨b, off + 2, none⟩ = some (.string x.s) ∧ w'.cell? ⟨b, off + 3, none⟩ = some (.int .i64 y.k) ∧ w'.cell? ⟨b, off + 3 + 1, none⟩ = some (.int .i64 y.n) ∧ w'.cell? ⟨b, off + 3 + 2, none⟩ = some (.string y.s))
  (first | go_keep | with_reducible exact keep6s hne (by assumption) | exact keep6 (by assumption) hbZ | exact keep6 (by assumption) hbA)
  (first | (go_at_call 144; refine (implLess3 x.k x.n x.s y.k y.n y.s _).mono ?_; rintro e yA ⟨rfl, hbA⟩) | (go_at_call 142; refine (implTruthVal _ _ (less3_rng _ _ _ _ _ _)).mono ?_; rintro e yZ ⟨v, rfl, hv, hbZ⟩; have HW := Lib.hid hv; clear hv; obtain ⟨⟨z0, z1, z2⟩, ⟨z3, z4, z5⟩⟩ := ((RR.out.drew.below hbA).below hbZ).three))
 go_wp2
 have hz1 := hb0.drew.trans (hbA.mono hb0.size)
 have hz := hz1.trans (hbZ.mono hz1.size)
 refine bodyPost_ret (v := .tuple #[.agg #[.int .i64 v.k, .int .i64 v.n, .string v.s], .bool (asOpt (less3 x.k x.n x.s y.k y.n y.s)).isSome]) (by simp [results, Tryz.results112, go_sem, z0, z1, z2]) rfl ⟨v, by rw [HV.out], by rw [HV.out]; exact HW.out, ?_⟩
 repeat (first | with_reducible exact hz | with_reducible refine Below.drew ?_ | with_reducible refine Below.setCell ?_ (by simp; omega) _ | with_reducible refine Below.setCell ?_ (by simp) _)
set_option maxHeartbeats 1000000 in
theorem implBothOf (b off cap : Nat) (x y : Vl) (w : World) (h : Six w b off x y) (hx : x.ok = true) (hy : y.ok = true) :
  Calls Tryz.prog 113 #[.slice (some ⟨b, off, none⟩) 2 cap] w (OptPost (op2 5 x y) w) := by
 have HV := Lib.hid (show op2 5 x y = asOpt (and3 (truOf x) (truOf y)) by simp [op2])
 have hb0 := (Below.refl w.heap.size w).alloc (Nat.le_refl _) (.cells #[.int .i64 0, .int .i64 0, .string ⟨#[]⟩] 53)
 have rr := Row.new w 53 #[.int .i64 0, .int .i64 0, .string ⟨#[]⟩]
 have hne : w.heap.size ≠ b := Nat.ne_of_gt (cell_lt h.1)
 obtain ⟨c0, c1, c2, d0, d1, d2⟩ := keep6 h hb0
 clear h
 go_enter Tryz.func113, Tryz.ntmps113
 go_wp2_with fail
 generalize w.alloc (.cells #[.int .i64 0, .int .i64 0, .string ⟨#[]⟩] 53) = u at *
 have RR := Lib.hid rr
 clear rr
 go_region_held3 (fun w' => w'.cell? ⟨b, off, none⟩ = some (.int .i64 x.k) ∧ w'.cell? ⟨b, off + 1, none⟩ = some (.int .i64 x.n) ∧ w'.cell? ⟨b, off + 2, none⟩ = some (.string x.s) ∧ w'.cell? ⟨b, off + 3, none⟩ = some (.int .i64 y.k) ∧ w'.cell? ⟨b, off + 3 + 1, none⟩ = some (.int .i64 y.n) ∧ w'.cell? ⟨b, off + 3 + 2, none⟩ = some (.string y.s))
  (first | go_keep | with_reducible exact keep6s hne (by assumption) | exact keep6 (by assumption) hbZ | exact keep6 (by assumption) hbB | exact keep6 (by assumption) hbA)
  (first | (go_at_call_of 46 (Value.agg #[.int .i64 x.k, .int .i64 x.n, .string x.s]); refine (implTruthOf x _ hx).mono ?_; rintro e yA ⟨rfl, hbA⟩) | (go_at_call_of 46 (Value.agg #[.int .i64 y.k, .int .i64 y.n, .string y.s]); refine (implTruthOf y _ hy).mono ?_; rintro e yB ⟨rfl, hbB⟩) | (go_at_call 145; refine (implAnd3 _ _ _).mono ?_; rintro e yC ⟨rfl, rfl⟩) | (go_at_call 142; refine (implTruthVal _ _ (and3_rng _ _)).mono ?_; rintro e yZ ⟨v, rfl, hv, hbZ⟩; have HW := Lib.hid hv; clear hv; obtain ⟨⟨z0, z1, z2⟩, ⟨z3, z4, z5⟩⟩ := (((RR.out.drew.below hbA).below hbB).below hbZ).three))
 go_wp2
 have hz1 := hb0.drew.trans (hbA.mono hb0.size)
 have hz2 := hz1.trans (hbB.mono hz1.size)
 have hz := hz2.trans (hbZ.mono hz2.size)
 refine bodyPost_ret (v := .tuple #[.agg #[.int .i64 v.k, .int .i64 v.n, .string v.s], .bool (asOpt (and3 (truOf x) (truOf y))).isSome]) (by simp [results, Tryz.results113, go_sem, z0, z1, z2]) rfl ⟨v, by rw [HV.out], by rw [HV.out]; exact HW.out, ?_⟩
 repeat (first | with_reducible exact hz | with_reducible refine Below.drew ?_ | with_reducible refine Below.setCell ?_ (by simp; omega) _ | with_reducible refine Below.setCell ?_ (by simp) _)
set_option maxHeartbeats 1000000 in
theorem implEitherOf (b off cap : Nat) (x y : Vl) (w : World) (h : Six w b off x y) (hx : x.ok = true) (hy : y.ok = true) :
  Calls Tryz.prog 114 #[.slice (some ⟨b, off, none⟩) 2 cap] w (OptPost (op2 6 x y) w) := by
 have HV := Lib.hid (show op2 6 x y = asOpt (or3 (truOf x) (truOf y)) by simp [op2])
 have hb0 := (Below.refl w.heap.size w).alloc (Nat.le_refl _) (.cells #[.int .i64 0, .int .i64 0, .string ⟨#[]⟩] 53)
 have rr := Row.new w 53 #[.int .i64 0, .int .i64 0, .string ⟨#[]⟩]
 have hne : w.heap.size ≠ b := Nat.ne_of_gt (cell_lt h.1)
 obtain ⟨c0, c1, c2, d0, d1, d2⟩ := keep6 h hb0
 clear h
 go_enter Tryz.func114, Tryz.ntmps114
 go_wp2_with fail
 generalize w.alloc (.cells #[.int .i64 0, .int .i64 0, .string ⟨#[]⟩] 53) = u at *
 have RR := Lib.hid rr
 clear rr
 go_region_held3 (fun w' => w'.cell? ⟨b, off, none⟩ = some (.int .i64 x.k) ∧ w'.cell? ⟨b, off + 1, none⟩ = some (.int .i64 x.n) ∧ w'.cell? ⟨b, off + 2, none⟩ = some (.string x.s) ∧ w'.cell? ⟨b, off + 3, none⟩ = some (.int .i64 y.k) ∧ w'.cell? ⟨b, off + 3 + 1, none⟩ = some (.int .i64 y.n) ∧ w'.cell? ⟨b, off + 3 + 2, none⟩ = some (.string y.s))
  (first | go_keep | with_reducible exact keep6s hne (by assumption) | exact keep6 (by assumption) hbZ | exact keep6 (by assumption) hbB | exact keep6 (by assumption) hbA)
  (first | (go_at_call_of 46 (Value.agg #[.int .i64 x.k, .int .i64 x.n, .string x.s]); refine (implTruthOf x _ hx).mono ?_; rintro e yA ⟨rfl, hbA⟩) | (go_at_call_of 46 (Value.agg #[.int .i64 y.k, .int .i64 y.n, .string y.s]); refine (implTruthOf y _ hy).mono ?_; rintro e yB ⟨rfl, hbB⟩) | (go_at_call 146; refine (implOr3 _ _ _).mono ?_; rintro e yC ⟨rfl, rfl⟩) | (go_at_call 142; refine (implTruthVal _ _ (or3_rng _ _)).mono ?_; rintro e yZ ⟨v, rfl, hv, hbZ⟩; have HW := Lib.hid hv; clear hv; obtain ⟨⟨z0, z1, z2⟩, ⟨z3, z4, z5⟩⟩ := (((RR.out.drew.below hbA).below hbB).below hbZ).three))
 go_wp2
 have hz1 := hb0.drew.trans (hbA.mono hb0.size)
 have hz2 := hz1.trans (hbB.mono hz1.size)
 have hz := hz2.trans (hbZ.mono hz2.size)
 refine bodyPost_ret (v := .tuple #[.agg #[.int .i64 v.k, .int .i64 v.n, .string v.s], .bool (asOpt (or3 (truOf x) (truOf y))).isSome]) (by simp [results, Tryz.results114, go_sem, z0, z1, z2]) rfl ⟨v, by rw [HV.out], by rw [HV.out]; exact HW.out, ?_⟩
 repeat (first | with_reducible exact hz | with_reducible refine Below.drew ?_ | with_reducible refine Below.setCell ?_ (by simp; omega) _ | with_reducible refine Below.setCell ?_ (by simp) _)
set_option maxHeartbeats 1000000 in
theorem implAdded (a b : Vl) (sg : Int) (w : World) (ha : a.ok = true) (hb : b.ok = true) (hsg : sg = 1 ∨ sg = -1) :
  Calls Tryz.prog 148 #[.agg #[.int .i64 a.k, .int .i64 a.n, .string a.s], .agg #[.int .i64 b.k, .int .i64 b.n, .string b.s], .int .i64 sg] w (OptPost (sumVl a b sg) w) := by
 obtain ⟨ra, rb, rr, hb0⟩ := boxes3 w a b 53
 have ka := Vl.kinds ha
 have kb := Vl.kinds hb
 clear ha hb
 obtain ⟨k, n, s⟩ := a
 obtain ⟨k', n', s'⟩ := b
 simp only at ka kb ra rb rr hb0
 by_cases a2 : k = 2
 ·subst a2
  have HV := Lib.hid (show sumVl ⟨2, n, s⟩ ⟨k', n', s'⟩ sg = none by simp [sumVl])
  go_enter Tryz.func148, Tryz.ntmps148
  go_wp2
  exact bodyPost_ret (v := .tuple #[.agg #[.int .i64 0, .int .i64 0, .string ⟨#[]⟩], .bool false]) (by simp [results, Tryz.results148, go_sem]) rfl ⟨Vl.zero, by rw [HV.out]; rfl, by rw [HV.out]; simp, ((((Below.refl _ _).alloc (Nat.le_refl _) _).alloc (by simp) _).alloc (by simp; omega) _)⟩
 have a2' : (k == 2) = false := by simpa using a2
 by_cases b2 : k' = 2
 ·subst b2
  have HV := Lib.hid (show sumVl ⟨k, n, s⟩ ⟨2, n', s'⟩ sg = none by simp [sumVl])
  go_enter Tryz.func148, Tryz.ntmps148
  go_wp2
  exact bodyPost_ret (v := .tuple #[.agg #[.int .i64 0, .int .i64 0, .string ⟨#[]⟩], .bool false]) (by simp [results, Tryz.results148, go_sem]) rfl ⟨Vl.zero, by rw [HV.out]; rfl, by rw [HV.out]; simp, ((((Below.refl _ _).alloc (Nat.le_refl _) _).alloc (by simp) _).alloc (by simp; omega) _)⟩
 have b2' : (k' == 2) = false := by simpa using b2
 by_cases a0 : k = 0
 ·subst a0
  have HV := Lib.hid (show sumVl ⟨0, n, s⟩ ⟨k', n', s'⟩ sg = some Vl.zero by simp [sumVl, b2])
  go_enter Tryz.func148, Tryz.ntmps148
  go_wp2
  exact bodyPost_ret (v := .tuple #[.agg #[.int .i64 0, .int .i64 0, .string ⟨#[]⟩], .bool true]) (by simp [results, Tryz.results148, go_sem]) rfl ⟨Vl.zero, by rw [HV.out]; rfl, by rw [HV.out]; simp, ((((Below.refl _ _).alloc (Nat.le_refl _) _).alloc (by simp) _).alloc (by simp; omega) _)⟩
 have a0' : (k == 0) = false := by simpa using a0
 by_cases b0 : k' = 0
 ·subst b0
  have HV := Lib.hid (show sumVl ⟨k, n, s⟩ ⟨0, n', s'⟩ sg = some Vl.zero by simp [sumVl, a2])
  go_enter Tryz.func148, Tryz.ntmps148
  go_wp2
  exact bodyPost_ret (v := .tuple #[.agg #[.int .i64 0, .int .i64 0, .string ⟨#[]⟩], .bool true]) (by simp [results, Tryz.results148, go_sem]) rfl ⟨Vl.zero, by rw [HV.out]; rfl, by rw [HV.out]; simp, ((((Below.refl _ _).alloc (Nat.le_refl _) _).alloc (by simp) _).alloc (by simp; omega) _)⟩
 have b0' : (k' == 0) = false := by simpa using b0
 obtain ⟨s1, s2⟩ := sum_wraps (x := n) (y := n') (sg := sg) (by omega) (by omega) hsg
 have HV := Lib.hid (show sumVl ⟨k, n, s⟩ ⟨k', n', s'⟩ sg = if -1000000000 ≤ n + sg * n' ∧ n + sg * n' ≤ 1000000000 then some ⟨1, n + sg * n', ⟨#[]⟩⟩ else none by simp [sumVl, a2, b2, a0, b0])
 by_cases hm : -1000000000 ≤ n + sg * n' ∧ n + sg * n' ≤ 1000000000
 ·have HR := Lib.hid (show (decide (-1000000000 ≤ n + sg * n') && decide (n + sg * n' ≤ 1000000000)) = true by simp [hm.1, hm.2])
  have HN := Lib.hid (HV.out.trans (if_pos hm))
  clear hm HV
  go_enter Tryz.func148, Tryz.ntmps148
  go_wp2_with fail
  generalize n + sg * n' = m at *
  generalize ((w.alloc (.cells #[.int .i64 k, .int .i64 n, .string s] 53)).alloc (.cells #[.int .i64 k', .int .i64 n', .string s'] 53)).alloc (.cells #[.int .i64 0, .int .i64 0, .string ⟨#[]⟩] 53) = x at *
  refine (rightNum _ _).mono ?_
  rintro e w1 ⟨rfl, rfl⟩
  rw [HR.out]
  have S2 := Lib.hid s2
  clear s1 s2
  go_wp2_with fail
  refine (implValOfNum _ _).mono ?_
  rintro e w2 ⟨rfl, hb2⟩
  have hz := hb0.trans (hb2.mono hb0.size)
  obtain ⟨⟨z0, z1, z2⟩, ⟨z3, z4, z5⟩⟩ := (rr.below hb2).three
  clear ra rb rr
  go_wp2_with fail
  refine bodyPost_ret (v := .tuple #[.agg #[.int .i64 1, .int .i64 m, .string ⟨#[]⟩], .bool true]) (by simp [results, Tryz.results148, go_sem, z0, z1, z2, S2.out]) rfl ⟨⟨1, m, ⟨#[]⟩⟩, by rw [HN.out]; rfl, by rw [HN.out]; simp, ?_⟩
  repeat (first | with_reducible exact hz | with_reducible refine Below.drew ?_ | with_reducible refine Below.setCell ?_ (by simp; omega) _ | with_reducible refine Below.setCell ?_ (by simp) _)
 ·have HR := Lib.hid (show (decide (-1000000000 ≤ n + sg * n') && decide (n + sg * n' ≤ 1000000000)) = false by simp; omega)
  have HN := Lib.hid (HV.out.trans (if_neg hm))
  clear hm HV
  go_enter Tryz.func148, Tryz.ntmps148
  go_wp2_with fail
  generalize n + sg * n' = m at *
  generalize ((w.alloc (.cells #[.int .i64 k, .int .i64 n, .string s] 53)).alloc (.cells #[.int .i64 k', .int .i64 n', .string s'] 53)).alloc (.cells #[.int .i64 0, .int .i64 0, .string ⟨#[]⟩] 53) = x at *
  refine (rightNum _ _).mono ?_
  rintro e w1 ⟨rfl, rfl⟩
  rw [HR.out]
  clear s1 s2
  obtain ⟨⟨z0, z1, z2⟩, ⟨z3, z4, z5⟩⟩ := rr.three
  have hz := hb0
  clear ra rb rr
  go_wp2_with fail
  refine bodyPost_ret (v := .tuple #[.agg #[.int .i64 0, .int .i64 0, .string ⟨#[]⟩], .bool false]) (by simp [results, Tryz.results148, go_sem, z0, z1, z2]) rfl ⟨Vl.zero, by rw [HN.out]; rfl, by rw [HN.out]; simp, ?_⟩
  repeat (first | with_reducible exact hz | with_reducible refine Below.drew ?_ | with_reducible refine Below.setCell ?_ (by simp; omega) _ | with_reducible refine Below.setCell ?_ (by simp) _)
set_option maxHeartbeats 1000000 in
theorem implSumOf (b off cap : Nat) (x y : Vl) (w : World) (h : Six w b off x y) (hx : x.ok = true) (hy : y.ok = true) :
  Calls Tryz.prog 117 #[.slice (some ⟨b, off, none⟩) 2 cap] w (OptPost (op2 9 x y) w) := by
 have HV := Lib.hid (show op2 9 x y = sumVl x y 1 by simp [op2])
 have hb0 := (Below.refl w.heap.size w).alloc (Nat.le_refl _) (.cells #[.int .i64 0, .int .i64 0, .string ⟨#[]⟩] 53)
 have rr := Row.new w 53 #[.int .i64 0, .int .i64 0, .string ⟨#[]⟩]
 have hne : w.heap.size ≠ b := Nat.ne_of_gt (cell_lt h.1)
 obtain ⟨c0, c1, c2, d0, d1, d2⟩ := keep6 h hb0
 clear h
 go_enter Tryz.func117, Tryz.ntmps117
 go_wp2_with fail
 generalize w.alloc (.cells #[.int .i64 0, .int .i64 0, .string ⟨#[]⟩] 53) = u at *
 have RR := Lib.hid rr
 clear rr
 go_region_held3 (fun w' => w'.cell? ⟨b, off, none⟩ = some (.int .i64 x.k) ∧ w'.cell? ⟨b, off + 1, none⟩ = some (.int .i64 x.n) ∧ w'.cell? ⟨b, off + 2, none⟩ = some (.string x.s) ∧ w'.cell? ⟨b, off + 3, none⟩ = some (.int .i64 y.k) ∧ w'.cell? ⟨b, off + 3 + 1, none⟩ = some (.int .i64 y.n) ∧ w'.cell? ⟨b, off + 3 + 2, none⟩ = some (.string y.s))
  (first | go_keep | with_reducible exact keep6s hne (by assumption) | exact keep6 (by assumption) hbZ)
  (first | (go_at_call 148; refine (implAdded x y 1 _ hx hy (by omega)).mono ?_; rintro e yZ ⟨v, rfl, hv, hbZ⟩; have HW := Lib.hid hv; clear hv; obtain ⟨⟨z0, z1, z2⟩, ⟨z3, z4, z5⟩⟩ := (RR.out.drew.below hbZ).three))
 go_wp2
 have hz := hb0.drew.trans (hbZ.mono hb0.size)
 refine bodyPost_ret (v := .tuple #[.agg #[.int .i64 v.k, .int .i64 v.n, .string v.s], .bool (sumVl x y 1).isSome]) (by simp [results, Tryz.results117, go_sem, z0, z1, z2]) rfl ⟨v, by rw [HV.out], by rw [HV.out]; exact HW.out, ?_⟩
 repeat (first | with_reducible exact hz | with_reducible refine Below.drew ?_ | with_reducible refine Below.setCell ?_ (by simp; omega) _ | with_reducible refine Below.setCell ?_ (by simp) _)
set_option maxHeartbeats 1000000 in
theorem implDifferenceOf (b off cap : Nat) (x y : Vl) (w : World) (h : Six w b off x y) (hx : x.ok = true) (hy : y.ok = true) :
  Calls Tryz.prog 118 #[.slice (some ⟨b, off, none⟩) 2 cap] w (OptPost (op2 10 x y) w) := by
 have HV := Lib.hid (show op2 10 x y = sumVl x y (-1) by simp [op2])
 have hb0 := (Below.refl w.heap.size w).alloc (Nat.le_refl _) (.cells #[.int .i64 0, .int .i64 0, .string ⟨#[]⟩] 53)
 have rr := Row.new w 53 #[.int .i64 0, .int .i64 0, .string ⟨#[]⟩]
 have hne : w.heap.size ≠ b := Nat.ne_of_gt (cell_lt h.1)
 obtain ⟨c0, c1, c2, d0, d1, d2⟩ := keep6 h hb0
 clear h
 go_enter Tryz.func118, Tryz.ntmps118
 go_wp2_with fail
 generalize w.alloc (.cells #[.int .i64 0, .int .i64 0, .string ⟨#[]⟩] 53) = u at *
 have RR := Lib.hid rr
 clear rr
 go_region_held3 (fun w' => w'.cell? ⟨b, off, none⟩ = some (.int .i64 x.k) ∧ w'.cell? ⟨b, off + 1, none⟩ = some (.int .i64 x.n) ∧ w'.cell? ⟨b, off + 2, none⟩ = some (.string x.s) ∧ w'.cell? ⟨b, off + 3, none⟩ = some (.int .i64 y.k) ∧ w'.cell? ⟨b, off + 3 + 1, none⟩ = some (.int .i64 y.n) ∧ w'.cell? ⟨b, off + 3 + 2, none⟩ = some (.string y.s))
  (first | go_keep | with_reducible exact keep6s hne (by assumption) | exact keep6 (by assumption) hbZ)
  (first | (go_at_call 148; refine (implAdded x y (-1) _ hx hy (by omega)).mono ?_; rintro e yZ ⟨v, rfl, hv, hbZ⟩; have HW := Lib.hid hv; clear hv; obtain ⟨⟨z0, z1, z2⟩, ⟨z3, z4, z5⟩⟩ := (RR.out.drew.below hbZ).three))
 go_wp2
 have hz := hb0.drew.trans (hbZ.mono hb0.size)
 refine bodyPost_ret (v := .tuple #[.agg #[.int .i64 v.k, .int .i64 v.n, .string v.s], .bool (sumVl x y (-1)).isSome]) (by simp [results, Tryz.results118, go_sem, z0, z1, z2]) rfl ⟨v, by rw [HV.out], by rw [HV.out]; exact HW.out, ?_⟩
 repeat (first | with_reducible exact hz | with_reducible refine Below.drew ?_ | with_reducible refine Below.setCell ?_ (by simp; omega) _ | with_reducible refine Below.setCell ?_ (by simp) _)
set_option maxHeartbeats 1000000 in
theorem implNotOf (b off cap : Nat) (x : Vl) (w : World) (h : Tri w b off x) (hx : x.ok = true) :
  Calls Tryz.prog 115 #[.slice (some ⟨b, off, none⟩) 1 cap] w (OptPost (op1 7 x) w) := by
 have HV := Lib.hid (show op1 7 x = asOpt (not3 (truOf x)) by simp [op1])
 have hb0 := (Below.refl w.heap.size w).alloc (Nat.le_refl _) (.cells #[.int .i64 0, .int .i64 0, .string ⟨#[]⟩] 53)
 have rr := Row.new w 53 #[.int .i64 0, .int .i64 0, .string ⟨#[]⟩]
 obtain ⟨c0, c1, c2⟩ := keep3 h hb0
 clear h
 go_enter Tryz.func115, Tryz.ntmps115
 go_wp2_with fail
 generalize w.alloc (.cells #[.int .i64 0, .int .i64 0, .string ⟨#[]⟩] 53) = u at *
 refine (implTruthOf x _ hx).mono ?_
 rintro e y1 ⟨rfl, hb1⟩
 have hz1 := hb0.trans (hb1.mono hb0.size)
 have rr1 := rr.below hb1
 clear rr
 go_wp2_with fail
 refine (implNot3 _ _).mono ?_
 rintro e y2 ⟨rfl, rfl⟩
 go_wp2_with fail
 refine (implTruthVal _ _ (not3_rng _)).mono ?_
 rintro e y2 ⟨v, rfl, hv, hb2⟩
 have HW := Lib.hid hv
 have hz := hz1.trans (hb2.mono hz1.size)
 obtain ⟨⟨z0, z1, z2⟩, ⟨z3, z4, z5⟩⟩ := (rr1.below hb2).three
 clear hv rr1
 go_wp2_with fail
 refine bodyPost_ret (v := .tuple #[.agg #[.int .i64 v.k, .int .i64 v.n, .string v.s], .bool (asOpt (not3 (truOf x))).isSome]) (by simp [results, Tryz.results115, go_sem, z0, z1, z2]) rfl ⟨v, by rw [HV.out], by rw [HV.out]; exact HW.out, ?_⟩
 repeat (first | with_reducible exact hz | with_reducible refine Below.drew ?_ | with_reducible refine Below.setCell ?_ (by simp; omega) _ | with_reducible refine Below.setCell ?_ (by simp) _)
set_option maxHeartbeats 1000000 in
theorem implNullOf (b off cap : Nat) (x : Vl) (w : World) (h : Tri w b off x) :
  Calls Tryz.prog 116 #[.slice (some ⟨b, off, none⟩) 1 cap] w (OptPost (op1 8 x) w) := by
 have HV := Lib.hid (show op1 8 x = asOpt (yes (x.k == 0)) by simp [op1])
 have hb0 := (Below.refl w.heap.size w).alloc (Nat.le_refl _) (.cells #[.int .i64 0, .int .i64 0, .string ⟨#[]⟩] 53)
 have rr := Row.new w 53 #[.int .i64 0, .int .i64 0, .string ⟨#[]⟩]
 obtain ⟨c0, c1, c2⟩ := keep3 h hb0
 clear h
 go_enter Tryz.func116, Tryz.ntmps116
 go_wp2_with fail
 generalize w.alloc (.cells #[.int .i64 0, .int .i64 0, .string ⟨#[]⟩] 53) = u at *
 refine (implTruthIf _ _).mono ?_
 rintro e y1 ⟨rfl, rfl⟩
 go_wp2_with fail
 refine (implTruthVal _ _ (by rcases yes01 (x.k == 0) with h | h <;> simp [h])).mono ?_
 rintro e y2 ⟨v, rfl, hv, hb2⟩
 have HW := Lib.hid hv
 have hz := hb0.trans (hb2.mono hb0.size)
 obtain ⟨⟨z0, z1, z2⟩, ⟨z3, z4, z5⟩⟩ := (rr.below hb2).three
 clear hv rr
 go_wp2_with fail
 refine bodyPost_ret (v := .tuple #[.agg #[.int .i64 v.k, .int .i64 v.n, .string v.s], .bool (asOpt (yes (x.k == 0))).isSome]) (by simp [results, Tryz.results116, go_sem, z0, z1, z2]) rfl ⟨v, by rw [HV.out], by rw [HV.out]; exact HW.out, ?_⟩
 repeat (first | with_reducible exact hz | with_reducible refine Below.drew ?_ | with_reducible refine Below.setCell ?_ (by simp; omega) _ | with_reducible refine Below.setCell ?_ (by simp) _)
set_option maxRecDepth 100000 in
set_option maxHeartbeats 1000000 in
theorem implTokValue1 (a0 a1 a2 args : Value) (t : Tk) (A : Option Addr) (cap : Nat) (row : List Vl) (w : World) (hr : Vals w A row.length row) (ht : t.k = 1) (hc : 0 ≤ t.c) (hc2 : t.c < row.length) :
  Calls Tryz.prog 78 #[.agg #[a0, a1, a2], .agg #[.int .i64 t.k, .int .i64 t.c, .int .i64 t.vk, .int .i64 t.vn, .string t.vs], .slice A row.length cap, args] w (OptPost row[t.c.toNat]? w) := by
 obtain ⟨k, c, vk, vn, vs⟩ := t
 simp only at ht hc hc2
 subst ht
 obtain ⟨j, rfl⟩ := Int.eq_ofNat_of_zero_le hc
 have hj : j < row.length := by omega
 obtain ⟨b, off, rfl, c0, c1, c2⟩ := hr.at_ hj
 have hb0 := (Below.refl w.heap.size w |>.alloc (Nat.le_refl _) (.cells #[a0, a1, a2] 128) |>.alloc (by simp only [size1]; omega) (.cells #[.int .i64 1, .int .i64 j, .int .i64 vk, .int .i64 vn, .string vs] 115) |>.alloc (by simp only [size1]; omega) (.cells #[.int .i64 0, .int .i64 0, .string ⟨#[]⟩] 53))
 obtain ⟨c0, c1, c2⟩ := keep3 ⟨c0, c1, c2⟩ hb0
 have rr := Row.newAt ((w.alloc (.cells #[a0, a1, a2] 128)).alloc (.cells #[.int .i64 1, .int .i64 j, .int .i64 vk, .int .i64 vn, .string vs] 115)) 53 #[.int .i64 0, .int .i64 0, .string ⟨#[]⟩] (w.heap.size + 1 + 1) (by simp only [size1])
 have HV := Lib.hid (show row[((j : Int)).toNat]? = some row[j] by simp [hj])
 go_enter Tryz.func78, Tryz.ntmps78
 go_wp2
 have hz := hb0
 refine bodyPost_ret (v := .tuple #[.agg #[.int .i64 row[j].k, .int .i64 row[j].n, .string row[j].s], .bool true]) (by simp [results, Tryz.results78, go_sem]) rfl ⟨row[j], by rw [HV.out]; rfl, by rw [HV.out]; simp, ?_⟩
 exact (((Below.refl w.heap.size w).alloc (Nat.le_refl _) _).alloc (by simp only [size1]; omega) _).alloc (by simp only [size1]; omega) _
set_option maxRecDepth 100000 in
set_option maxHeartbeats 1000000 in
theorem implTokValue2 (a0 a1 a2 args rows : Value) (t : Tk) (w : World) (ht : t.k = 2) :
  Calls Tryz.prog 78 #[.agg #[a0, a1, a2], .agg #[.int .i64 t.k, .int .i64 t.c, .int .i64 t.vk, .int .i64 t.vn, .string t.vs], rows, args] w (OptPost (some ⟨t.vk, t.vn, t.vs⟩) w) := by
 obtain ⟨k, c, vk, vn, vs⟩ := t
 simp only at ht
 subst ht
 go_enter Tryz.func78, Tryz.ntmps78
 go_wp2
 refine bodyPost_ret (v := .tuple #[.agg #[.int .i64 vk, .int .i64 vn, .string vs], .bool true]) (by simp [results, Tryz.results78, go_sem]) rfl ⟨⟨vk, vn, vs⟩, rfl, by simp, ?_⟩
 exact (((Below.refl w.heap.size w).alloc (Nat.le_refl _) _).alloc (by simp only [size1]; omega) _).alloc (by simp only [size1]; omega) _
set_option maxRecDepth 100000 in
set_option maxHeartbeats 1000000 in
theorem implTokValue3 (a0 a1 rows : Value) (t : Tk) (b off cap : Nat) (x y : Vl) (w : World) (ht : t.k = 3) (h : Six w b off x y) :
  Calls Tryz.prog 78 #[.agg #[a0, a1, .func (.func 111) #[] #[]], .agg #[.int .i64 t.k, .int .i64 t.c, .int .i64 t.vk, .int .i64 t.vn, .string t.vs], rows, .slice (some ⟨b, off, none⟩) 2 cap] w (OptPost (op2 3 x y) w) := by
 obtain ⟨k, c, vk, vn, vs⟩ := t
 simp only at ht
 subst ht
 have hb0 := (Below.refl w.heap.size w |>.alloc (Nat.le_refl _) (.cells #[a0, a1, .func (.func 111) #[] #[]] 128) |>.alloc (by simp only [size1]; omega) (.cells #[.int .i64 3, .int .i64 c, .int .i64 vk, .int .i64 vn, .string vs] 115) |>.alloc (by simp only [size1]; omega) (.cells #[.int .i64 0, .int .i64 0, .string ⟨#[]⟩] 53))
 have hs : Six (((w.alloc (.cells #[a0, a1, .func (.func 111) #[] #[]] 128)).alloc (.cells #[.int .i64 3, .int .i64 c, .int .i64 vk, .int .i64 vn, .string vs] 115)).alloc (.cells #[.int .i64 0, .int .i64 0, .string ⟨#[]⟩] 53)) b off x y := keep6 h hb0
 have rr := Row.newAt ((w.alloc (.cells #[a0, a1, .func (.func 111) #[] #[]] 128)).alloc (.cells #[.int .i64 3, .int .i64 c, .int .i64 vk, .int .i64 vn, .string vs] 115)) 53 #[.int .i64 0, .int .i64 0, .string ⟨#[]⟩] (w.heap.size + 1 + 1) (by simp only [size1])
 go_enter Tryz.func78, Tryz.ntmps78
 go_wp2_with fail
 generalize ((w.alloc (.cells #[a0, a1, .func (.func 111) #[] #[]] 128)).alloc (.cells #[.int .i64 3, .int .i64 c, .int .i64 vk, .int .i64 vn, .string vs] 115)).alloc (.cells #[.int .i64 0, .int .i64 0, .string ⟨#[]⟩] 53) = u at *
 refine (implEqualOf b off cap x y _ hs).mono ?_
 rintro e y1 ⟨v, rfl, hv, hb1⟩
 have HW := Lib.hid hv
 have hz := hb0.trans (hb1.mono hb0.size)
 obtain ⟨⟨z0, z1, z2⟩, ⟨z3, z4, z5⟩⟩ := (rr.below hb1).three
 clear hv rr hs h
 go_wp2_with fail
 refine bodyPost_ret (v := .tuple #[.agg #[.int .i64 v.k, .int .i64 v.n, .string v.s], .bool (op2 3 x y).isSome]) (by simp [results, Tryz.results78, go_sem, z0, z1, z2]) rfl ⟨v, rfl, HW.out, ?_⟩
 repeat (first | with_reducible exact hz | with_reducible refine Below.drew ?_ | with_reducible refine Below.setCell ?_ (by simp; omega) _ | with_reducible refine Below.setCell ?_ (by simp) _)
set_option maxRecDepth 100000 in
set_option maxHeartbeats 1000000 in
theorem implTokValue4 (a0 a1 rows : Value) (t : Tk) (b off cap : Nat) (x y : Vl) (w : World) (ht : t.k = 4) (h : Six w b off x y) :
  Calls Tryz.prog 78 #[.agg #[a0, a1, .func (.func 112) #[] #[]], .agg #[.int .i64 t.k, .int .i64 t.c, .int .i64 t.vk, .int .i64 t.vn, .string t.vs], rows, .slice (some ⟨b, off, none⟩) 2 cap] w (OptPost (op2 4 x y) w) := by
 obtain ⟨k, c, vk, vn, vs⟩ := t
 simp only at ht
 subst ht
 have hb0 := (Below.refl w.heap.size w |>.alloc (Nat.le_refl _) (.cells #[a0, a1, .func (.func 112) #[] #[]] 128) |>.alloc (by simp only [size1]; omega) (.cells #[.int .i64 4, .int .i64 c, .int .i64 vk, .int .i64 vn, .string vs] 115) |>.alloc (by simp only [size1]; omega) (.cells #[.int .i64 0, .int .i64 0, .string ⟨#[]⟩] 53))
 have hs : Six (((w.alloc (.cells #[a0, a1, .func (.func 112) #[] #[]] 128)).alloc (.cells #[.int .i64 4, .int .i64 c, .int .i64 vk, .int .i64 vn, .string vs] 115)).alloc (.cells #[.int .i64 0, .int .i64 0, .string ⟨#[]⟩] 53)) b off x y := keep6 h hb0
 have rr := Row.newAt ((w.alloc (.cells #[a0, a1, .func (.func 112) #[] #[]] 128)).alloc (.cells #[.int .i64 4, .int .i64 c, .int .i64 vk, .int .i64 vn, .string vs] 115)) 53 #[.int .i64 0, .int .i64 0, .string ⟨#[]⟩] (w.heap.size + 1 + 1) (by simp only [size1])
 go_enter Tryz.func78, Tryz.ntmps78
 go_wp2_with fail
 generalize ((w.alloc (.cells #[a0, a1, .func (.func 112) #[] #[]] 128)).alloc (.cells #[.int .i64 4, .int .i64 c, .int .i64 vk, .int .i64 vn, .string vs] 115)).alloc (.cells #[.int .i64 0, .int .i64 0, .string ⟨#[]⟩] 53) = u at *
 refine (implLessOf b off cap x y _ hs).mono ?_
 rintro e y1 ⟨v, rfl, hv, hb1⟩
 have HW := Lib.hid hv
 have hz := hb0.trans (hb1.mono hb0.size)
 obtain ⟨⟨z0, z1, z2⟩, ⟨z3, z4, z5⟩⟩ := (rr.below hb1).three
 clear hv rr hs h
 go_wp2_with fail
 refine bodyPost_ret (v := .tuple #[.agg #[.int .i64 v.k, .int .i64 v.n, .string v.s], .bool (op2 4 x y).isSome]) (by simp [results, Tryz.results78, go_sem, z0, z1, z2]) rfl ⟨v, rfl, HW.out, ?_⟩
 repeat (first | with_reducible exact hz | with_reducible refine Below.drew ?_ | with_reducible refine Below.setCell ?_ (by simp; omega) _ | with_reducible refine Below.setCell ?_ (by simp) _)
set_option maxRecDepth 100000 in
set_option maxHeartbeats 1000000 in
theorem implTokValue5 (a0 a1 rows : Value) (t : Tk) (b off cap : Nat) (x y : Vl) (w : World) (ht : t.k = 5) (h : Six w b off x y) (hx : x.ok = true) (hy : y.ok = true) :
  Calls Tryz.prog 78 #[.agg #[a0, a1, .func (.func 113) #[] #[]], .agg #[.int .i64 t.k, .int .i64 t.c, .int .i64 t.vk, .int .i64 t.vn, .string t.vs], rows, .slice (some ⟨b, off, none⟩) 2 cap] w (OptPost (op2 5 x y) w) := by
 obtain ⟨k, c, vk, vn, vs⟩ := t
 simp only at ht
 subst ht
 have hb0 := (Below.refl w.heap.size w |>.alloc (Nat.le_refl _) (.cells #[a0, a1, .func (.func 113) #[] #[]] 128) |>.alloc (by simp only [size1]; omega) (.cells #[.int .i64 5, .int .i64 c, .int .i64 vk, .int .i64 vn, .string vs] 115) |>.alloc (by simp only [size1]; omega) (.cells #[.int .i64 0, .int .i64 0, .string ⟨#[]⟩] 53))
 have hs : Six (((w.alloc (.cells #[a0, a1, .func (.func 113) #[] #[]] 128)).alloc (.cells #[.int .i64 5, .int .i64 c, .int .i64 vk, .int .i64 vn, .string vs] 115)).alloc (.cells #[.int .i64 0, .int .i64 0, .string ⟨#[]⟩] 53)) b off x y := keep6 h hb0
 have rr := Row.newAt ((w.alloc (.cells #[a0, a1, .func (.func 113) #[] #[]] 128)).alloc (.cells #[.int .i64 5, .int .i64 c, .int .i64 vk, .int .i64 vn, .string vs] 115)) 53 #[.int .i64 0, .int .i64 0, .string ⟨#[]⟩] (w.heap.size + 1 + 1) (by simp only [size1])
 go_enter Tryz.func78, Tryz.ntmps78
 go_wp2_with fail
 generalize ((w.alloc (.cells #[a0, a1, .func (.func 113) #[] #[]] 128)).alloc (.cells #[.int .i64 5, .int .i64 c, .int .i64 vk, .int .i64 vn, .string vs] 115)).alloc (.cells #[.int .i64 0, .int .i64 0, .string ⟨#[]⟩] 53) = u at *
 refine (implBothOf b off cap x y _ hs hx hy).mono ?_
 rintro e y1 ⟨v, rfl, hv, hb1⟩
 have HW := Lib.hid hv
 have hz := hb0.trans (hb1.mono hb0.size)
 obtain ⟨⟨z0, z1, z2⟩, ⟨z3, z4, z5⟩⟩ := (rr.below hb1).three
 clear hv rr hs h
 go_wp2_with fail
 refine bodyPost_ret (v := .tuple #[.agg #[.int .i64 v.k, .int .i64 v.n, .string v.s], .bool (op2 5 x y).isSome]) (by simp [results, Tryz.results78, go_sem, z0, z1, z2]) rfl ⟨v, rfl, HW.out, ?_⟩
 repeat (first | with_reducible exact hz | with_reducible refine Below.drew ?_ | with_reducible refine Below.setCell ?_ (by simp; omega) _ | with_reducible refine Below.setCell ?_ (by simp) _)
set_option maxRecDepth 100000 in
set_option maxHeartbeats 1000000 in
theorem implTokValue6 (a0 a1 rows : Value) (t : Tk) (b off cap : Nat) (x y : Vl) (w : World) (ht : t.k = 6) (h : Six w b off x y) (hx : x.ok = true) (hy : y.ok = true) :
  Calls Tryz.prog 78 #[.agg #[a0, a1, .func (.func 114) #[] #[]], .agg #[.int .i64 t.k, .int .i64 t.c, .int .i64 t.vk, .int .i64 t.vn, .string t.vs], rows, .slice (some ⟨b, off, none⟩) 2 cap] w (OptPost (op2 6 x y) w) := by
 obtain ⟨k, c, vk, vn, vs⟩ := t
 simp only at ht
 subst ht
 have hb0 := (Below.refl w.heap.size w |>.alloc (Nat.le_refl _) (.cells #[a0, a1, .func (.func 114) #[] #[]] 128) |>.alloc (by simp only [size1]; omega) (.cells #[.int .i64 6, .int .i64 c, .int .i64 vk, .int .i64 vn, .string vs] 115) |>.alloc (by simp only [size1]; omega) (.cells #[.int .i64 0, .int .i64 0, .string ⟨#[]⟩] 53))
 have hs : Six (((w.alloc (.cells #[a0, a1, .func (.func 114) #[] #[]] 128)).alloc (.cells #[.int .i64 6, .int .i64 c, .int .i64 vk, .int .i64 vn, .string vs] 115)).alloc (.cells #[.int .i64 0, .int .i64 0, .string ⟨#[]⟩] 53)) b off x y := keep6 h hb0
 have rr := Row.newAt ((w.alloc (.cells #[a0, a1, .func (.func 114) #[] #[]] 128)).alloc (.cells #[.int .i64 6, .int .i64 c, .int .i64 vk, .int .i64 vn, .string vs] 115)) 53 #[.int .i64 0, .int .i64 0, .string ⟨#[]⟩] (w.heap.size + 1 + 1) (by simp only [size1])
 go_enter Tryz.func78, Tryz.ntmps78
 go_wp2_with fail
 generalize ((w.alloc (.cells #[a0, a1, .func (.func 114) #[] #[]] 128)).alloc (.cells #[.int .i64 6, .int .i64 c, .int .i64 vk, .int .i64 vn, .string vs] 115)).alloc (.cells #[.int .i64 0, .int .i64 0, .string ⟨#[]⟩] 53) = u at *
 refine (implEitherOf b off cap x y _ hs hx hy).mono ?_
 rintro e y1 ⟨v, rfl, hv, hb1⟩
 have HW := Lib.hid hv
 have hz := hb0.trans (hb1.mono hb0.size)
 obtain ⟨⟨z0, z1, z2⟩, ⟨z3, z4, z5⟩⟩ := (rr.below hb1).three
 clear hv rr hs h
 go_wp2_with fail
 refine bodyPost_ret (v := .tuple #[.agg #[.int .i64 v.k, .int .i64 v.n, .string v.s], .bool (op2 6 x y).isSome]) (by simp [results, Tryz.results78, go_sem, z0, z1, z2]) rfl ⟨v, rfl, HW.out, ?_⟩
 repeat (first | with_reducible exact hz | with_reducible refine Below.drew ?_ | with_reducible refine Below.setCell ?_ (by simp; omega) _ | with_reducible refine Below.setCell ?_ (by simp) _)
set_option maxRecDepth 100000 in
set_option maxHeartbeats 1000000 in
theorem implTokValue7 (a0 a1 rows : Value) (t : Tk) (b off cap : Nat) (x : Vl) (w : World) (ht : t.k = 7) (h : Tri w b off x) (hx : x.ok = true) :
  Calls Tryz.prog 78 #[.agg #[a0, a1, .func (.func 115) #[] #[]], .agg #[.int .i64 t.k, .int .i64 t.c, .int .i64 t.vk, .int .i64 t.vn, .string t.vs], rows, .slice (some ⟨b, off, none⟩) 1 cap] w (OptPost (op1 7 x) w) := by
 obtain ⟨k, c, vk, vn, vs⟩ := t
 simp only at ht
 subst ht
 have hb0 := (Below.refl w.heap.size w |>.alloc (Nat.le_refl _) (.cells #[a0, a1, .func (.func 115) #[] #[]] 128) |>.alloc (by simp only [size1]; omega) (.cells #[.int .i64 7, .int .i64 c, .int .i64 vk, .int .i64 vn, .string vs] 115) |>.alloc (by simp only [size1]; omega) (.cells #[.int .i64 0, .int .i64 0, .string ⟨#[]⟩] 53))
 have hs : Tri (((w.alloc (.cells #[a0, a1, .func (.func 115) #[] #[]] 128)).alloc (.cells #[.int .i64 7, .int .i64 c, .int .i64 vk, .int .i64 vn, .string vs] 115)).alloc (.cells #[.int .i64 0, .int .i64 0, .string ⟨#[]⟩] 53)) b off x := keep3 h hb0
 have rr := Row.newAt ((w.alloc (.cells #[a0, a1, .func (.func 115) #[] #[]] 128)).alloc (.cells #[.int .i64 7, .int .i64 c, .int .i64 vk, .int .i64 vn, .string vs] 115)) 53 #[.int .i64 0, .int .i64 0, .string ⟨#[]⟩] (w.heap.size + 1 + 1) (by simp only [size1])
 go_enter Tryz.func78, Tryz.ntmps78
 go_wp2_with fail
 generalize ((w.alloc (.cells #[a0, a1, .func (.func 115) #[] #[]] 128)).alloc (.cells #[.int .i64 7, .int .i64 c, .int .i64 vk, .int .i64 vn, .string vs] 115)).alloc (.cells #[.int .i64 0, .int .i64 0, .string ⟨#[]⟩] 53) = u at *
 refine (implNotOf b off cap x _ hs hx).mono ?_
 rintro e y1 ⟨v, rfl, hv, hb1⟩
 have HW := Lib.hid hv
 have hz := hb0.trans (hb1.mono hb0.size)
 obtain ⟨⟨z0, z1, z2⟩, ⟨z3, z4, z5⟩⟩ := (rr.below hb1).three
 clear hv rr hs h
 go_wp2_with fail
 refine bodyPost_ret (v := .tuple #[.agg #[.int .i64 v.k, .int .i64 v.n, .string v.s], .bool (op1 7 x).isSome]) (by simp [results, Tryz.results78, go_sem, z0, z1, z2]) rfl ⟨v, rfl, HW.out, ?_⟩
 repeat (first | with_reducible exact hz | with_reducible refine Below.drew ?_ | with_reducible refine Below.setCell ?_ (by simp; omega) _ | with_reducible refine Below.setCell ?_ (by simp) _)
set_option maxRecDepth 100000 in
set_option maxHeartbeats 1000000 in
theorem implTokValue8 (a0 a1 rows : Value) (t : Tk) (b off cap : Nat) (x : Vl) (w : World) (ht : t.k = 8) (h : Tri w b off x) :
  Calls Tryz.prog 78 #[.agg #[a0, a1, .func (.func 116) #[] #[]], .agg #[.int .i64 t.k, .int .i64 t.c, .int .i64 t.vk, .int .i64 t.vn, .string t.vs], rows, .slice (some ⟨b, off, none⟩) 1 cap] w (OptPost (op1 8 x) w) := by
 obtain ⟨k, c, vk, vn, vs⟩ := t
 simp only at ht
 subst ht
 have hb0 := (Below.refl w.heap.size w |>.alloc (Nat.le_refl _) (.cells #[a0, a1, .func (.func 116) #[] #[]] 128) |>.alloc (by simp only [size1]; omega) (.cells #[.int .i64 8, .int .i64 c, .int .i64 vk, .int .i64 vn, .string vs] 115) |>.alloc (by simp only [size1]; omega) (.cells #[.int .i64 0, .int .i64 0, .string ⟨#[]⟩] 53))
 have hs : Tri (((w.alloc (.cells #[a0, a1, .func (.func 116) #[] #[]] 128)).alloc (.cells #[.int .i64 8, .int .i64 c, .int .i64 vk, .int .i64 vn, .string vs] 115)).alloc (.cells #[.int .i64 0, .int .i64 0, .string ⟨#[]⟩] 53)) b off x := keep3 h hb0
 have rr := Row.newAt ((w.alloc (.cells #[a0, a1, .func (.func 116) #[] #[]] 128)).alloc (.cells #[.int .i64 8, .int .i64 c, .int .i64 vk, .int .i64 vn, .string vs] 115)) 53 #[.int .i64 0, .int .i64 0, .string ⟨#[]⟩] (w.heap.size + 1 + 1) (by simp only [size1])
 go_enter Tryz.func78, Tryz.ntmps78
 go_wp2_with fail
 generalize ((w.alloc (.cells #[a0, a1, .func (.func 116) #[] #[]] 128)).alloc (.cells #[.int .i64 8, .int .i64 c, .int .i64 vk, .int .i64 vn, .string vs] 115)).alloc (.cells #[.int .i64 0, .int .i64 0, .string ⟨#[]⟩] 53) = u at *
 refine (implNullOf b off cap x _ hs).mono ?_
 rintro e y1 ⟨v, rfl, hv, hb1⟩
 have HW := Lib.hid hv
 have hz := hb0.trans (hb1.mono hb0.size)
 obtain ⟨⟨z0, z1, z2⟩, ⟨z3, z4, z5⟩⟩ := (rr.below hb1).three
 clear hv rr hs h
 go_wp2_with fail
 refine bodyPost_ret (v := .tuple #[.agg #[.int .i64 v.k, .int .i64 v.n, .string v.s], .bool (op1 8 x).isSome]) (by simp [results, Tryz.results78, go_sem, z0, z1, z2]) rfl ⟨v, rfl, HW.out, ?_⟩
 repeat (first | with_reducible exact hz | with_reducible refine Below.drew ?_ | with_reducible refine Below.setCell ?_ (by simp; omega) _ | with_reducible refine Below.setCell ?_ (by simp) _)
set_option maxRecDepth 100000 in
set_option maxHeartbeats 1000000 in
theorem implTokValue9 (a0 a1 rows : Value) (t : Tk) (b off cap : Nat) (x y : Vl) (w : World) (ht : t.k = 9) (h : Six w b off x y) (hx : x.ok = true) (hy : y.ok = true) :
  Calls Tryz.prog 78 #[.agg #[a0, a1, .func (.func 117) #[] #[]], .agg #[.int .i64 t.k, .int .i64 t.c, .int .i64 t.vk, .int .i64 t.vn, .string t.vs], rows, .slice (some ⟨b, off, none⟩) 2 cap] w (OptPost (op2 9 x y) w) := by
 obtain ⟨k, c, vk, vn, vs⟩ := t
 simp only at ht
 subst ht
 have hb0 := (Below.refl w.heap.size w |>.alloc (Nat.le_refl _) (.cells #[a0, a1, .func (.func 117) #[] #[]] 128) |>.alloc (by simp only [size1]; omega) (.cells #[.int .i64 9, .int .i64 c, .int .i64 vk, .int .i64 vn, .string vs] 115) |>.alloc (by simp only [size1]; omega) (.cells #[.int .i64 0, .int .i64 0, .string ⟨#[]⟩] 53))
 have hs : Six (((w.alloc (.cells #[a0, a1, .func (.func 117) #[] #[]] 128)).alloc (.cells #[.int .i64 9, .int .i64 c, .int .i64 vk, .int .i64 vn, .string vs] 115)).alloc (.cells #[.int .i64 0, .int .i64 0, .string ⟨#[]⟩] 53)) b off x y := keep6 h hb0
 have rr := Row.newAt ((w.alloc (.cells #[a0, a1, .func (.func 117) #[] #[]] 128)).alloc (.cells #[.int .i64 9, .int .i64 c, .int .i64 vk, .int .i64 vn, .string vs] 115)) 53 #[.int .i64 0, .int .i64 0, .string ⟨#[]⟩] (w.heap.size + 1 + 1) (by simp only [size1])
 go_enter Tryz.func78, Tryz.ntmps78
 go_wp2_with fail
 generalize ((w.alloc (.cells #[a0, a1, .func (.func 117) #[] #[]] 128)).alloc (.cells #[.int .i64 9, .int .i64 c, .int .i64 vk, .int .i64 vn, .string vs] 115)).alloc (.cells #[.int .i64 0, .int .i64 0, .string ⟨#[]⟩] 53) = u at *
 refine (implSumOf b off cap x y _ hs hx hy).mono ?_
 rintro e y1 ⟨v, rfl, hv, hb1⟩
 have HW := Lib.hid hv
 have hz := hb0.trans (hb1.mono hb0.size)
 obtain ⟨⟨z0, z1, z2⟩, ⟨z3, z4, z5⟩⟩ := (rr.below hb1).three
 clear hv rr hs h
 go_wp2_with fail
 refine bodyPost_ret (v := .tuple #[.agg #[.int .i64 v.k, .int .i64 v.n, .string v.s], .bool (op2 9 x y).isSome]) (by simp [results, Tryz.results78, go_sem, z0, z1, z2]) rfl ⟨v, rfl, HW.out, ?_⟩
 repeat (first | with_reducible exact hz | with_reducible refine Below.drew ?_ | with_reducible refine Below.setCell ?_ (by simp; omega) _ | with_reducible refine Below.setCell ?_ (by simp) _)
set_option maxRecDepth 100000 in
set_option maxHeartbeats 1000000 in
theorem implTokValue10 (a0 a1 rows : Value) (t : Tk) (b off cap : Nat) (x y : Vl) (w : World) (ht : t.k = 10) (h : Six w b off x y) (hx : x.ok = true) (hy : y.ok = true) :
  Calls Tryz.prog 78 #[.agg #[a0, a1, .func (.func 118) #[] #[]], .agg #[.int .i64 t.k, .int .i64 t.c, .int .i64 t.vk, .int .i64 t.vn, .string t.vs], rows, .slice (some ⟨b, off, none⟩) 2 cap] w (OptPost (op2 10 x y) w) := by
 obtain ⟨k, c, vk, vn, vs⟩ := t
 simp only at ht
 subst ht
 have hb0 := (Below.refl w.heap.size w |>.alloc (Nat.le_refl _) (.cells #[a0, a1, .func (.func 118) #[] #[]] 128) |>.alloc (by simp only [size1]; omega) (.cells #[.int .i64 10, .int .i64 c, .int .i64 vk, .int .i64 vn, .string vs] 115) |>.alloc (by simp only [size1]; omega) (.cells #[.int .i64 0, .int .i64 0, .string ⟨#[]⟩] 53))
 have hs : Six (((w.alloc (.cells #[a0, a1, .func (.func 118) #[] #[]] 128)).alloc (.cells #[.int .i64 10, .int .i64 c, .int .i64 vk, .int .i64 vn, .string vs] 115)).alloc (.cells #[.int .i64 0, .int .i64 0, .string ⟨#[]⟩] 53)) b off x y := keep6 h hb0
 have rr := Row.newAt ((w.alloc (.cells #[a0, a1, .func (.func 118) #[] #[]] 128)).alloc (.cells #[.int .i64 10, .int .i64 c, .int .i64 vk, .int .i64 vn, .string vs] 115)) 53 #[.int .i64 0, .int .i64 0, .string ⟨#[]⟩] (w.heap.size + 1 + 1) (by simp only [size1])
 go_enter Tryz.func78, Tryz.ntmps78
 go_wp2_with fail
 generalize ((w.alloc (.cells #[a0, a1, .func (.func 118) #[] #[]] 128)).alloc (.cells #[.int .i64 10, .int .i64 c, .int .i64 vk, .int .i64 vn, .string vs] 115)).alloc (.cells #[.int .i64 0, .int .i64 0, .string ⟨#[]⟩] 53) = u at *
 refine (implDifferenceOf b off cap x y _ hs hx hy).mono ?_
 rintro e y1 ⟨v, rfl, hv, hb1⟩
 have HW := Lib.hid hv
 have hz := hb0.trans (hb1.mono hb0.size)
 obtain ⟨⟨z0, z1, z2⟩, ⟨z3, z4, z5⟩⟩ := (rr.below hb1).three
 clear hv rr hs h
 go_wp2_with fail
 refine bodyPost_ret (v := .tuple #[.agg #[.int .i64 v.k, .int .i64 v.n, .string v.s], .bool (op2 10 x y).isSome]) (by simp [results, Tryz.results78, go_sem, z0, z1, z2]) rfl ⟨v, rfl, HW.out, ?_⟩
 repeat (first | with_reducible exact hz | with_reducible refine Below.drew ?_ | with_reducible refine Below.setCell ?_ (by simp; omega) _ | with_reducible refine Below.setCell ?_ (by simp) _)
theorem Vals.six {w : World} {B : Option Addr} {x y : Vl} (h : Vals w B 2 [x, y]) : ∃ b off, B = some ⟨b, off, none⟩ ∧ Six w b off x y := by
 obtain ⟨b, off, rfl, c0, c1, c2⟩ := h.at_ (i := 0) (by simp)
 obtain ⟨b', off', e, d0, d1, d2⟩ := h.at_ (i := 1) (by simp)
 cases e
 exact ⟨b, off, rfl, by simpa using c0, by simpa using c1, by simpa using c2, by simpa using d0, by simpa using d1, by simpa using d2⟩
theorem Vals.tri {w : World} {B : Option Addr} {x : Vl} (h : Vals w B 1 [x]) : ∃ b off, B = some ⟨b, off, none⟩ ∧ Tri w b off x := by
 obtain ⟨b, off, rfl, c0, c1, c2⟩ := h.at_ (i := 0) (by simp)
 exact ⟨b, off, rfl, by simpa using c0, by simpa using c1, by simpa using c2⟩
theorem implTokValue (kk : Nat) (hk : 1 ≤ kk ∧ kk ≤ 10) (a0 a1 a2 : Value) (h2 : opsCells[kk * 3 + 2]? = some a2) (t : Tk) (ht : t.k = kk) (A B : Option Addr) (cap capB : Nat) (row xs : List Vl) (w : World)
  (htok : tokB t row.length = true) (hr : Vals w A row.length row) (hx : Vals w B (takes kk) xs) (hok : ∀ v ∈ xs, v.ok = true) :
  Calls Tryz.prog 78 #[.agg #[a0, a1, a2], .agg #[.int .i64 t.k, .int .i64 t.c, .int .i64 t.vk, .int .i64 t.vn, .string t.vs], .slice A row.length cap, .slice B (takes kk) capB] w (OptPost (tokVal row t xs) w) := by
 have hl := hx.len
 have hcases : kk = 1 ∨ kk = 2 ∨ kk = 3 ∨ kk = 4 ∨ kk = 5 ∨ kk = 6 ∨ kk = 7 ∨ kk = 8 ∨ kk = 9 ∨ kk = 10 := by omega
 rcases hcases with rfl | rfl | rfl | rfl | rfl | rfl | rfl | rfl | rfl | rfl
 ·have ht' : t.k = 1 := ht
  have e : tokVal row t xs = row[t.c.toNat]? := by simp [tokVal, ht']
  rw [e]
  simp only [tokB, ht', if_true, Bool.and_eq_true, decide_eq_true_eq] at htok
  exact implTokValue1 _ _ _ _ t A cap row w hr ht' htok.1 htok.2.1
 ·have ht' : t.k = 2 := ht
  have e : tokVal row t xs = some ⟨t.vk, t.vn, t.vs⟩ := by simp [tokVal, ht']
  rw [e]
  exact implTokValue2 _ _ _ _ _ t w ht'
 ·have ht' : t.k = 3 := ht
  have ea : a2 = .func (.func 111) #[] #[] := (Option.some.inj (h2.symm.trans rfl))
  subst ea
  match xs, hl with
  | [x, y], _ =>
   have e : tokVal row t [x, y] = op2 3 x y := by simp [tokVal, ht', opOf]
   rw [e]
   obtain ⟨b, off, rfl, h6⟩ := Vals.six (w := w) (B := B) hx
   exact implTokValue3 _ _ _ t b off capB x y w ht' h6
 ·have ht' : t.k = 4 := ht
  have ea : a2 = .func (.func 112) #[] #[] := (Option.some.inj (h2.symm.trans rfl))
  subst ea
  match xs, hl with
  | [x, y], _ =>
   have e : tokVal row t [x, y] = op2 4 x y := by simp [tokVal, ht', opOf]
   rw [e]
   obtain ⟨b, off, rfl, h6⟩ := Vals.six (w := w) (B := B) hx
   exact implTokValue4 _ _ _ t b off capB x y w ht' h6
 ·have ht' : t.k = 5 := ht
  have ea : a2 = .func (.func 113) #[] #[] := (Option.some.inj (h2.symm.trans rfl))
  subst ea
  match xs, hl with
  | [x, y], _ =>
   have e : tokVal row t [x, y] = op2 5 x y := by simp [tokVal, ht', opOf]
   rw [e]
   obtain ⟨b, off, rfl, h6⟩ := Vals.six (w := w) (B := B) hx
   exact implTokValue5 _ _ _ t b off capB x y w ht' h6 (hok x (by simp)) (hok y (by simp))
 ·have ht' : t.k = 6 := ht
  have ea : a2 = .func (.func 114) #[] #[] := (Option.some.inj (h2.symm.trans rfl))
  subst ea
  match xs, hl with
  | [x, y], _ =>
   have e : tokVal row t [x, y] = op2 6 x y := by simp [tokVal, ht', opOf]
   rw [e]
   obtain ⟨b, off, rfl, h6⟩ := Vals.six (w := w) (B := B) hx
   exact implTokValue6 _ _ _ t b off capB x y w ht' h6 (hok x (by simp)) (hok y (by simp))
 ·have ht' : t.k = 7 := ht
  have ea : a2 = .func (.func 115) #[] #[] := (Option.some.inj (h2.symm.trans rfl))
  subst ea
  match xs, hl with
  | [x], _ =>
   have e : tokVal row t [x] = op1 7 x := by simp [tokVal, ht', opOf]
   rw [e]
   obtain ⟨b, off, rfl, h6⟩ := Vals.tri (w := w) (B := B) hx
   exact implTokValue7 _ _ _ t b off capB x w ht' h6 (hok x (by simp))
 ·have ht' : t.k = 8 := ht
  have ea : a2 = .func (.func 116) #[] #[] := (Option.some.inj (h2.symm.trans rfl))
  subst ea
  match xs, hl with
  | [x], _ =>
   have e : tokVal row t [x] = op1 8 x := by simp [tokVal, ht', opOf]
   rw [e]
   obtain ⟨b, off, rfl, h6⟩ := Vals.tri (w := w) (B := B) hx
   exact implTokValue8 _ _ _ t b off capB x w ht' h6
 ·have ht' : t.k = 9 := ht
  have ea : a2 = .func (.func 117) #[] #[] := (Option.some.inj (h2.symm.trans rfl))
  subst ea
  match xs, hl with
  | [x, y], _ =>
   have e : tokVal row t [x, y] = op2 9 x y := by simp [tokVal, ht', opOf]
   rw [e]
   obtain ⟨b, off, rfl, h6⟩ := Vals.six (w := w) (B := B) hx
   exact implTokValue9 _ _ _ t b off capB x y w ht' h6 (hok x (by simp)) (hok y (by simp))
 ·have ht' : t.k = 10 := ht
  have ea : a2 = .func (.func 118) #[] #[] := (Option.some.inj (h2.symm.trans rfl))
  subst ea
  match xs, hl with
  | [x, y], _ =>
   have e : tokVal row t [x, y] = op2 10 x y := by simp [tokVal, ht', opOf]
   rw [e]
   obtain ⟨b, off, rfl, h6⟩ := Vals.six (w := w) (B := B) hx
   exact implTokValue10 _ _ _ t b off capB x y w ht' h6 (hok x (by simp)) (hok y (by simp))
set_option maxRecDepth 100000 in
theorem implSeenOk (A : Option Addr) (n cap : Nat) (row : List Vl) (w : World) (h : Vals w A n row) (hn : n ≤ maxLen) :
  Calls Tryz.prog 32 #[.slice A n cap] w fun e w' => e = .returned (.bool (rowB row)) ∧ Below w.heap.size w w' := by
 unfold maxLen at hn
 obtain rfl : n = row.length := h.len.symm
 by_cases h16 : (16 : Int) < row.length
 ·go_enter Tryz.func32, Tryz.ntmps32
  go_wp2
  go_ret
  exact ⟨retB (by simp [rowB]; omega), Below.refl _ _⟩
 have h16' : decide ((16 : Int) < row.length) = false := by simpa using h16
 go_enter Tryz.func32, Tryz.ntmps32
 go_wp2
 go_loopw [10] (fun i wr => ∃ k : Nat, k ≤ row.length ∧ i = .int .i64 k ∧ Hid ((row.take k).all Vl.ok = true) ∧ Below w.heap.size w wr) (fun i _ => row.length - (intOf i).toNat)
 case atStart => exact ⟨0, by omega, rfl, Lib.hid (by simp), Below.refl _ _⟩
 case round =>
  obtain ⟨k, hk, rfl, hall, hb⟩ := hrel
  by_cases hlt : k < row.length
  ·obtain ⟨b, off, rfl, c0, c1, c2⟩ := (h.below hb).at_ hlt
   cases hv : row[k].ok
   ·have HV := Lib.hid hv
    have HF := Lib.hid (show rowB row = false by
     have : row.all Vl.ok = false := List.all_eq_false.2 ⟨row[k], List.getElem_mem hlt, by simp [hv]⟩
     simp [rowB, this])
    clear hv
    go_wp2_with fail
    refine (implValOk row[k].k row[k].n row[k].s _).mono ?_
    rintro e w1 ⟨rfl, hb1⟩
    rw [show valOkB row[k].k row[k].n row[k].s = false from HV.out]
    go_wp2_with fail
    go_ret
    exact ⟨retB (by rw [HF.out]), hb.trans (((((Below.refl wr.heap.size wr).alloc (Nat.le_refl _) _).trans (hb1.mono (by simp))).mono hb.size))⟩
   ·have HV := Lib.hid hv
    have hall2 := Lib.hid (show (row.take (k + 1)).all Vl.ok = true by
     rw [List.take_succ_eq_append_getElem hlt, List.all_append, hall.out]
     simp [hv])
    clear hv hall
    go_wp2_with fail
    refine (implValOk row[k].k row[k].n row[k].s _).mono ?_
    rintro e w1 ⟨rfl, hb1⟩
    rw [show valOkB row[k].k row[k].n row[k].s = true from HV.out]
    go_wp2_with fail
    go_roundw
    case rel => exact ⟨k + 1, by omega, by go_num, hall2, hb.trans (((((Below.refl wr.heap.size wr).alloc (Nat.le_refl _) _).trans (hb1.mono (by simp))).mono hb.size))⟩
    case measure => simp [intOf]; omega
  ·have e : row.take k = row := List.take_of_length_le (by omega)
   have ha := hall.out
   rw [e] at ha
   have HA := Lib.hid ha
   clear hall ha e
   go_wp2
   go_ret
   exact ⟨retB (by simp [rowB, HA.out]; omega), hb⟩
def MadeF {α : Type} (R : Rd α) (sz : Nat) (xs : List α) (b : Bool) (w : World) (e : Ending) (w' : World) : Prop := ∃ A c, e = .returned (.tuple #[.slice A xs.length c, .bool b]) ∧ xs.length ≤ c ∧ Sl R sz (okF w.heap.size w') w' A xs.length xs ∧ Below w.heap.size w w'
def zeroVl : Vl := ⟨0, 0, ⟨#[]⟩⟩
def keyL (cols : List Int) (vals : List Vl) : List Vl := cols.map fun c => (vals[c.toNat]?).getD zeroVl
def inV (vals : List Vl) (c : Int) : Bool := decide (0 ≤ c) && decide (c < vals.length)
def knownL (l : List Vl) : Bool := l.all fun v => !(v.k == 0)
def keyOk (cols : List Int) (vals : List Vl) : Bool := rowB vals && cols.all (inV vals)
def keyOf (cols : List Int) (vals : List Vl) : List Vl := if keyOk cols vals then keyL cols vals else []
def keyFl (cols : List Int) (vals : List Vl) : Bool := keyOk cols vals && knownL (keyL cols vals)
theorem inV_nat {vals : List Vl} {c : Int} (h : inV vals c = true) : ∃ m : Nat, c = m ∧ m < vals.length := by
 simp only [inV, Bool.and_eq_true, decide_eq_true_eq] at h
 exact ⟨c.toNat, by omega, by omega⟩
theorem keyL_take {cols : List Int} {vals : List Vl} {k m : Nat} (h : k < cols.length) (hm : cols[k] = m) (hv : m < vals.length) : (keyL cols vals).take (k + 1) = (keyL cols vals).take k ++ [vals[m]] := by
 rw [List.take_succ_eq_append_getElem (by simpa [keyL] using h)]
 congr 2
 simp [keyL, hm, hv]
theorem known_take {l m : List Vl} {v : Vl} (h : m = l ++ [v]) : knownL m = (knownL l && !(v.k == 0)) := by subst h; simp [knownL]
end Go.Proofs.YtjhhamlnlalkoaaGreat
namespace Go.Proofs.YtjhhamlnlalkoaaGreat
open Go.RowKit Go.Maps
theorem infoValK : (Tryz.prog.info? 53).map (fun i => (i.zero, i.size, i.bytes)) = some (some (.agg #[.int .i64 0, .int .i64 0, .string ⟨#[]⟩]), 3, 32) := by kernel_rfl
def OwnV (w : World) (base : Nat) (v : Value) (xs : List Vl) : Prop := OwnG 53 3 Vl.cells w base v xs
theorem implPlaceK {p nc : Int} {b : Bool} (h : (decide (0 ≤ p) && decide (p < nc)) = b) (w : World) : Calls Tryz.prog 33 #[.int .i64 p, .int .i64 nc] w fun e w' => e = .returned (.bool b) ∧ w = w' := by
 subst h
 by_cases h0 : 0 ≤ p
 ·have h0' : decide (0 ≤ p) = true := decide_eq_true h0
  go_enter Tryz.func33, Tryz.ntmps33
  go_wp2
  go_ret
  exact ⟨by simp [h0'], rfl⟩
 ·have h0' : decide (0 ≤ p) = false := decide_eq_false h0
  go_enter Tryz.func33, Tryz.ntmps33
  go_wp2
  go_ret
  exact ⟨by simp [h0'], rfl⟩
theorem not_all_of {cols : List Int} {vals : List Vl} {k : Nat} (h : k < cols.length) (hf : inV vals cols[k] = false) : keyOk cols vals = false := by
 unfold keyOk
 rw [Bool.and_eq_false_iff]
 refine Or.inr ?_
 rw [List.all_eq_false]
 exact ⟨cols[k], List.getElem_mem h, by simp [hf]⟩
def MadeFO (xs : List Vl) (b : Bool) (w : World) (e : Ending) (w' : World) : Prop := ∃ v, e = .returned (.tuple #[v, .bool b]) ∧ OwnV w' w.heap.size v xs ∧ Below w.heap.size w w'
theorem MadeFO.made {xs : List Vl} {b : Bool} {w w' : World} {e : Ending} (h : MadeFO xs b w e w') : MadeF VlR 3 xs b w e w' := by
 obtain ⟨v, rfl, ho, hb⟩ := h
 obtain ⟨A, c, rfl, h1, -, h2⟩ := OwnG.sl (f := Vl.cells) (sz := 3) (fun _ => rfl) ho
 exact ⟨A, c, rfl, h1, h2, hb⟩
theorem ownV_of_laid {w : World} {base g : Nat} {cs : Array Value} {xs : List Vl} {ok : Nat → Prop} {k : Nat} (hr : Row w g 53 cs) (hb : base ≤ g) (hs : cs.size = xs.length * 3) (hm : xs.length ≤ maxLen) (h : LaidR VlR 3 ok w cs k xs) (hk : xs.length ≤ k) : OwnV w base (.slice (some ⟨g, 0, none⟩) xs.length xs.length) xs := by
 have e : cs.toList = (xs.map Vl.cells).flatten := by
  apply List.ext_getElem?
  intro p
  have hfl : ((xs.map Vl.cells).flatten).length = xs.length * 3 := by rw [flat_len (sz := 3) _ (fun c hc => by obtain ⟨v, -, rfl⟩ := List.mem_map.1 hc; rfl), List.length_map]
  by_cases hp : p < xs.length * 3
  ·have hi : p / 3 < xs.length := by omega
   obtain ⟨c, h1, h2, h3⟩ := h (p / 3) hi (by omega)
   have h2' : c = Vl.cells xs[p / 3] := h2
   subst h2'
   have h4 := flat_get (sz := 3) (xs.map Vl.cells) (p / 3) (p % 3) (by rw [List.length_map]; exact hi) (by omega) (fun c hc => by obtain ⟨v, -, rfl⟩ := List.mem_map.1 hc; rfl)
   have hpe : p / 3 * 3 + p % 3 = p := by omega
   rw [hpe, List.getElem_map] at h4
   rw [h4, Array.getElem?_toList]
   have hlt : p % 3 < (Vl.cells xs[p / 3]).length := by rw [h1]; omega
   have h5 := h3 (p % 3) _ (List.getElem?_eq_getElem hlt)
   rw [hpe] at h5
   rw [h5, List.getElem?_eq_getElem hlt]
  ·rw [List.getElem?_eq_none (by rw [Array.length_toList]; omega), List.getElem?_eq_none (by omega)]
 refine ⟨?_, .inr ⟨g, xs.length, cs, rfl, hb, hr, Nat.le_refl _, hm, by omega, ?_⟩⟩
 ·rw [flat_len (sz := 3) _ (fun c hc => by obtain ⟨v, -, rfl⟩ := List.mem_map.1 hc; rfl), List.length_map]
 ·rw [← e, List.take_of_length_le (by rw [Array.length_toList]; omega)]
set_option maxRecDepth 100000 in
set_option maxHeartbeats 2000000 in
theorem implKeyOfO (AC AV : Option Addr) (nC cC nV cV : Nat) (cols : List Int) (vals : List Vl) (ok ok' : Nat → Prop) (w : World) (hc : Sl IntR 1 ok w AC nC cols) (hv : Sl VlR 3 ok' w AV nV vals) (hcn : nC ≤ 1048576) (hvn : nV ≤ 1048576) :
  Calls Tryz.prog 11 #[.slice AC nC cC, .slice AV nV cV] w (MadeFO (keyOf cols vals) (keyFl cols vals) w) := by
 obtain rfl : cols.length = nC := hc.1
 obtain rfl : vals.length = nV := hv.1
 cases hB : rowB vals
 ·have HB := Lib.hid hB
  have HK := Lib.hid (show keyOf cols vals = [] ∧ keyFl cols vals = false by unfold keyOf keyFl keyOk; rw [hB]; exact ⟨rfl, rfl⟩)
  clear hB
  go_enter Tryz.func11, Tryz.ntmps11
  go_wp2_with fail
  refine (implSeenOk AV vals.length cV vals _ (Sl.cellz (fun _ => rfl) hv) (by unfold maxLen; omega)).mono ?_
  rintro e w1 ⟨rfl, hb1⟩
  rw [HB.out]
  go_wp2_with fail
  go_ret2
  exact ⟨_, by rw [HK.out.2]; rfl, by rw [HK.out.1]; exact OwnG.nil _ _, hb1⟩
 have HB := Lib.hid hB
 clear hB
 have hmk := fun w => mk_rows (P := Tryz.prog) Tryz.underlying34 infoValK (by omega) cols.length hcn w
 go_enter Tryz.func11, Tryz.ntmps11
 go_wp2_with fail
 refine (implSeenOk AV vals.length cV vals _ (Sl.cellz (fun _ => rfl) hv) (by unfold maxLen; omega)).mono ?_
 rintro e w1 ⟨rfl, hb1⟩
 rw [HB.out]
 go_wp2_with fail
 have row := Row.new w1 53 (madeCells #[.int .i64 0, .int .i64 0, .string ⟨#[]⟩] (cols.length * 3))
 have hb0 := hb1.alloc hb1.size (.cells (madeCells #[.int .i64 0, .int .i64 0, .string ⟨#[]⟩] (cols.length * 3)) 53)
 have hsz := size_madeCells #[.int .i64 0, .int .i64 0, .string ⟨#[]⟩] (cols.length * 3)
 have hg : w.heap.size ≤ w1.heap.size := hb1.size
 have HG := Lib.hid hg
 generalize hgw : w1.heap.size = g at *
 generalize w1.alloc (.cells (madeCells #[.int .i64 0, .int .i64 0, .string ⟨#[]⟩] (cols.length * 3)) 53) = x at *
 generalize madeCells #[.int .i64 0, .int .i64 0, .string ⟨#[]⟩] (cols.length * 3) = cs0 at *
 have HZ := Lib.hid hsz
 have HL := Lib.hid (show (keyL cols vals).length = cols.length by simp [keyL])
 clear hmk hsz hg hgw hb1
 go_loopw [7, 18] (fun kn i wr => ∃ (k : Nat) (b : Bool) (cs : Array Value), k ≤ cols.length ∧ i = .int .i64 k ∧ kn = .bool b ∧ Hid (b = knownL ((keyL cols vals).take k)) ∧ Row wr g 53 cs ∧ Hid (cs.size = cols.length * 3) ∧ Hid (LaidR VlR 3 (okF (g + 1) wr) wr cs k (keyL cols vals)) ∧ Hid ((cols.take k).all (inV vals) = true) ∧ Hid (g + 1 ≤ wr.heap.size) ∧ Below w.heap.size w wr) (fun _ i _ => cols.length - (intOf i).toNat)
 case atStart => exact ⟨0, true, cs0, by omega, rfl, rfl, Lib.hid rfl, row, HZ, Lib.hid (LaidR.zero _ _ _ _ _ _), Lib.hid rfl, Lib.hid (lt_of_block row), hb0⟩
 case round =>
  clear hb0 row
  obtain ⟨k, kb, cs, hk, rfl, rfl, hkb, hrow, hcs, hlaid, hall, hgw, hb⟩ := hrel
  by_cases hlt : k < cols.length
  ·obtain ⟨b, off, -, rfl, q0⟩ := IntR.at_ (hc.below IntR.stays hb) hlt
   have i0 : (0 : Int) ≤ k := by omega
   have i1 : (k : Int) < cols.length := by omega
   cases hin : inV vals cols[k]
   ·have HK := Lib.hid (show keyOf cols vals = [] ∧ keyFl cols vals = false by unfold keyOf keyFl; rw [not_all_of hlt hin]; exact ⟨rfl, rfl⟩)
    have HI := Lib.hid (show (decide (0 ≤ cols[k]) && decide (cols[k] < (vals.length : Int))) = false from hin)
    clear hin
    go_wp2_with fail
    refine (implPlaceK HI.out _).mono ?_
    rintro e w2 ⟨rfl, rfl⟩
    go_wp2_with fail
    go_ret2
    exact ⟨_, by rw [HK.out.2]; rfl, by rw [HK.out.1]; exact OwnG.nil _ _, hb⟩
   ·obtain ⟨m, hm, hmv⟩ := inV_nat hin
    have HT := Lib.hid (keyL_take hlt hm hmv)
    have HA := Lib.hid (show (cols.take (k + 1)).all (inV vals) = true by rw [List.take_succ_eq_append_getElem hlt, List.all_append, hall.out]; simp [hin])
    have HI := Lib.hid (show (decide (0 ≤ (m : Int)) && decide ((m : Int) < (vals.length : Int))) = true by rw [← hm]; exact hin)
    rw [hm] at q0
    obtain ⟨bv, offv, -, rfl, y0, y1, y2⟩ := VlR.at_ (hv.below VlR.stays hb) hmv
    have hsz1 : k * 3 + 3 ≤ cs.size := by rw [hcs.out]; omega
    have q : ∀ j, j < 3 → wr.cell? ⟨g, k * 3 + j, none⟩ = some (cs[k * 3 + j]?.getD undef) := fun j hj => by
     rw [hrow.cell, Array.getElem?_eq_getElem (by omega)]; rfl
    have z0 : wr.cell? ⟨g, k * 3, none⟩ = some (cs[k * 3]?.getD undef) := q 0 (by omega)
    have z1 := q 1 (by omega)
    have z2 := q 2 (by omega)
    have f0 := hrow.free (k * 3)
    have f1 := hrow.free (k * 3 + 1)
    have f2 := hrow.free (k * 3 + 2)
    have j0 : (0 : Int) ≤ m := by omega
    have j1 : (m : Int) < vals.length := by omega
    have HR := Lib.hid hrow
    have HM := Lib.hid hm
    have hLk : k < (keyL cols vals).length := by rw [HL.out]; exact hlt
    have HKM := Lib.hid (show (keyL cols vals)[k] = vals[m] by simp [keyL, hm, hmv])
    have HS := Lib.hid hsz1
    clear q hrow hm hin hall hsz1
    generalize hvm : vals[m] = v at *
    have HVM := Lib.hid hvm
    clear hvm
    cases kb
    ·have HB2 := Lib.hid (show false = knownL ((keyL cols vals).take (k + 1)) by rw [known_take HT.out, ← hkb.out]; rfl)
     clear hkb
     go_wp2_with fail
     refine (implPlaceK HI.out _).mono ?_
     rintro e w2 ⟨rfl, rfl⟩
     go_wp2_with fail
     go_roundw
     case rel => exact ⟨k + 1, _, _, by omega, by go_num, rfl, HB2, ((HR.out.set _ _).set _ _).set _ _, Lib.hid (by simp [hcs.out]), Lib.hid ((((hlaid.out.setF VlR.stays (by simp) _).setF VlR.stays (by simp) _).setF VlR.stays (by simp) _).more hLk (c := [.int .i64 v.k, .int .i64 v.n, .string v.s]) rfl (by rw [HKM.out]; rfl) (hold3 cs k _ _ _) (fresh3 cs k _ _ _ HS.out)), HA, Lib.hid (by simpa using hgw.out), ((hb.setCell (by simpa using HG.out) _).setCell (by simpa using HG.out) _).setCell (by simpa using HG.out) _⟩
     case measure => simp [intOf]; omega
    ·have HB2 := Lib.hid (show (v.k != 0) = knownL ((keyL cols vals).take (k + 1)) by rw [known_take HT.out, ← hkb.out]; rfl)
     clear hkb
     go_wp2_with fail
     refine (implPlaceK HI.out _).mono ?_
     rintro e w2 ⟨rfl, rfl⟩
     go_wp2_with fail
     go_roundw
     case rel => exact ⟨k + 1, _, _, by omega, by go_num, rfl, HB2, ((HR.out.set _ _).set _ _).set _ _, Lib.hid (by simp [hcs.out]), Lib.hid ((((hlaid.out.setF VlR.stays (by simp) _).setF VlR.stays (by simp) _).setF VlR.stays (by simp) _).more hLk (c := [.int .i64 v.k, .int .i64 v.n, .string v.s]) rfl (by rw [HKM.out]; rfl) (hold3 cs k _ _ _) (fresh3 cs k _ _ _ HS.out)), HA, Lib.hid (by simpa using hgw.out), ((hb.setCell (by simpa using HG.out) _).setCell (by simpa using HG.out) _).setCell (by simpa using HG.out) _⟩
     case measure => simp [intOf]; omega
  ·obtain rfl : k = cols.length := by omega
   have hok : keyOk cols vals = true := by
    have h1 := hall.out
    rw [List.take_of_length_le (Nat.le_refl _)] at h1
    unfold keyOk
    rw [HB.out, h1]; rfl
   have hsl := ownV_of_laid hrow HG.out (by rw [hcs.out, HL.out]) (by rw [HL.out]; unfold maxLen; omega) hlaid.out (Nat.le_of_eq HL.out)
   rw [HL.out] at hsl
   have HK := Lib.hid (show keyOf cols vals = keyL cols vals by unfold keyOf; rw [hok]; rfl)
   have HF := Lib.hid (show keyFl cols vals = kb by
    have h1 := hkb.out
    rw [List.take_of_length_le (Nat.le_of_eq HL.out)] at h1
    unfold keyFl; rw [hok, h1]; rfl)
   have HSL := Lib.hid hsl
   clear hok hsl
   go_wp2_with fail
   go_ret2
   exact ⟨_, by rw [HF.out]; rfl, by rw [HK.out]; exact HSL.out, hb⟩
theorem implKeyOf (AC AV : Option Addr) (nC cC nV cV : Nat) (cols : List Int) (vals : List Vl) (ok ok' : Nat → Prop) (w : World) (hc : Sl IntR 1 ok w AC nC cols) (hv : Sl VlR 3 ok' w AV nV vals) (hcn : nC ≤ 1048576) (hvn : nV ≤ 1048576) :
  Calls Tryz.prog 11 #[.slice AC nC cC, .slice AV nV cV] w (MadeF VlR 3 (keyOf cols vals) (keyFl cols vals) w) :=
 (implKeyOfO AC AV nC cC nV cV cols vals ok ok' w hc hv hcn hvn).mono fun _ _ h => h.made
theorem specInK {n lo hi : Int} {b : Bool} (h : (decide (lo ≤ n) && decide (n ≤ hi)) = b) (w : World) :
  Calls Tryz.prog 93 #[.int .i64 n, .int .i64 lo, .int .i64 hi] w fun e w' => e = .returned (.bool b) ∧ w = w' := by
 subst h
 by_cases h0 : lo ≤ n
 ·have h0' : decide (lo ≤ n) = true := decide_eq_true h0
  go_enter Tryz.func93, Tryz.ntmps93
  go_wp2
  go_ret
  exact ⟨by simp [h0'], rfl⟩
 ·have h0' : decide (lo ≤ n) = false := decide_eq_false h0
  go_enter Tryz.func93, Tryz.ntmps93
  go_wp2
  go_ret
  exact ⟨by simp [h0'], rfl⟩
theorem grown_rowK {w w' : World} {row : Option Nat} (hg : w.grownBy w' row) {g : Nat} {T : TypeId} {cs : Array Value} (h : Row w g T cs) (hne : ∀ k, row = some k → k ≠ g) : Row w' g T cs :=
 (hg.block g (lt_of_block h) (fun e => hne g e.symm rfl)).trans h
set_option maxRecDepth 100000 in
set_option maxHeartbeats 2000000 in
theorem specL4KeyO (AC AV : Option Addr) (nC cC nV cV : Nat) (cols : List Int) (vals : List Vl) (ok ok' : Nat → Prop) (w : World) (hc : Sl IntR 1 ok w AC nC cols) (hv : Sl VlR 3 ok' w AV nV vals) (hcn : nC ≤ 1048576) (hvn : nV ≤ 1048576) (hall : cols.all (inV vals) = true) :
  Calls Tryz.prog 131 #[.slice AC nC cC, .slice AV nV cV] w (MadeFO (keyL cols vals) (knownL (keyL cols vals)) w) := by
 obtain rfl : cols.length = nC := hc.1
 obtain rfl : vals.length = nV := hv.1
 obtain ⟨i0, hi, hz0, hz1, hz2⟩ := info_parts infoValK
 have H1 := Lib.hid hi
 have H2 := Lib.hid hz0
 have H3 := Lib.hid hz1
 have H4 := Lib.hid hz2
 have HALL := Lib.hid hall
 have HL := Lib.hid (show (keyL cols vals).length = cols.length by simp [keyL])
 clear hi hz0 hz1 hz2 hall
 have hb0 := (Below.refl w.heap.size w).alloc (Nat.le_refl _) (.cells #[] 53)
 have ho0 : Hid (OwnV _ w.heap.size _ []) := Lib.hid (OwnG.lit (T := 53) (sz := 3) (f := Vl.cells) w (Nat.le_refl w.heap.size))
 go_enter Tryz.func131, Tryz.ntmps131
 go_wp2_with fail
 generalize w.alloc (.cells #[] 53) = z0 at *
 go_loopw [6, 7, 8] (fun v kn i wr => ∃ (k : Nat) (b : Bool), k ≤ cols.length ∧ i = .int .i64 k ∧ kn = .bool b ∧ Hid (b = knownL ((keyL cols vals).take k)) ∧ Hid (OwnV wr w.heap.size v ((keyL cols vals).take k)) ∧ Below w.heap.size w wr) (fun _ _ i _ => cols.length - (intOf i).toNat)
 case atStart => exact ⟨0, true, by omega, rfl, rfl, Lib.hid rfl, ho0, hb0⟩
 case round =>
  clear hb0 ho0
  obtain ⟨k, kb, hk, rfl, rfl, hkb, hown, hb⟩ := hrel
  by_cases hlt : k < cols.length
  ·obtain ⟨b, off, -, rfl, q0⟩ := IntR.at_ (hc.below IntR.stays hb) hlt
   have i0' : (0 : Int) ≤ k := by omega
   have i1 : (k : Int) < cols.length := by omega
   obtain ⟨m, hm, hmv⟩ := inV_nat (List.all_eq_true.1 HALL.out _ (List.getElem_mem hlt))
   have HT := Lib.hid (keyL_take hlt hm hmv)
   rw [hm] at q0
   obtain ⟨bv, offv, -, rfl, y0, y1, y2⟩ := VlR.at_ (hv.below VlR.stays hb) hmv
   have j0 : (0 : Int) ≤ m := by omega
   have j1 : (m : Int) < vals.length := by omega
   have HLK := Lib.hid (show ((keyL cols vals).take k).length = k by rw [List.length_take, HL.out]; omega)
   clear hm
   generalize hvm : vals[m] = v at *
   generalize hxs : (keyL cols vals).take k = xs at *
   have HVM := Lib.hid hvm
   have HXS := Lib.hid hxs
   clear hvm hxs
   have hbx := hb.alloc hb.size (.cells #[.int .i64 v.k, .int .i64 v.n, .string v.s] 53)
   have hlb := (Below.refl wr.heap.size wr).alloc (Nat.le_refl _) (.cells #[.int .i64 v.k, .int .i64 v.n, .string v.s] 53)
   have hoz := Lib.hid (OwnG.below hown.out hlb)
   have rb := Row.new wr 53 #[.int .i64 v.k, .int .i64 v.n, .string v.s]
   have hne := Lib.hid (fun j hj => Nat.ne_of_lt (OwnG.block_lt hown.out j hj).2)
   clear hlb hown
   have hRB := Lib.hid rb
   clear rb
   cases kb
   ·have HB2 := Lib.hid (show false = knownL ((keyL cols vals).take (k + 1)) by rw [known_take HT.out, ← hkb.out]; rfl)
    clear hkb
    go_wp2_with (at_builtin; refine wpList_append_own _ rfl _ _ 34 rfl w.heap.size 53 i0 (.agg #[.int .i64 0, .int .i64 0, .string ⟨#[]⟩]) 3 32 Tryz.underlying34 H1.out H2.out H3.out H4.out rfl (by decide) _ _ _ rfl (World.ownsRow.alloc hoz.out _) ⟨_, 0, none⟩ 1 1 (Vl.cells v) rfl rfl ?c1 ?c2 ?c3 ?c4 ?c5 ?_)
    case c1 => exact cells_newAt _ (Vl.cells v) _ (by simp)
    case c2 => intro u hu; simp [Vl.cells] at hu; rcases hu with rfl | rfl | rfl <;> rfl
    case c3 => have := HLK.out; unfold maxLen; omega
    case c4 => have := HLK.out; omega
    case c5 => have := hbx.size; simp at this ⊢; omega
    intro v' w3 hown3 hgrow _
    have R := Lib.hid (OwnG.app hoz.out hbx.size hown3 hgrow)
    have rb3 := grown_rowK hgrow (hRB.out.alloc _) hne.out
    clear hown3 hgrow hoz hRB
    obtain ⟨⟨x0, x1, x2⟩, -⟩ := rb3.three
    go_wp2_with fail
    go_roundw
    case rel => exact ⟨k + 1, false, by omega, by go_num, rfl, HB2, Lib.hid (by rw [HT.out]; exact R.out.1), hbx.trans R.out.2⟩
    case measure => simp [intOf]; omega
   ·have HB2 := Lib.hid (show (v.k != 0) = knownL ((keyL cols vals).take (k + 1)) by rw [known_take HT.out, ← hkb.out]; rfl)
    clear hkb
    go_wp2_with (at_builtin; refine wpList_append_own _ rfl _ _ 34 rfl w.heap.size 53 i0 (.agg #[.int .i64 0, .int .i64 0, .string ⟨#[]⟩]) 3 32 Tryz.underlying34 H1.out H2.out H3.out H4.out rfl (by decide) _ _ _ rfl (World.ownsRow.alloc hoz.out _) ⟨_, 0, none⟩ 1 1 (Vl.cells v) rfl rfl ?d1 ?d2 ?d3 ?d4 ?d5 ?_)
    case d1 => exact cells_newAt _ (Vl.cells v) _ (by simp)
    case d2 => intro u hu; simp [Vl.cells] at hu; rcases hu with rfl | rfl | rfl <;> rfl
    case d3 => have := HLK.out; unfold maxLen; omega
    case d4 => have := HLK.out; omega
    case d5 => have := hbx.size; simp at this ⊢; omega
    intro v' w3 hown3 hgrow _
    have R := Lib.hid (OwnG.app hoz.out hbx.size hown3 hgrow)
    have rb3 := grown_rowK hgrow (hRB.out.alloc _) hne.out
    clear hown3 hgrow hoz hRB
    obtain ⟨⟨x0, x1, x2⟩, -⟩ := rb3.three
    go_wp2_with fail
    go_roundw
    case rel => exact ⟨k + 1, (v.k != 0), by omega, by go_num, rfl, HB2, Lib.hid (by rw [HT.out]; exact R.out.1), hbx.trans R.out.2⟩
    case measure => simp [intOf]; omega
  ·obtain rfl : k = cols.length := by omega
   have e1 := hown.out
   have e2 := hkb.out
   rw [List.take_of_length_le (Nat.le_of_eq HL.out)] at e1 e2
   have HKB := Lib.hid e2
   have HSL := Lib.hid e1
   clear hown hkb e1 e2
   go_wp2_with fail
   go_ret2
   exact ⟨_, by rw [← HKB.out]; rfl, HSL.out, hb⟩
theorem specL4Key (AC AV : Option Addr) (nC cC nV cV : Nat) (cols : List Int) (vals : List Vl) (ok ok' : Nat → Prop) (w : World) (hc : Sl IntR 1 ok w AC nC cols) (hv : Sl VlR 3 ok' w AV nV vals) (hcn : nC ≤ 1048576) (hvn : nV ≤ 1048576) (hall : cols.all (inV vals) = true) :
  Calls Tryz.prog 131 #[.slice AC nC cC, .slice AV nV cV] w (MadeF VlR 3 (keyL cols vals) (knownL (keyL cols vals)) w) :=
 (specL4KeyO AC AV nC cC nV cV cols vals ok ok' w hc hv hcn hvn hall).mono fun _ _ h => h.made
end Go.Proofs.YtjhhamlnlalkoaaGreat
namespace Go.Proofs.YtjhhamlnlalkoaaGreat
open Go.RowKit
theorem Sl.drew {α : Type} {R : Rd α} (hR : Stays R) {sz : Nat} {ok : Nat → Prop} {w : World} {A : Option Addr} {n : Nat} {ds : List α} (h : Sl R sz ok w A n ds) : Sl R sz ok w.drew A n ds := h.stays hR (fun _ h => h) fun _ _ _ h => h
end Go.Proofs.YtjhhamlnlalkoaaGreat
namespace Go.Proofs.YtjhhamlnlalkoaaGreat
open Go.RowKit Go.Maps
def atGo (s : ByteArray) : List ByteArray → Nat → Int
 | [], _ => -1
 | x :: xs, i => if (x.toList == s.toList) = true then (i : Int) else atGo s xs (i + 1)
def atN (names : List ByteArray) (s : ByteArray) : Int := atGo s names 0
theorem atGo_snoc (s x : ByteArray) : ∀ (l : List ByteArray) (i : Nat), atGo s (l ++ [x]) i = if atGo s l i = -1 then (if (x.toList == s.toList) = true then ((i + l.length : Nat) : Int) else -1) else atGo s l i
 | [], i => by simp [atGo]
 | y :: ys, i => by
  cases hb : (y.toList == s.toList)
  ·simp only [List.cons_append, atGo, hb, Bool.false_eq_true, if_false]
   rw [atGo_snoc s x ys (i + 1), show i + 1 + ys.length = i + (y :: ys).length by simp; omega]
  ·simp only [List.cons_append, atGo, hb, if_true]
   rw [if_neg (by omega)]
theorem atGo_rng (s : ByteArray) : ∀ (l : List ByteArray) (i : Nat), atGo s l i = -1 ∨ ((i : Int) ≤ atGo s l i ∧ atGo s l i < i + l.length)
 | [], i => .inl rfl
 | y :: ys, i => by
  cases hb : (y.toList == s.toList)
  ·simp only [atGo, hb, Bool.false_eq_true, if_false]
   rcases atGo_rng s ys (i + 1) with h1 | h1
   ·exact .inl h1
   ·right; simp at h1 ⊢; omega
  ·simp only [atGo, hb, if_true]
   right; simp; omega
theorem atN_snoc (l : List ByteArray) (s x : ByteArray) : atN (l ++ [x]) s = if atN l s = -1 then (if (x.toList == s.toList) = true then (l.length : Int) else -1) else atN l s := by
 unfold atN; rw [atGo_snoc]; simp
theorem atN_rng (l : List ByteArray) (s : ByteArray) : atN l s = -1 ∨ (0 ≤ atN l s ∧ atN l s < l.length) := by
 rcases atGo_rng s l 0 with h | h
 ·exact .inl h
 ·right; unfold atN; simpa using h
def cntGo (seen : List ByteArray) : List ByteArray → Nat
 | [] => 0
 | x :: xs => (if atN seen x = -1 then 1 else 0) + cntGo (seen ++ [x]) xs
theorem cntGo_snoc (x : ByteArray) : ∀ (l seen : List ByteArray), cntGo seen (l ++ [x]) = cntGo seen l + (if atN (seen ++ l) x = -1 then 1 else 0)
 | [], seen => by simp [cntGo]
 | y :: ys, seen => by
  simp only [List.cons_append, cntGo, cntGo_snoc x ys (seen ++ [y]), List.append_assoc, List.nil_append]
  omega
def uniqGo (seen : List ByteArray) : List ByteArray → Bool
 | [] => true
 | x :: xs => decide (atN seen x = -1) && uniqGo (seen ++ [x]) xs
theorem cntGo_le : ∀ (l seen : List ByteArray), cntGo seen l ≤ l.length
 | [], _ => Nat.le_refl _
 | x :: xs, seen => by
  have := cntGo_le xs (seen ++ [x])
  simp only [cntGo, List.length_cons]
  split <;> omega
theorem cntGo_uniq : ∀ (l seen : List ByteArray), (cntGo seen l == l.length) = uniqGo seen l
 | [], _ => rfl
 | x :: xs, seen => by
  have h1 := cntGo_le xs (seen ++ [x])
  have h2 := cntGo_uniq xs (seen ++ [x])
  simp only [cntGo, uniqGo, List.length_cons, ← h2]
  by_cases h : atN seen x = -1
  ·rw [if_pos h, decide_eq_true h, Bool.true_and, Bool.eq_iff_iff]; simp; omega
  ·rw [if_neg h, decide_eq_false h, Bool.false_and]; simp; omega
def keyS (s : ByteArray) : Lit := .string s.data.toList
def PlacesIn (w : World) (b : Nat) (names : List ByteArray) : Prop := ∃ D : DataW Unit, w.ownsMap Tryz.prog 9 (plainElem Tryz.prog 2) b names.length D ∧ Tidy D ∧
 (∀ s : ByteArray, Maps.has D (keyS s) = decide (atN names s ≠ -1)) ∧ (∀ s : ByteArray, atN names s ≠ -1 → D.atKey (keyS s) (.lit (.int .i64 0)) = .lit (.int .i64 (atN names s))) ∧ Maps.size D = cntGo [] names
theorem keyS_key (s : ByteArray) : WideAt.IsKeyLit (keyS s) := by first | trivial | (simp [keyS, WideAt.IsKeyLit]) | (unfold keyS WideAt.IsKeyLit; trivial)
theorem keyS_of (s : ByteArray) (hs : s.size ≤ maxLen) : Go.keyOf Tryz.prog 9 (.string s) = some (keyS s) := Go.WideMaps.keyOf_string_mk Tryz.underlying9 hs
theorem lawS : Keyed Tryz.prog 9 := string_keyed Tryz.underlying9
theorem zeroI (w : World) : (zeroValue 2).run Tryz.prog w = .ok (.int .i64 0) w := by kernel_rfl
theorem keyS_eq {s x : ByteArray} : keyS x = keyS s ↔ (x.toList == s.toList) = true := by
 rw [ByteArray.toList_eq, ByteArray.toList_eq]
 simp [keyS]
theorem PlacesIn.made (w : World) : PlacesIn (w.alloc (.map #[] 0)) w.heap.size [] :=
 ⟨.map [], World.ownsMap_made _ _ _ _, tidy_empty, fun s => by simp [Maps.has, atN, atGo], fun s h => absurd rfl h, rfl⟩
theorem PlacesIn.kept {w w' : World} {b : Nat} {names : List ByteArray} {row : Option Nat} (h : PlacesIn w b names) (hg : w.grownBy w' row) (hne : some b ≠ row) : PlacesIn w' b names := by
 obtain ⟨D, h1, h2, h3, h4, h5⟩ := h
 exact ⟨D, h1.kept hg hne, h2, h3, h4, h5⟩
theorem PlacesIn.alloc {w : World} {b : Nat} {names : List ByteArray} (h : PlacesIn w b names) (o : Obj) : PlacesIn (w.alloc o) b names := h.kept (World.grownBy_alloc w o none) (by simp)
theorem PlacesIn.drew {w : World} {b : Nat} {names : List ByteArray} (h : PlacesIn w b names) : PlacesIn w.drew b names := h
theorem places_more {w' : World} {b : Nat} {names : List ByteArray} {s : ByteArray} {D : DataW Unit} (hno : atN names s = -1) (h1 : w'.ownsMap Tryz.prog 9 (plainElem Tryz.prog 2) b (names.length + 1) (D.put (keyS s) (.lit (.int .i64 names.length)))) (h2 : Tidy D)
  (h3 : ∀ s : ByteArray, Maps.has D (keyS s) = decide (atN names s ≠ -1)) (h4 : ∀ s : ByteArray, atN names s ≠ -1 → D.atKey (keyS s) (.lit (.int .i64 0)) = .lit (.int .i64 (atN names s))) (h5 : Maps.size D = cntGo [] names) : PlacesIn w' b (names ++ [s]) := by
 refine ⟨_, by simpa using h1, h2.put (keyS_key s) _, fun u => ?_, fun u hu => ?_, by
  rw [Maps.size_put h2, h3 s, decide_eq_false (by simp [hno]), cntGo_snoc, List.nil_append, if_pos hno, ← h5]; rfl⟩
 ·rw [atN_snoc]
  by_cases e : keyS u = keyS s
  ·rw [e, Maps.has_put_same h2.isMap (keyS_key s)]
   have e2 : (s.toList == u.toList) = true := keyS_eq.1 e.symm
   by_cases hu : atN names u = -1
   ·rw [if_pos hu, if_pos e2]; simp
   ·rw [if_neg hu]; simp [hu]
  ·rw [Maps.has_put_other e, h3]
   have e2 : ¬ (s.toList == u.toList) = true := fun h => e (keyS_eq.2 h).symm
   by_cases hu : atN names u = -1
   ·rw [if_pos hu, if_neg e2]; simp [hu]
   ·rw [if_neg hu]
 ·rw [atN_snoc] at hu ⊢
  by_cases e : keyS u = keyS s
  ·have e2 : (s.toList == u.toList) = true := keyS_eq.1 e.symm
   have hu2 : atN names u = -1 := by
    have e3 : s.toList = u.toList := by simpa using e2
    have : atN names u = atN names s := by
     have hh : ∀ (l : List ByteArray) (i : Nat), atGo u l i = atGo s l i := by
      intro l
      induction l with
      | nil => intro i; rfl
      | cons y ys ih => intro i; simp only [atGo, e3, ih]
     exact hh _ _
    rw [this]; exact hno
   rw [if_pos hu2, if_pos e2, e, Maps.atKey_put_same h2.isMap (keyS_key s)]
  ·have e2 : ¬ (s.toList == u.toList) = true := fun h => e (keyS_eq.2 h).symm
   by_cases hu2 : atN names u = -1
   ·rw [if_pos hu2, if_neg e2] at hu; exact absurd rfl hu
   ·rw [if_neg hu2] at hu ⊢
    rw [Maps.atKey_put_other e]
    exact h4 u hu2
theorem places_same {w : World} {b : Nat} {names : List ByteArray} {s : ByteArray} (hyes : atN names s ≠ -1) (h : PlacesIn w b names) : PlacesIn w b (names ++ [s]) := by
 obtain ⟨D, h1, h2, h3, h4, h5⟩ := h
 have key : ∀ u, atN (names ++ [s]) u = atN names u := fun u => by
  rw [atN_snoc]
  by_cases hu : atN names u = -1
  ·rw [if_pos hu]
   by_cases e : (s.toList == u.toList) = true
   ·exfalso
    have e3 : s.toList = u.toList := by simpa using e
    have hh : ∀ (l : List ByteArray) (i : Nat), atGo u l i = atGo s l i := by
     intro l
     induction l with
     | nil => intro i; rfl
     | cons y ys ih => intro i; simp only [atGo, e3, ih]
    exact hyes ((hh names 0).symm.trans hu)
   ·rw [if_neg e, hu]
  ·rw [if_neg hu]
 exact ⟨D, h1.mono (by simp), h2, fun u => by rw [key]; exact h3 u, fun u hu => by rw [key] at hu ⊢; exact h4 u hu, by rw [cntGo_snoc, List.nil_append, if_neg hyes, Nat.add_zero]; exact h5⟩
theorem implAddFirst (b : Nat) (names : List ByteArray) (s : ByteArray) (w : World) (h : PlacesIn w b names) (hs : s.size ≤ maxLen) (hn : names.length ≤ 1048576) :
  Calls Tryz.prog 81 #[.map (some b), .string s, .int .i64 names.length] w fun e w' => e = .returned (.tuple #[]) ∧ PlacesIn w' b (names ++ [s]) ∧ w.grownBy w' (some b) := by
 obtain ⟨D, h1, h2, h3, h4, h5⟩ := h
 have wf : (Lit.int .i64 (names.length : Int)).wf = true := WalkArith.wf_i64 (by omega)
 have hval := plainElem_int (H := Unit) Tryz.underlying2 wf
 by_cases hno : atN names s = -1
 ·have hh := h3 s
  rw [decide_eq_false (by simp [hno])] at hh
  have HH := Lib.hid hh
  have HN := Lib.hid hno
  have H3 := Lib.hid h3
  have H4 := Lib.hid h4
  have H5 := Lib.hid h5
  clear hh hno h3 h4 h5
  go_enter Tryz.func81, Tryz.ntmps81
  go_wp2_with (first
   | (at_lookup; refine wpList_lookup_own_ok_int _ rfl _ _ 93 rfl 9 2 .i64 lawS Tryz.underlying93 Tryz.underlying2 (zeroI _) b names.length D rfl h1 _ _ rfl (keyS_of s hs) ?_; intro c hat hwc; rw [HH.out])
   | (at_mapUpdate; refine wpList_mapUpdate_own _ rfl _ _ _ 93 rfl 9 2 lawS Tryz.underlying93 _ b names.length D rfl h1 (by unfold maxLen; omega) _ _ _ rfl rfl (keyS_of s hs) _ [] hval ?_; intro w1 hown1 hgrow1))
  go_end0
  exact ⟨rfl, places_more HN.out hown1 h2 H3.out H4.out H5.out, hgrow1⟩
 ·have hh := h3 s
  rw [decide_eq_true hno] at hh
  have HH := Lib.hid hh
  have HP := Lib.hid (places_same hno ⟨D, h1, h2, h3, h4, h5⟩)
  clear hh hno h3 h4 h5
  go_enter Tryz.func81, Tryz.ntmps81
  go_wp2_with (first
   | (at_lookup; refine wpList_lookup_own_ok_int _ rfl _ _ 93 rfl 9 2 .i64 lawS Tryz.underlying93 Tryz.underlying2 (zeroI _) b names.length D rfl h1 _ _ rfl (keyS_of s hs) ?_; intro c hat hwc; rw [HH.out]))
  go_end0
  exact ⟨rfl, HP.out, ⟨rfl, rfl, rfl, Nat.le_refl _, fun _ _ _ => rfl⟩⟩
theorem implPlaceOf (b : Nat) (names : List ByteArray) (s : ByteArray) (w : World) (h : PlacesIn w b names) (hs : s.size ≤ maxLen) :
  Calls Tryz.prog 47 #[.map (some b), .string s] w fun e w' => e = .returned (.int .i64 (atN names s)) ∧ w = w' := by
 obtain ⟨D, h1, h2, h3, h4, h5⟩ := h
 have hh := h3 s
 by_cases hno : atN names s = -1
 ·rw [decide_eq_false (by simp [hno])] at hh
  have HH := Lib.hid hh
  have HN := Lib.hid hno
  clear hh hno h3 h4 h5
  go_enter Tryz.func47, Tryz.ntmps47
  go_wp2_with (first
   | (at_lookup; refine wpList_lookup_own_ok_int _ rfl _ _ 93 rfl 9 2 .i64 lawS Tryz.underlying93 Tryz.underlying2 (zeroI _) b names.length D rfl h1 _ _ rfl (keyS_of s hs) ?_; intro c hat hwc; rw [HH.out]))
  go_ret
  exact ⟨retI (by rw [HN.out]), rfl⟩
 ·rw [decide_eq_true hno] at hh
  have HH := Lib.hid hh
  have HA := Lib.hid (h4 s hno)
  clear hh hno h3 h4 h5
  go_enter Tryz.func47, Tryz.ntmps47
  go_wp2_with (first
   | (at_lookup; refine wpList_lookup_own_ok_int _ rfl _ _ 93 rfl 9 2 .i64 lawS Tryz.underlying93 Tryz.underlying2 (zeroI _) b names.length D rfl h1 _ _ rfl (keyS_of s hs) ?_; intro c hat hwc; rw [HH.out]))
  go_ret
  exact ⟨retI (by have := HA.out; rw [hat] at this; simpa using this), rfl⟩
theorem atGo_drop (nm : ByteArray) (names : List ByteArray) (k : Nat) (h : k < names.length) : atGo nm (names.drop k) k = if (names[k].toList == nm.toList) = true then (k : Int) else atGo nm (names.drop (k + 1)) (k + 1) := by
 rw [List.drop_eq_getElem_cons h]; rfl
theorem tb_name_le {s : List Tb} (hs : szL Tb.sz s ≤ 1048576) (k : Nat) (h : k < s.length) : s[k].name.size ≤ maxLen := by
 have := sum_mem_le Tb.sz s k h
 unfold szL at hs
 have h2 : s[k].name.size ≤ s[k].sz := by unfold Tb.sz; omega
 unfold maxLen; omega
theorem cl_name_le {s : List Cl} (hs : szL Cl.sz s ≤ 1048576) (k : Nat) (h : k < s.length) : s[k].name.size ≤ maxLen := by
 have := sum_mem_le Cl.sz s k h
 unfold szL at hs
 have h2 : s[k].name.size ≤ s[k].sz := by unfold Cl.sz; omega
 unfold maxLen; omega
set_option maxRecDepth 100000 in
set_option maxHeartbeats 1000000 in
theorem specL3At (A : Option Addr) (n c : Nat) (s : List Tb) (nm : ByteArray) (ok : Nat → Prop) (w : World) (h : Sl TbR 6 ok w A n s) (hn : n ≤ 1048576) :
  Calls Tryz.prog 99 #[.slice A n c, .string nm] w fun e w' => e = .returned (.int .i64 (atN (s.map Tb.name) nm)) ∧ Below w.heap.size w w' := by
 obtain rfl : s.length = n := h.1
 have hlen : (s.map Tb.name).length = s.length := by simp
 have HL := Lib.hid hlen
 clear hlen
 go_enter Tryz.func99, Tryz.ntmps99
 go_wp2
 go_loopw [5] (fun i wr => ∃ k : Nat, k ≤ s.length ∧ i = .int .i64 k ∧ Hid (atN (s.map Tb.name) nm = atGo nm ((s.map Tb.name).drop k) k) ∧ Below w.heap.size w wr) (fun i _ => s.length - (intOf i).toNat)
 case atStart => exact ⟨0, by omega, rfl, Lib.hid rfl, Below.refl _ _⟩
 case round =>
  obtain ⟨k, hk, rfl, hat, hb⟩ := hrel
  by_cases hlt : k < s.length
  ·obtain ⟨b, off, A1, n1, c1, A2, n2, c2, A3, n3, c3, A4, n4, c4, A5, n5, c5, -, rfl, q0, q1, q2, q3, q4, q5, -⟩ := TbR.at_ (h.below TbR.stays hb) hlt
   have hd := atGo_drop nm (s.map Tb.name) k (by rw [HL.out]; exact hlt)
   rw [List.getElem_map] at hd
   have i0 : (0 : Int) ≤ k := by omega
   have i1 : (k : Int) < s.length := by omega
   cases he : (s[k].name.toList == nm.toList)
   ·rw [he] at hd
    have HA := Lib.hid (hat.out.trans hd)
    clear hd hat
    go_wp2_with fail
    go_roundw
    case rel => exact ⟨k + 1, by omega, by go_num, Lib.hid (by simpa using HA.out), hb⟩
    case measure => simp [intOf]; omega
   ·rw [he] at hd
    have HA := Lib.hid (hat.out.trans hd)
    clear hd hat
    go_wp2_with fail
    go_ret
    exact ⟨retI (by simpa using HA.out.symm), hb⟩
  ·have e : (s.map Tb.name).drop k = [] := List.drop_eq_nil_of_le (by rw [HL.out]; omega)
   have h1 := hat.out
   rw [e] at h1
   have HA := Lib.hid h1
   clear h1 hat e
   go_wp2
   go_ret
   exact ⟨retI HA.out.symm, hb⟩
def MadePlaces (names : List ByteArray) (w : World) (e : Ending) (w' : World) : Prop := ∃ b, e = .returned (.map (some b)) ∧ PlacesIn w' b names ∧ w.heap.size ≤ b ∧ Below w.heap.size w w'
set_option maxRecDepth 100000 in
set_option maxHeartbeats 1000000 in
theorem implTablePlaces (A : Option Addr) (n c : Nat) (s : List Tb) (ok : Nat → Prop) (w : World) (h : Sl TbR 6 ok w A n s) (hs : szL Tb.sz s ≤ 1048576) :
  Calls Tryz.prog 48 #[.slice A n c] w (MadePlaces (s.map Tb.name) w) := by
 obtain rfl : s.length = n := h.1
 have hn : s.length ≤ 1048576 := by unfold szL at hs; omega
 have HS := Lib.hid hs
 clear hs
 have hmm := @run_makeMap Tryz.prog
 go_enter Tryz.func48, Tryz.ntmps48
 go_wp2
 have hm0 := PlacesIn.made w
 have hb0 := (Below.refl w.heap.size w).alloc (Nat.le_refl _) (.map #[] 0)
 generalize w.alloc (.map #[] 0) = x0 at *
 clear hmm
 go_loopw [9] (fun i wr => ∃ k : Nat, k ≤ s.length ∧ i = .int .i64 k ∧ PlacesIn wr w.heap.size ((s.map Tb.name).take k) ∧ Below w.heap.size w wr) (fun i _ => s.length - (intOf i).toNat)
 case atStart => exact ⟨0, by omega, rfl, hm0, hb0⟩
 case round =>
  obtain ⟨k, hk, rfl, hpl, hb⟩ := hrel
  by_cases hlt : k < s.length
  ·obtain ⟨b, off, A1, n1, c1, A2, n2, c2, A3, n3, c3, A4, n4, c4, A5, n5, c5, -, rfl, q0, q1, q2, q3, q4, q5, -⟩ := TbR.at_ (h.below TbR.stays hb) hlt
   have hl : ((s.map Tb.name).take k).length = k := by simp; omega
   have hsn : (s.map Tb.name).take (k + 1) = (s.map Tb.name).take k ++ [s[k].name] := by rw [List.take_succ_eq_append_getElem (by simpa using hlt)]; simp
   have hz := Lib.hid (tb_name_le HS.out k hlt)
   have HL := Lib.hid hl
   have HSN := Lib.hid hsn
   clear hl hsn
   have hpa := hpl.alloc (.cells #[.string s[k].name, .slice A1 n1 c1, .slice A2 n2 c2, .slice A3 n3 c3, .slice A4 n4 c4, .slice A5 n5 c5] 45)
   have hba := hb.alloc hb.size (.cells #[.string s[k].name, .slice A1 n1 c1, .slice A2 n2 c2, .slice A3 n3 c3, .slice A4 n4 c4, .slice A5 n5 c5] 45)
   go_wp2_with fail
   have hcall := implAddFirst w.heap.size _ s[k].name _ hpa hz.out (by rw [HL.out]; omega)
   rw [HL.out] at hcall
   refine hcall.mono ?_
   rintro e w1 ⟨rfl, hp1, hg1⟩
   clear hcall
   go_wp2_with fail
   go_roundw
   case rel => exact ⟨k + 1, by omega, by go_num, by rw [HSN.out]; exact hp1, hba.grown hg1 hba.size (fun j hj => by cases hj; exact Nat.le_refl _)⟩
   case measure => simp [intOf]; omega
  ·have e : (s.map Tb.name).take k = s.map Tb.name := List.take_of_length_le (by simp; omega)
   rw [e] at hpl
   clear e
   go_wp2
   go_ret
   exact ⟨_, rfl, hpl, Nat.le_refl _, hb⟩
theorem implTableAt (A : Option Addr) (n c : Nat) (s : List Tb) (nm : ByteArray) (ok : Nat → Prop) (w : World) (h : Sl TbR 6 ok w A n s) (hs : szL Tb.sz s ≤ 1048576) (hnm : nm.size ≤ maxLen) :
  Calls Tryz.prog 22 #[.slice A n c, .string nm] w fun e w' => e = .returned (.int .i64 (atN (s.map Tb.name) nm)) ∧ Below w.heap.size w w' := by
 go_enter Tryz.func22, Tryz.ntmps22
 go_wp2_with fail
 refine (implTablePlaces A n c s ok w h hs).mono ?_
 rintro e w1 ⟨b, rfl, hp, hb0, hb⟩
 go_wp2_with fail
 refine (implPlaceOf b _ nm _ hp hnm).mono ?_
 rintro e w2 ⟨rfl, rfl⟩
 go_wp2
 go_ret
 exact ⟨rfl, hb⟩
set_option maxRecDepth 100000 in
set_option maxHeartbeats 1000000 in
theorem implColPlaces (A : Option Addr) (n c : Nat) (s : List Cl) (ok : Nat → Prop) (w : World) (h : Sl ClR 6 ok w A n s) (hs : szL Cl.sz s ≤ 1048576) :
  Calls Tryz.prog 121 #[.slice A n c] w (MadePlaces (s.map Cl.name) w) := by
 obtain rfl : s.length = n := h.1
 have hn : s.length ≤ 1048576 := by unfold szL at hs; omega
 have HS := Lib.hid hs
 clear hs
 have hmm := @run_makeMap Tryz.prog
 go_enter Tryz.func121, Tryz.ntmps121
 go_wp2
 have hm0 := PlacesIn.made w
 have hb0 := (Below.refl w.heap.size w).alloc (Nat.le_refl _) (.map #[] 0)
 generalize w.alloc (.map #[] 0) = x0 at *
 clear hmm
 go_loopw [9] (fun i wr => ∃ k : Nat, k ≤ s.length ∧ i = .int .i64 k ∧ PlacesIn wr w.heap.size ((s.map Cl.name).take k) ∧ Below w.heap.size w wr) (fun i _ => s.length - (intOf i).toNat)
 case atStart => exact ⟨0, by omega, rfl, hm0, hb0⟩
 case round =>
  obtain ⟨k, hk, rfl, hpl, hb⟩ := hrel
  by_cases hlt : k < s.length
  ·obtain ⟨b, off, -, rfl, q0, q1, q2, q3, q4, q5⟩ := ClR.at_ (h.below ClR.stays hb) hlt
   have hl : ((s.map Cl.name).take k).length = k := by simp; omega
   have hsn : (s.map Cl.name).take (k + 1) = (s.map Cl.name).take k ++ [s[k].name] := by rw [List.take_succ_eq_append_getElem (by simpa using hlt)]; simp
   have hz := Lib.hid (cl_name_le HS.out k hlt)
   have HL := Lib.hid hl
   have HSN := Lib.hid hsn
   clear hl hsn
   have hpa := hpl.alloc (.cells #[.string s[k].name, .int .i64 s[k].kind, .bool s[k].nn, .int .i64 s[k].d.k, .int .i64 s[k].d.n, .string s[k].d.s] 55)
   have hba := hb.alloc hb.size (.cells #[.string s[k].name, .int .i64 s[k].kind, .bool s[k].nn, .int .i64 s[k].d.k, .int .i64 s[k].d.n, .string s[k].d.s] 55)
   go_wp2_with fail
   have hcall := implAddFirst w.heap.size _ s[k].name _ hpa hz.out (by rw [HL.out]; omega)
   rw [HL.out] at hcall
   refine hcall.mono ?_
   rintro e w1 ⟨rfl, hp1, hg1⟩
   clear hcall
   go_wp2_with fail
   go_roundw
   case rel => exact ⟨k + 1, by omega, by go_num, by rw [HSN.out]; exact hp1, hba.grown hg1 hba.size (fun j hj => by cases hj; exact Nat.le_refl _)⟩
   case measure => simp [intOf]; omega
  ·have e : (s.map Cl.name).take k = s.map Cl.name := List.take_of_length_le (by simp; omega)
   rw [e] at hpl
   clear e
   go_wp2
   go_ret
   exact ⟨_, rfl, hpl, Nat.le_refl _, hb⟩
set_option maxRecDepth 100000 in
set_option maxHeartbeats 1000000 in
theorem specColAt (A1 : Option Addr) (n1 c1 : Nat) (v0 v2 v3 v4 v5 : Value) (s : List Cl) (nm : ByteArray) (ok : Nat → Prop) (w : World) (h : Sl ClR 6 ok w A1 n1 s) (hn : n1 ≤ 1048576) :
  Calls Tryz.prog 95 #[.agg #[v0, .slice A1 n1 c1, v2, v3, v4, v5], .string nm] w fun e w' => e = .returned (.int .i64 (atN (s.map Cl.name) nm)) ∧ Below w.heap.size w w' := by
 obtain rfl : s.length = n1 := h.1
 have hlen : (s.map Cl.name).length = s.length := by simp
 have HL := Lib.hid hlen
 clear hlen
 have hb0 := (Below.refl w.heap.size w).alloc (Nat.le_refl _) (.cells #[v0, .slice A1 s.length c1, v2, v3, v4, v5] 45)
 have r0 := Row.new w 45 #[v0, .slice A1 s.length c1, v2, v3, v4, v5]
 go_enter Tryz.func95, Tryz.ntmps95
 go_wp2
 generalize w.alloc (.cells #[v0, .slice A1 s.length c1, v2, v3, v4, v5] 45) = x0 at *
 go_loopw [5] (fun i wr => ∃ k : Nat, k ≤ s.length ∧ i = .int .i64 k ∧ Hid (atN (s.map Cl.name) nm = atGo nm ((s.map Cl.name).drop k) k) ∧ x0 = wr) (fun i _ => s.length - (intOf i).toNat)
 case atStart => exact ⟨0, by omega, rfl, Lib.hid rfl, rfl⟩
 case round =>
  obtain ⟨k, hk, rfl, hat, rfl⟩ := hrel
  obtain ⟨⟨a0, a1, a2, a3, a4, a5⟩, -⟩ := r0.all6
  by_cases hlt : k < s.length
  ·obtain ⟨b, off, -, rfl, q0, q1, q2, q3, q4, q5⟩ := ClR.at_ (h.below ClR.stays hb0) hlt
   have hd := atGo_drop nm (s.map Cl.name) k (by rw [HL.out]; exact hlt)
   rw [List.getElem_map] at hd
   have i0 : (0 : Int) ≤ k := by omega
   have i1 : (k : Int) < s.length := by omega
   cases he : (s[k].name.toList == nm.toList)
   ·rw [he] at hd
    have HA := Lib.hid (hat.out.trans hd)
    clear hd hat
    go_wp2_with fail
    go_roundw
    case rel => exact ⟨k + 1, by omega, by go_num, Lib.hid (by simpa using HA.out), by first | trivial | rfl⟩
    case measure => simp [intOf]; omega
   ·rw [he] at hd
    have HA := Lib.hid (hat.out.trans hd)
    clear hd hat
    go_wp2_with fail
    go_ret
    exact ⟨retI (by simpa using HA.out.symm), hb0⟩
  ·have e : (s.map Cl.name).drop k = [] := List.drop_eq_nil_of_le (by rw [HL.out]; omega)
   have h1 := hat.out
   rw [e] at h1
   have HA := Lib.hid h1
   clear h1 hat e
   go_wp2
   go_ret
   exact ⟨retI HA.out.symm, hb0⟩
def lowC (c : UInt8) : Bool := decide (97 ≤ (c.toNat : Int)) && decide ((c.toNat : Int) ≤ 122)
def charsB (s : ByteArray) : Bool := s.data.toList.all lowC
def nameB (s : ByteArray) : Bool := charsB s && (decide (1 ≤ (s.size : Int)) && decide ((s.size : Int) ≤ 8))
theorem all_take {α : Type} (f : α → Bool) (l : List α) (k : Nat) (h : k < l.length) : (l.take (k + 1)).all f = ((l.take k).all f && f l[k]) := by
 rw [List.take_succ_eq_append_getElem h, List.all_append]; simp
theorem all_no {α : Type} (f : α → Bool) (l : List α) (k : Nat) (h : k < l.length) (hf : f l[k] = false) : l.all f = false := by
 rw [Bool.eq_false_iff]; intro ha
 have := List.all_eq_true.1 ha l[k] (List.getElem_mem h)
 rw [hf] at this; cases this
set_option maxHeartbeats 400000 in
theorem specName (s : ByteArray) (w : World) (hs : s.size ≤ maxLen) :
  Calls Tryz.prog 92 #[.string s] w fun e w' => e = .returned (.bool (nameB s)) ∧ w = w' := by
 unfold maxLen at hs
 go_enter Tryz.func92, Tryz.ntmps92
 go_wp2
 go_loop [3] (fun i => ∃ k : Nat, k ≤ s.size ∧ i = .int .i64 k ∧ Hid ((s.data.toList.take k).all lowC = true)) (fun i => s.size - (intOf i).toNat)
 case atStart => exact ⟨0, by omega, rfl, Lib.hid (by simp)⟩
 case round =>
  obtain ⟨k, hk, rfl, hall⟩ := hrel
  by_cases hlt : k < s.size
  ·have hl : k < s.data.toList.length := by simpa using hlt
   have hsn := all_take lowC s.data.toList k hl
   have hget : s.data.toList[k] = s[k] := by simp [ByteArray.getElem_eq_getElem_data]
   rw [hall.out, hget, Bool.true_and] at hsn
   by_cases h1 : (s[k].toNat : Int) < 97
   ·have HN := Lib.hid (show nameB s = false by
     unfold nameB charsB
     rw [all_no lowC _ k hl (by rw [hget]; unfold lowC; rw [decide_eq_false (by omega)]; rfl), Bool.false_and])
    clear hsn hget hall
    go_wp2
    go_ret
    exact ⟨retB HN.out.symm, rfl⟩
   by_cases h2 : 122 < (s[k].toNat : Int)
   ·have HN := Lib.hid (show nameB s = false by
     unfold nameB charsB
     rw [all_no lowC _ k hl (by rw [hget]; unfold lowC; rw [decide_eq_false (p := (s[k].toNat : Int) ≤ 122) (by omega), Bool.and_false]), Bool.false_and])
    have h1' : decide ((s[k].toNat : Int) < 97) = false := by simpa using h1
    clear hsn hget hall
    go_wp2
    go_ret
    exact ⟨retB HN.out.symm, rfl⟩
   ·have HA := Lib.hid (show (s.data.toList.take (k + 1)).all lowC = true by rw [hsn]; unfold lowC; rw [decide_eq_true (by omega), decide_eq_true (by omega)]; rfl)
    have h1' : decide ((s[k].toNat : Int) < 97) = false := by simpa using h1
    have h2' : decide (122 < (s[k].toNat : Int)) = false := by simpa using h2
    clear hsn hget hall
    go_wp2
    go_round
    case rel => exact ⟨k + 1, by omega, by go_num, HA⟩
    case measure => simp [intOf]; omega
  ·have e : s.data.toList.take k = s.data.toList := List.take_of_length_le (by simp; omega)
   have h1 := hall.out
   rw [e] at h1
   have HN := Lib.hid (show nameB s = (decide (1 ≤ (s.size : Int)) && decide ((s.size : Int) ≤ 8)) by unfold nameB charsB; rw [h1, Bool.true_and])
   clear h1 e hall
   go_wp2_with fail
   refine (specIn _ _ _ _).mono ?_
   rintro e w1 ⟨rfl, rfl⟩
   go_wp2
   go_ret
   exact ⟨retB HN.out.symm, rfl⟩
set_option maxHeartbeats 400000 in
theorem implIsName (s : ByteArray) (w : World) (hs : s.size ≤ maxLen) :
  Calls Tryz.prog 85 #[.string s] w fun e w' => e = .returned (.bool (nameB s)) ∧ w = w' := by
 unfold maxLen at hs
 by_cases hsm : (s.size : Int) < 1
 ·have HN := Lib.hid (show nameB s = false by unfold nameB; rw [decide_eq_false (p := 1 ≤ (s.size : Int)) (by omega), Bool.false_and, Bool.and_false])
  go_enter Tryz.func85, Tryz.ntmps85
  go_wp2
  go_ret
  exact ⟨retB HN.out.symm, rfl⟩
 have hsm' : decide ((s.size : Int) < 1) = false := by simpa using hsm
 by_cases hbig : 8 < (s.size : Int)
 ·have HN := Lib.hid (show nameB s = false by unfold nameB; rw [decide_eq_false (p := (s.size : Int) ≤ 8) (by omega), Bool.and_false, Bool.and_false])
  go_enter Tryz.func85, Tryz.ntmps85
  go_wp2
  go_ret
  exact ⟨retB HN.out.symm, rfl⟩
 have hbig' : decide (8 < (s.size : Int)) = false := by simpa using hbig
 have HSZ := Lib.hid (show (decide (1 ≤ (s.size : Int)) && decide ((s.size : Int) ≤ 8)) = true by rw [decide_eq_true (by omega), decide_eq_true (by omega)]; rfl)
 go_enter Tryz.func85, Tryz.ntmps85
 go_wp2
 go_loop [14] (fun i => ∃ k : Nat, k ≤ s.size ∧ i = .int .i64 k ∧ Hid ((s.data.toList.take k).all lowC = true)) (fun i => s.size - (intOf i).toNat)
 case atStart => exact ⟨0, by omega, rfl, Lib.hid (by simp)⟩
 case round =>
  obtain ⟨k, hk, rfl, hall⟩ := hrel
  by_cases hlt : k < s.size
  ·have hl : k < s.data.toList.length := by simpa using hlt
   have hsn := all_take lowC s.data.toList k hl
   have hget : s.data.toList[k] = s[k] := by simp [ByteArray.getElem_eq_getElem_data]
   rw [hall.out, hget, Bool.true_and] at hsn
   by_cases h1 : (s[k].toNat : Int) < 97
   ·have HN := Lib.hid (show nameB s = false by
     unfold nameB charsB
     rw [all_no lowC _ k hl (by rw [hget]; unfold lowC; rw [decide_eq_false (by omega)]; rfl), Bool.false_and])
    clear hsn hget hall
    go_wp2
    go_ret
    exact ⟨retB HN.out.symm, rfl⟩
   by_cases h2 : 122 < (s[k].toNat : Int)
   ·have HN := Lib.hid (show nameB s = false by
     unfold nameB charsB
     rw [all_no lowC _ k hl (by rw [hget]; unfold lowC; rw [decide_eq_false (p := (s[k].toNat : Int) ≤ 122) (by omega), Bool.and_false]), Bool.false_and])
    have h1' : decide ((s[k].toNat : Int) < 97) = false := by simpa using h1
    clear hsn hget hall
    go_wp2
    go_ret
    exact ⟨retB HN.out.symm, rfl⟩
   ·have HA := Lib.hid (show (s.data.toList.take (k + 1)).all lowC = true by rw [hsn]; unfold lowC; rw [decide_eq_true (by omega), decide_eq_true (by omega)]; rfl)
    have h1' : decide ((s[k].toNat : Int) < 97) = false := by simpa using h1
    have h2' : decide (122 < (s[k].toNat : Int)) = false := by simpa using h2
    clear hsn hget hall
    go_wp2
    go_round
    case rel => exact ⟨k + 1, by omega, by go_num, HA⟩
    case measure => simp [intOf]; omega
  ·have e : s.data.toList.take k = s.data.toList := List.take_of_length_le (by simp; omega)
   have h1 := hall.out
   rw [e] at h1
   have HN := Lib.hid (show nameB s = true by unfold nameB charsB; rw [h1, Bool.true_and]; exact HSZ.out)
   clear h1 e hall
   go_wp2
   go_ret
   exact ⟨retB HN.out.symm, rfl⟩
def hasB (l : List Int) (x : Int) : Bool := l.contains x
def colsGo (n : Int) (seen : List Int) : List Int → Bool
 | [] => true
 | x :: xs => (decide (0 ≤ x) && decide (x < n) && !hasB seen x) && colsGo n (seen ++ [x]) xs
def colsInB (l : List Int) (n : Int) : Bool := colsGo n [] l && decide (0 < l.length)
theorem colsGo_at (n : Int) (l : List Int) (k : Nat) (h : k < l.length) : colsGo n (l.take k) (l.drop k) = ((decide (0 ≤ l[k]) && decide (l[k] < n) && !hasB (l.take k) l[k]) && colsGo n (l.take (k + 1)) (l.drop (k + 1))) := by
 rw [List.drop_eq_getElem_cons h, List.take_succ_eq_append_getElem h]; rfl
theorem php : ∀ (n : Nat) (l : List Int), l.Nodup → (∀ x ∈ l, 0 ≤ x ∧ x < n) → l.length ≤ n
 | 0, l, _, h => by
  cases l with
  | nil => simp
  | cons x xs => have := h x (by simp); omega
 | n + 1, l, hd, h => by
  by_cases hm : (n : Int) ∈ l
  ·have h1 := php n (l.erase (n : Int)) (hd.erase _) fun x hx => by
    have hx' := (List.Nodup.mem_erase_iff hd).1 hx
    have := h x hx'.2
    have hne := hx'.1
    omega
   rw [List.length_erase_of_mem hm] at h1
   omega
  ·have h1 := php n l hd fun x hx => by
    have := h x hx
    have hne : x ≠ (n : Int) := fun e => hm (e ▸ hx)
    omega
   omega
theorem colsGo_nodup (n : Int) : ∀ (l seen : List Int), seen.Nodup → (∀ x ∈ seen, 0 ≤ x ∧ x < n) → colsGo n seen l = true → (seen ++ l).Nodup ∧ ∀ x ∈ seen ++ l, 0 ≤ x ∧ x < n
 | [], seen, h1, h2, _ => by simpa using ⟨h1, h2⟩
 | x :: xs, seen, h1, h2, h => by
  simp only [colsGo, Bool.and_eq_true, decide_eq_true_eq, Bool.not_eq_true'] at h
  obtain ⟨⟨⟨h3, h4⟩, h5⟩, h6⟩ := h
  have hn : x ∉ seen := by simpa [hasB] using h5
  have := colsGo_nodup n xs (seen ++ [x]) (by
   rw [List.nodup_append]
   refine ⟨h1, by simp, fun a ha b hb => ?_⟩
   rw [List.mem_singleton] at hb
   intro e; subst e; subst hb; exact hn ha) (by
   intro y hy
   rw [List.mem_append, List.mem_singleton] at hy
   rcases hy with hy | rfl
   ·exact h2 y hy
   ·exact ⟨h3, h4⟩) h6
  simpa using this
theorem colsInB_len {l : List Int} {n : Nat} (h : colsInB l n = true) : l.length ≤ n ∧ ∀ x ∈ l, 0 ≤ x ∧ x < n := by
 unfold colsInB at h
 rw [Bool.and_eq_true] at h
 have := colsGo_nodup n l [] (by simp) (by simp) h.1
 simp only [List.nil_append] at this
 exact ⟨php n l this.1 this.2, this.2⟩
theorem Sl.take {α : Type} {R : Rd α} {sz : Nat} {ok : Nat → Prop} {w : World} {A : Option Addr} {n m : Nat} {ds : List α} (h : Sl R sz ok w A n ds) (hm : m ≤ n) : Sl R sz ok w A m (ds.take m) := by
 have hl := h.1
 refine ⟨by simp; omega, fun h0 => ?_⟩
 obtain ⟨b, off, e, hb, hi⟩ := h.2 (by omega)
 refine ⟨b, off, e, hb, fun i hlt => ?_⟩
 simp only [List.length_take] at hlt
 obtain ⟨cs, h1, h2, h3⟩ := hi i (by omega)
 exact ⟨cs, h1, by rw [List.getElem_take]; exact h2, h3⟩
theorem contains_take (l : List Int) (x : Int) (k : Nat) (h : k < l.length) : hasB (l.take (k + 1)) x = (hasB (l.take k) x || l[k] == x) := by
 unfold hasB
 rw [List.take_succ_eq_append_getElem h, List.contains_eq_any_beq, List.any_append, List.contains_eq_any_beq]
 simp [Bool.beq_comm]
theorem specHas (A : Option Addr) (n c : Nat) (l : List Int) (x : Int) (ok : Nat → Prop) (w : World) (h : Sl IntR 1 ok w A n l) (hn : n ≤ 1048576) :
  Calls Tryz.prog 123 #[.slice A n c, .int .i64 x] w fun e w' => e = .returned (.bool (hasB l x)) ∧ w = w' := by
 obtain rfl : l.length = n := h.1
 go_enter Tryz.func123, Tryz.ntmps123
 go_wp2
 go_loop [5] (fun i => ∃ k : Nat, k ≤ l.length ∧ i = .int .i64 k ∧ Hid (hasB (l.take k) x = false)) (fun i => l.length - (intOf i).toNat)
 case atStart => exact ⟨0, by omega, rfl, Lib.hid rfl⟩
 case round =>
  obtain ⟨k, hk, rfl, hno⟩ := hrel
  by_cases hlt : k < l.length
  ·obtain ⟨b, off, -, rfl, q0⟩ := IntR.at_ h hlt
   have hs := contains_take l x k hlt
   rw [hno.out, Bool.false_or] at hs
   have i0 : (0 : Int) ≤ k := by omega
   have i1 : (k : Int) < l.length := by omega
   cases he : (l[k] == x)
   ·have HA := Lib.hid (hs.trans he)
    clear hs
    go_wp2
    go_round
    case rel => exact ⟨k + 1, by omega, by go_num, HA⟩
    case measure => simp [intOf]; omega
   ·have HA := Lib.hid (show hasB l x = true by
     have e : l[k] = x := by simpa using he
     unfold hasB; rw [List.contains_iff_mem]; exact e ▸ List.getElem_mem hlt)
    clear hs
    go_wp2
    go_ret
    exact ⟨retB HA.out.symm, rfl⟩
  ·have e : l.take k = l := List.take_of_length_le (by omega)
   have h1 := hno.out
   rw [e] at h1
   have HA := Lib.hid h1
   clear h1 e hno
   go_wp2
   go_ret
   exact ⟨retB HA.out.symm, rfl⟩
theorem Sl.drewN {α : Type} {R : Rd α} (hR : Stays R) {sz : Nat} {ok : Nat → Prop} {w : World} {A : Option Addr} {n : Nat} {ds : List α} (h : Sl R sz ok w A n ds) (m : Nat) : Sl R sz ok (w.drewN m) A n ds := h.stays hR (fun _ h => h) fun _ _ _ h => h
theorem below_drewN {B : Nat} {w w' : World} (h : Below B w w') (m : Nat) : Below B w (w'.drewN m) := ⟨h.os, h.tape, h.output, h.size, h.block⟩
theorem specInV {n lo hi : Int} {b : Bool} (h : (decide (lo ≤ n) && decide (n ≤ hi)) = b) (w : World) :
  Calls Tryz.prog 93 #[.int .i64 n, .int .i64 lo, .int .i64 hi] w fun e w' => e = .returned (.bool b) ∧ w' = w := (specIn n lo hi w).mono fun _ _ ⟨h1, h2⟩ => ⟨by rw [h1, h], h2.symm⟩
theorem specHasV {A : Option Addr} {n c : Nat} {l : List Int} {x : Int} {b : Bool} (hb : hasB l x = b) {ok : Nat → Prop} (w : World) (h : Sl IntR 1 ok w A n l) (hn : n ≤ 1048576) :
  Calls Tryz.prog 123 #[.slice A n c, .int .i64 x] w fun e w' => e = .returned (.bool b) ∧ w' = w := (specHas A n c l x ok w h hn).mono fun _ _ ⟨h1, h2⟩ => ⟨by rw [h1, hb], h2.symm⟩
set_option maxRecDepth 100000 in
set_option maxHeartbeats 1000000 in
theorem specCols (A : Option Addr) (n c : Nat) (l : List Int) (nc : Int) (ok : Nat → Prop) (w : World) (h : Sl IntR 1 ok w A n l) (hc : n ≤ c) (hn : n ≤ 1048576) (h0 : 0 ≤ nc) (h1 : nc ≤ 1048576) :
  Calls Tryz.prog 94 #[.slice A n c, .int .i64 nc] w fun e w' => e = .returned (.bool (colsInB l nc)) ∧ Below w.heap.size w w' := by
 obtain rfl : l.length = n := h.1
 have i2 : IntKind.i64.wrap (nc - 1) = nc - 1 := IntWalk.i64_in _ (by omega)
 go_enter Tryz.func94, Tryz.ntmps94
 go_wp2
 go_loopw [5] (fun i wr => ∃ k : Nat, k ≤ l.length ∧ i = .int .i64 k ∧ Hid (colsGo nc [] l = colsGo nc (l.take k) (l.drop k)) ∧ Below w.heap.size w wr) (fun i _ => l.length - (intOf i).toNat)
 case atStart => exact ⟨0, by omega, rfl, Lib.hid (by simp), Below.refl _ _⟩
 case round =>
  obtain ⟨k, hk, rfl, hgo, hb⟩ := hrel
  by_cases hlt : k < l.length
  ·have hw := h.below IntR.stays hb
   obtain ⟨b, off, -, rfl, q0⟩ := IntR.at_ hw hlt
   have ht := hw.take (m := k) (by omega)
   have hs := colsGo_at nc l k hlt
   have i0 : (0 : Int) ≤ k := by omega
   have i1 : (k : Int) < l.length := by omega
   have i3 : (k : Int) ≤ c := by omega
   cases hin : (decide (0 ≤ l[k]) && decide (l[k] ≤ nc - 1))
   ·have HI := Lib.hid hin
    have HF := Lib.hid (show colsInB l nc = false by
     unfold colsInB
     rw [hgo.out, hs, show (decide (0 ≤ l[k]) && decide (l[k] < nc)) = false by
      rw [← hin]; congr 1; rw [decide_eq_decide]; omega]
     simp)
    clear hs hin
    go_wp2_with fail
    go_quiet ((go_at_call 93; exact Calls.quiet_of_same (specInV HI.out _)))
    go_wp2
    go_ret
    exact ⟨retB HF.out.symm, below_drewN hb _⟩
   ·have HI := Lib.hid hin
    have hin2 : (decide (0 ≤ l[k]) && decide (l[k] < nc)) = true := by
     rw [← hin]; congr 1; rw [decide_eq_decide]; omega
    rw [hin2, Bool.true_and] at hs
    cases hhas : hasB (l.take k) l[k]
    ·rw [hhas] at hs
     have HH := Lib.hid hhas
     have HG := Lib.hid (hgo.out.trans hs)
     clear hs hin hhas hgo hin2
     go_wp2_with fail
     go_quiet ((first | (go_at_call 93; exact Calls.quiet_of_same (specInV HI.out _)) | (go_at_call 123; exact Calls.quiet_of_same (specHasV HH.out _ (ht.drewN IntR.stays _) (by omega)))))
     go_wp2
     go_roundw
     case rel => exact ⟨k + 1, by omega, by go_num, Lib.hid (by simpa using HG.out), below_drewN hb _⟩
     case measure => simp [intOf]; omega
    ·rw [hhas] at hs
     have HH := Lib.hid hhas
     have HF := Lib.hid (show colsInB l nc = false by unfold colsInB; rw [hgo.out, hs]; simp)
     clear hs hin hhas hgo hin2
     go_wp2_with fail
     go_quiet ((first | (go_at_call 93; exact Calls.quiet_of_same (specInV HI.out _)) | (go_at_call 123; exact Calls.quiet_of_same (specHasV HH.out _ (ht.drewN IntR.stays _) (by omega)))))
     go_wp2
     go_ret
     exact ⟨retB HF.out.symm, below_drewN hb _⟩
  ·have e1 : l.take k = l := List.take_of_length_le (by omega)
   have e2 : l.drop k = [] := List.drop_eq_nil_of_le (by omega)
   have hg := hgo.out
   rw [e1, e2] at hg
   have HA := Lib.hid (show colsInB l nc = decide (0 < l.length) by
    unfold colsInB; rw [hg]; simp [colsGo])
   clear hg e1 e2 hgo
   go_wp2
   go_ret
   exact ⟨retB HA.out.symm, hb⟩
def MetIn (w : World) (b n : Nat) (l : List Int) : Prop := ∃ D : DataW Unit, w.ownsMap Tryz.prog 2 (plainElem Tryz.prog 4) b n D ∧ IsMap D ∧ ∀ x : Int, D.atKey (.int .i64 x) (.lit (.bool false)) = .lit (.bool (hasB l x))
theorem MetIn.made (w : World) : MetIn (w.alloc (.map #[] 0)) w.heap.size 0 [] := ⟨.map [], World.ownsMap_made _ _ _ _, isMap_empty, fun x => by simp [DataW.atKey, hasB]⟩
theorem lawI : Keyed Tryz.prog 2 := int_keyed Tryz.underlying2
theorem zeroB' (w : World) : (zeroValue 4).run Tryz.prog w = .ok (.bool false) w := by kernel_rfl
theorem plainElem_bool_inv {P : Program} {e : TypeId} (he : P.underlying e = some .bool) {v : Value} {z : DataW Unit × List MemPlace} (h : plainElem P e v = some z) : ∃ x, v = .bool x ∧ z = (.lit (.bool x), []) := by
 unfold plainElem at h
 rw [he] at h
 cases v <;> simp at h
 exact ⟨_, rfl, h.symm⟩
theorem MetIn.look {w : World} {b n : Nat} {l : List Int} (h : MetIn w b n l) {x : Int} (hw : (Lit.int .i64 x).wf = true) : (Instr.lookup 109 (.map (some b)) (.int .i64 x) false).run Tryz.prog w = .ok (.bool (hasB l x)) w := by
 obtain ⟨D, h1, h2, h3⟩ := h
 obtain ⟨v, ps, hrun, hv⟩ := h1.lookup lawI Tryz.underlying109 (zeroB' w) (plainElem_bool Tryz.underlying4 false) (keyOf_int_mk Tryz.underlying2 hw)
 obtain ⟨y, rfl, hy⟩ := plainElem_bool_inv Tryz.underlying4 hv
 simp only [Prod.mk.injEq] at hy
 rw [h3 x] at hy
 have : hasB l x = y := by simpa using hy.1
 rw [this]; exact hrun
theorem implIsPlace (p nc : Int) (w : World) : Calls Tryz.prog 33 #[.int .i64 p, .int .i64 nc] w fun e w' => e = .returned (.bool (decide (0 ≤ p) && decide (p < nc))) ∧ w = w' := by
 by_cases h : 0 ≤ p
 ·go_enter Tryz.func33, Tryz.ntmps33
  go_wp2
  go_ret
  exact ⟨retB (by simp [h]), rfl⟩
 ·have h' : decide (0 ≤ p) = false := by simpa using h
  go_enter Tryz.func33, Tryz.ntmps33
  go_wp2
  go_ret
  exact ⟨retB (by simp), rfl⟩
theorem IsMap.key_int (x : Int) : WideAt.IsKeyLit (.int .i64 x) := by first | trivial | (simp [WideAt.IsKeyLit]) | (unfold WideAt.IsKeyLit; trivial)
set_option maxRecDepth 100000 in
set_option maxHeartbeats 1000000 in
theorem implAreColumns (A : Option Addr) (n c : Nat) (l : List Int) (nc : Nat) (ok : Nat → Prop) (w : World) (h : Sl IntR 1 ok w A n l) (hn : n ≤ 1048576) (h1 : nc ≤ 1048576) :
  Calls Tryz.prog 34 #[.slice A n c, .int .i64 nc] w fun e w' => e = .returned (.bool (colsInB l nc)) ∧ Below w.heap.size w w' := by
 obtain rfl : l.length = n := h.1
 by_cases hsm : (l.length : Int) < 1
 ·have HF := Lib.hid (show colsInB l nc = false by unfold colsInB; rw [decide_eq_false (p := 0 < l.length) (by omega), Bool.and_false])
  go_enter Tryz.func34, Tryz.ntmps34
  go_wp2
  go_ret
  exact ⟨retB HF.out.symm, Below.refl _ _⟩
 have hsm' : decide ((l.length : Int) < 1) = false := by simpa using hsm
 by_cases hbig : nc < l.length
 ·have HF := Lib.hid (show colsInB l nc = false by
   rw [Bool.eq_false_iff]; intro e
   have := (colsInB_len e).1; omega)
  have hbig' : decide ((nc : Int) < (l.length : Int)) = true := by simpa using hbig
  have hbig2 : decide (nc < l.length) = true := by simpa using hbig
  go_enter Tryz.func34, Tryz.ntmps34
  go_wp2
  go_ret
  exact ⟨retB HF.out.symm, Below.refl _ _⟩
 have hbig' : decide ((nc : Int) < (l.length : Int)) = false := by simpa using hbig
 have hbig2 : decide (nc < l.length) = false := by simpa using hbig
 have hmm := @run_makeMap Tryz.prog
 go_enter Tryz.func34, Tryz.ntmps34
 go_wp2
 have hm0 := MetIn.made w
 have hb0 := (Below.refl w.heap.size w).alloc (Nat.le_refl _) (.map #[] 0)
 generalize w.alloc (.map #[] 0) = x0 at *
 clear hmm
 go_loopw [20] (fun i wr => ∃ k : Nat, k ≤ l.length ∧ i = .int .i64 k ∧ MetIn wr w.heap.size k (l.take k) ∧ Hid (colsGo nc [] l = colsGo nc (l.take k) (l.drop k)) ∧ Below w.heap.size w wr) (fun i _ => l.length - (intOf i).toNat)
 case atStart => exact ⟨0, by omega, rfl, hm0, Lib.hid (by simp), hb0⟩
 case round =>
  obtain ⟨k, hk, rfl, hmet, hgo, hb⟩ := hrel
  by_cases hlt : k < l.length
  ·obtain ⟨b, off, -, rfl, q0⟩ := IntR.at_ (h.below IntR.stays hb) hlt
   have hs := colsGo_at nc l k hlt
   have i0 : (0 : Int) ≤ k := by omega
   have i1 : (k : Int) < l.length := by omega
   cases hin : (decide (0 ≤ l[k]) && decide (l[k] < nc))
   ·have HI := Lib.hid hin
    have HF := Lib.hid (show colsInB l nc = false by unfold colsInB; rw [hgo.out, hs, hin]; simp)
    clear hs hin
    go_wp2_with fail
    refine (implIsPlace _ _ _).mono ?_
    rintro e w1 ⟨rfl, rfl⟩
    rw [HI.out]
    go_wp2
    go_ret
    exact ⟨retB HF.out.symm, hb⟩
   ·have HI := Lib.hid hin
    have hwf : (Lit.int .i64 l[k]).wf = true := WalkArith.wf_i64 (by rw [Bool.and_eq_true, decide_eq_true_eq, decide_eq_true_eq] at hin; omega)
    have hlk := hmet.look hwf
    rw [hin, Bool.true_and] at hs
    cases hhas : hasB (l.take k) l[k]
    ·rw [hhas] at hs hlk
     have HG := Lib.hid (hgo.out.trans hs)
     have HH := Lib.hid hhas
     obtain ⟨D, m1, m2, m3⟩ := hmet
     have M3 := Lib.hid m3
     have hval := plainElem_bool (H := Unit) Tryz.underlying4 true
     clear hs hin hhas hgo m3
     go_wp2_with fail
     refine (implIsPlace _ _ _).mono ?_
     rintro e w1 ⟨rfl, rfl⟩
     rw [HI.out]
     go_wp2_with (first
      | (at_mapUpdate; refine wpList_mapUpdate_own _ rfl _ _ _ 109 rfl 2 4 lawI Tryz.underlying109 _ w.heap.size k D rfl m1 (by unfold maxLen; omega) _ _ _ rfl rfl (keyOf_int_mk Tryz.underlying2 hwf) _ [] hval ?_; intro w1 hown1 hgrow1))
     go_roundw
     case rel =>
      refine ⟨k + 1, by omega, by go_num, ⟨_, hown1, m2.put _ _, fun x => ?_⟩, Lib.hid (by simpa using HG.out), hb.grown hgrow1 hb.size (fun j hj => by cases hj; exact Nat.le_refl _)⟩
      rw [contains_take l x k hlt]
      by_cases e : (Lit.int .i64 x) = .int .i64 l[k]
      ·have e2 : x = l[k] := by injection e
       rw [e, Maps.atKey_put_same m2 (IsMap.key_int _), e2]
       simp
      ·rw [Maps.atKey_put_other e, M3.out x]
       have e2 : (l[k] == x) = false := by
        rw [beq_eq_false_iff_ne]; intro h; exact e (by rw [h])
       rw [e2, Bool.or_false]
     case measure => simp [intOf]; omega
    ·rw [hhas] at hs hlk
     have HF := Lib.hid (show colsInB l nc = false by unfold colsInB; rw [hgo.out, hs]; simp)
     clear hs hin hhas hgo
     go_wp2_with fail
     refine (implIsPlace _ _ _).mono ?_
     rintro e w1 ⟨rfl, rfl⟩
     rw [HI.out]
     go_wp2
     go_ret
     exact ⟨retB HF.out.symm, hb⟩
  ·have e1 : l.take k = l := List.take_of_length_le (by omega)
   have e2 : l.drop k = [] := List.drop_eq_nil_of_le (by omega)
   have hg := hgo.out
   rw [e1, e2] at hg
   have HA := Lib.hid (show colsInB l nc = true by unfold colsInB; rw [hg, decide_eq_true (by omega)]; rfl)
   clear hg e1 e2 hgo
   go_wp2
   go_ret
   exact ⟨retB HA.out.symm, hb⟩
def fitsB (k : Int) (v : Vl) : Bool := valOkB v.k v.n v.s && (v.k == 0 || v.k == k)
def colB (c : Cl) : Bool := nameB c.name && ((c.kind == 1 || c.kind == 2) && fitsB c.kind c.d)
def colsB (l : List Cl) : Bool := decide (1 ≤ l.length) && (decide (l.length ≤ 8) && (l.all colB && uniqGo [] (l.map Cl.name)))
def nnAt (cols : List Cl) (i : Int) : Bool := (cols[i.toNat]?.map Cl.nn).getD false
def keyB (cols : List Cl) (key : List Int) : Bool := colsInB key cols.length && key.all (nnAt cols)
def uqsB (cols : List Cl) (l : List Uq) : Bool := decide (l.length ≤ 3) && l.all (fun u => colsInB u.cols cols.length)
def cksB (cols : List Cl) (l : List Ck) : Bool := decide (l.length ≤ 3) && l.all (fun u => exprB u.expr cols.length)
def actB (a : Int) : Bool := a == 0 || (a == 1 || a == 2)
def fkB (n : Nat) (f : Fk) : Bool := colsInB f.cols n && (nameB f.table && (actB f.del && actB f.upd))
def fksB (cols : List Cl) (l : List Fk) : Bool := decide (l.length ≤ 3) && l.all (fkB cols.length)
def tableB (t : Tb) : Bool := nameB t.name && (colsB t.cols && (keyB t.cols t.key && (uqsB t.cols t.uniqs && (cksB t.cols t.checks && fksB t.cols t.fks))))
theorem implValFits (k : Int) (v : Vl) (w : World) :
  Calls Tryz.prog 91 #[.int .i64 k, .agg #[.int .i64 v.k, .int .i64 v.n, .string v.s]] w fun e w' => e = .returned (.bool (fitsB k v)) ∧ Below w.heap.size w w' := by
 have hb0 := (Below.refl w.heap.size w).alloc (Nat.le_refl _) (.cells #[.int .i64 v.k, .int .i64 v.n, .string v.s] 53)
 have r0 := Row.new w 53 #[.int .i64 v.k, .int .i64 v.n, .string v.s]
 unfold fitsB
 cases hok : valOkB v.k v.n v.s
 ·have HO := Lib.hid hok
  clear hok
  go_enter Tryz.func91, Tryz.ntmps91
  go_wp2_with fail
  refine (implValOk _ _ _ _).mono ?_
  rintro e w1 ⟨rfl, hb1⟩
  rw [HO.out]
  go_wp2
  go_ret
  exact ⟨rfl, hb0.trans (hb1.mono hb0.size)⟩
 ·have HO := Lib.hid hok
  clear hok
  by_cases h0 : v.k = 0
  ·have e0 : (v.k == 0) = true := by simpa using h0
   clear h0
   have HE := Lib.hid e0
   go_enter Tryz.func91, Tryz.ntmps91
   go_wp2_with fail
   refine (implValOk _ _ _ _).mono ?_
   rintro e w1 ⟨rfl, hb1⟩
   rw [HO.out]
   obtain ⟨⟨c0, c1, c2⟩, -⟩ := (r0.below hb1).three
   go_wp2
   go_ret
   exact ⟨retB (by rw [HE.out]; rfl), hb0.trans (hb1.mono hb0.size)⟩
  ·have e0 : (v.k == 0) = false := by simpa using h0
   clear h0
   have HE := Lib.hid e0
   go_enter Tryz.func91, Tryz.ntmps91
   go_wp2_with fail
   refine (implValOk _ _ _ _).mono ?_
   rintro e w1 ⟨rfl, hb1⟩
   rw [HO.out]
   obtain ⟨⟨c0, c1, c2⟩, -⟩ := (r0.below hb1).three
   go_wp2
   go_ret
   exact ⟨retB (by rw [HE.out]; rfl), hb0.trans (hb1.mono hb0.size)⟩
set_option maxRecDepth 100000 in
set_option maxHeartbeats 400000 in
theorem implColOk (x : Cl) (w : World) (hs : x.name.size ≤ maxLen) :
  Calls Tryz.prog 120 #[.agg #[.string x.name, .int .i64 x.kind, .bool x.nn, .int .i64 x.d.k, .int .i64 x.d.n, .string x.d.s]] w fun e w' => e = .returned (.bool (colB x)) ∧ Below w.heap.size w w' := by
 have hb0 := (Below.refl w.heap.size w).alloc (Nat.le_refl _) (.cells #[.string x.name, .int .i64 x.kind, .bool x.nn, .int .i64 x.d.k, .int .i64 x.d.n, .string x.d.s] 55)
 have HB := Lib.hid hb0
 unfold colB
 cases hn : nameB x.name
 ·have HN := Lib.hid hn
  clear hn
  go_enter Tryz.func120, Tryz.ntmps120
  go_wp2_with fail
  refine (implIsName _ _ hs).mono ?_
  rintro e w1 ⟨rfl, rfl⟩
  rw [HN.out]
  go_wp2
  go_ret
  exact ⟨rfl, HB.out⟩
 have HN := Lib.hid hn
 clear hn
 by_cases h1 : x.kind = 1
 ·have e1 : (x.kind == 1) = true := by simpa using h1
  have HE := Lib.hid e1
  clear h1
  go_enter Tryz.func120, Tryz.ntmps120
  go_wp2_with fail
  refine (implIsName _ _ hs).mono ?_
  rintro e w1 ⟨rfl, rfl⟩
  rw [HN.out]
  go_wp2_with fail
  refine (implValFits _ x.d _).mono ?_
  rintro e w1 ⟨rfl, hb1⟩
  go_wp2
  go_ret
  exact ⟨retB (by rw [HE.out]; rfl), HB.out.trans (hb1.mono HB.out.size)⟩
 have e1 : (x.kind == 1) = false := by simpa using h1
 by_cases h2 : x.kind = 2
 ·have e2 : (x.kind == 2) = true := by simpa using h2
  have HE := Lib.hid e1
  have HE2 := Lib.hid e2
  clear h1 h2
  go_enter Tryz.func120, Tryz.ntmps120
  go_wp2_with fail
  refine (implIsName _ _ hs).mono ?_
  rintro e w1 ⟨rfl, rfl⟩
  rw [HN.out]
  go_wp2_with fail
  refine (implValFits _ x.d _).mono ?_
  rintro e w1 ⟨rfl, hb1⟩
  go_wp2
  go_ret
  exact ⟨retB (by rw [HE.out, HE2.out]; rfl), HB.out.trans (hb1.mono HB.out.size)⟩
 ·have e2 : (x.kind == 2) = false := by simpa using h2
  have HE := Lib.hid e1
  have HE2 := Lib.hid e2
  clear h1 h2
  go_enter Tryz.func120, Tryz.ntmps120
  go_wp2_with fail
  refine (implIsName _ _ hs).mono ?_
  rintro e w1 ⟨rfl, rfl⟩
  rw [HN.out]
  go_wp2
  go_ret
  exact ⟨retB (by rw [HE.out, HE2.out]; rfl), HB.out⟩
theorem implAction (a : Int) (w : World) : Calls Tryz.prog 122 #[.int .i64 a] w fun e w' => e = .returned (.bool (actB a)) ∧ w = w' := by
 unfold actB
 by_cases h0 : a = 0
 ·subst h0
  go_enter Tryz.func122, Tryz.ntmps122
  go_wp2
  go_ret
  exact ⟨rfl, rfl⟩
 have e0 : (a == 0) = false := by simpa using h0
 by_cases h1 : a = 1
 ·subst h1
  go_enter Tryz.func122, Tryz.ntmps122
  go_wp2
  go_ret
  exact ⟨rfl, rfl⟩
 have e1 : (a == 1) = false := by simpa using h1
 have HE := Lib.hid e0
 have HE1 := Lib.hid e1
 go_enter Tryz.func122, Tryz.ntmps122
 go_wp2
 go_ret
 exact ⟨retB (by rw [HE.out, HE1.out]; rfl), rfl⟩
set_option maxRecDepth 100000 in
set_option maxHeartbeats 1000000 in
theorem implColsOk (A : Option Addr) (n c : Nat) (l : List Cl) (ok : Nat → Prop) (w : World) (h : Sl ClR 6 ok w A n l) (hs : szL Cl.sz l ≤ 1048576) :
  Calls Tryz.prog 86 #[.slice A n c] w fun e w' => e = .returned (.bool (colsB l)) ∧ Below w.heap.size w w' := by
 obtain rfl : l.length = n := h.1
 have hn : l.length ≤ 1048576 := by unfold szL at hs; omega
 have HS := Lib.hid hs
 clear hs
 by_cases h1 : (l.length : Int) < 1
 ·have HF := Lib.hid (show colsB l = false by unfold colsB; rw [decide_eq_false (p := 1 ≤ l.length) (by omega)]; rfl)
  go_enter Tryz.func86, Tryz.ntmps86
  go_wp2
  go_ret
  exact ⟨retB HF.out.symm, Below.refl _ _⟩
 have h1' : decide ((l.length : Int) < 1) = false := by simpa using h1
 by_cases h8 : 8 < (l.length : Int)
 ·have HF := Lib.hid (show colsB l = false by unfold colsB; rw [decide_eq_false (p := l.length ≤ 8) (by omega), Bool.false_and, Bool.and_false])
  go_enter Tryz.func86, Tryz.ntmps86
  go_wp2
  go_ret
  exact ⟨retB HF.out.symm, Below.refl _ _⟩
 have h8' : decide (8 < (l.length : Int)) = false := by simpa using h8
 have HLEN := Lib.hid (show decide (1 ≤ l.length) = true ∧ decide (l.length ≤ 8) = true from ⟨decide_eq_true (by omega), decide_eq_true (by omega)⟩)
 go_enter Tryz.func86, Tryz.ntmps86
 go_wp2
 go_loopw [15] (fun i wr => ∃ k : Nat, k ≤ l.length ∧ i = .int .i64 k ∧ Hid ((l.take k).all colB = true) ∧ Below w.heap.size w wr) (fun i _ => l.length - (intOf i).toNat)
 case atStart => exact ⟨0, by omega, rfl, Lib.hid (by simp), Below.refl _ _⟩
 case round =>
  obtain ⟨k, hk, rfl, hall, hb⟩ := hrel
  by_cases hlt : k < l.length
  ·obtain ⟨b, off, -, rfl, q0, q1, q2, q3, q4, q5⟩ := ClR.at_ (h.below ClR.stays hb) hlt
   have hsn := all_take colB l k hlt
   rw [hall.out, Bool.true_and] at hsn
   have HZ := Lib.hid (cl_name_le HS.out k hlt)
   have hba := hb.alloc hb.size (.cells #[.string l[k].name, .int .i64 l[k].kind, .bool l[k].nn, .int .i64 l[k].d.k, .int .i64 l[k].d.n, .string l[k].d.s] 55)
   cases hc : colB l[k]
   ·have HC := Lib.hid hc
    have HF := Lib.hid (show colsB l = false by unfold colsB; rw [all_no colB l k hlt hc]; simp)
    clear hsn hc hall
    go_wp2_with fail
    refine (implColOk _ _ HZ.out).mono ?_
    rintro e w1 ⟨rfl, hb1⟩
    rw [HC.out]
    go_wp2
    go_ret
    exact ⟨retB HF.out.symm, hba.trans (hb1.mono hba.size)⟩
   ·have HC := Lib.hid hc
    have HA := Lib.hid (hsn.trans hc)
    clear hsn hc hall
    go_wp2_with fail
    refine (implColOk _ _ HZ.out).mono ?_
    rintro e w1 ⟨rfl, hb1⟩
    rw [HC.out]
    go_wp2
    go_roundw
    case rel => exact ⟨k + 1, by omega, by go_num, HA, hba.trans (hb1.mono hba.size)⟩
    case measure => simp [intOf]; omega
  ·have e : l.take k = l := List.take_of_length_le (by omega)
   have h2 := hall.out
   rw [e] at h2
   have HA := Lib.hid h2
   have HF := Lib.hid (show colsB l = uniqGo [] (l.map Cl.name) by unfold colsB; rw [h2, HLEN.out.1, HLEN.out.2]; simp)
   clear h2 e hall
   go_wp2_with fail
   refine (implColPlaces A l.length c l ok _ (h.below ClR.stays hb) HS.out).mono ?_
   rintro e w1 ⟨bm, rfl, hp, hbb, hb1⟩
   obtain ⟨D, p1, p2, p3, p4, p5⟩ := hp
   have HU := Lib.hid (cntGo_uniq (l.map Cl.name) [])
   have HP := Lib.hid p5
   clear p3 p4 p5
   go_wp2_with (first | (at_len; refine wpList_len_own _ rfl _ 93 rfl 9 2 Tryz.underlying93 _ bm _ D rfl p1 ?_))
   go_ret
   refine ⟨retB ?_, hb.trans (hb1.mono hb.size)⟩
   rw [HF.out, ← HU.out, HP.out, Bool.eq_iff_iff]
   simp
   try omega
set_option maxRecDepth 100000 in
set_option maxHeartbeats 1000000 in
theorem implKeyOk (A1 A2 : Option Addr) (n1 c1 n2 c2 : Nat) (v0 v3 v4 v5 : Value) (cols : List Cl) (key : List Int) (ok : Nat → Prop) (w : World) (h : Sl ClR 6 ok w A1 n1 cols) (hk : Sl IntR 1 ok w A2 n2 key) (hn1 : n1 ≤ 1048576) (hn2 : n2 ≤ 1048576) :
  Calls Tryz.prog 87 #[.agg #[v0, .slice A1 n1 c1, .slice A2 n2 c2, v3, v4, v5]] w fun e w' => e = .returned (.bool (keyB cols key)) ∧ Below w.heap.size w w' := by
 obtain rfl : cols.length = n1 := h.1
 obtain rfl : key.length = n2 := hk.1
 have hb0 := (Below.refl w.heap.size w).alloc (Nat.le_refl _) (.cells #[v0, .slice A1 cols.length c1, .slice A2 key.length c2, v3, v4, v5] 45)
 have r0 := Row.new w 45 #[v0, .slice A1 cols.length c1, .slice A2 key.length c2, v3, v4, v5]
 cases hc : colsInB key cols.length
 ·have HC := Lib.hid hc
  clear hc
  go_enter Tryz.func87, Tryz.ntmps87
  go_wp2_with fail
  refine (implAreColumns A2 key.length c2 key cols.length ok _ (hk.below IntR.stays hb0) hn2 hn1).mono ?_
  rintro e w1 ⟨rfl, hb1⟩
  rw [HC.out]
  go_wp2
  go_ret
  exact ⟨retB (by unfold keyB; rw [HC.out]; rfl), hb0.trans (hb1.mono hb0.size)⟩
 have HIN := Lib.hid (colsInB_len hc).2
 have HC := Lib.hid hc
 clear hc
 go_enter Tryz.func87, Tryz.ntmps87
 go_wp2_with fail
 refine (implAreColumns A2 key.length c2 key cols.length ok _ (hk.below IntR.stays hb0) hn2 hn1).mono ?_
 rintro e w1 ⟨rfl, hb1⟩
 rw [HC.out]
 have hbb := hb0.trans (hb1.mono hb0.size)
 have r1 := r0.below hb1
 obtain ⟨⟨a0, a1, a2, a3, a4, a5⟩, -⟩ := r1.all6
 have h1' := h.below ClR.stays hbb
 have hk1 := hk.below IntR.stays hbb
 clear r0 r1
 go_wp2_with fail
 go_loop [15] (fun i => ∃ k : Nat, k ≤ key.length ∧ i = .int .i64 k ∧ Hid ((key.take k).all (nnAt cols) = true)) (fun i => key.length - (intOf i).toNat)
 case atStart => exact ⟨0, by omega, rfl, Lib.hid (by simp)⟩
 case round =>
  obtain ⟨k, hkk, rfl, hall⟩ := hrel
  by_cases hlt : k < key.length
  ·obtain ⟨b, off, -, rfl, q0⟩ := IntR.at_ hk1 hlt
   have hin := HIN.out _ (List.getElem_mem hlt)
   have hsn := all_take (nnAt cols) key k hlt
   rw [hall.out, Bool.true_and] at hsn
   have hno := fun hf => all_no (nnAt cols) key k hlt hf
   obtain ⟨j, hj⟩ : ∃ j : Nat, key[k] = (j : Int) := ⟨key[k].toNat, by omega⟩
   rw [hj] at q0 hsn hno hin
   have hjl : j < cols.length := by omega
   obtain ⟨b', off', -, rfl, p0, p1, p2, p3, p4, p5⟩ := ClR.at_ h1' hjl
   have hnn : nnAt cols j = cols[j].nn := by unfold nnAt; simp [List.getElem?_eq_getElem hjl]
   have i0 : (0 : Int) ≤ j := by omega
   have i1 : (j : Int) < cols.length := by omega
   cases hnb : cols[j].nn
   ·rw [hnb] at p2
    have HF := Lib.hid (show keyB cols key = false by unfold keyB; rw [hno (hnn.trans hnb), Bool.and_false])
    clear hsn hno hnn hnb hj hall
    go_wp2
    go_ret
    exact ⟨retB HF.out.symm, hbb⟩
   ·rw [hnb] at p2
    have HA := Lib.hid (hsn.trans (hnn.trans hnb))
    clear hsn hno hnn hnb hj hall
    go_wp2
    go_round
    case rel => exact ⟨k + 1, by omega, by go_num, HA⟩
    case measure => simp [intOf]; omega
  ·have e : key.take k = key := List.take_of_length_le (by omega)
   have h2 := hall.out
   rw [e] at h2
   have HF := Lib.hid (show keyB cols key = true by unfold keyB; rw [h2, HC.out]; rfl)
   clear h2 e hall
   go_wp2
   go_ret
   exact ⟨retB HF.out.symm, hbb⟩
set_option maxRecDepth 100000 in
set_option maxHeartbeats 1000000 in
theorem implUniquesOk (A1 AL : Option Addr) (n1 c1 nL cL : Nat) (v0 v2 v4 v5 : Value) (cols : List Cl) (l : List Uq) (ok : Nat → Prop) (w : World) (h : Sl ClR 6 ok w A1 n1 cols) (hl : Sl UqR 1 ok w AL nL l) (hn1 : n1 ≤ 1048576) (hs : szL Uq.sz l ≤ 1048576) :
  Calls Tryz.prog 88 #[.agg #[v0, .slice A1 n1 c1, v2, .slice AL nL cL, v4, v5]] w fun e w' => e = .returned (.bool (uqsB cols l)) ∧ Below w.heap.size w w' := by
 obtain rfl : cols.length = n1 := h.1
 obtain rfl : l.length = nL := hl.1
 have hn2 : l.length ≤ 1048576 := by unfold szL at hs; omega
 have HSZ := Lib.hid hs
 clear hs
 have hb0 := (Below.refl w.heap.size w).alloc (Nat.le_refl _) (.cells #[v0, .slice A1 cols.length c1, v2, .slice AL l.length cL, v4, v5] 45)
 have r0 := Row.new w 45 #[v0, .slice A1 cols.length c1, v2, .slice AL l.length cL, v4, v5]
 by_cases hbig : 3 < (l.length : Int)
 ·have HF := Lib.hid (show uqsB cols l = false by unfold uqsB; rw [decide_eq_false (by omega), Bool.false_and])
  go_enter Tryz.func88, Tryz.ntmps88
  go_wp2
  go_ret
  exact ⟨retB HF.out.symm, hb0⟩
 have hbig' : decide (3 < (l.length : Int)) = false := by simpa using hbig
 have H3 := Lib.hid (show decide (l.length ≤ 3) = true from decide_eq_true (by omega))
 go_enter Tryz.func88, Tryz.ntmps88
 go_wp2_with fail
 generalize w.alloc (.cells #[v0, .slice A1 cols.length c1, v2, .slice AL l.length cL, v4, v5] 45) = x0 at *
 go_loopw [12] (fun i wr => ∃ k : Nat, k ≤ l.length ∧ i = .int .i64 k ∧ Hid ((l.take k).all (fun u : Uq => colsInB u.cols cols.length) = true) ∧ Row wr w.heap.size 45 #[v0, .slice A1 cols.length c1, v2, .slice AL l.length cL, v4, v5] ∧ Below w.heap.size w wr) (fun i _ => l.length - (intOf i).toNat)
 case atStart => exact ⟨0, by omega, rfl, Lib.hid (by simp), r0, hb0⟩
 case round =>
  obtain ⟨k, hkk, rfl, hall, hr, hb⟩ := hrel
  obtain ⟨⟨a0, a1, a2, a3, a4, a5⟩, -⟩ := hr.all6
  by_cases hlt : k < l.length
  ·obtain ⟨b, off, A9, n9, c9, -, rfl, q0, s0, hcp⟩ := UqR.at_ (hl.below UqR.stays hb) hlt
   obtain rfl : l[k].cols.length = n9 := s0.1
   have hsn := all_take (fun u : Uq => colsInB u.cols cols.length) l k hlt
   rw [hall.out, Bool.true_and] at hsn
   have hno := fun hf => all_no (fun u : Uq => colsInB u.cols cols.length) l k hlt hf
   have hk9 : l[k].cols.length ≤ 1048576 := by have := HSZ.out; have := sum_mem_le Uq.sz l k hlt; unfold szL at *; simp only [Uq.sz] at *;  omega
   have HK9 := Lib.hid hk9
   clear hk9
   have hbx := (Below.refl wr.heap.size wr).alloc (Nat.le_refl _) (.cells #[.slice A9 l[k].cols.length c9] 61)
   have hba := hb.trans (hbx.mono hb.size)
   have s1 := s0.below IntR.stays hbx
   have hr1 := hr.below hbx
   obtain ⟨⟨d0, d1, d2, d3, d4, d5⟩, -⟩ := hr1.all6
   cases hc : colsInB l[k].cols cols.length
   ·have HC := Lib.hid hc
    have HF := Lib.hid (show uqsB cols l = false by unfold uqsB; rw [hno hc, Bool.and_false])
    clear hsn hno hc hall hr
    go_wp2_with fail
    refine (implAreColumns A9 l[k].cols.length c9 l[k].cols cols.length ok _ s1 HK9.out hn1).mono ?_
    rintro e w1 ⟨rfl, hb1⟩
    rw [HC.out]
    go_wp2
    go_ret
    exact ⟨retB HF.out.symm, hba.trans (hb1.mono hba.size)⟩
   ·have HC := Lib.hid hc
    have HA := Lib.hid (hsn.trans hc)
    clear hsn hno hc hall hr
    go_wp2_with fail
    refine (implAreColumns A9 l[k].cols.length c9 l[k].cols cols.length ok _ s1 HK9.out hn1).mono ?_
    rintro e w1 ⟨rfl, hb1⟩
    rw [HC.out]
    have hr2 := hr1.below hb1
    go_wp2
    go_roundw
    case rel => exact ⟨k + 1, by omega, by go_num, HA, hr2, hba.trans (hb1.mono hba.size)⟩
    case measure => simp [intOf]; omega
  ·have e : l.take k = l := List.take_of_length_le (by omega)
   have h2 := hall.out
   rw [e] at h2
   have HF := Lib.hid (show uqsB cols l = true by unfold uqsB; rw [h2, H3.out]; rfl)
   clear h2 e hall
   go_wp2
   go_ret
   exact ⟨retB HF.out.symm, hb⟩
set_option maxRecDepth 100000 in
set_option maxHeartbeats 1000000 in
theorem implChecksOk (A1 AL : Option Addr) (n1 c1 nL cL : Nat) (v0 v2 v3 v5 : Value) (cols : List Cl) (l : List Ck) (ok : Nat → Prop) (w : World) (h : Sl ClR 6 ok w A1 n1 cols) (hl : Sl CkR 1 ok w AL nL l) (hn1 : n1 ≤ 1048576) (hs : szL Ck.sz l ≤ 1048576) :
  Calls Tryz.prog 89 #[.agg #[v0, .slice A1 n1 c1, v2, v3, .slice AL nL cL, v5]] w fun e w' => e = .returned (.bool (cksB cols l)) ∧ Below w.heap.size w w' := by
 obtain rfl : cols.length = n1 := h.1
 obtain rfl : l.length = nL := hl.1
 have hn2 : l.length ≤ 1048576 := by unfold szL at hs; omega
 have HSZ := Lib.hid hs
 clear hs
 have hb0 := (Below.refl w.heap.size w).alloc (Nat.le_refl _) (.cells #[v0, .slice A1 cols.length c1, v2, v3, .slice AL l.length cL, v5] 45)
 have r0 := Row.new w 45 #[v0, .slice A1 cols.length c1, v2, v3, .slice AL l.length cL, v5]
 by_cases hbig : 3 < (l.length : Int)
 ·have HF := Lib.hid (show cksB cols l = false by unfold cksB; rw [decide_eq_false (by omega), Bool.false_and])
  go_enter Tryz.func89, Tryz.ntmps89
  go_wp2
  go_ret
  exact ⟨retB HF.out.symm, hb0⟩
 have hbig' : decide (3 < (l.length : Int)) = false := by simpa using hbig
 have H3 := Lib.hid (show decide (l.length ≤ 3) = true from decide_eq_true (by omega))
 go_enter Tryz.func89, Tryz.ntmps89
 go_wp2_with fail
 generalize w.alloc (.cells #[v0, .slice A1 cols.length c1, v2, v3, .slice AL l.length cL, v5] 45) = x0 at *
 go_loopw [12] (fun i wr => ∃ k : Nat, k ≤ l.length ∧ i = .int .i64 k ∧ Hid ((l.take k).all (fun u : Ck => exprB u.expr cols.length) = true) ∧ Row wr w.heap.size 45 #[v0, .slice A1 cols.length c1, v2, v3, .slice AL l.length cL, v5] ∧ Below w.heap.size w wr) (fun i _ => l.length - (intOf i).toNat)
 case atStart => exact ⟨0, by omega, rfl, Lib.hid (by simp), r0, hb0⟩
 case round =>
  obtain ⟨k, hkk, rfl, hall, hr, hb⟩ := hrel
  obtain ⟨⟨a0, a1, a2, a3, a4, a5⟩, -⟩ := hr.all6
  by_cases hlt : k < l.length
  ·obtain ⟨b, off, A9, n9, c9, -, rfl, q0, s0, hcp⟩ := CkR.at_ (hl.below CkR.stays hb) hlt
   obtain rfl : l[k].expr.length = n9 := s0.1
   have hsn := all_take (fun u : Ck => exprB u.expr cols.length) l k hlt
   rw [hall.out, Bool.true_and] at hsn
   have hno := fun hf => all_no (fun u : Ck => exprB u.expr cols.length) l k hlt hf
   have hk9 : l[k].expr.length ≤ 1048576 := by have := HSZ.out; have := sum_mem_le Ck.sz l k hlt; unfold szL at *; simp only [Ck.sz] at *; (try unfold szL at *); (try simp only at *); omega
   have HK9 := Lib.hid hk9
   clear hk9
   have hbx := (Below.refl wr.heap.size wr).alloc (Nat.le_refl _) (.cells #[.slice A9 l[k].expr.length c9] 59)
   have hba := hb.trans (hbx.mono hb.size)
   have s1 := s0.below TkR.stays hbx
   have hr1 := hr.below hbx
   obtain ⟨⟨d0, d1, d2, d3, d4, d5⟩, -⟩ := hr1.all6
   cases hc : exprB l[k].expr cols.length
   ·have HC := Lib.hid hc
    have HF := Lib.hid (show cksB cols l = false by unfold cksB; rw [hno hc, Bool.and_false])
    clear hsn hno hc hall hr
    go_wp2_with fail
    refine (implExprOk A9 l[k].expr.length c9 l[k].expr cols.length _ (Sl.cellz (fun _ => rfl) s1) (by have := HK9.out; unfold maxLen; omega)).mono ?_
    rintro e w1 ⟨rfl, hb1⟩
    rw [HC.out]
    go_wp2
    go_ret
    exact ⟨retB HF.out.symm, hba.trans (hb1.mono hba.size)⟩
   ·have HC := Lib.hid hc
    have HA := Lib.hid (hsn.trans hc)
    clear hsn hno hc hall hr
    go_wp2_with fail
    refine (implExprOk A9 l[k].expr.length c9 l[k].expr cols.length _ (Sl.cellz (fun _ => rfl) s1) (by have := HK9.out; unfold maxLen; omega)).mono ?_
    rintro e w1 ⟨rfl, hb1⟩
    rw [HC.out]
    have hr2 := hr1.below hb1
    go_wp2
    go_roundw
    case rel => exact ⟨k + 1, by omega, by go_num, HA, hr2, hba.trans (hb1.mono hba.size)⟩
    case measure => simp [intOf]; omega
  ·have e : l.take k = l := List.take_of_length_le (by omega)
   have h2 := hall.out
   rw [e] at h2
   have HF := Lib.hid (show cksB cols l = true by unfold cksB; rw [h2, H3.out]; rfl)
   clear h2 e hall
   go_wp2
   go_ret
   exact ⟨retB HF.out.symm, hb⟩
end Go.Proofs.YtjhhamlnlalkoaaGreat
