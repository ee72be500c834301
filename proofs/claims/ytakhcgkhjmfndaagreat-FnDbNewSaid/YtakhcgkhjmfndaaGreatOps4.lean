/-
  Contracts on the ops of expressions, of the program: as they take their values out of a slice.
-/
import Derived.Test.YtakhcgkhjmfndaaGreatOps3
namespace Go.Proofs.YtakhcgkhjmfndaaGreat
open Go.RowKit

/-- A cell behind three stores into another block. -/
theorem stayThree {w : World} {g b i : Nat} {x y z v : Value} (h : g ≠ b) (hc : w.cell? ⟨b, i, none⟩ = some v) :
    (((w.setCell ⟨g, 0, none⟩ x).setCell ⟨g, 1, none⟩ y).setCell ⟨g, 2, none⟩ z).cell? ⟨b, i, none⟩ = some v := by
  have e : ∀ o, (⟨g, o, none⟩ : Addr) ≠ ⟨b, i, none⟩ := fun o he => h (congrArg Addr.block he)
  rw [World.cell?_setCell_other _ _ _ _ (e 2), World.cell?_setCell_other _ _ _ _ (e 1), World.cell?_setCell_other _ _ _ _ (e 0)]; exact hc
theorem keep6s {w : World} {g b i0 i1 i2 i3 i4 i5 : Nat} {x y z v0 v1 v2 v3 v4 v5 : Value} (hne : g ≠ b)
    (h : w.cell? ⟨b, i0, none⟩ = some v0 ∧ w.cell? ⟨b, i1, none⟩ = some v1 ∧ w.cell? ⟨b, i2, none⟩ = some v2 ∧ w.cell? ⟨b, i3, none⟩ = some v3 ∧ w.cell? ⟨b, i4, none⟩ = some v4 ∧ w.cell? ⟨b, i5, none⟩ = some v5) :
    (((w.setCell ⟨g, 0, none⟩ x).setCell ⟨g, 1, none⟩ y).setCell ⟨g, 2, none⟩ z).cell? ⟨b, i0, none⟩ = some v0 ∧ (((w.setCell ⟨g, 0, none⟩ x).setCell ⟨g, 1, none⟩ y).setCell ⟨g, 2, none⟩ z).cell? ⟨b, i1, none⟩ = some v1 ∧
    (((w.setCell ⟨g, 0, none⟩ x).setCell ⟨g, 1, none⟩ y).setCell ⟨g, 2, none⟩ z).cell? ⟨b, i2, none⟩ = some v2 ∧ (((w.setCell ⟨g, 0, none⟩ x).setCell ⟨g, 1, none⟩ y).setCell ⟨g, 2, none⟩ z).cell? ⟨b, i3, none⟩ = some v3 ∧
    (((w.setCell ⟨g, 0, none⟩ x).setCell ⟨g, 1, none⟩ y).setCell ⟨g, 2, none⟩ z).cell? ⟨b, i4, none⟩ = some v4 ∧ (((w.setCell ⟨g, 0, none⟩ x).setCell ⟨g, 1, none⟩ y).setCell ⟨g, 2, none⟩ z).cell? ⟨b, i5, none⟩ = some v5 :=
  ⟨stayThree hne h.1, stayThree hne h.2.1, stayThree hne h.2.2.1, stayThree hne h.2.2.2.1, stayThree hne h.2.2.2.2.1, stayThree hne h.2.2.2.2.2⟩

/-- Six cells of two values. -/
def Six (w : World) (b off : Nat) (x y : Vl) : Prop :=
  w.cell? ⟨b, off, none⟩ = some (.int .i64 x.k) ∧ w.cell? ⟨b, off + 1, none⟩ = some (.int .i64 x.n) ∧ w.cell? ⟨b, off + 2, none⟩ = some (.string x.s) ∧
  w.cell? ⟨b, off + 3, none⟩ = some (.int .i64 y.k) ∧ w.cell? ⟨b, off + 3 + 1, none⟩ = some (.int .i64 y.n) ∧ w.cell? ⟨b, off + 3 + 2, none⟩ = some (.string y.s)
/-- Three cells of a value. -/
def Tri (w : World) (b off : Nat) (x : Vl) : Prop :=
  w.cell? ⟨b, off, none⟩ = some (.int .i64 x.k) ∧ w.cell? ⟨b, off + 1, none⟩ = some (.int .i64 x.n) ∧ w.cell? ⟨b, off + 2, none⟩ = some (.string x.s)

set_option maxHeartbeats 1000000 in
theorem implEqualOf (b off cap : Nat) (x y : Vl) (w : World) (h : Six w b off x y) :
    Calls Tryz.prog 75 #[.slice (some ⟨b, off, none⟩) 2 cap] w (OptPost (op2 3 x y) w) := by
  have HV := Lib.hid (show op2 3 x y = asOpt (eq3 x.k x.n x.s y.k y.n y.s) by simp [op2])
  have hb0 := (Below.refl w.heap.size w).alloc (Nat.le_refl _) (.cells #[.int .i64 0, .int .i64 0, .string ⟨#[]⟩] 57)
  have rr := Row.new w 57 #[.int .i64 0, .int .i64 0, .string ⟨#[]⟩]
  have hne : w.heap.size ≠ b := Nat.ne_of_gt (cell_lt h.1)
  obtain ⟨c0, c1, c2, d0, d1, d2⟩ := keep6 h hb0
  clear h
  go_enter Tryz.func75, Tryz.ntmps75
  go_wp2_with fail
  generalize w.alloc (.cells #[.int .i64 0, .int .i64 0, .string ⟨#[]⟩] 57) = u at *
  have RR := Lib.hid rr
  clear rr
  go_region_held3 (fun w' => w'.cell? ⟨b, off, none⟩ = some (.int .i64 x.k) ∧ w'.cell? ⟨b, off + 1, none⟩ = some (.int .i64 x.n) ∧ w'.cell? ⟨b, off + 2, none⟩ = some (.string x.s) ∧ w'.cell? ⟨b, off + 3, none⟩ = some (.int .i64 y.k) ∧ w'.cell? ⟨b, off + 3 + 1, none⟩ = some (.int .i64 y.n) ∧ w'.cell? ⟨b, off + 3 + 2, none⟩ = some (.string y.s))
    (first | go_keep | with_reducible exact keep6s hne (by assumption) | exact keep6 (by assumption) hbZ | exact keep6 (by assumption) hbA)
    (first | (go_at_call 93; refine (implEqual3 x.k x.n x.s y.k y.n y.s _).mono ?_; rintro e yA ⟨rfl, hbA⟩) | (go_at_call 92; refine (implTruthVal _ _ (eq3_rng _ _ _ _ _ _)).mono ?_; rintro e yZ ⟨v, rfl, hv, hbZ⟩; have HW := Lib.hid hv; clear hv; obtain ⟨⟨z0, z1, z2⟩, ⟨z3, z4, z5⟩⟩ := ((RR.out.drew.below hbA).below hbZ).three))
  go_wp2
  have hz1 := hb0.drew.trans (hbA.mono hb0.size)
  have hz := hz1.trans (hbZ.mono hz1.size)
  refine bodyPost_ret (v := .tuple #[.agg #[.int .i64 v.k, .int .i64 v.n, .string v.s], .bool (asOpt (eq3 x.k x.n x.s y.k y.n y.s)).isSome]) (by simp [results, Tryz.results75, go_sem, z0, z1, z2]) rfl ⟨v, by rw [HV.out], by rw [HV.out]; exact HW.out, ?_⟩
  repeat (first | with_reducible exact hz | with_reducible refine Below.drew ?_ | with_reducible refine Below.setCell ?_ (by simp; omega) _ | with_reducible refine Below.setCell ?_ (by simp) _)

set_option maxHeartbeats 1000000 in
theorem implLessOf (b off cap : Nat) (x y : Vl) (w : World) (h : Six w b off x y) :
    Calls Tryz.prog 76 #[.slice (some ⟨b, off, none⟩) 2 cap] w (OptPost (op2 4 x y) w) := by
  have HV := Lib.hid (show op2 4 x y = asOpt (less3 x.k x.n x.s y.k y.n y.s) by simp [op2])
  have hb0 := (Below.refl w.heap.size w).alloc (Nat.le_refl _) (.cells #[.int .i64 0, .int .i64 0, .string ⟨#[]⟩] 57)
  have rr := Row.new w 57 #[.int .i64 0, .int .i64 0, .string ⟨#[]⟩]
  have hne : w.heap.size ≠ b := Nat.ne_of_gt (cell_lt h.1)
  obtain ⟨c0, c1, c2, d0, d1, d2⟩ := keep6 h hb0
  clear h
  go_enter Tryz.func76, Tryz.ntmps76
  go_wp2_with fail
  generalize w.alloc (.cells #[.int .i64 0, .int .i64 0, .string ⟨#[]⟩] 57) = u at *
  have RR := Lib.hid rr
  clear rr
  go_region_held3 (fun w' => w'.cell? ⟨b, off, none⟩ = some (.int .i64 x.k) ∧ w'.cell? ⟨b, off + 1, none⟩ = some (.int .i64 x.n) ∧ w'.cell? ⟨b, off + 2, none⟩ = some (.string x.s) ∧ w'.cell? ⟨b, off + 3, none⟩ = some (.int .i64 y.k) ∧ w'.cell? ⟨b, off + 3 + 1, none⟩ = some (.int .i64 y.n) ∧ w'.cell? ⟨b, off + 3 + 2, none⟩ = some (.string y.s))
    (first | go_keep | with_reducible exact keep6s hne (by assumption) | exact keep6 (by assumption) hbZ | exact keep6 (by assumption) hbA)
    (first | (go_at_call 94; refine (implLess3 x.k x.n x.s y.k y.n y.s _).mono ?_; rintro e yA ⟨rfl, hbA⟩) | (go_at_call 92; refine (implTruthVal _ _ (less3_rng _ _ _ _ _ _)).mono ?_; rintro e yZ ⟨v, rfl, hv, hbZ⟩; have HW := Lib.hid hv; clear hv; obtain ⟨⟨z0, z1, z2⟩, ⟨z3, z4, z5⟩⟩ := ((RR.out.drew.below hbA).below hbZ).three))
  go_wp2
  have hz1 := hb0.drew.trans (hbA.mono hb0.size)
  have hz := hz1.trans (hbZ.mono hz1.size)
  refine bodyPost_ret (v := .tuple #[.agg #[.int .i64 v.k, .int .i64 v.n, .string v.s], .bool (asOpt (less3 x.k x.n x.s y.k y.n y.s)).isSome]) (by simp [results, Tryz.results76, go_sem, z0, z1, z2]) rfl ⟨v, by rw [HV.out], by rw [HV.out]; exact HW.out, ?_⟩
  repeat (first | with_reducible exact hz | with_reducible refine Below.drew ?_ | with_reducible refine Below.setCell ?_ (by simp; omega) _ | with_reducible refine Below.setCell ?_ (by simp) _)

set_option maxHeartbeats 1000000 in
theorem implBothOf (b off cap : Nat) (x y : Vl) (w : World) (h : Six w b off x y) (hx : x.ok = true) (hy : y.ok = true) :
    Calls Tryz.prog 77 #[.slice (some ⟨b, off, none⟩) 2 cap] w (OptPost (op2 5 x y) w) := by
  have HV := Lib.hid (show op2 5 x y = asOpt (and3 (truOf x) (truOf y)) by simp [op2])
  have hb0 := (Below.refl w.heap.size w).alloc (Nat.le_refl _) (.cells #[.int .i64 0, .int .i64 0, .string ⟨#[]⟩] 57)
  have rr := Row.new w 57 #[.int .i64 0, .int .i64 0, .string ⟨#[]⟩]
  have hne : w.heap.size ≠ b := Nat.ne_of_gt (cell_lt h.1)
  obtain ⟨c0, c1, c2, d0, d1, d2⟩ := keep6 h hb0
  clear h
  go_enter Tryz.func77, Tryz.ntmps77
  go_wp2_with fail
  generalize w.alloc (.cells #[.int .i64 0, .int .i64 0, .string ⟨#[]⟩] 57) = u at *
  have RR := Lib.hid rr
  clear rr
  go_region_held3 (fun w' => w'.cell? ⟨b, off, none⟩ = some (.int .i64 x.k) ∧ w'.cell? ⟨b, off + 1, none⟩ = some (.int .i64 x.n) ∧ w'.cell? ⟨b, off + 2, none⟩ = some (.string x.s) ∧ w'.cell? ⟨b, off + 3, none⟩ = some (.int .i64 y.k) ∧ w'.cell? ⟨b, off + 3 + 1, none⟩ = some (.int .i64 y.n) ∧ w'.cell? ⟨b, off + 3 + 2, none⟩ = some (.string y.s))
    (first | go_keep | with_reducible exact keep6s hne (by assumption) | exact keep6 (by assumption) hbZ | exact keep6 (by assumption) hbB | exact keep6 (by assumption) hbA)
    (first | (go_at_call_of 86 (Value.agg #[.int .i64 x.k, .int .i64 x.n, .string x.s]); refine (implTruthOf x _ hx).mono ?_; rintro e yA ⟨rfl, hbA⟩) | (go_at_call_of 86 (Value.agg #[.int .i64 y.k, .int .i64 y.n, .string y.s]); refine (implTruthOf y _ hy).mono ?_; rintro e yB ⟨rfl, hbB⟩) | (go_at_call 95; refine (implAnd3 _ _ _).mono ?_; rintro e yC ⟨rfl, rfl⟩) | (go_at_call 92; refine (implTruthVal _ _ (and3_rng _ _)).mono ?_; rintro e yZ ⟨v, rfl, hv, hbZ⟩; have HW := Lib.hid hv; clear hv; obtain ⟨⟨z0, z1, z2⟩, ⟨z3, z4, z5⟩⟩ := (((RR.out.drew.below hbA).below hbB).below hbZ).three))
  go_wp2
  have hz1 := hb0.drew.trans (hbA.mono hb0.size)
  have hz2 := hz1.trans (hbB.mono hz1.size)
  have hz := hz2.trans (hbZ.mono hz2.size)
  refine bodyPost_ret (v := .tuple #[.agg #[.int .i64 v.k, .int .i64 v.n, .string v.s], .bool (asOpt (and3 (truOf x) (truOf y))).isSome]) (by simp [results, Tryz.results77, go_sem, z0, z1, z2]) rfl ⟨v, by rw [HV.out], by rw [HV.out]; exact HW.out, ?_⟩
  repeat (first | with_reducible exact hz | with_reducible refine Below.drew ?_ | with_reducible refine Below.setCell ?_ (by simp; omega) _ | with_reducible refine Below.setCell ?_ (by simp) _)

set_option maxHeartbeats 1000000 in
theorem implEitherOf (b off cap : Nat) (x y : Vl) (w : World) (h : Six w b off x y) (hx : x.ok = true) (hy : y.ok = true) :
    Calls Tryz.prog 78 #[.slice (some ⟨b, off, none⟩) 2 cap] w (OptPost (op2 6 x y) w) := by
  have HV := Lib.hid (show op2 6 x y = asOpt (or3 (truOf x) (truOf y)) by simp [op2])
  have hb0 := (Below.refl w.heap.size w).alloc (Nat.le_refl _) (.cells #[.int .i64 0, .int .i64 0, .string ⟨#[]⟩] 57)
  have rr := Row.new w 57 #[.int .i64 0, .int .i64 0, .string ⟨#[]⟩]
  have hne : w.heap.size ≠ b := Nat.ne_of_gt (cell_lt h.1)
  obtain ⟨c0, c1, c2, d0, d1, d2⟩ := keep6 h hb0
  clear h
  go_enter Tryz.func78, Tryz.ntmps78
  go_wp2_with fail
  generalize w.alloc (.cells #[.int .i64 0, .int .i64 0, .string ⟨#[]⟩] 57) = u at *
  have RR := Lib.hid rr
  clear rr
  go_region_held3 (fun w' => w'.cell? ⟨b, off, none⟩ = some (.int .i64 x.k) ∧ w'.cell? ⟨b, off + 1, none⟩ = some (.int .i64 x.n) ∧ w'.cell? ⟨b, off + 2, none⟩ = some (.string x.s) ∧ w'.cell? ⟨b, off + 3, none⟩ = some (.int .i64 y.k) ∧ w'.cell? ⟨b, off + 3 + 1, none⟩ = some (.int .i64 y.n) ∧ w'.cell? ⟨b, off + 3 + 2, none⟩ = some (.string y.s))
    (first | go_keep | with_reducible exact keep6s hne (by assumption) | exact keep6 (by assumption) hbZ | exact keep6 (by assumption) hbB | exact keep6 (by assumption) hbA)
    (first | (go_at_call_of 86 (Value.agg #[.int .i64 x.k, .int .i64 x.n, .string x.s]); refine (implTruthOf x _ hx).mono ?_; rintro e yA ⟨rfl, hbA⟩) | (go_at_call_of 86 (Value.agg #[.int .i64 y.k, .int .i64 y.n, .string y.s]); refine (implTruthOf y _ hy).mono ?_; rintro e yB ⟨rfl, hbB⟩) | (go_at_call 96; refine (implOr3 _ _ _).mono ?_; rintro e yC ⟨rfl, rfl⟩) | (go_at_call 92; refine (implTruthVal _ _ (or3_rng _ _)).mono ?_; rintro e yZ ⟨v, rfl, hv, hbZ⟩; have HW := Lib.hid hv; clear hv; obtain ⟨⟨z0, z1, z2⟩, ⟨z3, z4, z5⟩⟩ := (((RR.out.drew.below hbA).below hbB).below hbZ).three))
  go_wp2
  have hz1 := hb0.drew.trans (hbA.mono hb0.size)
  have hz2 := hz1.trans (hbB.mono hz1.size)
  have hz := hz2.trans (hbZ.mono hz2.size)
  refine bodyPost_ret (v := .tuple #[.agg #[.int .i64 v.k, .int .i64 v.n, .string v.s], .bool (asOpt (or3 (truOf x) (truOf y))).isSome]) (by simp [results, Tryz.results78, go_sem, z0, z1, z2]) rfl ⟨v, by rw [HV.out], by rw [HV.out]; exact HW.out, ?_⟩
  repeat (first | with_reducible exact hz | with_reducible refine Below.drew ?_ | with_reducible refine Below.setCell ?_ (by simp; omega) _ | with_reducible refine Below.setCell ?_ (by simp) _)

end Go.Proofs.YtakhcgkhjmfndaaGreat
