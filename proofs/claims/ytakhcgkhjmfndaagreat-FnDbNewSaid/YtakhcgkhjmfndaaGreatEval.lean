/-
  Contracts on the value of a part, in the program.
-/
import Derived.Test.YtakhcgkhjmfndaaGreatOps5
import Derived.Test.YtakhcgkhjmfndaaGreatExprOk2
namespace Go.Proofs.YtakhcgkhjmfndaaGreat
open Go.RowKit

set_option maxRecDepth 100000 in
set_option maxHeartbeats 1000000 in
theorem implTokValue1 (a0 a1 a2 args : Value) (t : Tk) (A : Option Addr) (cap : Nat) (row : List Vl) (w : World) (hr : Vals w A row.length row) (ht : t.k = 1) (hc : 0 ≤ t.c) (hc2 : t.c < row.length) :
    Calls Tryz.prog 101 #[.agg #[a0, a1, a2], .agg #[.int .i64 t.k, .int .i64 t.c, .int .i64 t.vk, .int .i64 t.vn, .string t.vs], .slice A row.length cap, args] w (OptPost row[t.c.toNat]? w) := by
  obtain ⟨k, c, vk, vn, vs⟩ := t
  simp only at ht hc hc2
  subst ht
  obtain ⟨j, rfl⟩ := Int.eq_ofNat_of_zero_le hc
  have hj : j < row.length := by omega
  obtain ⟨b, off, rfl, c0, c1, c2⟩ := hr.at_ hj
  have hb0 := (Below.refl w.heap.size w |>.alloc (Nat.le_refl _) (.cells #[a0, a1, a2] 119) |>.alloc (by simp only [size1]; omega) (.cells #[.int .i64 1, .int .i64 j, .int .i64 vk, .int .i64 vn, .string vs] 65) |>.alloc (by simp only [size1]; omega) (.cells #[.int .i64 0, .int .i64 0, .string ⟨#[]⟩] 57))
  obtain ⟨c0, c1, c2⟩ := keep3 ⟨c0, c1, c2⟩ hb0
  have rr := Row.newAt ((w.alloc (.cells #[a0, a1, a2] 119)).alloc (.cells #[.int .i64 1, .int .i64 j, .int .i64 vk, .int .i64 vn, .string vs] 65)) 57 #[.int .i64 0, .int .i64 0, .string ⟨#[]⟩] (w.heap.size + 1 + 1) (by simp only [size1])
  have HV := Lib.hid (show row[((j : Int)).toNat]? = some row[j] by simp [hj])
  go_enter Tryz.func101, Tryz.ntmps101
  go_wp2
  have hz := hb0
  refine bodyPost_ret (v := .tuple #[.agg #[.int .i64 row[j].k, .int .i64 row[j].n, .string row[j].s], .bool true]) (by simp [results, Tryz.results101, go_sem]) rfl ⟨row[j], by rw [HV.out]; rfl, by rw [HV.out]; simp, ?_⟩
  exact (((Below.refl w.heap.size w).alloc (Nat.le_refl _) _).alloc (by simp only [size1]; omega) _).alloc (by simp only [size1]; omega) _

set_option maxRecDepth 100000 in
set_option maxHeartbeats 1000000 in
theorem implTokValue2 (a0 a1 a2 args rows : Value) (t : Tk) (w : World) (ht : t.k = 2) :
    Calls Tryz.prog 101 #[.agg #[a0, a1, a2], .agg #[.int .i64 t.k, .int .i64 t.c, .int .i64 t.vk, .int .i64 t.vn, .string t.vs], rows, args] w (OptPost (some ⟨t.vk, t.vn, t.vs⟩) w) := by
  obtain ⟨k, c, vk, vn, vs⟩ := t
  simp only at ht
  subst ht
  go_enter Tryz.func101, Tryz.ntmps101
  go_wp2
  refine bodyPost_ret (v := .tuple #[.agg #[.int .i64 vk, .int .i64 vn, .string vs], .bool true]) (by simp [results, Tryz.results101, go_sem]) rfl ⟨⟨vk, vn, vs⟩, rfl, by simp, ?_⟩
  exact (((Below.refl w.heap.size w).alloc (Nat.le_refl _) _).alloc (by simp only [size1]; omega) _).alloc (by simp only [size1]; omega) _

set_option maxRecDepth 100000 in
set_option maxHeartbeats 1000000 in
theorem implTokValue3 (a0 a1 rows : Value) (t : Tk) (b off cap : Nat) (x y : Vl) (w : World) (ht : t.k = 3) (h : Six w b off x y) :
    Calls Tryz.prog 101 #[.agg #[a0, a1, .func (.func 75) #[] #[]], .agg #[.int .i64 t.k, .int .i64 t.c, .int .i64 t.vk, .int .i64 t.vn, .string t.vs], rows, .slice (some ⟨b, off, none⟩) 2 cap] w (OptPost (op2 3 x y) w) := by
  obtain ⟨k, c, vk, vn, vs⟩ := t
  simp only at ht
  subst ht
  have hb0 := (Below.refl w.heap.size w |>.alloc (Nat.le_refl _) (.cells #[a0, a1, .func (.func 75) #[] #[]] 119) |>.alloc (by simp only [size1]; omega) (.cells #[.int .i64 3, .int .i64 c, .int .i64 vk, .int .i64 vn, .string vs] 65) |>.alloc (by simp only [size1]; omega) (.cells #[.int .i64 0, .int .i64 0, .string ⟨#[]⟩] 57))
  have hs : Six (((w.alloc (.cells #[a0, a1, .func (.func 75) #[] #[]] 119)).alloc (.cells #[.int .i64 3, .int .i64 c, .int .i64 vk, .int .i64 vn, .string vs] 65)).alloc (.cells #[.int .i64 0, .int .i64 0, .string ⟨#[]⟩] 57)) b off x y := keep6 h hb0
  have rr := Row.newAt ((w.alloc (.cells #[a0, a1, .func (.func 75) #[] #[]] 119)).alloc (.cells #[.int .i64 3, .int .i64 c, .int .i64 vk, .int .i64 vn, .string vs] 65)) 57 #[.int .i64 0, .int .i64 0, .string ⟨#[]⟩] (w.heap.size + 1 + 1) (by simp only [size1])
  go_enter Tryz.func101, Tryz.ntmps101
  go_wp2_with fail
  generalize ((w.alloc (.cells #[a0, a1, .func (.func 75) #[] #[]] 119)).alloc (.cells #[.int .i64 3, .int .i64 c, .int .i64 vk, .int .i64 vn, .string vs] 65)).alloc (.cells #[.int .i64 0, .int .i64 0, .string ⟨#[]⟩] 57) = u at *
  refine (implEqualOf b off cap x y _ hs).mono ?_
  rintro e y1 ⟨v, rfl, hv, hb1⟩
  have HW := Lib.hid hv
  have hz := hb0.trans (hb1.mono hb0.size)
  obtain ⟨⟨z0, z1, z2⟩, ⟨z3, z4, z5⟩⟩ := (rr.below hb1).three
  clear hv rr hs h
  go_wp2_with fail
  refine bodyPost_ret (v := .tuple #[.agg #[.int .i64 v.k, .int .i64 v.n, .string v.s], .bool (op2 3 x y).isSome]) (by simp [results, Tryz.results101, go_sem, z0, z1, z2]) rfl ⟨v, rfl, HW.out, ?_⟩
  repeat (first | with_reducible exact hz | with_reducible refine Below.drew ?_ | with_reducible refine Below.setCell ?_ (by simp; omega) _ | with_reducible refine Below.setCell ?_ (by simp) _)

set_option maxRecDepth 100000 in
set_option maxHeartbeats 1000000 in
theorem implTokValue4 (a0 a1 rows : Value) (t : Tk) (b off cap : Nat) (x y : Vl) (w : World) (ht : t.k = 4) (h : Six w b off x y) :
    Calls Tryz.prog 101 #[.agg #[a0, a1, .func (.func 76) #[] #[]], .agg #[.int .i64 t.k, .int .i64 t.c, .int .i64 t.vk, .int .i64 t.vn, .string t.vs], rows, .slice (some ⟨b, off, none⟩) 2 cap] w (OptPost (op2 4 x y) w) := by
  obtain ⟨k, c, vk, vn, vs⟩ := t
  simp only at ht
  subst ht
  have hb0 := (Below.refl w.heap.size w |>.alloc (Nat.le_refl _) (.cells #[a0, a1, .func (.func 76) #[] #[]] 119) |>.alloc (by simp only [size1]; omega) (.cells #[.int .i64 4, .int .i64 c, .int .i64 vk, .int .i64 vn, .string vs] 65) |>.alloc (by simp only [size1]; omega) (.cells #[.int .i64 0, .int .i64 0, .string ⟨#[]⟩] 57))
  have hs : Six (((w.alloc (.cells #[a0, a1, .func (.func 76) #[] #[]] 119)).alloc (.cells #[.int .i64 4, .int .i64 c, .int .i64 vk, .int .i64 vn, .string vs] 65)).alloc (.cells #[.int .i64 0, .int .i64 0, .string ⟨#[]⟩] 57)) b off x y := keep6 h hb0
  have rr := Row.newAt ((w.alloc (.cells #[a0, a1, .func (.func 76) #[] #[]] 119)).alloc (.cells #[.int .i64 4, .int .i64 c, .int .i64 vk, .int .i64 vn, .string vs] 65)) 57 #[.int .i64 0, .int .i64 0, .string ⟨#[]⟩] (w.heap.size + 1 + 1) (by simp only [size1])
  go_enter Tryz.func101, Tryz.ntmps101
  go_wp2_with fail
  generalize ((w.alloc (.cells #[a0, a1, .func (.func 76) #[] #[]] 119)).alloc (.cells #[.int .i64 4, .int .i64 c, .int .i64 vk, .int .i64 vn, .string vs] 65)).alloc (.cells #[.int .i64 0, .int .i64 0, .string ⟨#[]⟩] 57) = u at *
  refine (implLessOf b off cap x y _ hs).mono ?_
  rintro e y1 ⟨v, rfl, hv, hb1⟩
  have HW := Lib.hid hv
  have hz := hb0.trans (hb1.mono hb0.size)
  obtain ⟨⟨z0, z1, z2⟩, ⟨z3, z4, z5⟩⟩ := (rr.below hb1).three
  clear hv rr hs h
  go_wp2_with fail
  refine bodyPost_ret (v := .tuple #[.agg #[.int .i64 v.k, .int .i64 v.n, .string v.s], .bool (op2 4 x y).isSome]) (by simp [results, Tryz.results101, go_sem, z0, z1, z2]) rfl ⟨v, rfl, HW.out, ?_⟩
  repeat (first | with_reducible exact hz | with_reducible refine Below.drew ?_ | with_reducible refine Below.setCell ?_ (by simp; omega) _ | with_reducible refine Below.setCell ?_ (by simp) _)

set_option maxRecDepth 100000 in
set_option maxHeartbeats 1000000 in
theorem implTokValue5 (a0 a1 rows : Value) (t : Tk) (b off cap : Nat) (x y : Vl) (w : World) (ht : t.k = 5) (h : Six w b off x y) (hx : x.ok = true) (hy : y.ok = true) :
    Calls Tryz.prog 101 #[.agg #[a0, a1, .func (.func 77) #[] #[]], .agg #[.int .i64 t.k, .int .i64 t.c, .int .i64 t.vk, .int .i64 t.vn, .string t.vs], rows, .slice (some ⟨b, off, none⟩) 2 cap] w (OptPost (op2 5 x y) w) := by
  obtain ⟨k, c, vk, vn, vs⟩ := t
  simp only at ht
  subst ht
  have hb0 := (Below.refl w.heap.size w |>.alloc (Nat.le_refl _) (.cells #[a0, a1, .func (.func 77) #[] #[]] 119) |>.alloc (by simp only [size1]; omega) (.cells #[.int .i64 5, .int .i64 c, .int .i64 vk, .int .i64 vn, .string vs] 65) |>.alloc (by simp only [size1]; omega) (.cells #[.int .i64 0, .int .i64 0, .string ⟨#[]⟩] 57))
  have hs : Six (((w.alloc (.cells #[a0, a1, .func (.func 77) #[] #[]] 119)).alloc (.cells #[.int .i64 5, .int .i64 c, .int .i64 vk, .int .i64 vn, .string vs] 65)).alloc (.cells #[.int .i64 0, .int .i64 0, .string ⟨#[]⟩] 57)) b off x y := keep6 h hb0
  have rr := Row.newAt ((w.alloc (.cells #[a0, a1, .func (.func 77) #[] #[]] 119)).alloc (.cells #[.int .i64 5, .int .i64 c, .int .i64 vk, .int .i64 vn, .string vs] 65)) 57 #[.int .i64 0, .int .i64 0, .string ⟨#[]⟩] (w.heap.size + 1 + 1) (by simp only [size1])
  go_enter Tryz.func101, Tryz.ntmps101
  go_wp2_with fail
  generalize ((w.alloc (.cells #[a0, a1, .func (.func 77) #[] #[]] 119)).alloc (.cells #[.int .i64 5, .int .i64 c, .int .i64 vk, .int .i64 vn, .string vs] 65)).alloc (.cells #[.int .i64 0, .int .i64 0, .string ⟨#[]⟩] 57) = u at *
  refine (implBothOf b off cap x y _ hs hx hy).mono ?_
  rintro e y1 ⟨v, rfl, hv, hb1⟩
  have HW := Lib.hid hv
  have hz := hb0.trans (hb1.mono hb0.size)
  obtain ⟨⟨z0, z1, z2⟩, ⟨z3, z4, z5⟩⟩ := (rr.below hb1).three
  clear hv rr hs h
  go_wp2_with fail
  refine bodyPost_ret (v := .tuple #[.agg #[.int .i64 v.k, .int .i64 v.n, .string v.s], .bool (op2 5 x y).isSome]) (by simp [results, Tryz.results101, go_sem, z0, z1, z2]) rfl ⟨v, rfl, HW.out, ?_⟩
  repeat (first | with_reducible exact hz | with_reducible refine Below.drew ?_ | with_reducible refine Below.setCell ?_ (by simp; omega) _ | with_reducible refine Below.setCell ?_ (by simp) _)

set_option maxRecDepth 100000 in
set_option maxHeartbeats 1000000 in
theorem implTokValue6 (a0 a1 rows : Value) (t : Tk) (b off cap : Nat) (x y : Vl) (w : World) (ht : t.k = 6) (h : Six w b off x y) (hx : x.ok = true) (hy : y.ok = true) :
    Calls Tryz.prog 101 #[.agg #[a0, a1, .func (.func 78) #[] #[]], .agg #[.int .i64 t.k, .int .i64 t.c, .int .i64 t.vk, .int .i64 t.vn, .string t.vs], rows, .slice (some ⟨b, off, none⟩) 2 cap] w (OptPost (op2 6 x y) w) := by
  obtain ⟨k, c, vk, vn, vs⟩ := t
  simp only at ht
  subst ht
  have hb0 := (Below.refl w.heap.size w |>.alloc (Nat.le_refl _) (.cells #[a0, a1, .func (.func 78) #[] #[]] 119) |>.alloc (by simp only [size1]; omega) (.cells #[.int .i64 6, .int .i64 c, .int .i64 vk, .int .i64 vn, .string vs] 65) |>.alloc (by simp only [size1]; omega) (.cells #[.int .i64 0, .int .i64 0, .string ⟨#[]⟩] 57))
  have hs : Six (((w.alloc (.cells #[a0, a1, .func (.func 78) #[] #[]] 119)).alloc (.cells #[.int .i64 6, .int .i64 c, .int .i64 vk, .int .i64 vn, .string vs] 65)).alloc (.cells #[.int .i64 0, .int .i64 0, .string ⟨#[]⟩] 57)) b off x y := keep6 h hb0
  have rr := Row.newAt ((w.alloc (.cells #[a0, a1, .func (.func 78) #[] #[]] 119)).alloc (.cells #[.int .i64 6, .int .i64 c, .int .i64 vk, .int .i64 vn, .string vs] 65)) 57 #[.int .i64 0, .int .i64 0, .string ⟨#[]⟩] (w.heap.size + 1 + 1) (by simp only [size1])
  go_enter Tryz.func101, Tryz.ntmps101
  go_wp2_with fail
  generalize ((w.alloc (.cells #[a0, a1, .func (.func 78) #[] #[]] 119)).alloc (.cells #[.int .i64 6, .int .i64 c, .int .i64 vk, .int .i64 vn, .string vs] 65)).alloc (.cells #[.int .i64 0, .int .i64 0, .string ⟨#[]⟩] 57) = u at *
  refine (implEitherOf b off cap x y _ hs hx hy).mono ?_
  rintro e y1 ⟨v, rfl, hv, hb1⟩
  have HW := Lib.hid hv
  have hz := hb0.trans (hb1.mono hb0.size)
  obtain ⟨⟨z0, z1, z2⟩, ⟨z3, z4, z5⟩⟩ := (rr.below hb1).three
  clear hv rr hs h
  go_wp2_with fail
  refine bodyPost_ret (v := .tuple #[.agg #[.int .i64 v.k, .int .i64 v.n, .string v.s], .bool (op2 6 x y).isSome]) (by simp [results, Tryz.results101, go_sem, z0, z1, z2]) rfl ⟨v, rfl, HW.out, ?_⟩
  repeat (first | with_reducible exact hz | with_reducible refine Below.drew ?_ | with_reducible refine Below.setCell ?_ (by simp; omega) _ | with_reducible refine Below.setCell ?_ (by simp) _)

set_option maxRecDepth 100000 in
set_option maxHeartbeats 1000000 in
theorem implTokValue7 (a0 a1 rows : Value) (t : Tk) (b off cap : Nat) (x : Vl) (w : World) (ht : t.k = 7) (h : Tri w b off x) (hx : x.ok = true) :
    Calls Tryz.prog 101 #[.agg #[a0, a1, .func (.func 79) #[] #[]], .agg #[.int .i64 t.k, .int .i64 t.c, .int .i64 t.vk, .int .i64 t.vn, .string t.vs], rows, .slice (some ⟨b, off, none⟩) 1 cap] w (OptPost (op1 7 x) w) := by
  obtain ⟨k, c, vk, vn, vs⟩ := t
  simp only at ht
  subst ht
  have hb0 := (Below.refl w.heap.size w |>.alloc (Nat.le_refl _) (.cells #[a0, a1, .func (.func 79) #[] #[]] 119) |>.alloc (by simp only [size1]; omega) (.cells #[.int .i64 7, .int .i64 c, .int .i64 vk, .int .i64 vn, .string vs] 65) |>.alloc (by simp only [size1]; omega) (.cells #[.int .i64 0, .int .i64 0, .string ⟨#[]⟩] 57))
  have hs : Tri (((w.alloc (.cells #[a0, a1, .func (.func 79) #[] #[]] 119)).alloc (.cells #[.int .i64 7, .int .i64 c, .int .i64 vk, .int .i64 vn, .string vs] 65)).alloc (.cells #[.int .i64 0, .int .i64 0, .string ⟨#[]⟩] 57)) b off x := keep3 h hb0
  have rr := Row.newAt ((w.alloc (.cells #[a0, a1, .func (.func 79) #[] #[]] 119)).alloc (.cells #[.int .i64 7, .int .i64 c, .int .i64 vk, .int .i64 vn, .string vs] 65)) 57 #[.int .i64 0, .int .i64 0, .string ⟨#[]⟩] (w.heap.size + 1 + 1) (by simp only [size1])
  go_enter Tryz.func101, Tryz.ntmps101
  go_wp2_with fail
  generalize ((w.alloc (.cells #[a0, a1, .func (.func 79) #[] #[]] 119)).alloc (.cells #[.int .i64 7, .int .i64 c, .int .i64 vk, .int .i64 vn, .string vs] 65)).alloc (.cells #[.int .i64 0, .int .i64 0, .string ⟨#[]⟩] 57) = u at *
  refine (implNotOf b off cap x _ hs hx).mono ?_
  rintro e y1 ⟨v, rfl, hv, hb1⟩
  have HW := Lib.hid hv
  have hz := hb0.trans (hb1.mono hb0.size)
  obtain ⟨⟨z0, z1, z2⟩, ⟨z3, z4, z5⟩⟩ := (rr.below hb1).three
  clear hv rr hs h
  go_wp2_with fail
  refine bodyPost_ret (v := .tuple #[.agg #[.int .i64 v.k, .int .i64 v.n, .string v.s], .bool (op1 7 x).isSome]) (by simp [results, Tryz.results101, go_sem, z0, z1, z2]) rfl ⟨v, rfl, HW.out, ?_⟩
  repeat (first | with_reducible exact hz | with_reducible refine Below.drew ?_ | with_reducible refine Below.setCell ?_ (by simp; omega) _ | with_reducible refine Below.setCell ?_ (by simp) _)

set_option maxRecDepth 100000 in
set_option maxHeartbeats 1000000 in
theorem implTokValue8 (a0 a1 rows : Value) (t : Tk) (b off cap : Nat) (x : Vl) (w : World) (ht : t.k = 8) (h : Tri w b off x) :
    Calls Tryz.prog 101 #[.agg #[a0, a1, .func (.func 80) #[] #[]], .agg #[.int .i64 t.k, .int .i64 t.c, .int .i64 t.vk, .int .i64 t.vn, .string t.vs], rows, .slice (some ⟨b, off, none⟩) 1 cap] w (OptPost (op1 8 x) w) := by
  obtain ⟨k, c, vk, vn, vs⟩ := t
  simp only at ht
  subst ht
  have hb0 := (Below.refl w.heap.size w |>.alloc (Nat.le_refl _) (.cells #[a0, a1, .func (.func 80) #[] #[]] 119) |>.alloc (by simp only [size1]; omega) (.cells #[.int .i64 8, .int .i64 c, .int .i64 vk, .int .i64 vn, .string vs] 65) |>.alloc (by simp only [size1]; omega) (.cells #[.int .i64 0, .int .i64 0, .string ⟨#[]⟩] 57))
  have hs : Tri (((w.alloc (.cells #[a0, a1, .func (.func 80) #[] #[]] 119)).alloc (.cells #[.int .i64 8, .int .i64 c, .int .i64 vk, .int .i64 vn, .string vs] 65)).alloc (.cells #[.int .i64 0, .int .i64 0, .string ⟨#[]⟩] 57)) b off x := keep3 h hb0
  have rr := Row.newAt ((w.alloc (.cells #[a0, a1, .func (.func 80) #[] #[]] 119)).alloc (.cells #[.int .i64 8, .int .i64 c, .int .i64 vk, .int .i64 vn, .string vs] 65)) 57 #[.int .i64 0, .int .i64 0, .string ⟨#[]⟩] (w.heap.size + 1 + 1) (by simp only [size1])
  go_enter Tryz.func101, Tryz.ntmps101
  go_wp2_with fail
  generalize ((w.alloc (.cells #[a0, a1, .func (.func 80) #[] #[]] 119)).alloc (.cells #[.int .i64 8, .int .i64 c, .int .i64 vk, .int .i64 vn, .string vs] 65)).alloc (.cells #[.int .i64 0, .int .i64 0, .string ⟨#[]⟩] 57) = u at *
  refine (implNullOf b off cap x _ hs).mono ?_
  rintro e y1 ⟨v, rfl, hv, hb1⟩
  have HW := Lib.hid hv
  have hz := hb0.trans (hb1.mono hb0.size)
  obtain ⟨⟨z0, z1, z2⟩, ⟨z3, z4, z5⟩⟩ := (rr.below hb1).three
  clear hv rr hs h
  go_wp2_with fail
  refine bodyPost_ret (v := .tuple #[.agg #[.int .i64 v.k, .int .i64 v.n, .string v.s], .bool (op1 8 x).isSome]) (by simp [results, Tryz.results101, go_sem, z0, z1, z2]) rfl ⟨v, rfl, HW.out, ?_⟩
  repeat (first | with_reducible exact hz | with_reducible refine Below.drew ?_ | with_reducible refine Below.setCell ?_ (by simp; omega) _ | with_reducible refine Below.setCell ?_ (by simp) _)

set_option maxRecDepth 100000 in
set_option maxHeartbeats 1000000 in
theorem implTokValue9 (a0 a1 rows : Value) (t : Tk) (b off cap : Nat) (x y : Vl) (w : World) (ht : t.k = 9) (h : Six w b off x y) (hx : x.ok = true) (hy : y.ok = true) :
    Calls Tryz.prog 101 #[.agg #[a0, a1, .func (.func 81) #[] #[]], .agg #[.int .i64 t.k, .int .i64 t.c, .int .i64 t.vk, .int .i64 t.vn, .string t.vs], rows, .slice (some ⟨b, off, none⟩) 2 cap] w (OptPost (op2 9 x y) w) := by
  obtain ⟨k, c, vk, vn, vs⟩ := t
  simp only at ht
  subst ht
  have hb0 := (Below.refl w.heap.size w |>.alloc (Nat.le_refl _) (.cells #[a0, a1, .func (.func 81) #[] #[]] 119) |>.alloc (by simp only [size1]; omega) (.cells #[.int .i64 9, .int .i64 c, .int .i64 vk, .int .i64 vn, .string vs] 65) |>.alloc (by simp only [size1]; omega) (.cells #[.int .i64 0, .int .i64 0, .string ⟨#[]⟩] 57))
  have hs : Six (((w.alloc (.cells #[a0, a1, .func (.func 81) #[] #[]] 119)).alloc (.cells #[.int .i64 9, .int .i64 c, .int .i64 vk, .int .i64 vn, .string vs] 65)).alloc (.cells #[.int .i64 0, .int .i64 0, .string ⟨#[]⟩] 57)) b off x y := keep6 h hb0
  have rr := Row.newAt ((w.alloc (.cells #[a0, a1, .func (.func 81) #[] #[]] 119)).alloc (.cells #[.int .i64 9, .int .i64 c, .int .i64 vk, .int .i64 vn, .string vs] 65)) 57 #[.int .i64 0, .int .i64 0, .string ⟨#[]⟩] (w.heap.size + 1 + 1) (by simp only [size1])
  go_enter Tryz.func101, Tryz.ntmps101
  go_wp2_with fail
  generalize ((w.alloc (.cells #[a0, a1, .func (.func 81) #[] #[]] 119)).alloc (.cells #[.int .i64 9, .int .i64 c, .int .i64 vk, .int .i64 vn, .string vs] 65)).alloc (.cells #[.int .i64 0, .int .i64 0, .string ⟨#[]⟩] 57) = u at *
  refine (implSumOf b off cap x y _ hs hx hy).mono ?_
  rintro e y1 ⟨v, rfl, hv, hb1⟩
  have HW := Lib.hid hv
  have hz := hb0.trans (hb1.mono hb0.size)
  obtain ⟨⟨z0, z1, z2⟩, ⟨z3, z4, z5⟩⟩ := (rr.below hb1).three
  clear hv rr hs h
  go_wp2_with fail
  refine bodyPost_ret (v := .tuple #[.agg #[.int .i64 v.k, .int .i64 v.n, .string v.s], .bool (op2 9 x y).isSome]) (by simp [results, Tryz.results101, go_sem, z0, z1, z2]) rfl ⟨v, rfl, HW.out, ?_⟩
  repeat (first | with_reducible exact hz | with_reducible refine Below.drew ?_ | with_reducible refine Below.setCell ?_ (by simp; omega) _ | with_reducible refine Below.setCell ?_ (by simp) _)

set_option maxRecDepth 100000 in
set_option maxHeartbeats 1000000 in
theorem implTokValue10 (a0 a1 rows : Value) (t : Tk) (b off cap : Nat) (x y : Vl) (w : World) (ht : t.k = 10) (h : Six w b off x y) (hx : x.ok = true) (hy : y.ok = true) :
    Calls Tryz.prog 101 #[.agg #[a0, a1, .func (.func 82) #[] #[]], .agg #[.int .i64 t.k, .int .i64 t.c, .int .i64 t.vk, .int .i64 t.vn, .string t.vs], rows, .slice (some ⟨b, off, none⟩) 2 cap] w (OptPost (op2 10 x y) w) := by
  obtain ⟨k, c, vk, vn, vs⟩ := t
  simp only at ht
  subst ht
  have hb0 := (Below.refl w.heap.size w |>.alloc (Nat.le_refl _) (.cells #[a0, a1, .func (.func 82) #[] #[]] 119) |>.alloc (by simp only [size1]; omega) (.cells #[.int .i64 10, .int .i64 c, .int .i64 vk, .int .i64 vn, .string vs] 65) |>.alloc (by simp only [size1]; omega) (.cells #[.int .i64 0, .int .i64 0, .string ⟨#[]⟩] 57))
  have hs : Six (((w.alloc (.cells #[a0, a1, .func (.func 82) #[] #[]] 119)).alloc (.cells #[.int .i64 10, .int .i64 c, .int .i64 vk, .int .i64 vn, .string vs] 65)).alloc (.cells #[.int .i64 0, .int .i64 0, .string ⟨#[]⟩] 57)) b off x y := keep6 h hb0
  have rr := Row.newAt ((w.alloc (.cells #[a0, a1, .func (.func 82) #[] #[]] 119)).alloc (.cells #[.int .i64 10, .int .i64 c, .int .i64 vk, .int .i64 vn, .string vs] 65)) 57 #[.int .i64 0, .int .i64 0, .string ⟨#[]⟩] (w.heap.size + 1 + 1) (by simp only [size1])
  go_enter Tryz.func101, Tryz.ntmps101
  go_wp2_with fail
  generalize ((w.alloc (.cells #[a0, a1, .func (.func 82) #[] #[]] 119)).alloc (.cells #[.int .i64 10, .int .i64 c, .int .i64 vk, .int .i64 vn, .string vs] 65)).alloc (.cells #[.int .i64 0, .int .i64 0, .string ⟨#[]⟩] 57) = u at *
  refine (implDifferenceOf b off cap x y _ hs hx hy).mono ?_
  rintro e y1 ⟨v, rfl, hv, hb1⟩
  have HW := Lib.hid hv
  have hz := hb0.trans (hb1.mono hb0.size)
  obtain ⟨⟨z0, z1, z2⟩, ⟨z3, z4, z5⟩⟩ := (rr.below hb1).three
  clear hv rr hs h
  go_wp2_with fail
  refine bodyPost_ret (v := .tuple #[.agg #[.int .i64 v.k, .int .i64 v.n, .string v.s], .bool (op2 10 x y).isSome]) (by simp [results, Tryz.results101, go_sem, z0, z1, z2]) rfl ⟨v, rfl, HW.out, ?_⟩
  repeat (first | with_reducible exact hz | with_reducible refine Below.drew ?_ | with_reducible refine Below.setCell ?_ (by simp; omega) _ | with_reducible refine Below.setCell ?_ (by simp) _)

end Go.Proofs.YtakhcgkhjmfndaaGreat
