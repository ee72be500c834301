/-
  StmtOk answers as the model at every schema and statement (law FnExactStmtOk, for every input).
-/
import Derived.Test.YthafgkcokecnnaaGreatPa
import Derived.Test.YthafgkcokecnnaaGreatPd
import Derived.Test.YthafgkcokecnnaaGreatPb
namespace Go.Proofs.YthafgkcokecnnaaGreat.fnExactStmtOk
open Go.ChangeShapes Go.WideShapes Go.ChangeAt Go.RowKit Go.Joins
open Go.ChangeMaps (open_string shut_string)
set_option linter.unusedVariables false

set_option maxRecDepth 100000 in
set_option maxHeartbeats 2000000 in
theorem walk (a0 : Option Addr) (len0 cap0 : Nat) (x0 : List Tb) (x1 : Sq) (A1_2 : Option Addr) (n1_2 c1_2 : Nat) (A1_3 : Option Addr) (n1_3 c1_3 : Nat) (A1_4 : Option Addr) (n1_4 c1_4 : Nat) (w : World) (w0 : Sl TbR 6 (fun _ => True) w a0 len0 x0 ∧ (x0.length ≤ maxLen ∧ ∀ y ∈ x0, y.wf)) (w1 : (Sl RwR 2 (fun _ => True) w A1_2 n1_2 x1.rows ∧ Sl TkR 5 (fun _ => True) w A1_3 n1_3 x1.wher ∧ Sl SeR 2 (fun _ => True) w A1_4 n1_4 x1.sets) ∧ x1.wf) :
    Calls Tryz.prog 3 #[.slice a0 len0 cap0, .agg #[.int .i64 x1.kind, .string x1.table, .slice A1_2 n1_2 c1_2, .slice A1_3 n1_3 c1_3, .slice A1_4 n1_4 c1_4, .int .i64 x1.policy]] w fun e w' => e = .returned (.bool true) ∧ Below w.heap.size w w' := by
  obtain ⟨h0, wf0⟩ := w0
  obtain rfl : x0.length = len0 := h0.1
  have WF0 := Lib.hid wf0
  clear wf0
  obtain ⟨⟨h1_2, h1_3, h1_4⟩, wf1⟩ := w1
  have WF1 := Lib.hid wf1
  clear wf1
  have rb1 := Row.new w 27 #[.int .i64 x1.kind, .string x1.table, .slice A1_2 n1_2 c1_2, .slice A1_3 n1_3 c1_3, .slice A1_4 n1_4 c1_4, .int .i64 x1.policy]
  have hb0 := ((Below.refl w.heap.size w).alloc (by first | exact Nat.le_refl _ | (simp; done) | (simp; omega)) (.cells #[.int .i64 x1.kind, .string x1.table, .slice A1_2 n1_2 c1_2, .slice A1_3 n1_3 c1_3, .slice A1_4 n1_4 c1_4, .int .i64 x1.policy] 27))
  go_enter Tryz.func3, Tryz.ntmps3
  go_wp2_with fail
  generalize (w.alloc (.cells #[.int .i64 x1.kind, .string x1.table, .slice A1_2 n1_2 c1_2, .slice A1_3 n1_3 c1_3, .slice A1_4 n1_4 c1_4, .int .i64 x1.policy] 27)) = z0 at *
  refine (lawsSzTableL a0 x0.length cap0 x0 1048576 _ _ (h0.below TbR.stays hb0) WF0.out (by omega) (by omega)).mono ?_
  rintro e y1 ⟨rfl, hq1⟩
  have hbb1 := (hb0).trans (hq1.mono (hb0).size)
  have rb1 := rb1.below hq1
  obtain ⟨⟨krb1_0, krb1_1, krb1_2, krb1_3, krb1_4, krb1_5⟩, -⟩ := rb1.all6
  rcases szR_cases 1048576 (szL Tb.sz x0) (by omega) with ⟨hno1, hv1⟩ | ⟨l1, hv1, -, h01, h11, hle1⟩
  · rw [hv1.out]
    go_wp2
    go_ret
    exact ⟨rfl, hbb1⟩
  rw [hv1.out]
  have S0 := Lib.hid (show szL Tb.sz x0 ≤ 1048576 by omega)
  clear hle1
  go_wp2_with fail
  refine (lawsSzStmt x1 A1_2 n1_2 c1_2 A1_3 n1_3 c1_3 A1_4 n1_4 c1_4 l1 _ _ (h1_2.below RwR.stays hbb1) (h1_3.below TkR.stays hbb1) (h1_4.below SeR.stays hbb1) WF1.out (by omega) (by omega)).mono ?_
  rintro e y2 ⟨rfl, hq2⟩
  have hbb2 := (hbb1).trans (hq2.mono (hbb1).size)
  have rb1 := rb1.below hq2
  clear krb1_0 krb1_1 krb1_2 krb1_3 krb1_4 krb1_5
  obtain ⟨⟨krb1_0, krb1_1, krb1_2, krb1_3, krb1_4, krb1_5⟩, -⟩ := rb1.all6
  rcases szR_cases l1 (x1.sz) (by omega) with ⟨hno2, hv2⟩ | ⟨l2, hv2, -, h02, h12, hle2⟩
  · rw [hv2.out]
    go_wp2
    go_ret
    exact ⟨rfl, hbb2⟩
  rw [hv2.out]
  have S1 := Lib.hid (show x1.sz ≤ 1048576 by omega)
  clear hle2
  go_wp2_with fail
  have rb1 := rb1.drew
  have hbd0 := (hbb2).drew
  go_region_held3 (fun w' => w'.cell? ⟨w.heap.size, 0, none⟩ = some (.int .i64 x1.kind) ∧ w'.cell? ⟨w.heap.size, 1, none⟩ = some (.string x1.table) ∧ w'.cell? ⟨w.heap.size, 2, none⟩ = some (.slice A1_2 n1_2 c1_2) ∧ w'.cell? ⟨w.heap.size, 3, none⟩ = some (.slice A1_3 n1_3 c1_3) ∧ w'.cell? ⟨w.heap.size, 4, none⟩ = some (.slice A1_4 n1_4 c1_4) ∧ w'.cell? ⟨w.heap.size, 5, none⟩ = some (.int .i64 x1.policy))
    (first | go_keep | exact keepE6 (by assumption) hq5 | exact keepE6 (by assumption) hq4 | exact keepE6 (by assumption) hq3)
    (first
      | (go_at_call 7; refine (lawsToTableL a0 x0.length cap0 x0 _ _ (h0.below TbR.stays hbd0) S0.out).mono ?_; rintro e y3 ⟨Bs0, ds0, rfl, hcps0, ts0, hq3⟩)
      | (go_at_call 8; refine (lawsToStmt x1 A1_2 n1_2 c1_2 A1_3 n1_3 c1_3 A1_4 n1_4 c1_4 _ _ (h1_2.below RwR.stays (hbd0.trans (hq3.mono hbd0.size))) (h1_3.below TkR.stays (hbd0.trans (hq3.mono hbd0.size))) (h1_4.below SeR.stays (hbd0.trans (hq3.mono hbd0.size))) S1.out).mono ?_; rintro e y4 ⟨css1, rfl, hRs1, hq4⟩; obtain ⟨Bs1_2, ms1_2, ds1_2, Bs1_3, ms1_3, ds1_3, Bs1_4, ms1_4, ds1_4, rfl, ts1_2, ts1_3, ts1_4, hcps1⟩ := hRs1)
      | (go_at_call 6; refine (specStmtOk _ _ _ _ _ _ _ _ _ _ _ _ x0 x1 _ _ _ _ _ (ts0.below TbR.stays hq4) ts1_2 ts1_3 ts1_4 hcps0 S0.out S1.out).mono ?_; rintro e y5 ⟨rfl, hq5⟩))
  have hbb3 := (hbd0).trans (hq3.mono hbd0.size)
  have hbb4 := (hbb3).trans (hq4.mono (hbb3).size)
  have hbb5 := (hbb4).trans (hq5.mono (hbb4).size)
  have rb1 := ((rb1.below hq3).below hq4).below hq5
  clear krb1_0 krb1_1 krb1_2 krb1_3 krb1_4 krb1_5
  obtain ⟨⟨krb1_0, krb1_1, krb1_2, krb1_3, krb1_4, krb1_5⟩, -⟩ := rb1.all6
  clear ts0 ts1_2 ts1_3 ts1_4
  go_wp2_with fail
  refine (lawsToTableL a0 x0.length cap0 x0 _ _ (h0.below TbR.stays hbb5) S0.out).mono ?_
  rintro e y6 ⟨Bx0, dx0, rfl, hcpx0, tx0, hq6⟩
  have hbb6 := (hbb5).trans (hq6.mono (hbb5).size)
  have rb1 := rb1.below hq6
  clear krb1_0 krb1_1 krb1_2 krb1_3 krb1_4 krb1_5
  obtain ⟨⟨krb1_0, krb1_1, krb1_2, krb1_3, krb1_4, krb1_5⟩, -⟩ := rb1.all6
  go_wp2_with fail
  refine (lawsToStmt x1 A1_2 n1_2 c1_2 A1_3 n1_3 c1_3 A1_4 n1_4 c1_4 _ _ (h1_2.below RwR.stays hbb6) (h1_3.below TkR.stays hbb6) (h1_4.below SeR.stays hbb6) S1.out).mono ?_
  rintro e y7 ⟨csx1, rfl, hRx1, hq7⟩
  have hbb7 := (hbb6).trans (hq7.mono (hbb6).size)
  have rb1 := rb1.below hq7
  have tx0 := tx0.below TbR.stays hq7
  clear krb1_0 krb1_1 krb1_2 krb1_3 krb1_4 krb1_5
  obtain ⟨⟨krb1_0, krb1_1, krb1_2, krb1_3, krb1_4, krb1_5⟩, -⟩ := rb1.all6
  obtain ⟨Bx1_2, mx1_2, dx1_2, Bx1_3, mx1_3, dx1_3, Bx1_4, mx1_4, dx1_4, rfl, tx1_2, tx1_3, tx1_4, hcpx1⟩ := hRx1
  have tx0 := tx0.below TbR.stays ((Below.refl _ y7).alloc (Nat.le_refl _) (.cells #[.int .i64 x1.kind, .string x1.table, .slice Bx1_2 mx1_2 dx1_2, .slice Bx1_3 mx1_3 dx1_3, .slice Bx1_4 mx1_4 dx1_4, .int .i64 x1.policy] 37))
  have tx1_2 := tx1_2.below RwR.stays ((Below.refl _ y7).alloc (Nat.le_refl _) (.cells #[.int .i64 x1.kind, .string x1.table, .slice Bx1_2 mx1_2 dx1_2, .slice Bx1_3 mx1_3 dx1_3, .slice Bx1_4 mx1_4 dx1_4, .int .i64 x1.policy] 37))
  have tx1_3 := tx1_3.below TkR.stays ((Below.refl _ y7).alloc (Nat.le_refl _) (.cells #[.int .i64 x1.kind, .string x1.table, .slice Bx1_2 mx1_2 dx1_2, .slice Bx1_3 mx1_3 dx1_3, .slice Bx1_4 mx1_4 dx1_4, .int .i64 x1.policy] 37))
  have tx1_4 := tx1_4.below SeR.stays ((Below.refl _ y7).alloc (Nat.le_refl _) (.cells #[.int .i64 x1.kind, .string x1.table, .slice Bx1_2 mx1_2 dx1_2, .slice Bx1_3 mx1_3 dx1_3, .slice Bx1_4 mx1_4 dx1_4, .int .i64 x1.policy] 37))
  have rb1 := rb1.below ((Below.refl _ y7).alloc (Nat.le_refl _) (.cells #[.int .i64 x1.kind, .string x1.table, .slice Bx1_2 mx1_2 dx1_2, .slice Bx1_3 mx1_3 dx1_3, .slice Bx1_4 mx1_4 dx1_4, .int .i64 x1.policy] 37))
  have rx1 := Row.new y7 37 #[.int .i64 x1.kind, .string x1.table, .slice Bx1_2 mx1_2 dx1_2, .slice Bx1_3 mx1_3 dx1_3, .slice Bx1_4 mx1_4 dx1_4, .int .i64 x1.policy]
  have hz1 := hbb7.alloc hbb7.size (.cells #[.int .i64 x1.kind, .string x1.table, .slice Bx1_2 mx1_2 dx1_2, .slice Bx1_3 mx1_3 dx1_3, .slice Bx1_4 mx1_4 dx1_4, .int .i64 x1.policy] 37)
  go_wp2_with fail
  generalize y7.alloc (.cells #[.int .i64 x1.kind, .string x1.table, .slice Bx1_2 mx1_2 dx1_2, .slice Bx1_3 mx1_3 dx1_3, .slice Bx1_4 mx1_4 dx1_4, .int .i64 x1.policy] 37) = z2 at *
  generalize y7.heap.size = gz2 at *
  refine (implStmtOk _ _ _ _ _ _ _ _ _ _ _ _ x0 x1 _ _ _ _ _ tx0 tx1_2 tx1_3 tx1_4 S0.out S1.out).mono ?_
  rintro e y8 ⟨rfl, hq8⟩
  have hbb8 := (hz1).trans (hq8.mono (hz1).size)
  have rb1 := rb1.below hq8
  have rx1 := rx1.below hq8
  have tx0 := tx0.below TbR.stays hq8
  have tx1_2 := tx1_2.below RwR.stays hq8
  have tx1_3 := tx1_3.below TkR.stays hq8
  have tx1_4 := tx1_4.below SeR.stays hq8
  clear krb1_0 krb1_1 krb1_2 krb1_3 krb1_4 krb1_5
  obtain ⟨⟨krb1_0, krb1_1, krb1_2, krb1_3, krb1_4, krb1_5⟩, -⟩ := rb1.all6
  obtain ⟨⟨krx1_0, krx1_1, krx1_2, krx1_3, krx1_4, krx1_5⟩, -⟩ := rx1.all6
  go_wp2_with fail
  refine (lawsToTableL a0 x0.length cap0 x0 _ _ (h0.below TbR.stays hbb8) S0.out).mono ?_
  rintro e y9 ⟨Be0, de0, rfl, -, te0, hq9⟩
  have hbb9 := (hbb8).trans (hq9.mono (hbb8).size)
  have rb1 := rb1.below hq9
  have rx1 := rx1.below hq9
  have tx0 := tx0.below TbR.stays hq9
  have tx1_2 := tx1_2.below RwR.stays hq9
  have tx1_3 := tx1_3.below TkR.stays hq9
  have tx1_4 := tx1_4.below SeR.stays hq9
  clear krb1_0 krb1_1 krb1_2 krb1_3 krb1_4 krb1_5 krx1_0 krx1_1 krx1_2 krx1_3 krx1_4 krx1_5
  obtain ⟨⟨krb1_0, krb1_1, krb1_2, krb1_3, krb1_4, krb1_5⟩, -⟩ := rb1.all6
  obtain ⟨⟨krx1_0, krx1_1, krx1_2, krx1_3, krx1_4, krx1_5⟩, -⟩ := rx1.all6
  go_wp2_with fail
  refine (lawsEqTableL _ _ _ _ _ x0 _ _ _ tx0 te0 S0.out).mono ?_
  rintro e y10 ⟨rfl, hq10⟩
  have hbb10 := (hbb9).trans (hq10.mono (hbb9).size)
  have rb1 := rb1.below hq10
  have rx1 := rx1.below hq10
  have tx0 := tx0.below TbR.stays hq10
  have tx1_2 := tx1_2.below RwR.stays hq10
  have tx1_3 := tx1_3.below TkR.stays hq10
  have tx1_4 := tx1_4.below SeR.stays hq10
  clear krb1_0 krb1_1 krb1_2 krb1_3 krb1_4 krb1_5 krx1_0 krx1_1 krx1_2 krx1_3 krx1_4 krx1_5
  obtain ⟨⟨krb1_0, krb1_1, krb1_2, krb1_3, krb1_4, krb1_5⟩, -⟩ := rb1.all6
  obtain ⟨⟨krx1_0, krx1_1, krx1_2, krx1_3, krx1_4, krx1_5⟩, -⟩ := rx1.all6
  go_wp2_with fail
  have tx0 := tx0.drew TbR.stays
  have tx1_2 := tx1_2.drew RwR.stays
  have tx1_3 := tx1_3.drew TkR.stays
  have tx1_4 := tx1_4.drew SeR.stays
  have rb1 := rb1.drew
  have rx1 := rx1.drew
  have hbd1 := (hbb10).drew
  go_region_held3 (fun w' => w'.cell? ⟨gz2, 0, none⟩ = some (.int .i64 x1.kind) ∧ w'.cell? ⟨gz2, 1, none⟩ = some (.string x1.table) ∧ w'.cell? ⟨gz2, 2, none⟩ = some (.slice Bx1_2 mx1_2 dx1_2) ∧ w'.cell? ⟨gz2, 3, none⟩ = some (.slice Bx1_3 mx1_3 dx1_3) ∧ w'.cell? ⟨gz2, 4, none⟩ = some (.slice Bx1_4 mx1_4 dx1_4) ∧ w'.cell? ⟨gz2, 5, none⟩ = some (.int .i64 x1.policy) ∧ w'.cell? ⟨w.heap.size, 0, none⟩ = some (.int .i64 x1.kind) ∧ w'.cell? ⟨w.heap.size, 1, none⟩ = some (.string x1.table) ∧ w'.cell? ⟨w.heap.size, 2, none⟩ = some (.slice A1_2 n1_2 c1_2) ∧ w'.cell? ⟨w.heap.size, 3, none⟩ = some (.slice A1_3 n1_3 c1_3) ∧ w'.cell? ⟨w.heap.size, 4, none⟩ = some (.slice A1_4 n1_4 c1_4) ∧ w'.cell? ⟨w.heap.size, 5, none⟩ = some (.int .i64 x1.policy))
    (first | go_keep | exact keepE12 (by assumption) hqB1 | exact keepE12 (by assumption) hqA1)
    (first | (go_at_call 8; refine (lawsToStmt x1 A1_2 n1_2 c1_2 A1_3 n1_3 c1_3 A1_4 n1_4 c1_4 _ _ (h1_2.below RwR.stays hbd1) (h1_3.below TkR.stays hbd1) (h1_4.below SeR.stays hbd1) S1.out).mono ?_; rintro e yA1 ⟨cse1, rfl, hRe1, hqA1⟩; obtain ⟨Be1_2, me1_2, de1_2, Be1_3, me1_3, de1_3, Be1_4, me1_4, de1_4, rfl, te1_2, te1_3, te1_4, -⟩ := hRe1; obtain ⟨rfl, rfl, rfl⟩ : mx1_2 = me1_2 ∧ mx1_3 = me1_3 ∧ mx1_4 = me1_4 := ⟨tx1_2.1.symm.trans te1_2.1, tx1_3.1.symm.trans te1_3.1, tx1_4.1.symm.trans te1_4.1⟩) | (go_at_call 11; refine (lawsEqStmt x1 Bx1_2 Be1_2 mx1_2 dx1_2 de1_2 Bx1_3 Be1_3 mx1_3 dx1_3 de1_3 Bx1_4 Be1_4 mx1_4 dx1_4 de1_4 _ _ _ (tx1_2.below RwR.stays hqA1) (tx1_3.below TkR.stays hqA1) (tx1_4.below SeR.stays hqA1) te1_2 te1_3 te1_4 S1.out).mono ?_; rintro e yB1 ⟨rfl, hqB1⟩))
  have hbe1 := ((hbd1).trans (hqA1.mono (hbd1).size))
  have hbf1 := hbe1.trans (hqB1.mono hbe1.size)
  have tx0 := (tx0.below TbR.stays hqA1).below TbR.stays hqB1
  have tx1_2 := (tx1_2.below RwR.stays hqA1).below RwR.stays hqB1
  have tx1_3 := (tx1_3.below TkR.stays hqA1).below TkR.stays hqB1
  have tx1_4 := (tx1_4.below SeR.stays hqA1).below SeR.stays hqB1
  have rb1 := (rb1.below hqA1).below hqB1
  have rx1 := (rx1.below hqA1).below hqB1
  clear krb1_0 krb1_1 krb1_2 krb1_3 krb1_4 krb1_5 krx1_0 krx1_1 krx1_2 krx1_3 krx1_4 krx1_5
  obtain ⟨⟨krb1_0, krb1_1, krb1_2, krb1_3, krb1_4, krb1_5⟩, -⟩ := rb1.all6
  obtain ⟨⟨krx1_0, krx1_1, krx1_2, krx1_3, krx1_4, krx1_5⟩, -⟩ := rx1.all6
  go_wp2_with fail
  go_ret
  exact ⟨rfl, hbf1⟩

set_option maxRecDepth 100000 in
theorem lifted (os : Os) (started : os.Started) (H : Type) (enc : TypeId × Value → H) :
    ReturnsInHanded {} Tryz.checked os 3 .any (Rows.fnExactStmtOkSpec.pre6 enc Tryz.prog Tryz.f3 Rows.fnExactStmtOkRow.domain false) (Rows.fnExactStmtOkSpec.post enc Tryz.prog Tryz.f3 false true false false) := by
  refine returnsInHanded_of_change (C := Tryz.checked) own started (by kernel_rfl) Tryz.func3
    (ChangeSpec.witness6 (enc := enc) (C := Tryz.checked) false ⟨#[], #[.slice none 0 0, .agg #[.int .i64 0, .string ⟨#[]⟩, .slice none 0 0, .slice none 0 0, .slice none 0 0, .int .i64 0]], []⟩ 8 (by kernel_rfl) (by kernel_rfl) (by kernel_rfl) (by kernel_rfl)) ?_
  intro W base args ds gs before hval0 hW hcnd _
  have hval : ∀ (j : Nat) t v, Tryz.f3.params[j]? = some t → args[j]? = some v → Value.okWide Tryz.prog W .any base t v := hval0
  have hW' := hW
  obtain ⟨p, q, hA0, hV, rfl, hfz, hnd⟩ := hW
  have hA : DataW.TrodAll enc Tryz.prog W 0 (fun _ => true) true Tryz.f3.params.toList args.toList ds p := hA0
  rw [Tryz.params3] at hA hval
  obtain ⟨v0, vs0, d0, ds0, p0, q0, hargs, rfl, rfl, h0, r0⟩ := trodAll_cons hA
  obtain ⟨v1, vs1, d1, ds1, p1, q1, rfl, rfl, rfl, h1, r1⟩ := trodAll_cons r0
  obtain ⟨rfl, rfl, rfl⟩ := trodAll_nil r1
  obtain rfl : args = #[v0, v1] := by cases args; simp_all
  obtain ⟨rfl, rfl⟩ := trodVars_none hV
  have k0' := h0
  have lt0 : ∀ x ∈ p0, x.block < W.heap.size := by obtain ⟨m, hm⟩ := k0'; exact DataW.trod_lt m _ _ _ hm
  have k1' := h1
  have lt1 : ∀ x ∈ p1, x.block < W.heap.size := by obtain ⟨m, hm⟩ := k1'; exact DataW.trod_lt m _ _ _ hm
  obtain ⟨a0, len0, cap0, rfl⟩ := okWide_slice Tryz.underlying22 (hval 0 22 v0 rfl rfl)
  obtain ⟨x0, w0⟩ := (by obtain ⟨m, hm⟩ := h0; exact TableL_of_trod (by simpa [Value.cells] using hm) : ∃ ds : List Tb, Sl TbR 6 (fun _ => True) W a0 len0 ds ∧ (ds.length ≤ maxLen ∧ ∀ y ∈ ds, y.wf))
  obtain ⟨cs1, rfl, hsz1⟩ := okWide_struct Tryz.underlying27 (hval 1 27 v1 rfl rfl)
  obtain ⟨x1, hx1, wf1⟩ := (by obtain ⟨m, hm⟩ := h1; exact Stmt_of_trod (by simpa [Value.cells] using hm) : ∃ d, SqR (fun _ => True) W cs1.toList d ∧ d.wf)
  obtain ⟨A1_2, n1_2, c1_2, A1_3, n1_3, c1_3, A1_4, n1_4, c1_4, ecs1, s1_2, s1_3, s1_4, -⟩ := hx1
  obtain rfl : cs1 = #[.int .i64 x1.kind, .string x1.table, .slice A1_2 n1_2 c1_2, .slice A1_3 n1_3 c1_3, .slice A1_4 n1_4 c1_4, .int .i64 x1.policy] := by cases cs1; simp_all
  clear hA0 hval0
  refine (walk a0 len0 cap0 x0 x1 A1_2 n1_2 c1_2 A1_3 n1_3 c1_3 A1_4 n1_4 c1_4 W w0 ⟨⟨s1_2, s1_3, s1_4⟩, wf1⟩).mono fun e W' ⟨he, bel⟩ => ?_
  subst he
  exact ⟨_, rfl, _, _, _, [], _, [], hW', trodAll_mk1 (shut_bool Tryz.underlying4 _), (trodAll_cons_mk (Below.trod laidOut (by kernel_rfl) (of_decide_eq_true (by kernel_rfl)) k0' bel lt0) (trodAll_cons_mk (Below.trod laidOut (by kernel_rfl) (of_decide_eq_true (by kernel_rfl)) k1' bel lt1) trodAll_mk0)), rfl, bel.frame _, fun h => by cases h⟩

theorem over : Rows.fnExactStmtOkRow.holds Tryz.pinned (OpenSpec.ofChange Rows.fnExactStmtOkSpec) :=
  OpenClaim.holds_of_wide 3 Tryz.f3 rfl rfl rfl rfl rfl rfl rfl ⟨rfl, rfl, rfl, rfl, rfl⟩ rfl rfl rfl rfl rfl (by kernel_rfl) Tryz.func3 (by kernel_rfl)
    (of_decide_eq_true (by kernel_rfl)) (by unfold Func.isWrapper; first | (rw [if_pos (by decide +kernel)]; kernel_rfl) | (rw [if_neg (by decide +kernel)]; exact ⟨rfl, rfl⟩))
    (fun os started H enc _ => lifted os started H enc)

theorem proved : Rows.FnExactStmtOkSaid := over
#print axioms proved
end Go.Proofs.YthafgkcokecnnaaGreat.fnExactStmtOk
