/-
  IndexPut answers as the model at every list of entries and entry, in memory of its own (law FnExactIndexPut, for every input).
-/
import Derived.Test.YtlpfpcnafejkoaaSa
import Derived.Test.YtlpfpcnafejkoaaSb
import Derived.Test.YtlpfpcnafejkoaaSc
namespace Go.Proofs.Ytlpfpcnafejkoaa.fnExactIndexPut
open Go.ChangeShapes Go.WideShapes Go.ChangeAt Go.RowKit Go.Joins
open Go.ChangeMaps (open_string shut_string)
set_option linter.unusedVariables false

set_option maxRecDepth 100000 in
set_option maxHeartbeats 4000000 in
theorem walk (a0 : Option Addr) (len0 cap0 : Nat) (x0 : List En) (x1 : En) (A1_0 : Option Addr) (n1_0 c1_0 : Nat) (w : World) (w0 : Sl EnR 2 (fun _ => True) w a0 len0 x0 ∧ (x0.length ≤ maxLen ∧ ∀ y ∈ x0, y.wf)) (w1 : (Sl VlR 3 (fun _ => True) w A1_0 n1_0 x1.key) ∧ x1.wf) :
    Calls Try.prog 5 #[.slice a0 len0 cap0, .agg #[.slice A1_0 n1_0 c1_0, .int .i64 x1.id]] w fun e w' => e = .returned (.bool true) ∧ Below w.heap.size w w' := by
  obtain ⟨h0, wf0⟩ := w0
  obtain rfl : x0.length = len0 := h0.1
  have WF0 := Lib.hid wf0
  clear wf0
  obtain ⟨h1_0, wf1⟩ := w1
  have WF1 := Lib.hid wf1
  clear wf1
  have rb1 := Row.new w 33 #[.slice A1_0 n1_0 c1_0, .int .i64 x1.id]
  have hb0 := ((Below.refl w.heap.size w).alloc (Nat.le_refl _) (.cells #[.slice A1_0 n1_0 c1_0, .int .i64 x1.id] 33))
  go_enter Try.func5, Try.ntmps5
  go_wp2_with fail
  generalize (w.alloc (.cells #[.slice A1_0 n1_0 c1_0, .int .i64 x1.id] 33)) = z0 at *
  refine (lawsSzEntryL a0 x0.length cap0 x0 1048576 _ _ (h0.below EnR.stays hb0) WF0.out (by omega) (by omega)).mono ?_
  rintro e y1 ⟨rfl, hq1⟩
  have hbb1 := (hb0).trans (hq1.mono (hb0).size)
  have rb1 := rb1.below hq1
  obtain ⟨⟨krb1_0, krb1_1⟩, -⟩ := rb1.all2
  rcases szR_cases 1048576 (szL En.sz x0) (by omega) with ⟨hno1, hv1⟩ | ⟨l1, hv1, -, h01, h11, hle1⟩
  · rw [hv1.out]
    go_wp2
    go_ret
    exact ⟨rfl, hbb1⟩
  rw [hv1.out]
  have S0 := Lib.hid (show szL En.sz x0 ≤ 1048576 by omega)
  clear hle1
  go_wp2_with fail
  refine (lawsSzEntry x1 A1_0 n1_0 c1_0 l1 _ _ (h1_0.below VlR.stays hbb1) WF1.out (by omega) (by omega)).mono ?_
  rintro e y2 ⟨rfl, hq2⟩
  have hbb2 := (hbb1).trans (hq2.mono (hbb1).size)
  have rb1 := rb1.below hq2
  clear krb1_0 krb1_1
  obtain ⟨⟨krb1_0, krb1_1⟩, -⟩ := rb1.all2
  rcases szR_cases l1 (x1.sz) (by omega) with ⟨hno2, hv2⟩ | ⟨l2, hv2, -, h02, h12, hle2⟩
  · rw [hv2.out]
    go_wp2
    go_ret
    exact ⟨rfl, hbb2⟩
  rw [hv2.out]
  have S1 := Lib.hid (show x1.sz ≤ 1048576 by omega)
  clear hle2
  go_wp2_with fail
  have HXN := Lib.hid (show x0.length ≤ 1048576 by have h2 := S0.out; unfold szL at h2; omega)
  have HXK := Lib.hid (ents_len S0.out)
  have HXM := Lib.hid (ent_len S1.out)
  have HIK := Lib.hid (ents_len (putted_sz x0 x1))
  have HIL := Lib.hid (show (putted x0 x1).length ≤ 1048576 by have h2 := putted_sz x0 x1; unfold szL at h2; omega)
  have HLN := Lib.hid (putted_sz x0 x1)
  have HMS := Lib.hid (show 1 + ((putted x0 x1).map En.marks).sum ≤ 1073741824 from ents_marks (putted_sz x0 x1))
  have rb1 := rb1.drew
  have hbds := (hbb2).drew
  go_region_held3 (fun w' => w'.cell? ⟨w.heap.size, 0, none⟩ = some (.slice A1_0 n1_0 c1_0) ∧ w'.cell? ⟨w.heap.size, 1, none⟩ = some (.int .i64 x1.id))
    (first | go_keep | exact keepT2 (by assumption) hq5 | exact keepT2 (by assumption) hq4 | exact keepT2 (by assumption) hq3)
    (first
      | (go_at_call 16; refine (lawsToEntryL a0 x0.length cap0 x0 _ _ (h0.below EnR.stays hbds) S0.out).mono ?_; rintro e y3 ⟨Bs0, ds0, rfl, hcps0, ts0, hq3⟩)
      | (go_at_call 17; refine (lawsToEntry x1 A1_0 n1_0 c1_0 _ _ (h1_0.below VlR.stays (hbds.trans (hq3.mono hbds.size))) S1.out).mono ?_; rintro e y4 ⟨css1, rfl, hRs1, hq4⟩; obtain ⟨Bs1_0, ms1_0, ds1_0, rfl, ts1_0, hcps1⟩ := hRs1)
      | (go_at_call 24; refine (specIndexPut Bs0 x0.length ds0 x0 _ x1 Bs1_0 ms1_0 ds1_0 _ _ (ts0.below EnR.stays hq4) HXN.out HXK.out ts1_0 (by have h1 := ts1_0.1; have h2 := HXM.out; omega)).mono ?_; rintro e y5 ⟨vw, rfl, ovw, hq5⟩))
  have hbb3 := (hbds).trans (hq3.mono hbds.size)
  have hbb4 := (hbb3).trans (hq4.mono (hbb3).size)
  have hbb5 := (hbb4).trans (hq5.mono (hbb4).size)
  have rb1 := rb1.below hq3
  have rb1 := rb1.below hq4
  have rb1 := rb1.below hq5
  clear krb1_0 krb1_1
  obtain ⟨⟨krb1_0, krb1_1⟩, -⟩ := rb1.all2
  obtain ⟨Aw, cw, rfl, hcw, -, tw⟩ := ovw.sl
  clear ovw ts0 ts1_0
  have HBG := Lib.hid (hbb5).size
  have HRB := Lib.hid (lt_of_block rb1)
  go_wp2_with fail
  refine (lawsToEntryL a0 x0.length cap0 x0 _ _ (h0.below EnR.stays hbb5) S0.out).mono ?_
  rintro e y6 ⟨Bx0, dx0, rfl, hcpx0, tx0, hq6⟩
  have hbb6 := (hbb5).trans (hq6.mono (hbb5).size)
  have rb1 := rb1.below hq6
  have tw := tw.below EnR.stays hq6
  clear krb1_0 krb1_1
  obtain ⟨⟨krb1_0, krb1_1⟩, -⟩ := rb1.all2
  have M0 : mayMark y5.heap.size y6.heap.size y6 (okF _ y6) := fun b hb => ⟨Nat.le_trans (Nat.le_refl _) hb.1, hb.2.1, hb.2.1, hb.2.2⟩
  go_wp2_with fail
  refine (lawsToEntry x1 A1_0 n1_0 c1_0 _ _ (h1_0.below VlR.stays hbb6) S1.out).mono ?_
  rintro e y7 ⟨csx1, rfl, hRx1, hq7⟩
  have hbb7 := (hbb6).trans (hq7.mono (hbb6).size)
  have rb1 := rb1.below hq7
  have tw := tw.below EnR.stays hq7
  have tx0 := tx0.below EnR.stays hq7
  have M0 := M0.below hq7
  clear krb1_0 krb1_1
  obtain ⟨⟨krb1_0, krb1_1⟩, -⟩ := rb1.all2
  obtain ⟨Bx1_0, mx1_0, dx1_0, rfl, tx1_0, hcpx1⟩ := hRx1
  have M1 : mayMark y5.heap.size y7.heap.size y7 (okF _ y7) := fun b hb => ⟨Nat.le_trans hq6.size hb.1, hb.2.1, hb.2.1, hb.2.2⟩
  have M0 : mayMark y5.heap.size y7.heap.size y7 _ := fun b hb => ⟨(M0 b hb).1, (M0 b hb).2.2.1, (M0 b hb).2.2⟩
  have hmx : y5.heap.size ≤ y7.heap.size := Nat.le_trans hq6.size hq7.size
  have hal := (Below.refl y7.heap.size y7).alloc (Nat.le_refl _) (.cells #[.slice Bx1_0 mx1_0 dx1_0, .int .i64 x1.id] 42)
  have rb1 := rb1.below hal
  have tw := tw.below EnR.stays hal
  have tx0 := tx0.below EnR.stays hal
  have tx1_0 := tx1_0.below VlR.stays hal
  have M0 := M0.below hal
  have M1 := M1.below hal
  have rx1 := Row.new y7 42 #[.slice Bx1_0 mx1_0 dx1_0, .int .i64 x1.id]
  have hz1 := hbb7.alloc hbb7.size (.cells #[.slice Bx1_0 mx1_0 dx1_0, .int .i64 x1.id] 42)
  have hgz : y7.heap.size < (y7.alloc (.cells #[.slice Bx1_0 mx1_0 dx1_0, .int .i64 x1.id] 42)).heap.size := by simp
  clear krb1_0 krb1_1
  obtain ⟨⟨krb1_0, krb1_1⟩, -⟩ := rb1.all2
  obtain ⟨⟨krx1_0, krx1_1⟩, -⟩ := rx1.all2
  go_wp2_with fail
  generalize y7.alloc (.cells #[.slice Bx1_0 mx1_0 dx1_0, .int .i64 x1.id] 42) = z2 at *
  generalize y7.heap.size = gz2 at *
  have HMX := Lib.hid hmx
  have HGZ := Lib.hid hgz
  clear hmx hgz hal
  refine (implIndexPut Bx0 x0.length dx0 x0 _ x1 Bx1_0 mx1_0 dx1_0 _ _ tx0 HXN.out HXK.out tx1_0 (by have h1 := tx1_0.1; have h2 := HXM.out; omega)).mono ?_
  rintro e y8 ⟨vg, rfl, og, hq8⟩
  have hbb8 := (hz1).trans (hq8.mono (hz1).size)
  have rb1 := rb1.below hq8
  have rx1 := rx1.below hq8
  have tx0 := tx0.below EnR.stays hq8
  have tx1_0 := tx1_0.below VlR.stays hq8
  have tw := tw.below EnR.stays hq8
  have M0 := M0.below hq8
  have M1 := M1.below hq8
  clear krb1_0 krb1_1 krx1_0 krx1_1
  obtain ⟨⟨krb1_0, krb1_1⟩, -⟩ := rb1.all2
  obtain ⟨⟨krx1_0, krx1_1⟩, -⟩ := rx1.all2
  obtain ⟨Ag, cg, bsg, rfl, shg, hbg⟩ := OwnE.sh og HIL.out HIK.out
  obtain ⟨Ag', cg', eg, -, -, tg⟩ := og.sl
  cases eg
  clear og
  have HBS := Lib.hid (show ∀ b ∈ bsg, gz2 < b from fun b hb => Nat.lt_of_lt_of_le HGZ.out (hbg b hb))
  clear hbg
  go_wp2_with fail
  refine (lawsEqEntryL _ _ _ _ _ (putted x0 x1) _ _ _ tg tw HLN.out).mono ?_
  rintro e y9 ⟨rfl, hq9⟩
  have hbb9 := (hbb8).trans (hq9.mono (hbb8).size)
  have rb1 := rb1.below hq9
  have rx1 := rx1.below hq9
  have tx0 := tx0.below EnR.stays hq9
  have tx1_0 := tx1_0.below VlR.stays hq9
  have tw := tw.below EnR.stays hq9
  have M0 := M0.below hq9
  have M1 := M1.below hq9
  have tg := tg.below EnR.stays hq9
  have shg := shg.stay EnS.stay (bs' := []) (KeptL.below hq9) (fun _ _ => List.not_mem_nil)
  clear krb1_0 krb1_1 krx1_0 krx1_1
  obtain ⟨⟨krb1_0, krb1_1⟩, -⟩ := rb1.all2
  obtain ⟨⟨krx1_0, krx1_1⟩, -⟩ := rx1.all2
  go_wp2_with fail
  refine (lawsToEntryL a0 x0.length cap0 x0 _ _ (h0.below EnR.stays hbb9) S0.out).mono ?_
  rintro e y10 ⟨Be0, de0, rfl, -, te0, hq10⟩
  have hbb10 := (hbb9).trans (hq10.mono (hbb9).size)
  have rb1 := rb1.below hq10
  have rx1 := rx1.below hq10
  have tx0 := tx0.below EnR.stays hq10
  have tx1_0 := tx1_0.below VlR.stays hq10
  have tw := tw.below EnR.stays hq10
  have M0 := M0.below hq10
  have M1 := M1.below hq10
  have tg := tg.below EnR.stays hq10
  have shg := shg.stay EnS.stay (bs' := []) (KeptL.below hq10) (fun _ _ => List.not_mem_nil)
  clear krb1_0 krb1_1 krx1_0 krx1_1
  obtain ⟨⟨krb1_0, krb1_1⟩, -⟩ := rb1.all2
  obtain ⟨⟨krx1_0, krx1_1⟩, -⟩ := rx1.all2
  go_wp2_with fail
  refine (lawsEqEntryL _ _ _ _ _ x0 _ _ _ tx0 te0 S0.out).mono ?_
  rintro e y11 ⟨rfl, hq11⟩
  have hbb11 := (hbb10).trans (hq11.mono (hbb10).size)
  have rb1 := rb1.below hq11
  have rx1 := rx1.below hq11
  have tx0 := tx0.below EnR.stays hq11
  have tx1_0 := tx1_0.below VlR.stays hq11
  have tw := tw.below EnR.stays hq11
  have M0 := M0.below hq11
  have M1 := M1.below hq11
  have tg := tg.below EnR.stays hq11
  have shg := shg.stay EnS.stay (bs' := []) (KeptL.below hq11) (fun _ _ => List.not_mem_nil)
  clear krb1_0 krb1_1 krx1_0 krx1_1
  obtain ⟨⟨krb1_0, krb1_1⟩, -⟩ := rb1.all2
  obtain ⟨⟨krx1_0, krx1_1⟩, -⟩ := rx1.all2
  go_wp2_with fail
  have tx0 := tx0.below EnR.stays ((Below.refl _ _).drew)
  have tx1_0 := tx1_0.below VlR.stays ((Below.refl _ _).drew)
  have tw := tw.below EnR.stays ((Below.refl _ _).drew)
  have M0 := M0.below ((Below.refl _ _).drew)
  have M1 := M1.below ((Below.refl _ _).drew)
  have tg := tg.below EnR.stays ((Below.refl _ _).drew)
  have shg := shg.stay EnS.stay (bs' := []) (KeptL.below ((Below.refl _ _).drew)) (fun _ _ => List.not_mem_nil)
  have rb1 := rb1.drew
  have rx1 := rx1.drew
  have hbd1 := (hbb11).drew
  go_region_held3 (fun w' => w'.cell? ⟨gz2, 0, none⟩ = some (.slice Bx1_0 mx1_0 dx1_0) ∧ w'.cell? ⟨gz2, 1, none⟩ = some (.int .i64 x1.id) ∧ w'.cell? ⟨w.heap.size, 0, none⟩ = some (.slice A1_0 n1_0 c1_0) ∧ w'.cell? ⟨w.heap.size, 1, none⟩ = some (.int .i64 x1.id))
    (first | go_keep | exact keepC4 (by assumption) hqB1 | exact keepC4 (by assumption) hqA1)
    (first | (go_at_call 17; refine (lawsToEntry x1 A1_0 n1_0 c1_0 _ _ (h1_0.below VlR.stays hbd1) S1.out).mono ?_; rintro e yA1 ⟨cse1, rfl, hRe1, hqA1⟩; obtain ⟨Be1_0, me1_0, de1_0, rfl, te1_0, -⟩ := hRe1; obtain rfl : mx1_0 = me1_0 := tx1_0.1.symm.trans te1_0.1) | (go_at_call 20; refine (lawsEqEntry x1 Bx1_0 Be1_0 mx1_0 dx1_0 de1_0 _ _ _ (tx1_0.below VlR.stays hqA1) te1_0 S1.out).mono ?_; rintro e yB1 ⟨rfl, hqB1⟩))
  have hbe1 := (hbd1).trans (hqA1.mono (hbd1).size)
  have hbf1 := hbe1.trans (hqB1.mono hbe1.size)
  have rb1 := rb1.below hqA1
  have rx1 := rx1.below hqA1
  have tx0 := tx0.below EnR.stays hqA1
  have tx1_0 := tx1_0.below VlR.stays hqA1
  have tw := tw.below EnR.stays hqA1
  have M0 := M0.below hqA1
  have M1 := M1.below hqA1
  have tg := tg.below EnR.stays hqA1
  have shg := shg.stay EnS.stay (bs' := []) (KeptL.below hqA1) (fun _ _ => List.not_mem_nil)
  have rb1 := rb1.below hqB1
  have rx1 := rx1.below hqB1
  have tx0 := tx0.below EnR.stays hqB1
  have tx1_0 := tx1_0.below VlR.stays hqB1
  have tw := tw.below EnR.stays hqB1
  have M0 := M0.below hqB1
  have M1 := M1.below hqB1
  have tg := tg.below EnR.stays hqB1
  have shg := shg.stay EnS.stay (bs' := []) (KeptL.below hqB1) (fun _ _ => List.not_mem_nil)
  clear krb1_0 krb1_1 krx1_0 krx1_1
  obtain ⟨⟨krb1_0, krb1_1⟩, -⟩ := rb1.all2
  obtain ⟨⟨krx1_0, krx1_1⟩, -⟩ := rx1.all2
  go_wp2_with fail
  have hbd2 : (x0.map En.cnt).sum ≤ 6291456 := by have h1 := sum_le_of (f := En.cnt) (g := En.sz) 6 En.cnt_le x0; have h2 := S0.out; omega
  generalize hsm0 : (x0.map En.cnt).sum = sm0 at hbd2
  have HSM0 := Lib.hid hsm0
  clear hsm0
  have hbd3 : (x1.key.map fun _ : Vl => 3).sum ≤ 6291456 := by have h1 := sum_le_of (f := fun _ : Vl => 3) (g := fun v : Vl => v.s.size) 6 (fun _ => by omega) x1.key; have h2 := S1.out; unfold En.sz at h2; omega
  generalize hsm1 : (x1.key.map fun _ : Vl => 3).sum = sm1 at hbd3
  have HSM1 := Lib.hid hsm1
  clear hsm1
  have hm1 : mx1_0 ≤ 1048576 := by have h1 := tx1_0.1; have h2 := HXM.out; omega
  have sh0 := tx0.toSh En.toSh (fun y hy => by have h1 := szL_mem En.sz x0 y hy; have h2 := S0.out; omega)
  have sh1 := tx1_0.toSh Vl.toSh (fun _ _ => trivial)
  clear tx0 tx1_0
  refine (marksEntryL _ _ _ _ _ y5.heap.size gz2 (1) _ sh0 M0 (by rw [HSM0.out]; omega) (by have h2 := S0.out; (try unfold szL at h2); omega) (by first | rfl | omega)).mono ?_
  rintro e y12 ⟨rfl, hq12⟩
  have hbb12 := Kept.toBelow (hbf1) hq12 HBG.out (hbf1).size
  have M1 := M1.kept hq12
  have tw := tw.kept EnR.stays hq12 (fun b hb => Or.inl hb.2.1)
  have tg := tg.kept EnR.stays hq12 (fun b hb => Or.inr (Nat.le_trans (Nat.le_of_lt HGZ.out) hb.1))
  have shg := shg.stay EnS.stay (KeptL.range hq12) (not_range fun b hb => Nat.le_of_lt (HBS.out b hb))
  have rb1 := Row.kept rb1 hq12 (Or.inl HRB.out)
  have rx1 := Row.kept rx1 hq12 (Or.inr (Nat.le_refl _))
  clear krb1_0 krb1_1 krx1_0 krx1_1
  obtain ⟨⟨krb1_0, krb1_1⟩, -⟩ := rb1.all2
  obtain ⟨⟨krx1_0, krx1_1⟩, -⟩ := rx1.all2
  have sh1 := sh1.shape (ShF.keeps 3) hq12
  rw [HSM0.out]
  clear sh0 M0
  go_wp2_with fail
  refine (marksEntry _ _ _ x1.id _ _ y5.heap.size gz2 (1 + sm0) _ sh1 M1 (by rw [HSM1.out]; omega) hm1 (by first | rfl | omega)).mono ?_
  rintro e y13 ⟨rfl, hq13⟩
  have hbb13 := Kept.toBelow (hbb12) hq13 HBG.out (hbb12).size
  have M1 := M1.kept hq13
  have tw := tw.kept EnR.stays hq13 (fun b hb => Or.inl hb.2.1)
  have tg := tg.kept EnR.stays hq13 (fun b hb => Or.inr (Nat.le_trans (Nat.le_of_lt HGZ.out) hb.1))
  have shg := shg.stay EnS.stay (KeptL.range hq13) (not_range fun b hb => Nat.le_of_lt (HBS.out b hb))
  have rb1 := Row.kept rb1 hq13 (Or.inl HRB.out)
  have rx1 := Row.kept rx1 hq13 (Or.inr (Nat.le_refl _))
  clear krb1_0 krb1_1 krx1_0 krx1_1
  obtain ⟨⟨krb1_0, krb1_1⟩, -⟩ := rb1.all2
  obtain ⟨⟨krx1_0, krx1_1⟩, -⟩ := rx1.all2
  rw [HSM1.out]
  clear sh1 M1 rx1
  generalize hkk : 1 + sm0 + sm1 = kk
  have hk1 : 1 ≤ kk := by omega
  have hk2 : (0 : Int) ≤ (kk : Int) := by omega
  have hk3 : decide ((kk : Int) < 0) = false := by rw [decide_eq_false_iff_not]; omega
  clear hkk
  go_wp2_with fail
  refine (lawsEqEntryL _ _ _ _ _ (putted x0 x1) _ _ _ tg tw HLN.out).mono ?_
  rintro e y14 ⟨rfl, hq14⟩
  have hbb14 := (hbb13).trans (hq14.mono (hbb13).size)
  have rb1 := rb1.below hq14
  have tw := tw.below EnR.stays hq14
  have tg := tg.below EnR.stays hq14
  have shg := shg.stay EnS.stay (bs' := []) (KeptL.below hq14) (fun _ _ => List.not_mem_nil)
  clear krb1_0 krb1_1 krx1_0 krx1_1
  obtain ⟨⟨krb1_0, krb1_1⟩, -⟩ := rb1.all2
  go_wp2_with fail
  clear tg
  have HBX := Lib.hid (Nat.le_trans HBG.out HMX.out)
  have HSG := Lib.hid (show ∀ b ∈ bsg, w.heap.size ≤ b from fun b hb => Nat.le_trans HBX.out (Nat.le_of_lt (HBS.out b hb)))
  refine (marksOEntL _ _ _ _ _ 1 _ shg HMS.out (by first | rfl | omega)).mono ?_
  rintro e y15 ⟨rfl, hq15, mg⟩
  have hbb15 := KeptL.toBelow (hbb14) hq15 HSG.out (hbb14).size
  have tw := tw.keptL EnR.stays hq15 (fun b hb hh => by have h1 := HBS.out b hh; have h2 := hb.2.1; have h3 := HMX.out; omega)
  have rb1 := Row.keptL rb1 hq15 (fun hh => by have h1 := HBS.out _ hh; have h2 := HRB.out; have h3 := HMX.out; omega)
  clear krb1_0 krb1_1
  obtain ⟨⟨krb1_0, krb1_1⟩, -⟩ := rb1.all2
  clear shg
  go_wp2_with fail
  refine (heldOEntL _ _ _ _ _ 1 _ mg HMS.out (by first | rfl | omega)).mono ?_
  rintro e y16 ⟨rfl, hq16⟩
  have hbb16 := (hbb15).trans (hq16.mono (hbb15).size)
  have rb1 := rb1.below hq16
  have tw := tw.below EnR.stays hq16
  have mg := mg.below EnH.stay hq16
  clear krb1_0 krb1_1
  obtain ⟨⟨krb1_0, krb1_1⟩, -⟩ := rb1.all2
  have hp : decide (((1 + ((putted x0 x1).map En.marks).sum : Nat) : Int) < 0) = false := by rw [decide_eq_false_iff_not]; omega
  go_wp2_with fail
  clear hp
  have rb1 := rb1.drew
  have hbdh := (hbb16).drew
  have tw := tw.below EnR.stays ((Below.refl _ _).drew)
  have mg := mg.below EnH.stay ((Below.refl _ _).drew)
  go_region_held3 (fun w' => w'.cell? ⟨w.heap.size, 0, none⟩ = some (.slice A1_0 n1_0 c1_0) ∧ w'.cell? ⟨w.heap.size, 1, none⟩ = some (.int .i64 x1.id))
    (first | go_keep | exact keepT2 (by assumption) hq19 | exact keepT2 (by assumption) hq18 | exact keepT2 (by assumption) hq17)
    (first
      | (go_at_call 16; refine (lawsToEntryL a0 x0.length cap0 x0 _ _ (h0.below EnR.stays hbdh) S0.out).mono ?_; rintro e y17 ⟨Bh0, dh0, rfl, hcph0, th0, hq17⟩)
      | (go_at_call 17; refine (lawsToEntry x1 A1_0 n1_0 c1_0 _ _ (h1_0.below VlR.stays (hbdh.trans (hq17.mono hbdh.size))) S1.out).mono ?_; rintro e y18 ⟨csh1, rfl, hRh1, hq18⟩; obtain ⟨Bh1_0, mh1_0, dh1_0, rfl, th1_0, hcph1⟩ := hRh1)
      | (go_at_call 25; refine (implIndexPut Bh0 x0.length dh0 x0 _ x1 Bh1_0 mh1_0 dh1_0 _ _ (th0.below EnR.stays hq18) HXN.out HXK.out th1_0 (by have h1 := th1_0.1; have h2 := HXM.out; omega)).mono ?_; rintro e y19 ⟨vh, rfl, ovh, hq19⟩))
  have hbb17 := (hbdh).trans (hq17.mono hbdh.size)
  have hbb18 := (hbb17).trans (hq18.mono (hbb17).size)
  have hbb19 := (hbb18).trans (hq19.mono (hbb18).size)
  have rb1 := rb1.below hq17
  have tw := tw.below EnR.stays hq17
  have mg := mg.below EnH.stay hq17
  have rb1 := rb1.below hq18
  have tw := tw.below EnR.stays hq18
  have mg := mg.below EnH.stay hq18
  have rb1 := rb1.below hq19
  have tw := tw.below EnR.stays hq19
  have mg := mg.below EnH.stay hq19
  clear krb1_0 krb1_1
  obtain ⟨⟨krb1_0, krb1_1⟩, -⟩ := rb1.all2
  obtain ⟨Ah, ch, rfl, -, -, th⟩ := ovh.sl
  clear ovh th0 th1_0
  go_wp2_with fail
  refine (lawsEqEntryL _ _ _ _ _ (putted x0 x1) _ _ _ th tw HLN.out).mono ?_
  rintro e y20 ⟨rfl, hq20⟩
  have hbb20 := (hbb19).trans (hq20.mono (hbb19).size)
  have rb1 := rb1.below hq20
  have tw := tw.below EnR.stays hq20
  have th := th.below EnR.stays hq20
  have mg := mg.below EnH.stay hq20
  clear krb1_0 krb1_1
  obtain ⟨⟨krb1_0, krb1_1⟩, -⟩ := rb1.all2
  go_wp2_with fail
  refine (heldOEntL _ _ _ _ _ 1 _ mg HMS.out (by first | rfl | omega)).mono ?_
  rintro e y21 ⟨rfl, hq21⟩
  have hbb21 := (hbb20).trans (hq21.mono (hbb20).size)
  have tw := tw.below EnR.stays hq21
  have mg := mg.below EnH.stay hq21
  clear krb1_0 krb1_1
  have hp : decide (((1 + ((putted x0 x1).map En.marks).sum : Nat) : Int) < 0) = false := by rw [decide_eq_false_iff_not]; omega
  go_wp2_with fail
  clear hp
  go_ret
  exact ⟨rfl, hbb21⟩

set_option maxRecDepth 100000 in
theorem lifted (os : Os) (started : os.Started) (H : Type) (enc : TypeId × Value → H) :
    ReturnsInHanded {} Try.checked os 5 .any (Rows.fnExactIndexPutSpec.pre6 enc Try.prog Try.f5 Rows.fnExactIndexPutRow.domain false) (Rows.fnExactIndexPutSpec.post enc Try.prog Try.f5 false true false false) := by
  refine returnsInHanded_of_change (C := Try.checked) own started (by kernel_rfl) Try.func5
    (ChangeSpec.witness6 (enc := enc) (C := Try.checked) false ⟨#[], #[.slice none 0 0, .agg #[.slice none 0 0, .int .i64 0]], []⟩ 8 (by kernel_rfl) (by kernel_rfl) (by kernel_rfl) (by kernel_rfl)) ?_
  intro W base args ds gs before hval0 hW hcnd _
  have hval : ∀ (j : Nat) t v, Try.f5.params[j]? = some t → args[j]? = some v → Value.okWide Try.prog W .any base t v := hval0
  have hW' := hW
  obtain ⟨p, q, hA0, hV, rfl, hfz, hnd⟩ := hW
  have hA : DataW.TrodAll enc Try.prog W 0 (fun _ => true) true Try.f5.params.toList args.toList ds p := hA0
  rw [Try.params5] at hA hval
  obtain ⟨v0, vs0, d0, ds0, p0, q0, hargs, rfl, rfl, h0, r0⟩ := trodAll_cons hA
  obtain ⟨v1, vs1, d1, ds1, p1, q1, rfl, rfl, rfl, h1, r1⟩ := trodAll_cons r0
  obtain ⟨rfl, rfl, rfl⟩ := trodAll_nil r1
  obtain rfl : args = #[v0, v1] := by cases args; simp_all
  obtain ⟨rfl, rfl⟩ := trodVars_none hV
  have k0' := h0
  have lt0 : ∀ x ∈ p0, x.block < W.heap.size := by obtain ⟨m, hm⟩ := k0'; exact DataW.trod_lt m _ _ _ hm
  have k1' := h1
  have lt1 : ∀ x ∈ p1, x.block < W.heap.size := by obtain ⟨m, hm⟩ := k1'; exact DataW.trod_lt m _ _ _ hm
  obtain ⟨a0, len0, cap0, rfl⟩ := okWide_slice Try.underlying30 (hval 0 30 v0 rfl rfl)
  obtain ⟨x0, w0⟩ := (by obtain ⟨m, hm⟩ := h0; exact EntryL_of_trod (by simpa [Value.cells] using hm) : ∃ ds : List En, Sl EnR 2 (fun _ => True) W a0 len0 ds ∧ (ds.length ≤ maxLen ∧ ∀ y ∈ ds, y.wf))
  obtain ⟨cs1, rfl, hsz1⟩ := okWide_struct Try.underlying33 (hval 1 33 v1 rfl rfl)
  obtain ⟨x1, hx1, wf1⟩ := (by obtain ⟨m, hm⟩ := h1; exact Entry_of_trod (by simpa [Value.cells] using hm) : ∃ d, EnR (fun _ => True) W cs1.toList d ∧ d.wf)
  obtain ⟨A1_0, n1_0, c1_0, ecs1, s1_0, -⟩ := hx1
  obtain rfl : cs1 = #[.slice A1_0 n1_0 c1_0, .int .i64 x1.id] := by cases cs1; simp_all
  clear hA0 hval0
  refine (walk a0 len0 cap0 x0 x1 A1_0 n1_0 c1_0 W w0 ⟨s1_0, wf1⟩).mono fun e W' ⟨he, bel⟩ => ?_
  subst he
  exact ⟨_, rfl, _, _, _, [], _, [], hW', trodAll_mk1 (shut_bool Try.underlying4 _), (trodAll_cons_mk (Below.trod laidOut (by kernel_rfl) (of_decide_eq_true (by kernel_rfl)) k0' bel lt0) (trodAll_cons_mk (Below.trod laidOut (by kernel_rfl) (of_decide_eq_true (by kernel_rfl)) k1' bel lt1) trodAll_mk0)), rfl, bel.frame _, fun h => by cases h⟩

set_option maxRecDepth 100000 in
set_option maxHeartbeats 16000000 in
theorem facts : joinedFacts Try.checked.prog 5 Try.f5 Rows.fnExactIndexPutSpec Rows.fnExactIndexPutRow = true := by
  unfold joinedFacts
  repeat' (with_reducible refine Bool.and_eq_true_iff.2 ⟨?_, ?_⟩)
  all_goals (as_aux_lemma => kernel_rfl)

theorem over : Rows.fnExactIndexPutRow.holds Try.pinned (OpenSpec.ofChange Rows.fnExactIndexPutSpec) :=
  OpenClaim.holds_of_wide 5 Try.f5 rfl rfl rfl rfl rfl rfl rfl ⟨rfl, rfl, rfl, rfl, rfl⟩ rfl rfl rfl rfl rfl (by kernel_rfl) Try.func5 facts
    (of_decide_eq_true (by as_aux_lemma => kernel_rfl)) (by unfold Func.isWrapper; first | (rw [if_pos (by decide +kernel)]; kernel_rfl) | (rw [if_neg (by decide +kernel)]; exact ⟨rfl, rfl⟩))
    (fun os started H enc _ => lifted os started H enc)

theorem proved : Rows.FnExactIndexPutSaid := over
#print axioms proved
end Go.Proofs.Ytlpfpcnafejkoaa.fnExactIndexPut
