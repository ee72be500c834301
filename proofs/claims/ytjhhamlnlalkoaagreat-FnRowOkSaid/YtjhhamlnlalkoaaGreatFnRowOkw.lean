/-
  A row fits its table just where, alone, no flaw but a missing reference is told of it (law FnRowOk, for every code).
-/
import Derived.Test.YtjhhamlnlalkoaaGreatPa
import Derived.Test.YtjhhamlnlalkoaaGreatPb
import Derived.Test.YtjhhamlnlalkoaaGreatPc
import Derived.Test.YtjhhamlnlalkoaaGreatPd
import Derived.Test.YtjhhamlnlalkoaaGreatPe
import Derived.Test.YtjhhamlnlalkoaaGreatPf
import Derived.Test.YtjhhamlnlalkoaaGreatPg
import Derived.Test.YtjhhamlnlalkoaaGreatPh
import Derived.Test.YtjhhamlnlalkoaaGreatPi
import Derived.Test.YtjhhamlnlalkoaaGreatQa
import Derived.Test.YtjhhamlnlalkoaaGreatQb
import Derived.Test.YtjhhamlnlalkoaaGreatSa
import Derived.Test.YtjhhamlnlalkoaaGreatSb
import Derived.Test.YtjhhamlnlalkoaaGreatSc
namespace Go.Proofs.YtjhhamlnlalkoaaGreat.fnRowOk
open Go.ChangeShapes Go.WideShapes Go.ChangeAt Go.RowKit Go.Joins
open Go.ChangeMaps (open_string shut_string)
set_option linter.unusedSimpArgs false
set_option linter.unusedVariables false

set_option maxRecDepth 100000 in
set_option maxHeartbeats 8000000 in
theorem walk (a0 : Option Addr) (len0 cap0 : Nat) (z0 : List Int) (w : World) (w0 : IsRow .u8 w a0 len0 cap0 z0) :
    Calls Tryz.prog 6 #[.slice a0 len0 cap0] w fun e w' => e = .returned (.bool true) ∧ Below w.heap.size w w' := by
  by_cases hbig : (1048576 : Int) < len0
  · have hbg : decide ((1048576 : Int) < len0) = true := by simpa using hbig
    go_enter Tryz.func6, Tryz.ntmps6
    go_wp2_with fail
    refine (lawsBig a0 len0 cap0 w).mono ?_
    rintro e w' ⟨rfl, rfl⟩
    go_wp2
    go_ret
    exact ⟨rfl, Below.refl _ _⟩
  have hbg : decide ((1048576 : Int) < len0) = false := by simpa using hbig
  go_enter Tryz.func6, Tryz.ntmps6
  go_wp2_with fail
  refine (lawsBig a0 len0 cap0 w).mono ?_
  rintro e w' ⟨rfl, rfl⟩
  go_wp2_with fail
  refine (drawRowOk a0 len0 cap0 z0 _ w0).mono ?_
  rintro e w1 ⟨v1, rfl, ⟨okt, okv, cs, t, AV, cV, xs, rfl, hT, htz, hV, hVc, hxl⟩, hz⟩
  obtain ⟨B1, m1, d1, B2, m2, d2, B3, m3, d3, B4, m4, d4, B5, m5, d5, rfl, s1, s2, s3, s4, s5, cc⟩ := hT
  have hal := (Below.refl w1.heap.size w1).alloc (Nat.le_refl _) (.cells #[.string t.name, .slice B1 m1 d1, .slice B2 m2 d2, .slice B3 m3 d3, .slice B4 m4 d4, .slice B5 m5 d5] 45)
  have BX := Lib.hid (Blo.new w1 [.string t.name, .slice B1 m1 d1, .slice B2 m2 d2, .slice B3 m3 d3, .slice B4 m4 d4, .slice B5 m5 d5] 45)
  have SS := Lib.hid (And.intro (s1.below ClR.stays hal) (And.intro (s2.below IntR.stays hal) (And.intro (s3.below UqR.stays hal) (And.intro (s4.below CkR.stays hal) (And.intro (s5.below FkR.stays hal) cc)))))
  have HV := Lib.hid (hV.below VlR.stays hal)
  have hz := hz.trans (hal.mono hz.size)
  clear s1 s2 s3 s4 s5 cc hal hV
  go_wp2_with fail
  generalize w1.alloc (.cells #[.string t.name, .slice B1 m1 d1, .slice B2 m2 d2, .slice B3 m3 d3, .slice B4 m4 d4, .slice B5 m5 d5] 45) = u at *
  generalize w1.heap.size = gt at *
  refine (drawDbOk a0 len0 cap0 z0 _ (w0.below hz)).mono ?_
  rintro e w2 ⟨v2, rfl, ⟨ok, A1, c1, ts, A2, n2, c2, ds, rfl, hc1, hS, hD, hsk, hn2, hds⟩, hq⟩
  obtain rfl : ds.length = n2 := hD.1
  have hss : szL Tb.sz ts ≤ 1048576 := by have := hsk.sz; omega
  have hl3 : ts.length ≤ 3 := hsk.2.1
  have BX := Lib.hid (show Blo w2 gt [.string t.name, .slice B1 m1 d1, .slice B2 m2 d2, .slice B3 m3 d3, .slice B4 m4 d4, .slice B5 m5 d5] 45 from (hq.block gt BX.out.lt).trans BX.out)
  obtain ⟨s1, s2, s3, s4, s5, cc⟩ := SS.out
  have SS := Lib.hid (And.intro (s1.below ClR.stays hq) (And.intro (s2.below IntR.stays hq) (And.intro (s3.below UqR.stays hq) (And.intro (s4.below CkR.stays hq) (And.intro (s5.below FkR.stays hq) cc)))))
  have HV := Lib.hid (HV.out.below VlR.stays hq)
  have hz := hz.trans (hq.mono hz.size)
  clear s1 s2 s3 s4 s5 cc hq
  have HS := Lib.hid hS
  have HD := Lib.hid hD
  have HZ := Lib.hid (And.intro hss hds)
  clear hS hD hsk hn2 hss hds
  obtain ⟨rb, hrb⟩ : ∃ b, rowOkB t xs = b := ⟨_, rfl⟩
  obtain ⟨ob, hob⟩ : ∃ b, dbB ts ds = b := ⟨_, rfl⟩
  have HRB := Lib.hid hrb
  have HOB := Lib.hid hob
  clear hrb hob
  have e1 : (rb == rb) = true := by simp
  have e2 : (rb != rb) = false := by simp
  go_wp2_with fail
  have bx := (show Blo w2 gt [.string t.name, .slice B1 m1 d1, .slice B2 m2 d2, .slice B3 m3 d3, .slice B4 m4 d4, .slice B5 m5 d5] 45 from BX.out).six.1
  have hcc0 : Below w2.heap.size w2 w2.drew := (Below.refl w2.heap.size w2).drew
  cases ob
  · refine wp_region_noPanic ?_
    refine wp_region_held_drew (S := (fun w' => w'.cell? ⟨gt, 0, none⟩ = some (.string t.name) ∧ w'.cell? ⟨gt, 1, none⟩ = some (.slice B1 m1 d1) ∧ w'.cell? ⟨gt, 2, none⟩ = some (.slice B2 m2 d2) ∧ w'.cell? ⟨gt, 3, none⟩ = some (.slice B3 m3 d3) ∧ w'.cell? ⟨gt, 4, none⟩ = some (.slice B4 m4 d4) ∧ w'.cell? ⟨gt, 5, none⟩ = some (.slice B5 m5 d5))) (by kernel_rfl) bx (fun hHeld => ?_)
    generalize w2.drew = u0 at *
    refine tk 0 ?_
    refine tk 1 ?_
    refine tk 3 ?_
    refine tk 4 ?_
    refine wpAnyH_ready (rs := [2]) (by kernel_rfl) (by simp) ?_
    refine AllReadyH.cons rfl (fun K hK => ?_) AllReadyH.nil
    go_simp
    go_at_call 25
    refine (implRowOk t B1 m1 d1 B2 m2 d2 B3 m3 d3 B4 m4 d4 B5 m5 d5 AV xs.length cV xs _ _ (SS.out.1.below ClR.stays hcc0) (SS.out.2.1.below IntR.stays hcc0) (SS.out.2.2.1.below UqR.stays hcc0) (SS.out.2.2.2.1.below CkR.stays hcc0) (SS.out.2.2.2.2.1.below FkR.stays hcc0) (Sl.cellz (fun _ => rfl) (HV.out.below VlR.stays hcc0)) (by omega) (by omega)).mono ?_
    rintro e u1 ⟨rfl, hq1⟩
    rw [HRB.out]
    have hcc1 := hcc0.trans (hq1.mono hcc0.size)
    refine hK.out _ _ (show Blo u1 gt [.string t.name, .slice B1 m1 d1, .slice B2 m2 d2, .slice B3 m3 d3, .slice B4 m4 d4, .slice B5 m5 d5] 45 from (hcc1.block gt BX.out.lt).trans BX.out).six.1 (fun hHeld => ?_)
    clear hK K
    (try simp only [Act.put, List.getElem_toArray, List.getElem_cons_zero, List.getElem_cons_succ, List.setIfInBounds_toArray, List.set_cons_zero, List.set_cons_succ])
    refine wpAnyH_ready (rs := [5]) (by kernel_rfl) (by simp) ?_
    refine AllReadyH.cons rfl (fun K hK => ?_) AllReadyH.nil
    go_simp
    go_at_call 26
    refine (specRowOk t B1 m1 d1 B2 m2 d2 B3 m3 d3 B4 m4 d4 B5 m5 d5 AV xs.length cV xs _ _ (SS.out.1.below ClR.stays hcc1) (SS.out.2.1.below IntR.stays hcc1) (SS.out.2.2.1.below UqR.stays hcc1) (SS.out.2.2.2.1.below CkR.stays hcc1) (SS.out.2.2.2.2.1.below FkR.stays hcc1) (Sl.cellz (fun _ => rfl) (HV.out.below VlR.stays hcc1)) SS.out.2.2.2.2.2 (by omega) (by omega)).mono ?_
    rintro e u2 ⟨rfl, hq2⟩
    rw [HRB.out]
    have hcc2 := hcc1.trans (hq2.mono hcc1.size)
    refine hK.out _ _ (show Blo u2 gt [.string t.name, .slice B1 m1 d1, .slice B2 m2 d2, .slice B3 m3 d3, .slice B4 m4 d4, .slice B5 m5 d5] 45 from (hcc2.block gt BX.out.lt).trans BX.out).six.1 (fun hHeld => ?_)
    clear hK K
    (try simp only [Act.put, List.getElem_toArray, List.getElem_cons_zero, List.getElem_cons_succ, List.setIfInBounds_toArray, List.set_cons_zero, List.set_cons_succ])
    refine tk 6 ?_
    refine tk 7 ?_
    refine tk 8 ?_
    refine tk 9 ?_
    refine tk 11 ?_
    refine tk 12 ?_
    refine wpAnyH_ready (rs := [10]) (by kernel_rfl) (by simp) ?_
    refine AllReadyH.cons rfl (fun K hK => ?_) AllReadyH.nil
    go_simp
    go_at_call 27
    refine (implDbOk' A1 A2 ts.length c1 ds.length c2 ts ds _ _ _ (HS.out.below TbR.stays hcc2) (HD.out.below DtR.stays hcc2) HZ.out.1 HZ.out.2).mono ?_
    rintro e u3 ⟨rfl, hq3⟩
    rw [HOB.out]
    have hcc3 := hcc2.trans (hq3.mono hcc2.size)
    refine hK.out _ _ (show Blo u3 gt [.string t.name, .slice B1 m1 d1, .slice B2 m2 d2, .slice B3 m3 d3, .slice B4 m4 d4, .slice B5 m5 d5] 45 from (hcc3.block gt BX.out.lt).trans BX.out).six.1 (fun hHeld => ?_)
    clear hK K
    (try simp only [Act.put, List.getElem_toArray, List.getElem_cons_zero, List.getElem_cons_succ, List.setIfInBounds_toArray, List.set_cons_zero, List.set_cons_succ])
    refine wpAnyH_ready (rs := [13]) (by kernel_rfl) (by simp) ?_
    refine AllReadyH.cons rfl (fun K hK => ?_) AllReadyH.nil
    go_simp
    go_at_call 28
    refine (specDbOk A1 A2 ts.length c1 ds.length c2 ts ds _ _ _ (HS.out.below TbR.stays hcc3) (HD.out.below DtR.stays hcc3) hc1 HZ.out.1 HZ.out.2).mono ?_
    rintro e u4 ⟨rfl, hq4⟩
    rw [HOB.out]
    have hcc4 := hcc3.trans (hq4.mono hcc3.size)
    refine hK.out _ _ (show Blo u4 gt [.string t.name, .slice B1 m1 d1, .slice B2 m2 d2, .slice B3 m3 d3, .slice B4 m4 d4, .slice B5 m5 d5] 45 from (hcc4.block gt BX.out.lt).trans BX.out).six.1 (fun hHeld => ?_)
    clear hK K
    (try simp only [Act.put, List.getElem_toArray, List.getElem_cons_zero, List.getElem_cons_succ, List.setIfInBounds_toArray, List.set_cons_zero, List.set_cons_succ])
    refine tk 14 ?_
    refine tk 15 ?_
    refine tk 16 ?_
    refine tk 17 ?_
    refine tk 18 ?_
    refine wpAnyH_ready (rs := [19]) (by kernel_rfl) (by simp) ?_
    refine AllReadyH.cons rfl (fun K hK => ?_) AllReadyH.nil
    go_simp
    go_at_call 28
    refine (specDbOk A1 A2 ts.length c1 ds.length c2 ts ds _ _ _ (HS.out.below TbR.stays hcc4) (HD.out.below DtR.stays hcc4) hc1 HZ.out.1 HZ.out.2).mono ?_
    rintro e u5 ⟨rfl, hq5⟩
    rw [HOB.out]
    have hcc5 := hcc4.trans (hq5.mono hcc4.size)
    refine hK.out _ _ (show Blo u5 gt [.string t.name, .slice B1 m1 d1, .slice B2 m2 d2, .slice B3 m3 d3, .slice B4 m4 d4, .slice B5 m5 d5] 45 from (hcc5.block gt BX.out.lt).trans BX.out).six.1 (fun hHeld => ?_)
    clear hK K
    (try simp only [Act.put, List.getElem_toArray, List.getElem_cons_zero, List.getElem_cons_succ, List.setIfInBounds_toArray, List.set_cons_zero, List.set_cons_succ])
    refine tk 20 ?_
    refine tk 21 ?_
    refine wpAnyH_done (by kernel_rfl) ?_ _
    refine NoPanic.normal ?_
    clear hHeld
    go_wp2_with fail
    have hd0 := hcc5.drew
    refine wp_region_noPanic ?_
    refine wp_region_held_drew (S := (fun w' => w'.cell? ⟨gt, 0, none⟩ = some (.string t.name) ∧ w'.cell? ⟨gt, 1, none⟩ = some (.slice B1 m1 d1) ∧ w'.cell? ⟨gt, 2, none⟩ = some (.slice B2 m2 d2) ∧ w'.cell? ⟨gt, 3, none⟩ = some (.slice B3 m3 d3) ∧ w'.cell? ⟨gt, 4, none⟩ = some (.slice B4 m4 d4) ∧ w'.cell? ⟨gt, 5, none⟩ = some (.slice B5 m5 d5))) (by kernel_rfl) (show Blo u5 gt [.string t.name, .slice B1 m1 d1, .slice B2 m2 d2, .slice B3 m3 d3, .slice B4 m4 d4, .slice B5 m5 d5] 45 from (hcc5.block gt BX.out.lt).trans BX.out).six.1 (fun hHeld => ?_)
    generalize u5.drew = x0 at *
    refine tk 0 ?_
    refine tk 1 ?_
    refine tk 3 ?_
    refine tk 4 ?_
    refine wpAnyH_ready (rs := [2]) (by kernel_rfl) (by simp) ?_
    refine AllReadyH.cons rfl (fun K hK => ?_) AllReadyH.nil
    go_simp
    go_at_call 25
    refine (implRowOk t B1 m1 d1 B2 m2 d2 B3 m3 d3 B4 m4 d4 B5 m5 d5 AV xs.length cV xs _ _ (SS.out.1.below ClR.stays hd0) (SS.out.2.1.below IntR.stays hd0) (SS.out.2.2.1.below UqR.stays hd0) (SS.out.2.2.2.1.below CkR.stays hd0) (SS.out.2.2.2.2.1.below FkR.stays hd0) (Sl.cellz (fun _ => rfl) (HV.out.below VlR.stays hd0)) (by omega) (by omega)).mono ?_
    rintro e x1 ⟨rfl, hq1⟩
    rw [HRB.out]
    have hd1 := hd0.trans (hq1.mono hd0.size)
    refine hK.out _ _ (show Blo x1 gt [.string t.name, .slice B1 m1 d1, .slice B2 m2 d2, .slice B3 m3 d3, .slice B4 m4 d4, .slice B5 m5 d5] 45 from (hd1.block gt BX.out.lt).trans BX.out).six.1 (fun hHeld => ?_)
    clear hK K
    (try simp only [Act.put, List.getElem_toArray, List.getElem_cons_zero, List.getElem_cons_succ, List.setIfInBounds_toArray, List.set_cons_zero, List.set_cons_succ])
    refine wpAnyH_ready (rs := [5]) (by kernel_rfl) (by simp) ?_
    refine AllReadyH.cons rfl (fun K hK => ?_) AllReadyH.nil
    go_simp
    go_at_call 26
    refine (specRowOk t B1 m1 d1 B2 m2 d2 B3 m3 d3 B4 m4 d4 B5 m5 d5 AV xs.length cV xs _ _ (SS.out.1.below ClR.stays hd1) (SS.out.2.1.below IntR.stays hd1) (SS.out.2.2.1.below UqR.stays hd1) (SS.out.2.2.2.1.below CkR.stays hd1) (SS.out.2.2.2.2.1.below FkR.stays hd1) (Sl.cellz (fun _ => rfl) (HV.out.below VlR.stays hd1)) SS.out.2.2.2.2.2 (by omega) (by omega)).mono ?_
    rintro e x2 ⟨rfl, hq2⟩
    rw [HRB.out]
    have hd2 := hd1.trans (hq2.mono hd1.size)
    refine hK.out _ _ (show Blo x2 gt [.string t.name, .slice B1 m1 d1, .slice B2 m2 d2, .slice B3 m3 d3, .slice B4 m4 d4, .slice B5 m5 d5] 45 from (hd2.block gt BX.out.lt).trans BX.out).six.1 (fun hHeld => ?_)
    clear hK K
    (try simp only [Act.put, List.getElem_toArray, List.getElem_cons_zero, List.getElem_cons_succ, List.setIfInBounds_toArray, List.set_cons_zero, List.set_cons_succ])
    refine tk 6 ?_
    refine tk 7 ?_
    refine tk 8 ?_
    refine tk 9 ?_
    refine tk 11 ?_
    refine tk 12 ?_
    refine wpAnyH_ready (rs := [10]) (by kernel_rfl) (by simp) ?_
    refine AllReadyH.cons rfl (fun K hK => ?_) AllReadyH.nil
    go_simp
    go_at_call 27
    refine (implDbOk' A1 A2 ts.length c1 ds.length c2 ts ds _ _ _ (HS.out.below TbR.stays hd2) (HD.out.below DtR.stays hd2) HZ.out.1 HZ.out.2).mono ?_
    rintro e x3 ⟨rfl, hq3⟩
    rw [HOB.out]
    have hd3 := hd2.trans (hq3.mono hd2.size)
    refine hK.out _ _ (show Blo x3 gt [.string t.name, .slice B1 m1 d1, .slice B2 m2 d2, .slice B3 m3 d3, .slice B4 m4 d4, .slice B5 m5 d5] 45 from (hd3.block gt BX.out.lt).trans BX.out).six.1 (fun hHeld => ?_)
    clear hK K
    (try simp only [Act.put, List.getElem_toArray, List.getElem_cons_zero, List.getElem_cons_succ, List.setIfInBounds_toArray, List.set_cons_zero, List.set_cons_succ])
    refine wpAnyH_ready (rs := [13]) (by kernel_rfl) (by simp) ?_
    refine AllReadyH.cons rfl (fun K hK => ?_) AllReadyH.nil
    go_simp
    go_at_call 28
    refine (specDbOk A1 A2 ts.length c1 ds.length c2 ts ds _ _ _ (HS.out.below TbR.stays hd3) (HD.out.below DtR.stays hd3) hc1 HZ.out.1 HZ.out.2).mono ?_
    rintro e x4 ⟨rfl, hq4⟩
    rw [HOB.out]
    have hd4 := hd3.trans (hq4.mono hd3.size)
    refine hK.out _ _ (show Blo x4 gt [.string t.name, .slice B1 m1 d1, .slice B2 m2 d2, .slice B3 m3 d3, .slice B4 m4 d4, .slice B5 m5 d5] 45 from (hd4.block gt BX.out.lt).trans BX.out).six.1 (fun hHeld => ?_)
    clear hK K
    (try simp only [Act.put, List.getElem_toArray, List.getElem_cons_zero, List.getElem_cons_succ, List.setIfInBounds_toArray, List.set_cons_zero, List.set_cons_succ])
    refine tk 14 ?_
    refine tk 15 ?_
    refine tk 16 ?_
    refine wpAnyH_done (by kernel_rfl) ?_ _
    refine NoPanic.normal ?_
    clear hHeld
    go_wp2_with fail
    go_ret
    exact ⟨rfl, hz.trans (hd4.mono hz.size)⟩
  · refine wp_region_noPanic ?_
    refine wp_region_held_drew (S := (fun w' => w'.cell? ⟨gt, 0, none⟩ = some (.string t.name) ∧ w'.cell? ⟨gt, 1, none⟩ = some (.slice B1 m1 d1) ∧ w'.cell? ⟨gt, 2, none⟩ = some (.slice B2 m2 d2) ∧ w'.cell? ⟨gt, 3, none⟩ = some (.slice B3 m3 d3) ∧ w'.cell? ⟨gt, 4, none⟩ = some (.slice B4 m4 d4) ∧ w'.cell? ⟨gt, 5, none⟩ = some (.slice B5 m5 d5))) (by kernel_rfl) bx (fun hHeld => ?_)
    generalize w2.drew = u0 at *
    refine tk 0 ?_
    refine tk 1 ?_
    refine tk 3 ?_
    refine tk 4 ?_
    refine wpAnyH_ready (rs := [2]) (by kernel_rfl) (by simp) ?_
    refine AllReadyH.cons rfl (fun K hK => ?_) AllReadyH.nil
    go_simp
    go_at_call 25
    refine (implRowOk t B1 m1 d1 B2 m2 d2 B3 m3 d3 B4 m4 d4 B5 m5 d5 AV xs.length cV xs _ _ (SS.out.1.below ClR.stays hcc0) (SS.out.2.1.below IntR.stays hcc0) (SS.out.2.2.1.below UqR.stays hcc0) (SS.out.2.2.2.1.below CkR.stays hcc0) (SS.out.2.2.2.2.1.below FkR.stays hcc0) (Sl.cellz (fun _ => rfl) (HV.out.below VlR.stays hcc0)) (by omega) (by omega)).mono ?_
    rintro e u1 ⟨rfl, hq1⟩
    rw [HRB.out]
    have hcc1 := hcc0.trans (hq1.mono hcc0.size)
    refine hK.out _ _ (show Blo u1 gt [.string t.name, .slice B1 m1 d1, .slice B2 m2 d2, .slice B3 m3 d3, .slice B4 m4 d4, .slice B5 m5 d5] 45 from (hcc1.block gt BX.out.lt).trans BX.out).six.1 (fun hHeld => ?_)
    clear hK K
    (try simp only [Act.put, List.getElem_toArray, List.getElem_cons_zero, List.getElem_cons_succ, List.setIfInBounds_toArray, List.set_cons_zero, List.set_cons_succ])
    refine wpAnyH_ready (rs := [5]) (by kernel_rfl) (by simp) ?_
    refine AllReadyH.cons rfl (fun K hK => ?_) AllReadyH.nil
    go_simp
    go_at_call 26
    refine (specRowOk t B1 m1 d1 B2 m2 d2 B3 m3 d3 B4 m4 d4 B5 m5 d5 AV xs.length cV xs _ _ (SS.out.1.below ClR.stays hcc1) (SS.out.2.1.below IntR.stays hcc1) (SS.out.2.2.1.below UqR.stays hcc1) (SS.out.2.2.2.1.below CkR.stays hcc1) (SS.out.2.2.2.2.1.below FkR.stays hcc1) (Sl.cellz (fun _ => rfl) (HV.out.below VlR.stays hcc1)) SS.out.2.2.2.2.2 (by omega) (by omega)).mono ?_
    rintro e u2 ⟨rfl, hq2⟩
    rw [HRB.out]
    have hcc2 := hcc1.trans (hq2.mono hcc1.size)
    refine hK.out _ _ (show Blo u2 gt [.string t.name, .slice B1 m1 d1, .slice B2 m2 d2, .slice B3 m3 d3, .slice B4 m4 d4, .slice B5 m5 d5] 45 from (hcc2.block gt BX.out.lt).trans BX.out).six.1 (fun hHeld => ?_)
    clear hK K
    (try simp only [Act.put, List.getElem_toArray, List.getElem_cons_zero, List.getElem_cons_succ, List.setIfInBounds_toArray, List.set_cons_zero, List.set_cons_succ])
    refine tk 6 ?_
    refine tk 7 ?_
    refine tk 8 ?_
    refine tk 9 ?_
    refine tk 11 ?_
    refine tk 12 ?_
    refine wpAnyH_ready (rs := [10]) (by kernel_rfl) (by simp) ?_
    refine AllReadyH.cons rfl (fun K hK => ?_) AllReadyH.nil
    go_simp
    go_at_call 27
    refine (implDbOk' A1 A2 ts.length c1 ds.length c2 ts ds _ _ _ (HS.out.below TbR.stays hcc2) (HD.out.below DtR.stays hcc2) HZ.out.1 HZ.out.2).mono ?_
    rintro e u3 ⟨rfl, hq3⟩
    rw [HOB.out]
    have hcc3 := hcc2.trans (hq3.mono hcc2.size)
    refine hK.out _ _ (show Blo u3 gt [.string t.name, .slice B1 m1 d1, .slice B2 m2 d2, .slice B3 m3 d3, .slice B4 m4 d4, .slice B5 m5 d5] 45 from (hcc3.block gt BX.out.lt).trans BX.out).six.1 (fun hHeld => ?_)
    clear hK K
    (try simp only [Act.put, List.getElem_toArray, List.getElem_cons_zero, List.getElem_cons_succ, List.setIfInBounds_toArray, List.set_cons_zero, List.set_cons_succ])
    refine wpAnyH_ready (rs := [13]) (by kernel_rfl) (by simp) ?_
    refine AllReadyH.cons rfl (fun K hK => ?_) AllReadyH.nil
    go_simp
    go_at_call 28
    refine (specDbOk A1 A2 ts.length c1 ds.length c2 ts ds _ _ _ (HS.out.below TbR.stays hcc3) (HD.out.below DtR.stays hcc3) hc1 HZ.out.1 HZ.out.2).mono ?_
    rintro e u4 ⟨rfl, hq4⟩
    rw [HOB.out]
    have hcc4 := hcc3.trans (hq4.mono hcc3.size)
    refine hK.out _ _ (show Blo u4 gt [.string t.name, .slice B1 m1 d1, .slice B2 m2 d2, .slice B3 m3 d3, .slice B4 m4 d4, .slice B5 m5 d5] 45 from (hcc4.block gt BX.out.lt).trans BX.out).six.1 (fun hHeld => ?_)
    clear hK K
    (try simp only [Act.put, List.getElem_toArray, List.getElem_cons_zero, List.getElem_cons_succ, List.setIfInBounds_toArray, List.set_cons_zero, List.set_cons_succ])
    refine tk 14 ?_
    refine tk 15 ?_
    refine tk 16 ?_
    refine tk 17 ?_
    refine tk 18 ?_
    refine wpAnyH_ready (rs := [19]) (by kernel_rfl) (by simp) ?_
    refine AllReadyH.cons rfl (fun K hK => ?_) AllReadyH.nil
    go_simp
    go_at_call 28
    refine (specDbOk A1 A2 ts.length c1 ds.length c2 ts ds _ _ _ (HS.out.below TbR.stays hcc4) (HD.out.below DtR.stays hcc4) hc1 HZ.out.1 HZ.out.2).mono ?_
    rintro e u5 ⟨rfl, hq5⟩
    rw [HOB.out]
    have hcc5 := hcc4.trans (hq5.mono hcc4.size)
    refine hK.out _ _ (show Blo u5 gt [.string t.name, .slice B1 m1 d1, .slice B2 m2 d2, .slice B3 m3 d3, .slice B4 m4 d4, .slice B5 m5 d5] 45 from (hcc5.block gt BX.out.lt).trans BX.out).six.1 (fun hHeld => ?_)
    clear hK K
    (try simp only [Act.put, List.getElem_toArray, List.getElem_cons_zero, List.getElem_cons_succ, List.setIfInBounds_toArray, List.set_cons_zero, List.set_cons_succ])
    refine tk 20 ?_
    refine tk 21 ?_
    refine wpAnyH_done (by kernel_rfl) ?_ _
    refine NoPanic.normal ?_
    clear hHeld
    have hz := hz.trans (hcc5.mono hz.size)
    have HS := Lib.hid (HS.out.below TbR.stays hcc5)
    have HD := Lib.hid (HD.out.below DtR.stays hcc5)
    clear hcc0 hcc1 hcc2 hcc3 hcc4 hcc5 hq1 hq2 hq3 hq4 hq5 e1 e2 bx BX SS HV HRB htz hxl hVc
    have hB := HOB.out
    have hdl := dbB_len hB
    have HLN := Lib.hid (And.intro hdl (fun i (h : i < ts.length) (h' : i < ds.length) => dbB_rows hB h h'))
    have HONE := Lib.hid (fun i (h : i < ts.length) (h' : i < ds.length) r (hr : r ∈ ds[i].rows) => one_db hB h h' hr)
    have HBAD := Lib.hid (fun i (h : i < ts.length) (h' : i < ds.length) r (hr : r ∈ ds[i].rows) => one_bad hB h h' hr)
    have HRI := Lib.hid (fun i (h : i < ts.length) (h' : i < ds.length) x (hx : x ∈ ds[i].rows) => (rowIn_of hB i h h' x hx).2.2.2.2.2.2)
    have HTZ := Lib.hid (fun i (h : i < ts.length) => (show ts[i].sz ≤ 1048576 by have h1 := sum_mem_le Tb.sz ts i h; have h2 := HZ.out.1; unfold szL at h2; omega))
    have hmk := mk_data ts.length (by omega)
    clear hB hdl
    go_wp2_with fail
    go_loopw [7] (fun i wr => ∃ k : Nat, k ≤ ds.length ∧ i = .int .i64 k ∧ Below u5.heap.size u5 wr) (fun i _ => ds.length - (intOf i).toNat)
    case atStart => exact ⟨0, by omega, rfl, Below.refl _ _⟩
    case round =>
      obtain ⟨k, hk, rfl, hb⟩ := hrel
      by_cases hlt : k < ds.length
      case neg =>
        have i1 : ¬ (k : Int) < ds.length := by omega
        go_wp2_with fail
        go_ret
        exact ⟨rfl, hz.trans (hb.mono hz.size)⟩
      have i0 : (0 : Int) ≤ k := by omega
      have i1 : (k : Int) < ds.length := by omega
      have hkt : k < ts.length := by have := HLN.out.1; omega
      have i2 : (k : Int) < ts.length := by omega
      have hrn := HLN.out.2 k hkt hlt
      obtain ⟨wo, hwo⟩ : ∃ wo, wo = wr := ⟨_, rfl⟩
      subst hwo
      go_wp2_with fail
      go_loopw [8] (fun j wr => ∃ m : Nat, m ≤ ds[k].rows.length ∧ j = .int .i64 m ∧ Below u5.heap.size u5 wr) (fun j _ => ds[k].rows.length - (intOf j).toNat)
      case atStart => exact ⟨0, by omega, rfl, hb⟩
      case round =>
        clear hb
        obtain ⟨m, hm, rfl, hb⟩ := hrel
        obtain ⟨bd, od, AR, nR, cR, -, eD, p0, hrw, hrc⟩ := DtR.at_ (HD.out.below DtR.stays hb) hlt
        subst eD
        obtain rfl : ds[k].rows.length = nR := hrw.1
        by_cases hmt : m < ds[k].rows.length
        case neg =>
          have j1 : ¬ (m : Int) < ds[k].rows.length := by omega
          go_wp2_with fail
          go_roundw
          case rel => exact ⟨k + 1, by omega, by go_num, hb⟩
          case measure => simp [intOf]; omega
        have j0 : (0 : Int) ≤ m := by omega
        have j1 : (m : Int) < ds[k].rows.length := by omega
        obtain ⟨br, orr, eR⟩ : ∃ b off, AR = some ⟨b, off, none⟩ := by obtain ⟨b, off, e, -, -⟩ := hrw.2 (by omega); exact ⟨b, off, e⟩
        subst eR
        have j3 : IntKind.i64.wrap ((m : Int) + 1) = m + 1 := by rw [IntWalk.i64_in _ (by omega)]
        have j4 : (0 : Int) ≤ (m : Int) + 1 := by omega
        have j5 : (m : Int) ≤ (m : Int) + 1 := by omega
        have j6 : (m : Int) + 1 ≤ cR := by omega
        have j7 : (m : Int) ≤ cR := by omega
        obtain ⟨wi, hwi⟩ : ∃ wi, wi = wr := ⟨_, rfl⟩
        subst hwi
        have hal := (Below.refl wi.heap.size wi).alloc (Nat.le_refl _) (.cells (Array.replicate ts.length (Value.slice none 0 0)) 33)
        have P0 := Lib.hid p0
        have p0 := below_keep hal _ _ p0
        have HO := Lib.hid (made_owns wi (Nat.le_refl _) 33 (.slice none 0 0) ts.length (by omega))
        have x9 := (own_cellsD HO.out).1 k (.slice none 0 0) (by rw [List.getElem?_replicate, if_pos hkt])
        have x8 := (own_cellsD HO.out).2 k
        go_wp2_with fail
        clear p0 x9 x8 hal HO
        have hal := (Below.refl wi.heap.size wi).alloc (Nat.le_refl _) (.cells ((Array.replicate ts.length (Value.slice none 0 0)).setIfInBounds k (.slice (some ⟨br, orr + m * 2, none⟩) 1 (cR - m))) 33)
        have HO := made_sets wi (Nat.le_refl _) 33 (.slice none 0 0) (.slice (some ⟨br, orr + m * 2, none⟩) 1 (cR - m)) ts.length k (by omega)
        obtain ⟨hl10, hv10⟩ := one_dtv (n := ts.length) (k := k) (row_mid (hrw.below RwR.stays hal) hmt (show 1 ≤ cR - m by omega))
        have hD10 := dt_of HO (oneD_len ts.length k ds[k].rows[m]).symm hv10 hl10
        have hsz10 : szL Dt.sz (oneD ts.length k ds[k].rows[m]) ≤ 1048576 := by have := one_sz hlt hmt HZ.out.2; rwa [HLN.out.1] at this
        have hb6 := hb.trans (hal.mono hb.size)
        have HRW := Lib.hid hrw
        clear hl10 hv10 HO hrw hb
        refine (implFlaws A1 (some ⟨wi.heap.size, 0, none⟩) ts.length c1 ts.length ts.length ts (oneD ts.length k ds[k].rows[m]) _ _ _ (HS.out.below TbR.stays hb6) hD10 HZ.out.1 hsz10).mono ?_
        rintro e w7 ⟨AF, cF, rfl, -, hF, hq7⟩
        obtain ⟨G, hG⟩ : ∃ G, flawsB ts (oneD ts.length k ds[k].rows[m]) false = G := ⟨_, rfl⟩
        have h1B := HONE.out k hkt hlt _ (List.getElem_mem hmt)
        have hGn : G.length ≤ 1048576 := by rw [← hG]; exact flawsB_few h1B
        have hbad := HBAD.out k hkt hlt _ (List.getElem_mem hmt)
        obtain ⟨rk, hrk⟩ : ∃ b, rowOkB ts[k] ds[k].rows[m].vals = b := ⟨_, rfl⟩
        rw [hG, hrk] at hbad
        rw [hG] at hF ⊢
        rw [h1B]
        have hbw : Below wi.heap.size wi w7 := hal.trans (hq7.mono hal.size)
        have hb7 := hb6.trans (hq7.mono hb6.size)
        have HF := Lib.hid hF
        have HBD := Lib.hid hbad
        have HRK := Lib.hid hrk
        clear hF hbad hrk h1B hG hD10 hsz10 hal hq7 hb6
        skip
        go_wp2_with fail
        go_loopw [12, 13] (fun t j wr => ∃ p : Nat, p ≤ G.length ∧ j = .int .i64 p ∧ t = .bool ((G.take p).any (fun x => x.k != 4)) ∧ Below w7.heap.size w7 wr) (fun _ j _ => G.length - (intOf j).toNat)
        case atStart => exact ⟨0, by omega, rfl, rfl, Below.refl _ _⟩
        case round =>
          obtain ⟨p, hp, rfl, rfl, hbp⟩ := hrel
          by_cases hpt : p < G.length
          case pos =>
            have l0 : (0 : Int) ≤ p := by omega
            have l1 : (p : Int) < G.length := by omega
            have HNX := Lib.hid (show (G.take (p + 1)).any (fun x => x.k != 4) = ((G.take p).any (fun x => x.k != 4) || (G[p].k != 4)) from any_take _ hpt)
            obtain ⟨th, hth⟩ : ∃ b, (G.take p).any (fun x => x.k != 4) = b := ⟨_, rfl⟩
            rw [hth]
            have HTH := Lib.hid hth
            clear hth
            obtain ⟨bf, of, eF, f0, -, -⟩ := fw_at (HF.out.below (FlatR.stays _) hbp) hpt
            cases eF
            cases th
            · go_wp2_with fail
              go_roundw
              case rel => exact ⟨p + 1, by omega, by go_num, by rw [HNX.out, HTH.out]; rfl, hbp⟩
              case measure => simp [intOf]; omega
            · go_wp2_with fail
              go_roundw
              case rel => exact ⟨p + 1, by omega, by go_num, by rw [HNX.out, HTH.out]; rfl, hbp⟩
              case measure => simp [intOf]; omega
          have l1 : ¬ (p : Int) < G.length := by omega
          rw [List.take_of_length_le (by omega), HBD.out]
          have e9 : (rk == !rk) = false := by cases rk <;> rfl
          have hbz : Below wi.heap.size wi wr := hbw.trans (hbp.mono hbw.size)
          have hb8 := hb7.trans (hbp.mono hb7.size)
          obtain ⟨br', or', AV', nV, cV', -, eR, q0, q1, hvl, -⟩ := RwR.at_ (HRW.out.below RwR.stays hbz) hmt
          cases eR
          obtain rfl : ds[k].rows[m].vals.length = nV := hvl.1
          have y1 := below_keep hbz _ _ P0.out
          obtain ⟨bt, ot, C1, m1', e1', C2, m2', e2', C3, m3', e3', C4, m4', e4', C5, m5', e5', -, eT, t0, t1, t2, t3, t4, t5, s1, s2, s3, s4, s5, cc⟩ := TbR.at_ (HS.out.below TbR.stays hb8) hkt
          subst eT
          have HVL := Lib.hid hvl
          have SS := Lib.hid (And.intro s1 (And.intro s2 (And.intro s3 (And.intro s4 s5))))
          clear s1 s2 s3 s4 s5 q0 hvl
          have htz := HTZ.out k hkt
          have hvn := HRI.out k hkt hlt _ (List.getElem_mem hmt)
          have hd0 : Below wr.heap.size wr wr.drew := (Below.refl _ _).drew
          go_wp2_with fail
          refine wp_region_noPanic ?_
          refine wp_region_held_drew (S := (fun w' => w'.cell? ⟨bt, ot + k * 6, none⟩ = some (.string ts[k].name) ∧ w'.cell? ⟨bt, ot + k * 6 + 1, none⟩ = some (.slice C1 m1' e1') ∧ w'.cell? ⟨bt, ot + k * 6 + 2, none⟩ = some (.slice C2 m2' e2') ∧ w'.cell? ⟨bt, ot + k * 6 + 3, none⟩ = some (.slice C3 m3' e3') ∧ w'.cell? ⟨bt, ot + k * 6 + 4, none⟩ = some (.slice C4 m4' e4') ∧ w'.cell? ⟨bt, ot + k * 6 + 5, none⟩ = some (.slice C5 m5' e5') ∧ w'.cell? ⟨bd, od + k, none⟩ = some (.slice (some ⟨br, orr, none⟩) ds[k].rows.length cR) ∧ w'.cell? ⟨br, orr + m * 2 + 1, none⟩ = some (.slice AV' ds[k].rows[m].vals.length cV'))) (by kernel_rfl) ⟨t0, t1, t2, t3, t4, t5, y1, q1⟩ (fun hHeld => ?_)
          generalize wr.drew = u6 at *
          refine tk 0 ?_
          refine tk 1 ?_
          refine tk 2 ?_
          refine tk 3 ?_
          refine tk 4 ?_
          refine tk 5 ?_
          refine tk 6 ?_
          refine tk 7 ?_
          refine tk 8 ?_
          refine tk 9 ?_
          refine tk 10 ?_
          refine tk 11 ?_
          refine tk 12 ?_
          refine tk 13 ?_
          refine tk 14 ?_
          refine tk 15 ?_
          refine tk 17 ?_
          refine wpAnyH_ready (rs := [16]) (by kernel_rfl) (by simp) ?_
          refine AllReadyH.cons rfl (fun K hK => ?_) AllReadyH.nil
          go_simp
          go_at_call 25
          refine (implRowOk ts[k] C1 m1' e1' C2 m2' e2' C3 m3' e3' C4 m4' e4' C5 m5' e5' AV' ds[k].rows[m].vals.length cV' ds[k].rows[m].vals _ _ (SS.out.1.below ClR.stays hd0) (SS.out.2.1.below IntR.stays hd0) (SS.out.2.2.1.below UqR.stays hd0) (SS.out.2.2.2.1.below CkR.stays hd0) (SS.out.2.2.2.2.below FkR.stays hd0) (Sl.cellz (fun _ => rfl) (HVL.out.below VlR.stays hd0)) htz hvn).mono ?_
          rintro e u7 ⟨rfl, hq8⟩
          rw [HRK.out]
          have hd1 := hd0.trans (hq8.mono hd0.size)
          refine hK.out _ _ (keep8R ⟨t0, t1, t2, t3, t4, t5, y1, q1⟩ hd1) (fun hHeld => ?_)
          clear hK K
          (try simp only [Act.put, List.getElem_toArray, List.getElem_cons_zero, List.getElem_cons_succ, List.setIfInBounds_toArray, List.set_cons_zero, List.set_cons_succ])
          refine tk 18 ?_
          refine tk 19 ?_
          refine wpAnyH_done (by kernel_rfl) ?_ _
          refine NoPanic.normal ?_
          clear hHeld
          go_wp2_with fail
          go_roundw
          case rel => exact ⟨m + 1, by omega, by go_num, hb8.trans (hd1.mono hb8.size)⟩
          case measure => simp [intOf]; omega

set_option maxRecDepth 100000 in
theorem lifted (os : Os) (started : os.Started) (H : Type) (enc : TypeId × Value → H) :
    ReturnsInHanded {} Tryz.checked os 6 .any (Rows.fnRowOkSpec.pre6 enc Tryz.prog Tryz.f6 Rows.fnRowOkRow.domain false) (Rows.fnRowOkSpec.post enc Tryz.prog Tryz.f6 false true false false) := by
  refine returnsInHanded_of_change (C := Tryz.checked) own started (by kernel_rfl) Tryz.func6
    (ChangeSpec.witness6 (enc := enc) (C := Tryz.checked) false ⟨#[], #[.slice none 0 0], []⟩ 8 (by kernel_rfl) (by kernel_rfl) (by kernel_rfl) (by kernel_rfl)) ?_
  intro W base args ds gs before hval0 hW hcnd _
  have hval : ∀ (j : Nat) t v, Tryz.f6.params[j]? = some t → args[j]? = some v → Value.okWide Tryz.prog W .any base t v := hval0
  have hW' := hW
  obtain ⟨p, q, hA0, hV, rfl, hfz, hnd⟩ := hW
  have hA : DataW.TrodAll enc Tryz.prog W 0 (fun _ => true) true Tryz.f6.params.toList args.toList ds p := hA0
  rw [Tryz.params6] at hA hval
  obtain ⟨v0, vs0, d0, ds0, p0, q0, hargs, rfl, rfl, h0, r0⟩ := trodAll_cons hA
  obtain ⟨rfl, rfl, rfl⟩ := trodAll_nil r0
  obtain rfl : args = #[v0] := by cases args; simp_all
  obtain ⟨rfl, rfl⟩ := trodVars_none hV
  have k0' := h0
  have lt0 : ∀ x ∈ p0, x.block < W.heap.size := by obtain ⟨m, hm⟩ := k0'; exact DataW.trod_lt m _ _ _ hm
  obtain ⟨a0, len0, cap0, rfl⟩ := okWide_slice Tryz.underlying22 (hval 0 22 v0 rfl rfl)
  obtain ⟨z0, w0⟩ := isRow_of_trod Tryz.underlying22 Tryz.underlying5 (by kernel_rfl) h0
  clear hA0 hval0
  refine (walk a0 len0 cap0 z0 W w0).mono fun e W' ⟨he, bel⟩ => ?_
  subst he
  exact ⟨_, rfl, _, _, _, [], _, [], hW', trodAll_mk1 (shut_bool Tryz.underlying4 _), (trodAll_cons_mk (Below.trod laidOut (by kernel_rfl) (of_decide_eq_true (by kernel_rfl)) k0' bel lt0) trodAll_mk0), rfl, bel.frame _, fun h => by cases h⟩

set_option maxRecDepth 100000 in
set_option maxHeartbeats 16000000 in
theorem facts : joinedFacts Tryz.checked.prog 6 Tryz.f6 Rows.fnRowOkSpec Rows.fnRowOkRow = true := by
  unfold joinedFacts
  repeat' (with_reducible refine Bool.and_eq_true_iff.2 ⟨?_, ?_⟩)
  all_goals (as_aux_lemma => kernel_rfl)

theorem over : Rows.fnRowOkRow.holds Tryz.pinned (OpenSpec.ofChange Rows.fnRowOkSpec) :=
  OpenClaim.holds_of_wide 6 Tryz.f6 rfl rfl rfl rfl rfl rfl rfl ⟨rfl, rfl, rfl, rfl, rfl⟩ rfl rfl rfl rfl rfl (by kernel_rfl) Tryz.func6 facts
    (of_decide_eq_true (by as_aux_lemma => kernel_rfl)) (by unfold Func.isWrapper; first | (rw [if_pos (by decide +kernel)]; kernel_rfl) | (rw [if_neg (by decide +kernel)]; exact ⟨rfl, rfl⟩))
    (fun os started H enc _ => lifted os started H enc)

theorem proved : Rows.FnRowOkSaid := over
#print axioms proved
end Go.Proofs.YtjhhamlnlalkoaaGreat.fnRowOk
