/-
  RowOk answers as the model at every table and row (law FnExactRowOk, for every input).
-/
import Derived.Test.YtlneglnbiacabaaGreatBase
import Derived.Test.YtlneglnbiacabaaGreatRowSpec
import Derived.Test.YtlneglnbiacabaaGreatTrod
import Derived.Test.YtlneglnbiacabaaGreatSz
namespace Go.Proofs.YtlneglnbiacabaaGreat.fnExactRowOk
open Go.ChangeShapes Go.WideShapes Go.ChangeAt Go.RowKit Go.Joins
open Go.ChangeMaps (open_string shut_string)
set_option linter.unusedVariables false

set_option maxRecDepth 100000 in
set_option maxHeartbeats 2000000 in
theorem walk (x0 : Tb) (A0_1 : Option Addr) (n0_1 c0_1 : Nat) (A0_2 : Option Addr) (n0_2 c0_2 : Nat) (A0_3 : Option Addr) (n0_3 c0_3 : Nat) (A0_4 : Option Addr) (n0_4 c0_4 : Nat) (A0_5 : Option Addr) (n0_5 c0_5 : Nat) (a1 : Option Addr) (len1 cap1 : Nat) (x1 : List Vl) (w : World) (w0 : (Sl ClR 6 (fun _ => True) w A0_1 n0_1 x0.cols ∧ Sl IntR 1 (fun _ => True) w A0_2 n0_2 x0.key ∧ Sl UqR 1 (fun _ => True) w A0_3 n0_3 x0.uniqs ∧ Sl CkR 1 (fun _ => True) w A0_4 n0_4 x0.checks ∧ Sl FkR 5 (fun _ => True) w A0_5 n0_5 x0.fks) ∧ x0.wf) (w1 : IsVals w a1 len1 x1) :
    Calls Tryz.prog 5 #[.agg #[.string x0.name, .slice A0_1 n0_1 c0_1, .slice A0_2 n0_2 c0_2, .slice A0_3 n0_3 c0_3, .slice A0_4 n0_4 c0_4, .slice A0_5 n0_5 c0_5], .slice a1 len1 cap1] w fun e w' => e = .returned (.bool true) ∧ Below w.heap.size w w' := by
  obtain ⟨⟨h0_1, h0_2, h0_3, h0_4, h0_5⟩, wf0⟩ := w0
  have WF0 := Lib.hid wf0
  clear wf0
  obtain ⟨h1, hl1, wf1⟩ := w1
  have h1 := Sl.of_cellz h1
  obtain rfl : x1.length = len1 := h1.1
  have WF1 := Lib.hid (And.intro hl1 wf1)
  clear hl1 wf1
  have rb0 := Row.new w 40 #[.string x0.name, .slice A0_1 n0_1 c0_1, .slice A0_2 n0_2 c0_2, .slice A0_3 n0_3 c0_3, .slice A0_4 n0_4 c0_4, .slice A0_5 n0_5 c0_5]
  have hb0 := ((Below.refl w.heap.size w).alloc (by first | exact Nat.le_refl _ | (simp; done) | (simp; omega)) (.cells #[.string x0.name, .slice A0_1 n0_1 c0_1, .slice A0_2 n0_2 c0_2, .slice A0_3 n0_3 c0_3, .slice A0_4 n0_4 c0_4, .slice A0_5 n0_5 c0_5] 40))
  go_enter Tryz.func5, Tryz.ntmps5
  go_wp2_with fail
  generalize (w.alloc (.cells #[.string x0.name, .slice A0_1 n0_1 c0_1, .slice A0_2 n0_2 c0_2, .slice A0_3 n0_3 c0_3, .slice A0_4 n0_4 c0_4, .slice A0_5 n0_5 c0_5] 40)) = z0 at *
  refine (lawsSzTable x0 A0_1 n0_1 c0_1 A0_2 n0_2 c0_2 A0_3 n0_3 c0_3 A0_4 n0_4 c0_4 A0_5 n0_5 c0_5 1048576 _ _ (h0_1.below ClR.stays hb0) (h0_2.below IntR.stays hb0) (h0_3.below UqR.stays hb0) (h0_4.below CkR.stays hb0) (h0_5.below FkR.stays hb0) WF0.out (by omega) (by omega)).mono ?_
  rintro e y1 ⟨rfl, hq1⟩
  have hbb1 := (hb0).trans (hq1.mono (hb0).size)
  have rb0 := rb0.below hq1
  obtain ⟨⟨krb0_0, krb0_1, krb0_2, krb0_3, krb0_4, krb0_5⟩, -⟩ := rb0.all6
  rcases szR_cases 1048576 (x0.sz) (by omega) with ⟨hno1, hv1⟩ | ⟨l1, hv1, -, h01, h11, hle1⟩
  · rw [hv1.out]
    go_wp2
    go_ret
    exact ⟨rfl, hbb1⟩
  rw [hv1.out]
  have S0 := Lib.hid (show x0.sz ≤ 1048576 by omega)
  clear hle1
  go_wp2_with fail
  refine (lawsSzValL a1 x1.length cap1 x1 l1 _ _ (h1.below VlR.stays hbb1) WF1.out (by omega) (by omega)).mono ?_
  rintro e y2 ⟨rfl, hq2⟩
  have hbb2 := (hbb1).trans (hq2.mono (hbb1).size)
  have rb0 := rb0.below hq2
  clear krb0_0 krb0_1 krb0_2 krb0_3 krb0_4 krb0_5
  obtain ⟨⟨krb0_0, krb0_1, krb0_2, krb0_3, krb0_4, krb0_5⟩, -⟩ := rb0.all6
  rcases szR_cases l1 (szL (fun v : Vl => v.s.size) x1) (by omega) with ⟨hno2, hv2⟩ | ⟨l2, hv2, -, h02, h12, hle2⟩
  · rw [hv2.out]
    go_wp2
    go_ret
    exact ⟨rfl, hbb2⟩
  rw [hv2.out]
  have S1 := Lib.hid (show szL (fun v : Vl => v.s.size) x1 ≤ 1048576 by omega)
  clear hle2
  go_wp2_with fail
  refine (lawsToTable x0 A0_1 n0_1 c0_1 A0_2 n0_2 c0_2 A0_3 n0_3 c0_3 A0_4 n0_4 c0_4 A0_5 n0_5 c0_5 _ _ (h0_1.below ClR.stays hbb2) (h0_2.below IntR.stays hbb2) (h0_3.below UqR.stays hbb2) (h0_4.below CkR.stays hbb2) (h0_5.below FkR.stays hbb2) S0.out).mono ?_
  rintro e y3 ⟨css0, rfl, hRs0, hq3⟩
  have hbb3 := (hbb2).trans (hq3.mono (hbb2).size)
  have rb0 := rb0.below hq3
  clear krb0_0 krb0_1 krb0_2 krb0_3 krb0_4 krb0_5
  obtain ⟨⟨krb0_0, krb0_1, krb0_2, krb0_3, krb0_4, krb0_5⟩, -⟩ := rb0.all6
  obtain ⟨Bs0_1, ms0_1, ds0_1, Bs0_2, ms0_2, ds0_2, Bs0_3, ms0_3, ds0_3, Bs0_4, ms0_4, ds0_4, Bs0_5, ms0_5, ds0_5, rfl, ts0_1, ts0_2, ts0_3, ts0_4, ts0_5, hcps0⟩ := hRs0
  go_wp2_with fail
  refine (lawsToValL a1 x1.length cap1 x1 _ _ (h1.below VlR.stays hbb3) S1.out).mono ?_
  rintro e y4 ⟨Bs1, ds1, rfl, hcps1, ts1, hq4⟩
  have hbb4 := (hbb3).trans (hq4.mono (hbb3).size)
  have rb0 := rb0.below hq4
  have ts0_1 := ts0_1.below ClR.stays hq4
  have ts0_2 := ts0_2.below IntR.stays hq4
  have ts0_3 := ts0_3.below UqR.stays hq4
  have ts0_4 := ts0_4.below CkR.stays hq4
  have ts0_5 := ts0_5.below FkR.stays hq4
  clear krb0_0 krb0_1 krb0_2 krb0_3 krb0_4 krb0_5
  obtain ⟨⟨krb0_0, krb0_1, krb0_2, krb0_3, krb0_4, krb0_5⟩, -⟩ := rb0.all6
  go_wp2_with fail
  refine (specRowOk x0 Bs0_1 ms0_1 ds0_1 Bs0_2 ms0_2 ds0_2 Bs0_3 ms0_3 ds0_3 Bs0_4 ms0_4 ds0_4 Bs0_5 ms0_5 ds0_5 Bs1 x1.length ds1 x1 _ _ ts0_1 ts0_2 ts0_3 ts0_4 ts0_5 (Sl.cellz (fun _ => rfl) ts1) hcps0 S0.out (by have := S1.out; unfold szL at this; omega)).mono ?_
  rintro e y5 ⟨rfl, hq5⟩
  have hbb5 := (hbb4).trans (hq5.mono (hbb4).size)
  have rb0 := rb0.below hq5
  have ts0_1 := ts0_1.below ClR.stays hq5
  have ts0_2 := ts0_2.below IntR.stays hq5
  have ts0_3 := ts0_3.below UqR.stays hq5
  have ts0_4 := ts0_4.below CkR.stays hq5
  have ts0_5 := ts0_5.below FkR.stays hq5
  have ts1 := ts1.below VlR.stays hq5
  clear krb0_0 krb0_1 krb0_2 krb0_3 krb0_4 krb0_5
  obtain ⟨⟨krb0_0, krb0_1, krb0_2, krb0_3, krb0_4, krb0_5⟩, -⟩ := rb0.all6
  clear ts0_1 ts0_2 ts0_3 ts0_4 ts0_5 ts1
  go_wp2_with fail
  refine (lawsToTable x0 A0_1 n0_1 c0_1 A0_2 n0_2 c0_2 A0_3 n0_3 c0_3 A0_4 n0_4 c0_4 A0_5 n0_5 c0_5 _ _ (h0_1.below ClR.stays hbb5) (h0_2.below IntR.stays hbb5) (h0_3.below UqR.stays hbb5) (h0_4.below CkR.stays hbb5) (h0_5.below FkR.stays hbb5) S0.out).mono ?_
  rintro e y6 ⟨csx0, rfl, hRx0, hq6⟩
  have hbb6 := (hbb5).trans (hq6.mono (hbb5).size)
  have rb0 := rb0.below hq6
  clear krb0_0 krb0_1 krb0_2 krb0_3 krb0_4 krb0_5
  obtain ⟨⟨krb0_0, krb0_1, krb0_2, krb0_3, krb0_4, krb0_5⟩, -⟩ := rb0.all6
  obtain ⟨Bx0_1, mx0_1, dx0_1, Bx0_2, mx0_2, dx0_2, Bx0_3, mx0_3, dx0_3, Bx0_4, mx0_4, dx0_4, Bx0_5, mx0_5, dx0_5, rfl, tx0_1, tx0_2, tx0_3, tx0_4, tx0_5, hcpx0⟩ := hRx0
  have tx0_1 := tx0_1.below ClR.stays ((Below.refl _ y6).alloc (Nat.le_refl _) (.cells #[.string x0.name, .slice Bx0_1 mx0_1 dx0_1, .slice Bx0_2 mx0_2 dx0_2, .slice Bx0_3 mx0_3 dx0_3, .slice Bx0_4 mx0_4 dx0_4, .slice Bx0_5 mx0_5 dx0_5] 50))
  have tx0_2 := tx0_2.below IntR.stays ((Below.refl _ y6).alloc (Nat.le_refl _) (.cells #[.string x0.name, .slice Bx0_1 mx0_1 dx0_1, .slice Bx0_2 mx0_2 dx0_2, .slice Bx0_3 mx0_3 dx0_3, .slice Bx0_4 mx0_4 dx0_4, .slice Bx0_5 mx0_5 dx0_5] 50))
  have tx0_3 := tx0_3.below UqR.stays ((Below.refl _ y6).alloc (Nat.le_refl _) (.cells #[.string x0.name, .slice Bx0_1 mx0_1 dx0_1, .slice Bx0_2 mx0_2 dx0_2, .slice Bx0_3 mx0_3 dx0_3, .slice Bx0_4 mx0_4 dx0_4, .slice Bx0_5 mx0_5 dx0_5] 50))
  have tx0_4 := tx0_4.below CkR.stays ((Below.refl _ y6).alloc (Nat.le_refl _) (.cells #[.string x0.name, .slice Bx0_1 mx0_1 dx0_1, .slice Bx0_2 mx0_2 dx0_2, .slice Bx0_3 mx0_3 dx0_3, .slice Bx0_4 mx0_4 dx0_4, .slice Bx0_5 mx0_5 dx0_5] 50))
  have tx0_5 := tx0_5.below FkR.stays ((Below.refl _ y6).alloc (Nat.le_refl _) (.cells #[.string x0.name, .slice Bx0_1 mx0_1 dx0_1, .slice Bx0_2 mx0_2 dx0_2, .slice Bx0_3 mx0_3 dx0_3, .slice Bx0_4 mx0_4 dx0_4, .slice Bx0_5 mx0_5 dx0_5] 50))
  have rb0 := rb0.below ((Below.refl _ y6).alloc (Nat.le_refl _) (.cells #[.string x0.name, .slice Bx0_1 mx0_1 dx0_1, .slice Bx0_2 mx0_2 dx0_2, .slice Bx0_3 mx0_3 dx0_3, .slice Bx0_4 mx0_4 dx0_4, .slice Bx0_5 mx0_5 dx0_5] 50))
  have rx0 := Row.new y6 50 #[.string x0.name, .slice Bx0_1 mx0_1 dx0_1, .slice Bx0_2 mx0_2 dx0_2, .slice Bx0_3 mx0_3 dx0_3, .slice Bx0_4 mx0_4 dx0_4, .slice Bx0_5 mx0_5 dx0_5]
  have hz0 := hbb6.alloc hbb6.size (.cells #[.string x0.name, .slice Bx0_1 mx0_1 dx0_1, .slice Bx0_2 mx0_2 dx0_2, .slice Bx0_3 mx0_3 dx0_3, .slice Bx0_4 mx0_4 dx0_4, .slice Bx0_5 mx0_5 dx0_5] 50)
  go_wp2_with fail
  generalize y6.alloc (.cells #[.string x0.name, .slice Bx0_1 mx0_1 dx0_1, .slice Bx0_2 mx0_2 dx0_2, .slice Bx0_3 mx0_3 dx0_3, .slice Bx0_4 mx0_4 dx0_4, .slice Bx0_5 mx0_5 dx0_5] 50) = z1 at *
  generalize y6.heap.size = gz1 at *
  refine (lawsToValL a1 x1.length cap1 x1 _ _ (h1.below VlR.stays hz0) S1.out).mono ?_
  rintro e y7 ⟨Bx1, dx1, rfl, hcpx1, tx1, hq7⟩
  have hbb7 := (hz0).trans (hq7.mono (hz0).size)
  have rb0 := rb0.below hq7
  have rx0 := rx0.below hq7
  have tx0_1 := tx0_1.below ClR.stays hq7
  have tx0_2 := tx0_2.below IntR.stays hq7
  have tx0_3 := tx0_3.below UqR.stays hq7
  have tx0_4 := tx0_4.below CkR.stays hq7
  have tx0_5 := tx0_5.below FkR.stays hq7
  clear krb0_0 krb0_1 krb0_2 krb0_3 krb0_4 krb0_5
  obtain ⟨⟨krb0_0, krb0_1, krb0_2, krb0_3, krb0_4, krb0_5⟩, -⟩ := rb0.all6
  obtain ⟨⟨krx0_0, krx0_1, krx0_2, krx0_3, krx0_4, krx0_5⟩, -⟩ := rx0.all6
  go_wp2_with fail
  refine (implRowOk x0 Bx0_1 mx0_1 dx0_1 Bx0_2 mx0_2 dx0_2 Bx0_3 mx0_3 dx0_3 Bx0_4 mx0_4 dx0_4 Bx0_5 mx0_5 dx0_5 Bx1 x1.length dx1 x1 _ _ tx0_1 tx0_2 tx0_3 tx0_4 tx0_5 (Sl.cellz (fun _ => rfl) tx1) S0.out (by have := S1.out; unfold szL at this; omega)).mono ?_
  rintro e y8 ⟨rfl, hq8⟩
  have hbb8 := (hbb7).trans (hq8.mono (hbb7).size)
  have rb0 := rb0.below hq8
  have rx0 := rx0.below hq8
  have tx0_1 := tx0_1.below ClR.stays hq8
  have tx0_2 := tx0_2.below IntR.stays hq8
  have tx0_3 := tx0_3.below UqR.stays hq8
  have tx0_4 := tx0_4.below CkR.stays hq8
  have tx0_5 := tx0_5.below FkR.stays hq8
  have tx1 := tx1.below VlR.stays hq8
  clear krb0_0 krb0_1 krb0_2 krb0_3 krb0_4 krb0_5 krx0_0 krx0_1 krx0_2 krx0_3 krx0_4 krx0_5
  obtain ⟨⟨krb0_0, krb0_1, krb0_2, krb0_3, krb0_4, krb0_5⟩, -⟩ := rb0.all6
  obtain ⟨⟨krx0_0, krx0_1, krx0_2, krx0_3, krx0_4, krx0_5⟩, -⟩ := rx0.all6
  go_wp2_with fail
  have tx0_1 := tx0_1.drew ClR.stays
  have tx0_2 := tx0_2.drew IntR.stays
  have tx0_3 := tx0_3.drew UqR.stays
  have tx0_4 := tx0_4.drew CkR.stays
  have tx0_5 := tx0_5.drew FkR.stays
  have tx1 := tx1.drew VlR.stays
  have rb0 := rb0.drew
  have rx0 := rx0.drew
  have hbd0 := (hbb8).drew
  go_region_held3 (fun w' => w'.cell? ⟨gz1, 0, none⟩ = some (.string x0.name) ∧ w'.cell? ⟨gz1, 1, none⟩ = some (.slice Bx0_1 mx0_1 dx0_1) ∧ w'.cell? ⟨gz1, 2, none⟩ = some (.slice Bx0_2 mx0_2 dx0_2) ∧ w'.cell? ⟨gz1, 3, none⟩ = some (.slice Bx0_3 mx0_3 dx0_3) ∧ w'.cell? ⟨gz1, 4, none⟩ = some (.slice Bx0_4 mx0_4 dx0_4) ∧ w'.cell? ⟨gz1, 5, none⟩ = some (.slice Bx0_5 mx0_5 dx0_5) ∧ w'.cell? ⟨w.heap.size, 0, none⟩ = some (.string x0.name) ∧ w'.cell? ⟨w.heap.size, 1, none⟩ = some (.slice A0_1 n0_1 c0_1) ∧ w'.cell? ⟨w.heap.size, 2, none⟩ = some (.slice A0_2 n0_2 c0_2) ∧ w'.cell? ⟨w.heap.size, 3, none⟩ = some (.slice A0_3 n0_3 c0_3) ∧ w'.cell? ⟨w.heap.size, 4, none⟩ = some (.slice A0_4 n0_4 c0_4) ∧ w'.cell? ⟨w.heap.size, 5, none⟩ = some (.slice A0_5 n0_5 c0_5))
    (first | go_keep | exact keepE12 (by assumption) hqB0 | exact keepE12 (by assumption) hqA0)
    (first | (go_at_call 26; refine (lawsToTable x0 A0_1 n0_1 c0_1 A0_2 n0_2 c0_2 A0_3 n0_3 c0_3 A0_4 n0_4 c0_4 A0_5 n0_5 c0_5 _ _ (h0_1.below ClR.stays hbd0) (h0_2.below IntR.stays hbd0) (h0_3.below UqR.stays hbd0) (h0_4.below CkR.stays hbd0) (h0_5.below FkR.stays hbd0) S0.out).mono ?_; rintro e yA0 ⟨cse0, rfl, hRe0, hqA0⟩; obtain ⟨Be0_1, me0_1, de0_1, Be0_2, me0_2, de0_2, Be0_3, me0_3, de0_3, Be0_4, me0_4, de0_4, Be0_5, me0_5, de0_5, rfl, te0_1, te0_2, te0_3, te0_4, te0_5, -⟩ := hRe0; obtain ⟨rfl, rfl, rfl, rfl, rfl⟩ : mx0_1 = me0_1 ∧ mx0_2 = me0_2 ∧ mx0_3 = me0_3 ∧ mx0_4 = me0_4 ∧ mx0_5 = me0_5 := ⟨tx0_1.1.symm.trans te0_1.1, tx0_2.1.symm.trans te0_2.1, tx0_3.1.symm.trans te0_3.1, tx0_4.1.symm.trans te0_4.1, tx0_5.1.symm.trans te0_5.1⟩) | (go_at_call 29; refine (lawsEqTable x0 Bx0_1 Be0_1 mx0_1 dx0_1 de0_1 Bx0_2 Be0_2 mx0_2 dx0_2 de0_2 Bx0_3 Be0_3 mx0_3 dx0_3 de0_3 Bx0_4 Be0_4 mx0_4 dx0_4 de0_4 Bx0_5 Be0_5 mx0_5 dx0_5 de0_5 _ _ _ (tx0_1.below ClR.stays hqA0) (tx0_2.below IntR.stays hqA0) (tx0_3.below UqR.stays hqA0) (tx0_4.below CkR.stays hqA0) (tx0_5.below FkR.stays hqA0) te0_1 te0_2 te0_3 te0_4 te0_5 S0.out).mono ?_; rintro e yB0 ⟨rfl, hqB0⟩))
  have hbe0 := ((hbd0).trans (hqA0.mono (hbd0).size))
  have hbf0 := hbe0.trans (hqB0.mono hbe0.size)
  have tx0_1 := (tx0_1.below ClR.stays hqA0).below ClR.stays hqB0
  have tx0_2 := (tx0_2.below IntR.stays hqA0).below IntR.stays hqB0
  have tx0_3 := (tx0_3.below UqR.stays hqA0).below UqR.stays hqB0
  have tx0_4 := (tx0_4.below CkR.stays hqA0).below CkR.stays hqB0
  have tx0_5 := (tx0_5.below FkR.stays hqA0).below FkR.stays hqB0
  have tx1 := (tx1.below VlR.stays hqA0).below VlR.stays hqB0
  have rb0 := (rb0.below hqA0).below hqB0
  have rx0 := (rx0.below hqA0).below hqB0
  clear krb0_0 krb0_1 krb0_2 krb0_3 krb0_4 krb0_5 krx0_0 krx0_1 krx0_2 krx0_3 krx0_4 krx0_5
  obtain ⟨⟨krb0_0, krb0_1, krb0_2, krb0_3, krb0_4, krb0_5⟩, -⟩ := rb0.all6
  obtain ⟨⟨krx0_0, krx0_1, krx0_2, krx0_3, krx0_4, krx0_5⟩, -⟩ := rx0.all6
  go_wp2_with fail
  refine (lawsToValL a1 x1.length cap1 x1 _ _ (h1.below VlR.stays hbf0) S1.out).mono ?_
  rintro e y9 ⟨Be1, de1, rfl, -, te1, hq9⟩
  have hbb9 := (hbf0).trans (hq9.mono (hbf0).size)
  have rb0 := rb0.below hq9
  have rx0 := rx0.below hq9
  have tx0_1 := tx0_1.below ClR.stays hq9
  have tx0_2 := tx0_2.below IntR.stays hq9
  have tx0_3 := tx0_3.below UqR.stays hq9
  have tx0_4 := tx0_4.below CkR.stays hq9
  have tx0_5 := tx0_5.below FkR.stays hq9
  have tx1 := tx1.below VlR.stays hq9
  clear krb0_0 krb0_1 krb0_2 krb0_3 krb0_4 krb0_5 krx0_0 krx0_1 krx0_2 krx0_3 krx0_4 krx0_5
  obtain ⟨⟨krb0_0, krb0_1, krb0_2, krb0_3, krb0_4, krb0_5⟩, -⟩ := rb0.all6
  obtain ⟨⟨krx0_0, krx0_1, krx0_2, krx0_3, krx0_4, krx0_5⟩, -⟩ := rx0.all6
  go_wp2_with fail
  refine (lawsEqValL _ _ _ _ _ x1 _ _ _ tx1 te1 S1.out).mono ?_
  rintro e y10 ⟨rfl, hq10⟩
  have hbb10 := (hbb9).trans (hq10.mono (hbb9).size)
  have rb0 := rb0.below hq10
  have rx0 := rx0.below hq10
  have tx0_1 := tx0_1.below ClR.stays hq10
  have tx0_2 := tx0_2.below IntR.stays hq10
  have tx0_3 := tx0_3.below UqR.stays hq10
  have tx0_4 := tx0_4.below CkR.stays hq10
  have tx0_5 := tx0_5.below FkR.stays hq10
  have tx1 := tx1.below VlR.stays hq10
  clear krb0_0 krb0_1 krb0_2 krb0_3 krb0_4 krb0_5 krx0_0 krx0_1 krx0_2 krx0_3 krx0_4 krx0_5
  obtain ⟨⟨krb0_0, krb0_1, krb0_2, krb0_3, krb0_4, krb0_5⟩, -⟩ := rb0.all6
  obtain ⟨⟨krx0_0, krx0_1, krx0_2, krx0_3, krx0_4, krx0_5⟩, -⟩ := rx0.all6
  go_wp2_with fail
  go_ret
  exact ⟨rfl, hbb10⟩

set_option maxRecDepth 100000 in
theorem lifted (os : Os) (started : os.Started) (H : Type) (enc : TypeId × Value → H) :
    ReturnsInHanded {} Tryz.checked os 5 .any (Rows.fnExactRowOkSpec.pre6 enc Tryz.prog Tryz.f5 Rows.fnExactRowOkRow.domain false) (Rows.fnExactRowOkSpec.post enc Tryz.prog Tryz.f5 false true false false) := by
  refine returnsInHanded_of_change (C := Tryz.checked) own started (by kernel_rfl) Tryz.func5
    (ChangeSpec.witness6 (enc := enc) (C := Tryz.checked) false ⟨#[], #[.agg #[.string ⟨#[]⟩, .slice none 0 0, .slice none 0 0, .slice none 0 0, .slice none 0 0, .slice none 0 0], .slice none 0 0], []⟩ 8 (by kernel_rfl) (by kernel_rfl) (by kernel_rfl) (by kernel_rfl)) ?_
  intro W base args ds gs before hval0 hW hcnd _
  have hval : ∀ (j : Nat) t v, Tryz.f5.params[j]? = some t → args[j]? = some v → Value.okWide Tryz.prog W .any base t v := hval0
  have hW' := hW
  obtain ⟨p, q, hA0, hV, rfl, hfz, hnd⟩ := hW
  have hA : DataW.TrodAll enc Tryz.prog W 0 (fun _ => true) true Tryz.f5.params.toList args.toList ds p := hA0
  rw [Tryz.params5] at hA hval
  obtain ⟨v0, vs0, d0, ds0, p0, q0, hargs, rfl, rfl, h0, r0⟩ := trodAll_cons hA
  obtain ⟨v1, vs1, d1, ds1, p1, q1, rfl, rfl, rfl, h1, r1⟩ := trodAll_cons r0
  obtain ⟨rfl, rfl, rfl⟩ := trodAll_nil r1
  obtain rfl : args = #[v0, v1] := by cases args; simp_all
  obtain ⟨rfl, rfl⟩ := trodVars_none hV
  have k0' := h0
  have lt0 : ∀ x ∈ p0, x.block < W.heap.size := by obtain ⟨m, hm⟩ := k0'; exact DataW.trod_lt m _ _ _ hm
  have k1' := h1
  have lt1 : ∀ x ∈ p1, x.block < W.heap.size := by obtain ⟨m, hm⟩ := k1'; exact DataW.trod_lt m _ _ _ hm
  obtain ⟨cs0, rfl, hsz0⟩ := okWide_struct Tryz.underlying40 (hval 0 40 v0 rfl rfl)
  obtain ⟨x0, hx0, wf0⟩ := (by obtain ⟨m, hm⟩ := h0; exact Table_of_trod (by simpa [Value.cells] using hm) : ∃ d, TbR (fun _ => True) W cs0.toList d ∧ d.wf)
  obtain ⟨A0_1, n0_1, c0_1, A0_2, n0_2, c0_2, A0_3, n0_3, c0_3, A0_4, n0_4, c0_4, A0_5, n0_5, c0_5, ecs0, s0_1, s0_2, s0_3, s0_4, s0_5, -⟩ := hx0
  obtain rfl : cs0 = #[.string x0.name, .slice A0_1 n0_1 c0_1, .slice A0_2 n0_2 c0_2, .slice A0_3 n0_3 c0_3, .slice A0_4 n0_4 c0_4, .slice A0_5 n0_5 c0_5] := by cases cs0; simp_all
  obtain ⟨a1, len1, cap1, rfl⟩ := okWide_slice Tryz.underlying41 (hval 1 41 v1 rfl rfl)
  obtain ⟨x1, w1⟩ := vals_of_trod h1
  clear hA0 hval0
  refine (walk x0 A0_1 n0_1 c0_1 A0_2 n0_2 c0_2 A0_3 n0_3 c0_3 A0_4 n0_4 c0_4 A0_5 n0_5 c0_5 a1 len1 cap1 x1 W ⟨⟨s0_1, s0_2, s0_3, s0_4, s0_5⟩, wf0⟩ w1).mono fun e W' ⟨he, bel⟩ => ?_
  subst he
  exact ⟨_, rfl, _, _, _, [], _, [], hW', trodAll_mk1 (shut_bool Tryz.underlying4 _), (trodAll_cons_mk (Below.trod laidOut (by kernel_rfl) (of_decide_eq_true (by kernel_rfl)) k0' bel lt0) (trodAll_cons_mk (Below.trod laidOut (by kernel_rfl) (of_decide_eq_true (by kernel_rfl)) k1' bel lt1) trodAll_mk0)), rfl, bel.frame _, fun h => by cases h⟩

theorem over : Rows.fnExactRowOkRow.holds Tryz.pinned (OpenSpec.ofChange Rows.fnExactRowOkSpec) :=
  OpenClaim.holds_of_wide 5 Tryz.f5 rfl rfl rfl rfl rfl rfl rfl ⟨rfl, rfl, rfl, rfl, rfl⟩ rfl rfl rfl rfl rfl (by kernel_rfl) Tryz.func5 (by kernel_rfl)
    (of_decide_eq_true (by kernel_rfl)) (by unfold Func.isWrapper; first | (rw [if_pos (by decide +kernel)]; kernel_rfl) | (rw [if_neg (by decide +kernel)]; exact ⟨rfl, rfl⟩))
    (fun os started H enc _ => lifted os started H enc)

theorem proved : Rows.FnExactRowOkSaid := over
#print axioms proved
end Go.Proofs.YtlneglnbiacabaaGreat.fnExactRowOk
