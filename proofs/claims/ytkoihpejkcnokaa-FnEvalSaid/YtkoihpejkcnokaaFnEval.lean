/-
  An expression of which both are, with an op behind, is that op of both; what is right has one value at most (law FnEval, for every code).
-/
import Derived.Test.YtkoihpejkcnokaaBase
import Derived.Test.YtkoihpejkcnokaaDrawExpr4
import Derived.Test.YtkoihpejkcnokaaEvalOps
import Derived.Deep.Cut
namespace Go.Proofs.Ytkoihpejkcnokaa.fnEval
open Go.ChangeShapes Go.WideShapes Go.ChangeAt Go.RowKit Go.Joins
open Go.ChangeMaps (open_string shut_string)
set_option linter.unusedVariables false

set_option maxRecDepth 100000 in
set_option maxHeartbeats 8000000 in
theorem walk (a0 : Option Addr) (len0 cap0 : Nat) (z0 : List Int) (w : World) (w0 : IsRow .u8 w a0 len0 cap0 z0) :
    Calls Try.prog 5 #[.slice a0 len0 cap0] w fun e w' => e = .returned (.bool true) ∧ Below w.heap.size w w' := by
  by_cases hbig : (1048576 : Int) < len0
  · have hbg : decide ((1048576 : Int) < len0) = true := by simpa using hbig
    go_enter Try.func5, Try.ntmps5
    go_wp2_with fail
    refine (lawsBig a0 len0 cap0 w).mono ?_
    rintro e w' ⟨rfl, rfl⟩
    go_wp2
    go_ret
    exact ⟨rfl, Below.refl _ _⟩
  have hbg : decide ((1048576 : Int) < len0) = false := by simpa using hbig
  obtain ⟨i0, hi', hz0, hz1, hz2⟩ := info_parts infoTokD
  have H1 := Lib.hid hi'
  have H2 := Lib.hid hz0
  have H3 := Lib.hid hz1
  have H4 := Lib.hid hz2
  clear hi' hz0 hz1 hz2 hbig
  go_enter Try.func5, Try.ntmps5
  go_wp2_with fail
  refine (lawsBig a0 len0 cap0 w).mono ?_
  rintro e w' ⟨rfl, rfl⟩
  go_wp2_with fail
  refine (drawEval a0 len0 cap0 z0 _ w0).mono ?_
  rintro e w1 ⟨v, rfl, ⟨x, y, rfl, ⟨ts, hts, hl, hp⟩, ⟨xs, hxs, hxl⟩⟩, hb1⟩
  obtain ⟨g1, cap1, rfl, hg1, hg1', hsrc⟩ := OwnG.src hts (by omega)
  obtain ⟨AT, cT, eT, -, -, hslT⟩ := OwnG.sl (f := Tk.cells) (sz := 5) (fun _ => rfl) hts
  obtain ⟨rfl, rfl⟩ : some (⟨g1, 0, none⟩ : Addr) = AT ∧ cap1 = cT := by simpa using eT
  obtain ⟨AR, cR, rfl, hcR, hcm, hslR⟩ := OwnG.sl (f := Vl.cells) (sz := 3) (fun _ => rfl) hxs
  have HT := Lib.hid hslT
  have HR := Lib.hid hslR
  have HSRC : Hid (SrcT w1 g1 ts) := Lib.hid hsrc
  obtain ⟨vv, hvv⟩ : ∃ v, (evalB ts xs).getD Vl.zero = v := ⟨_, rfl⟩
  obtain ⟨bb, hbb⟩ : ∃ b, (evalB ts xs).isSome = b := ⟨_, rfl⟩
  have HVV := Lib.hid hvv
  have HBB := Lib.hid hbb
  clear hts hxs hslT hslR hsrc eT hvv hbb hg1 hcR hcm
  go_wp2_with fail
  refine (implEval (some ⟨g1, 0, none⟩) AR ts.length xs.length cap1 cR ts xs _ (Sl.cellz (fun _ => rfl) HT.out) (Sl.cellz (fun _ => rfl) HR.out) (by unfold maxLen; omega) (by unfold maxLen; omega)).mono ?_
  rintro e y101 ⟨rfl, hq101⟩
  have HT := Lib.hid (Sl.below (FlatR.stays _) HT.out hq101)
  have HR := Lib.hid (Sl.below (FlatR.stays _) HR.out hq101)
  have HSRC := Lib.hid (SrcT.below HSRC.out hq101)
  have hz_y101 := (hb1).trans ((hq101).mono (hb1).size)
  rw [HVV.out, HBB.out]
  have RB_v := Lib.hid (Row.new y101 30 #[.int .i64 vv.k, .int .i64 vv.n, .string vv.s])
  have hx_v := (Below.refl y101.heap.size y101).alloc (Nat.le_refl _) (.cells #[.int .i64 vv.k, .int .i64 vv.n, .string vv.s] 30)
  go_wp2_with fail
  generalize y101.alloc (.cells #[.int .i64 vv.k, .int .i64 vv.n, .string vv.s] 30) = zb_v at *
  have HT := Lib.hid (Sl.below (FlatR.stays _) HT.out hx_v)
  have HR := Lib.hid (Sl.below (FlatR.stays _) HR.out hx_v)
  have HSRC := Lib.hid (SrcT.below HSRC.out hx_v)
  have hz_zb_v := (hz_y101).trans ((hx_v).mono (hz_y101).size)
  refine (specEval (some ⟨g1, 0, none⟩) AR ts.length xs.length cap1 cR ts xs _ (Sl.cellz (fun _ => rfl) HT.out) (Sl.cellz (fun _ => rfl) HR.out) (by unfold maxLen; omega) (by unfold maxLen; omega)).mono ?_
  rintro e y102 ⟨rfl, hq102⟩
  have RB_v := Lib.hid (RB_v.out.below hq102)
  have HT := Lib.hid (Sl.below (FlatR.stays _) HT.out hq102)
  have HR := Lib.hid (Sl.below (FlatR.stays _) HR.out hq102)
  have HSRC := Lib.hid (SrcT.below HSRC.out hq102)
  have hz_y102 := (hz_zb_v).trans ((hq102).mono (hz_zb_v).size)
  rw [HVV.out, HBB.out]
  have RB_w := Lib.hid (Row.new y102 30 #[.int .i64 vv.k, .int .i64 vv.n, .string vv.s])
  have hx_w := (Below.refl y102.heap.size y102).alloc (Nat.le_refl _) (.cells #[.int .i64 vv.k, .int .i64 vv.n, .string vv.s] 30)
  go_wp2_with fail
  generalize y102.alloc (.cells #[.int .i64 vv.k, .int .i64 vv.n, .string vv.s] 30) = zb_w at *
  have RB_v := Lib.hid (RB_v.out.below hx_w)
  have HT := Lib.hid (Sl.below (FlatR.stays _) HT.out hx_w)
  have HR := Lib.hid (Sl.below (FlatR.stays _) HR.out hx_w)
  have HSRC := Lib.hid (SrcT.below HSRC.out hx_w)
  have hz_zb_w := (hz_y102).trans ((hx_w).mono (hz_y102).size)
  refine (drawExprOk a0 len0 cap0 z0 _ (w0.below hz_zb_w)).mono ?_
  rintro e y103 ⟨v5, rfl, ⟨x5, n5, rfl, ⟨fs, hfs, hfl, hfp⟩⟩, hq103⟩
  have RB_v := Lib.hid (RB_v.out.below hq103)
  have RB_w := Lib.hid (RB_w.out.below hq103)
  have HT := Lib.hid (Sl.below (FlatR.stays _) HT.out hq103)
  have HR := Lib.hid (Sl.below (FlatR.stays _) HR.out hq103)
  have HSRC := Lib.hid (SrcT.below HSRC.out hq103)
  have hz_y103 := (hz_zb_w).trans ((hq103).mono (hz_zb_w).size)
  obtain ⟨AF, cF, rfl, -, -, hslF⟩ := OwnG.sl (f := Tk.cells) (sz := 5) (fun _ => rfl) hfs
  have HF := Lib.hid hslF
  obtain ⟨xb, hxb⟩ : ∃ x, exprB fs n5 = x := ⟨_, rfl⟩
  have HXB := Lib.hid hxb
  clear hfs hslF hxb
  go_wp2_with fail
  refine (drawExprText a0 len0 cap0 z0 _ (w0.below hz_y103)).mono ?_
  rintro e y104 ⟨v6, rfl, ⟨gs, hgs, hgl, hgp⟩, hq104⟩
  have RB_v := Lib.hid (RB_v.out.below hq104)
  have RB_w := Lib.hid (RB_w.out.below hq104)
  have HT := Lib.hid (Sl.below (FlatR.stays _) HT.out hq104)
  have HR := Lib.hid (Sl.below (FlatR.stays _) HR.out hq104)
  have HSRC := Lib.hid (SrcT.below HSRC.out hq104)
  have HF := Lib.hid (Sl.below (FlatR.stays _) HF.out hq104)
  have hz_y104 := (hz_y103).trans ((hq104).mono (hz_y103).size)
  obtain ⟨g3, cap3, rfl, -, -, hsrc3⟩ := OwnG.src hgs (by omega)
  obtain ⟨AG, cG, eG, -, -, hslG⟩ := OwnG.sl (f := Tk.cells) (sz := 5) (fun _ => rfl) hgs
  obtain ⟨rfl, rfl⟩ : some (⟨g3, 0, none⟩ : Addr) = AG ∧ cap3 = cG := by simpa using eG
  have HG := Lib.hid hslG
  have HSRC3 : Hid (SrcT y104 g3 gs) := Lib.hid hsrc3
  obtain ⟨uu, huu⟩ : ∃ v, (evalB gs xs).getD Vl.zero = v := ⟨_, rfl⟩
  obtain ⟨cb, hcb⟩ : ∃ b, (evalB gs xs).isSome = b := ⟨_, rfl⟩
  have HUU := Lib.hid huu
  have HCB := Lib.hid hcb
  clear hgs hslG hsrc3 eG huu hcb
  obtain ⟨⟨k0_v, k1_v, k2_v⟩, -⟩ := RB_v.out.three
  obtain ⟨⟨k0_w, k1_w, k2_w⟩, -⟩ := RB_w.out.three
  cases bb
  case false =>
    go_wp2_with fail
    refine (implExprOk AF fs.length cF fs n5 _ (Sl.cellz (fun _ => rfl) HF.out) (by unfold maxLen; omega)).mono ?_
    rintro e y105 ⟨rfl, hq105⟩
    have RB_v := Lib.hid (RB_v.out.below hq105)
    have RB_w := Lib.hid (RB_w.out.below hq105)
    have HT := Lib.hid (Sl.below (FlatR.stays _) HT.out hq105)
    have HR := Lib.hid (Sl.below (FlatR.stays _) HR.out hq105)
    have HSRC := Lib.hid (SrcT.below HSRC.out hq105)
    have HF := Lib.hid (Sl.below (FlatR.stays _) HF.out hq105)
    have HG := Lib.hid (Sl.below (FlatR.stays _) HG.out hq105)
    have HSRC3 := Lib.hid (SrcT.below HSRC3.out hq105)
    have hz_y105 := (hz_y104).trans ((hq105).mono (hz_y104).size)
    rw [HXB.out]
    go_wp2_with fail
    refine (specExprOk AF fs.length cF fs n5 _ (Sl.cellz (fun _ => rfl) HF.out) (by unfold maxLen; omega)).mono ?_
    rintro e y106 ⟨rfl, hq106⟩
    have RB_v := Lib.hid (RB_v.out.below hq106)
    have RB_w := Lib.hid (RB_w.out.below hq106)
    have HT := Lib.hid (Sl.below (FlatR.stays _) HT.out hq106)
    have HR := Lib.hid (Sl.below (FlatR.stays _) HR.out hq106)
    have HSRC := Lib.hid (SrcT.below HSRC.out hq106)
    have HF := Lib.hid (Sl.below (FlatR.stays _) HF.out hq106)
    have HG := Lib.hid (Sl.below (FlatR.stays _) HG.out hq106)
    have HSRC3 := Lib.hid (SrcT.below HSRC3.out hq106)
    have hz_y106 := (hz_y105).trans ((hq106).mono (hz_y105).size)
    rw [HXB.out]
    clear k0_v k1_v k2_v k0_w k1_w k2_w
    obtain ⟨⟨k0_v, k1_v, k2_v⟩, -⟩ := RB_v.out.three
    obtain ⟨⟨k0_w, k1_w, k2_w⟩, -⟩ := RB_w.out.three
    go_wp2_with fail
    refine (implExprOk AF fs.length cF fs n5 _ (Sl.cellz (fun _ => rfl) HF.out) (by unfold maxLen; omega)).mono ?_
    rintro e y107 ⟨rfl, hq107⟩
    have RB_v := Lib.hid (RB_v.out.below hq107)
    have RB_w := Lib.hid (RB_w.out.below hq107)
    have HT := Lib.hid (Sl.below (FlatR.stays _) HT.out hq107)
    have HR := Lib.hid (Sl.below (FlatR.stays _) HR.out hq107)
    have HSRC := Lib.hid (SrcT.below HSRC.out hq107)
    have HF := Lib.hid (Sl.below (FlatR.stays _) HF.out hq107)
    have HG := Lib.hid (Sl.below (FlatR.stays _) HG.out hq107)
    have HSRC3 := Lib.hid (SrcT.below HSRC3.out hq107)
    have hz_y107 := (hz_y106).trans ((hq107).mono (hz_y106).size)
    rw [HXB.out]
    go_wp2_with fail
    refine (specExprOk AF fs.length cF fs n5 _ (Sl.cellz (fun _ => rfl) HF.out) (by unfold maxLen; omega)).mono ?_
    rintro e y108 ⟨rfl, hq108⟩
    have RB_v := Lib.hid (RB_v.out.below hq108)
    have RB_w := Lib.hid (RB_w.out.below hq108)
    have HT := Lib.hid (Sl.below (FlatR.stays _) HT.out hq108)
    have HR := Lib.hid (Sl.below (FlatR.stays _) HR.out hq108)
    have HSRC := Lib.hid (SrcT.below HSRC.out hq108)
    have HF := Lib.hid (Sl.below (FlatR.stays _) HF.out hq108)
    have HG := Lib.hid (Sl.below (FlatR.stays _) HG.out hq108)
    have HSRC3 := Lib.hid (SrcT.below HSRC3.out hq108)
    have hz_y108 := (hz_y107).trans ((hq108).mono (hz_y107).size)
    rw [HXB.out]
    go_wp2_with fail
    go_ret
    exact ⟨rfl, hz_y108⟩
  have HEV := Lib.hid (show evalB ts xs = some vv by have h1 := HBB.out; have h2 := HVV.out; cases hq : evalB ts xs with | none => (rw [hq] at h1; cases h1) | some q => (rw [hq] at h2; simpa using h2))
  have HOK := Lib.hid (show valOkB vv.k vv.n vv.s = true from evalB_ok HEV.out)
  go_wp2_with fail
  refine (implExprOk AF fs.length cF fs n5 _ (Sl.cellz (fun _ => rfl) HF.out) (by unfold maxLen; omega)).mono ?_
  rintro e y109 ⟨rfl, hq109⟩
  have RB_v := Lib.hid (RB_v.out.below hq109)
  have RB_w := Lib.hid (RB_w.out.below hq109)
  have HT := Lib.hid (Sl.below (FlatR.stays _) HT.out hq109)
  have HR := Lib.hid (Sl.below (FlatR.stays _) HR.out hq109)
  have HSRC := Lib.hid (SrcT.below HSRC.out hq109)
  have HF := Lib.hid (Sl.below (FlatR.stays _) HF.out hq109)
  have HG := Lib.hid (Sl.below (FlatR.stays _) HG.out hq109)
  have HSRC3 := Lib.hid (SrcT.below HSRC3.out hq109)
  have hz_y109 := (hz_y104).trans ((hq109).mono (hz_y104).size)
  rw [HXB.out]
  go_wp2_with fail
  refine (specExprOk AF fs.length cF fs n5 _ (Sl.cellz (fun _ => rfl) HF.out) (by unfold maxLen; omega)).mono ?_
  rintro e y110 ⟨rfl, hq110⟩
  have RB_v := Lib.hid (RB_v.out.below hq110)
  have RB_w := Lib.hid (RB_w.out.below hq110)
  have HT := Lib.hid (Sl.below (FlatR.stays _) HT.out hq110)
  have HR := Lib.hid (Sl.below (FlatR.stays _) HR.out hq110)
  have HSRC := Lib.hid (SrcT.below HSRC.out hq110)
  have HF := Lib.hid (Sl.below (FlatR.stays _) HF.out hq110)
  have HG := Lib.hid (Sl.below (FlatR.stays _) HG.out hq110)
  have HSRC3 := Lib.hid (SrcT.below HSRC3.out hq110)
  have hz_y110 := (hz_y109).trans ((hq110).mono (hz_y109).size)
  rw [HXB.out]
  clear k0_v k1_v k2_v k0_w k1_w k2_w
  go_wp2_with fail
  refine (implEval (some ⟨g3, 0, none⟩) AR gs.length xs.length cap3 cR gs xs _ (Sl.cellz (fun _ => rfl) HG.out) (Sl.cellz (fun _ => rfl) HR.out) (by unfold maxLen; omega) (by unfold maxLen; omega)).mono ?_
  rintro e y111 ⟨rfl, hq111⟩
  have RB_v := Lib.hid (RB_v.out.below hq111)
  have RB_w := Lib.hid (RB_w.out.below hq111)
  have HT := Lib.hid (Sl.below (FlatR.stays _) HT.out hq111)
  have HR := Lib.hid (Sl.below (FlatR.stays _) HR.out hq111)
  have HSRC := Lib.hid (SrcT.below HSRC.out hq111)
  have HF := Lib.hid (Sl.below (FlatR.stays _) HF.out hq111)
  have HG := Lib.hid (Sl.below (FlatR.stays _) HG.out hq111)
  have HSRC3 := Lib.hid (SrcT.below HSRC3.out hq111)
  have hz_y111 := (hz_y110).trans ((hq111).mono (hz_y110).size)
  rw [HUU.out, HCB.out]
  have RB_u := Lib.hid (Row.new y111 30 #[.int .i64 uu.k, .int .i64 uu.n, .string uu.s])
  have hx_u := (Below.refl y111.heap.size y111).alloc (Nat.le_refl _) (.cells #[.int .i64 uu.k, .int .i64 uu.n, .string uu.s] 30)
  have KV := Lib.hid (RB_v.out.below hx_u)
  obtain ⟨⟨k0_v, k1_v, k2_v⟩, -⟩ := KV.out.three
  cases cb
  case false =>
    go_wp2_with fail
    refine (implValOk vv.k vv.n vv.s _).mono ?_
    rintro e y112 ⟨rfl, hq112⟩
    rw [HOK.out]
    go_wp2_with fail
    go_ret
    exact ⟨rfl, (hz_y111).trans (hx_u.mono (hz_y111).size) |>.trans (hq112.mono ((hz_y111).trans (hx_u.mono (hz_y111).size)).size)⟩
  by_cases hl24 : ts.length + gs.length + 1 ≤ 24
  case neg =>
    have z2 : decide ((24 : Int) < (ts.length : Int) + (gs.length : Int) + 1) = true := decide_eq_true (by omega)
    go_wp2_with fail
    refine (implValOk vv.k vv.n vv.s _).mono ?_
    rintro e y113 ⟨rfl, hq113⟩
    rw [HOK.out]
    go_wp2_with fail
    go_ret
    exact ⟨rfl, (hz_y111).trans (hx_u.mono (hz_y111).size) |>.trans (hq113.mono ((hz_y111).trans (hx_u.mono (hz_y111).size)).size)⟩
  have z2 : decide ((24 : Int) < (ts.length : Int) + (gs.length : Int) + 1) = false := decide_eq_false (by omega)
  have z2n : decide (24 < ts.length + gs.length + 1) = false := decide_eq_false (by omega)
  have z2p : ¬ (24 : Int) < (ts.length : Int) + (gs.length : Int) + 1 := by omega
  have HEG := Lib.hid (show evalB gs xs = some uu by have h1 := HCB.out; have h2 := HUU.out; cases hq : evalB gs xs with | none => (rw [hq] at h1; cases h1) | some q => (rw [hq] at h2; simpa using h2))
  have HA := Lib.hid (evalB_eq hl24 HEV.out HEG.out)
  have HLs := Lib.hid (evalB_less hl24 HEV.out HEG.out)
  obtain ⟨q1, hq1⟩ : ∃ q, eq3 vv.k vv.n vv.s uu.k uu.n uu.s = q := ⟨_, rfl⟩
  obtain ⟨q2, hq2⟩ : ∃ q, less3 vv.k vv.n vv.s uu.k uu.n uu.s = q := ⟨_, rfl⟩
  rw [hq1] at HA
  rw [hq2] at HLs
  have HR1 := Lib.hid (show q1 = 0 ∨ q1 = 1 ∨ q1 = 2 by rw [← hq1]; exact eq3_012 _ _ _ _ _ _)
  have HR2 := Lib.hid (show q2 = 0 ∨ q2 = 1 ∨ q2 = 2 by rw [← hq2]; exact less3_012 _ _ _ _ _ _)
  have HQ1 := Lib.hid hq1
  have HQ2 := Lib.hid hq2
  clear hq1 hq2 k0_v k1_v k2_v KV
  go_upto_region 13 with (fail)
  generalize y111.alloc (.cells #[.int .i64 uu.k, .int .i64 uu.n, .string uu.s] 30) = zb_u at *
  have RB_v := Lib.hid (RB_v.out.below hx_u)
  have RB_w := Lib.hid (RB_w.out.below hx_u)
  have HT := Lib.hid (Sl.below (FlatR.stays _) HT.out hx_u)
  have HR := Lib.hid (Sl.below (FlatR.stays _) HR.out hx_u)
  have HSRC := Lib.hid (SrcT.below HSRC.out hx_u)
  have HF := Lib.hid (Sl.below (FlatR.stays _) HF.out hx_u)
  have HG := Lib.hid (Sl.below (FlatR.stays _) HG.out hx_u)
  have HSRC3 := Lib.hid (SrcT.below HSRC3.out hx_u)
  have hz_zb_u := (hz_y111).trans ((hx_u).mono (hz_y111).size)
  have HB114 := Lib.hid ((Below.refl zb_u.heap.size zb_u).alloc (Nat.le_refl _) (.cells #[] 32))
  have HO114 := Lib.hid (OwnG.lit (T := 32) (sz := 5) (f := Tk.cells) zb_u (Nat.le_refl zb_u.heap.size))
  have HS115 := Lib.hid (SrcT.below HSRC.out HB114.out)
  go_wp2_with (at_builtin; refine wpList_append_own _ rfl _ _ 24 rfl zb_u.heap.size 32 i0 (.agg #[.int .i64 0, .int .i64 0, .int .i64 0, .int .i64 0, .string ⟨#[]⟩]) 5 48 Try.underlying24 H1.out H2.out H3.out H4.out rfl (by decide) _ _ _ rfl HO114.out ⟨g1, 0, none⟩ ts.length cap1 ((ts.map Tk.cells).flatten) rfl (flat_tk ts) HS115.out (tk_one ts) ?a115 ?b115 ?c115 ?_)
  case a115 => unfold maxLen; (try simp only [List.length_nil]); omega
  case b115 => (try simp only [List.length_nil]); omega
  case c115 => simp
  intro v115 w115 hown115 hgrow115 _
  have HO115 := Lib.hid (show OwnT w115 zb_u.heap.size v115 ts by simpa [OwnT, OwnG] using hown115)
  have HB115 := Lib.hid (HB114.out.grown hgrow115 (by simp) (fun k hk => (OwnG.block_lt HO114.out k hk).1))
  clear hown115 hgrow115 HO114 HB114 HS115
  have HS116 := Lib.hid (SrcT.below HSRC3.out HB115.out)
  go_wp2_with (at_builtin; refine wpList_append_own _ rfl _ _ 24 rfl zb_u.heap.size 32 i0 (.agg #[.int .i64 0, .int .i64 0, .int .i64 0, .int .i64 0, .string ⟨#[]⟩]) 5 48 Try.underlying24 H1.out H2.out H3.out H4.out rfl (by decide) _ _ _ rfl HO115.out ⟨g3, 0, none⟩ gs.length cap3 ((gs.map Tk.cells).flatten) rfl (flat_tk gs) HS116.out (tk_one gs) ?a116 ?b116 ?c116 ?_)
  case a116 => unfold maxLen; (try simp only [List.length_nil]); omega
  case b116 => (try simp only [List.length_nil]); omega
  case c116 => exact HB115.out.size
  intro v116 w116 hown116 hgrow116 _
  have HO116 := Lib.hid (show OwnT w116 zb_u.heap.size v116 (ts ++ gs) from OwnG.appL HO115.out hown116)
  have HB116 := Lib.hid (HB115.out.grown hgrow116 HB115.out.size (fun k hk => (OwnG.block_lt HO115.out k hk).1))
  clear hown116 hgrow116 HO115 HB115 HS116
  obtain ⟨bo, hbo⟩ : ∃ l, (ts ++ gs) = l := ⟨_, rfl⟩
  rw [hbo] at HO116
  have H_bo := Lib.hid hbo
  clear hbo
  have hbl : bo.length = ts.length + gs.length := by rw [← H_bo.out, List.length_append]
  have HBL := Lib.hid hbl
  have hbl1 : bo.length ≤ 24 := by omega
  have hbp : 0 < bo.length := by omega
  clear hbl
  rw [H_bo.out] at HA HLs
  obtain ⟨g2, cap2, rfl, -, -, hsrc2⟩ := OwnG.src HO116.out hbp
  have HSRC2 : Hid (SrcT w116 g2 bo) := Lib.hid hsrc2
  clear hsrc2
  have RB_v := Lib.hid (RB_v.out.below HB116.out)
  have RB_w := Lib.hid (RB_w.out.below HB116.out)
  have RB_u := Lib.hid (RB_u.out.below HB116.out)
  have HT := Lib.hid (Sl.below (FlatR.stays _) HT.out HB116.out)
  have HR := Lib.hid (Sl.below (FlatR.stays _) HR.out HB116.out)
  have HSRC := Lib.hid (SrcT.below HSRC.out HB116.out)
  have HF := Lib.hid (Sl.below (FlatR.stays _) HF.out HB116.out)
  have HG := Lib.hid (Sl.below (FlatR.stays _) HG.out HB116.out)
  have HSRC3 := Lib.hid (SrcT.below HSRC3.out HB116.out)
  have hz_w116 := (hz_zb_u).trans ((HB116.out).mono (hz_zb_u).size)
  have HB117 := Lib.hid ((Below.refl w116.heap.size w116).alloc (Nat.le_refl _) (.cells #[] 32))
  have HO117 := Lib.hid (OwnG.lit (T := 32) (sz := 5) (f := Tk.cells) w116 (Nat.le_refl w116.heap.size))
  have HS118 := Lib.hid (SrcT.below HSRC2.out HB117.out)
  go_wp2_with (at_builtin; refine wpList_append_own _ rfl _ _ 24 rfl w116.heap.size 32 i0 (.agg #[.int .i64 0, .int .i64 0, .int .i64 0, .int .i64 0, .string ⟨#[]⟩]) 5 48 Try.underlying24 H1.out H2.out H3.out H4.out rfl (by decide) _ _ _ rfl HO117.out ⟨g2, 0, none⟩ bo.length cap2 ((bo.map Tk.cells).flatten) rfl (flat_tk bo) HS118.out (tk_one bo) ?a118 ?b118 ?c118 ?_)
  case a118 => unfold maxLen; (try simp only [List.length_nil]); omega
  case b118 => (try simp only [List.length_nil]); omega
  case c118 => simp
  intro v118 w118 hown118 hgrow118 _
  have HO118 := Lib.hid (show OwnT w118 w116.heap.size v118 bo by simpa [OwnT, OwnG] using hown118)
  have HB118 := Lib.hid (HB117.out.grown hgrow118 (by simp) (fun k hk => (OwnG.block_lt HO117.out k hk).1))
  clear hown118 hgrow118 HO117 HB117 HS118
  go_wp2_with (at_builtin; refine wpList_append_own _ rfl _ _ 24 rfl w116.heap.size 32 i0 (.agg #[.int .i64 0, .int .i64 0, .int .i64 0, .int .i64 0, .string ⟨#[]⟩]) 5 48 Try.underlying24 H1.out H2.out H3.out H4.out rfl (by decide) _ _ _ rfl (World.ownsRow.alloc HO118.out _) ⟨_, 0, none⟩ 1 1 (([opTk 3].map Tk.cells).flatten) rfl rfl ?a119 (tk_one [opTk 3]) ?b119 ?c119 ?d119 ?_)
  case a119 => exact cells_newAt _ (([opTk 3].map Tk.cells).flatten) _ (by simp)
  case b119 => unfold maxLen; omega
  case c119 => omega
  case d119 => have h1 := HB118.out.size; simp; omega
  intro v119 w119 hown119 hgrow119 _
  have HO119 := Lib.hid (show OwnT w119 w116.heap.size v119 (bo ++ [opTk 3]) from OwnG.appL HO118.out (by first | exact hown119 | simpa [Tk.cells, opTk] using hown119))
  have HB119 := Lib.hid ((HB118.out.alloc HB118.out.size _).grown hgrow119 (by have h1 := HB118.out.size; simp; omega) (fun k hk => (OwnG.block_lt HO118.out k hk).1))
  clear hown119 hgrow119 HO118 HB118
  obtain ⟨l_an, hl_an⟩ : ∃ l, (bo ++ [opTk 3]) = l := ⟨_, rfl⟩
  rw [hl_an] at HO119
  have H_l_an := Lib.hid hl_an
  clear hl_an
  obtain ⟨A_an, c_an, e_an, -, -, h_an⟩ := OwnG.sl (f := Tk.cells) (sz := 5) (fun _ => rfl) HO119.out
  have HX_an := Lib.hid h_an
  subst e_an
  clear h_an
  have RB_v := Lib.hid (RB_v.out.below HB119.out)
  have RB_w := Lib.hid (RB_w.out.below HB119.out)
  have RB_u := Lib.hid (RB_u.out.below HB119.out)
  have HT := Lib.hid (Sl.below (FlatR.stays _) HT.out HB119.out)
  have HR := Lib.hid (Sl.below (FlatR.stays _) HR.out HB119.out)
  have HSRC := Lib.hid (SrcT.below HSRC.out HB119.out)
  have HF := Lib.hid (Sl.below (FlatR.stays _) HF.out HB119.out)
  have HG := Lib.hid (Sl.below (FlatR.stays _) HG.out HB119.out)
  have HSRC3 := Lib.hid (SrcT.below HSRC3.out HB119.out)
  have HSRC2 := Lib.hid (SrcT.below HSRC2.out HB119.out)
  have hz_w119 := (hz_w116).trans ((HB119.out).mono (hz_w116).size)
  rw [H_l_an.out] at HA
  have hl_an : l_an.length ≤ 32 := by rw [← H_l_an.out, List.length_append]; simp; omega
  go_wp2_with fail
  refine (implEval A_an AR l_an.length xs.length c_an cR l_an xs _ (Sl.cellz (fun _ => rfl) HX_an.out) (Sl.cellz (fun _ => rfl) HR.out) (by unfold maxLen; omega) (by unfold maxLen; omega)).mono ?_
  rintro e y120 ⟨rfl, hq120⟩
  have RB_v := Lib.hid (RB_v.out.below hq120)
  have RB_w := Lib.hid (RB_w.out.below hq120)
  have RB_u := Lib.hid (RB_u.out.below hq120)
  have HT := Lib.hid (Sl.below (FlatR.stays _) HT.out hq120)
  have HR := Lib.hid (Sl.below (FlatR.stays _) HR.out hq120)
  have HSRC := Lib.hid (SrcT.below HSRC.out hq120)
  have HF := Lib.hid (Sl.below (FlatR.stays _) HF.out hq120)
  have HG := Lib.hid (Sl.below (FlatR.stays _) HG.out hq120)
  have HSRC3 := Lib.hid (SrcT.below HSRC3.out hq120)
  have HSRC2 := Lib.hid (SrcT.below HSRC2.out hq120)
  have HX_an := Lib.hid (Sl.below (FlatR.stays _) HX_an.out hq120)
  have hz_y120 := (hz_w119).trans ((hq120).mono (hz_w119).size)
  rw [HA.out]
  simp only [Option.getD_some, Option.isSome_some]
  have RB_x := Lib.hid (Row.new y120 30 #[.int .i64 (asVl q1).k, .int .i64 (asVl q1).n, .string (asVl q1).s])
  have hx_x := (Below.refl y120.heap.size y120).alloc (Nat.le_refl _) (.cells #[.int .i64 (asVl q1).k, .int .i64 (asVl q1).n, .string (asVl q1).s] 30)
  go_upto_region 15 with (fail)
  generalize y120.alloc (.cells #[.int .i64 (asVl q1).k, .int .i64 (asVl q1).n, .string (asVl q1).s] 30) = zb_x at *
  have RB_v := Lib.hid (RB_v.out.below hx_x)
  have RB_w := Lib.hid (RB_w.out.below hx_x)
  have RB_u := Lib.hid (RB_u.out.below hx_x)
  have HT := Lib.hid (Sl.below (FlatR.stays _) HT.out hx_x)
  have HR := Lib.hid (Sl.below (FlatR.stays _) HR.out hx_x)
  have HSRC := Lib.hid (SrcT.below HSRC.out hx_x)
  have HF := Lib.hid (Sl.below (FlatR.stays _) HF.out hx_x)
  have HG := Lib.hid (Sl.below (FlatR.stays _) HG.out hx_x)
  have HSRC3 := Lib.hid (SrcT.below HSRC3.out hx_x)
  have HSRC2 := Lib.hid (SrcT.below HSRC2.out hx_x)
  have HX_an := Lib.hid (Sl.below (FlatR.stays _) HX_an.out hx_x)
  have hz_zb_x := (hz_y120).trans ((hx_x).mono (hz_y120).size)
  have HB121 := Lib.hid ((Below.refl zb_x.heap.size zb_x).alloc (Nat.le_refl _) (.cells #[] 32))
  have HO121 := Lib.hid (OwnG.lit (T := 32) (sz := 5) (f := Tk.cells) zb_x (Nat.le_refl zb_x.heap.size))
  have HS122 := Lib.hid (SrcT.below HSRC2.out HB121.out)
  go_wp2_with (at_builtin; refine wpList_append_own _ rfl _ _ 24 rfl zb_x.heap.size 32 i0 (.agg #[.int .i64 0, .int .i64 0, .int .i64 0, .int .i64 0, .string ⟨#[]⟩]) 5 48 Try.underlying24 H1.out H2.out H3.out H4.out rfl (by decide) _ _ _ rfl HO121.out ⟨g2, 0, none⟩ bo.length cap2 ((bo.map Tk.cells).flatten) rfl (flat_tk bo) HS122.out (tk_one bo) ?a122 ?b122 ?c122 ?_)
  case a122 => unfold maxLen; (try simp only [List.length_nil]); omega
  case b122 => (try simp only [List.length_nil]); omega
  case c122 => simp
  intro v122 w122 hown122 hgrow122 _
  have HO122 := Lib.hid (show OwnT w122 zb_x.heap.size v122 bo by simpa [OwnT, OwnG] using hown122)
  have HB122 := Lib.hid (HB121.out.grown hgrow122 (by simp) (fun k hk => (OwnG.block_lt HO121.out k hk).1))
  clear hown122 hgrow122 HO121 HB121 HS122
  go_wp2_with (at_builtin; refine wpList_append_own _ rfl _ _ 24 rfl zb_x.heap.size 32 i0 (.agg #[.int .i64 0, .int .i64 0, .int .i64 0, .int .i64 0, .string ⟨#[]⟩]) 5 48 Try.underlying24 H1.out H2.out H3.out H4.out rfl (by decide) _ _ _ rfl (World.ownsRow.alloc HO122.out _) ⟨_, 0, none⟩ 1 1 (([opTk 4].map Tk.cells).flatten) rfl rfl ?a123 (tk_one [opTk 4]) ?b123 ?c123 ?d123 ?_)
  case a123 => exact cells_newAt _ (([opTk 4].map Tk.cells).flatten) _ (by simp)
  case b123 => unfold maxLen; omega
  case c123 => omega
  case d123 => have h1 := HB122.out.size; simp; omega
  intro v123 w123 hown123 hgrow123 _
  have HO123 := Lib.hid (show OwnT w123 zb_x.heap.size v123 (bo ++ [opTk 4]) from OwnG.appL HO122.out (by first | exact hown123 | simpa [Tk.cells, opTk] using hown123))
  have HB123 := Lib.hid ((HB122.out.alloc HB122.out.size _).grown hgrow123 (by have h1 := HB122.out.size; simp; omega) (fun k hk => (OwnG.block_lt HO122.out k hk).1))
  clear hown123 hgrow123 HO122 HB122
  obtain ⟨l_or, hl_or⟩ : ∃ l, (bo ++ [opTk 4]) = l := ⟨_, rfl⟩
  rw [hl_or] at HO123
  have H_l_or := Lib.hid hl_or
  clear hl_or
  obtain ⟨A_or, c_or, e_or, -, -, h_or⟩ := OwnG.sl (f := Tk.cells) (sz := 5) (fun _ => rfl) HO123.out
  have HX_or := Lib.hid h_or
  subst e_or
  clear h_or
  have RB_v := Lib.hid (RB_v.out.below HB123.out)
  have RB_w := Lib.hid (RB_w.out.below HB123.out)
  have RB_u := Lib.hid (RB_u.out.below HB123.out)
  have RB_x := Lib.hid (RB_x.out.below HB123.out)
  have HT := Lib.hid (Sl.below (FlatR.stays _) HT.out HB123.out)
  have HR := Lib.hid (Sl.below (FlatR.stays _) HR.out HB123.out)
  have HSRC := Lib.hid (SrcT.below HSRC.out HB123.out)
  have HF := Lib.hid (Sl.below (FlatR.stays _) HF.out HB123.out)
  have HG := Lib.hid (Sl.below (FlatR.stays _) HG.out HB123.out)
  have HSRC3 := Lib.hid (SrcT.below HSRC3.out HB123.out)
  have HSRC2 := Lib.hid (SrcT.below HSRC2.out HB123.out)
  have HX_an := Lib.hid (Sl.below (FlatR.stays _) HX_an.out HB123.out)
  have hz_w123 := (hz_zb_x).trans ((HB123.out).mono (hz_zb_x).size)
  rw [H_l_or.out] at HLs
  have hl_or : l_or.length ≤ 32 := by rw [← H_l_or.out, List.length_append]; simp; omega
  go_wp2_with fail
  refine (implEval A_or AR l_or.length xs.length c_or cR l_or xs _ (Sl.cellz (fun _ => rfl) HX_or.out) (Sl.cellz (fun _ => rfl) HR.out) (by unfold maxLen; omega) (by unfold maxLen; omega)).mono ?_
  rintro e y124 ⟨rfl, hq124⟩
  have RB_v := Lib.hid (RB_v.out.below hq124)
  have RB_w := Lib.hid (RB_w.out.below hq124)
  have RB_u := Lib.hid (RB_u.out.below hq124)
  have RB_x := Lib.hid (RB_x.out.below hq124)
  have HT := Lib.hid (Sl.below (FlatR.stays _) HT.out hq124)
  have HR := Lib.hid (Sl.below (FlatR.stays _) HR.out hq124)
  have HSRC := Lib.hid (SrcT.below HSRC.out hq124)
  have HF := Lib.hid (Sl.below (FlatR.stays _) HF.out hq124)
  have HG := Lib.hid (Sl.below (FlatR.stays _) HG.out hq124)
  have HSRC3 := Lib.hid (SrcT.below HSRC3.out hq124)
  have HSRC2 := Lib.hid (SrcT.below HSRC2.out hq124)
  have HX_an := Lib.hid (Sl.below (FlatR.stays _) HX_an.out hq124)
  have HX_or := Lib.hid (Sl.below (FlatR.stays _) HX_or.out hq124)
  have hz_y124 := (hz_w123).trans ((hq124).mono (hz_w123).size)
  rw [HLs.out]
  simp only [Option.getD_some, Option.isSome_some]
  have RB_y := Lib.hid (Row.new y124 30 #[.int .i64 (asVl q2).k, .int .i64 (asVl q2).n, .string (asVl q2).s])
  have hx_y := (Below.refl y124.heap.size y124).alloc (Nat.le_refl _) (.cells #[.int .i64 (asVl q2).k, .int .i64 (asVl q2).n, .string (asVl q2).s] 30)
  go_wp2_with fail
  generalize y124.alloc (.cells #[.int .i64 (asVl q2).k, .int .i64 (asVl q2).n, .string (asVl q2).s] 30) = zb_y at *
  have RB_v := Lib.hid (RB_v.out.below hx_y)
  have RB_w := Lib.hid (RB_w.out.below hx_y)
  have RB_u := Lib.hid (RB_u.out.below hx_y)
  have RB_x := Lib.hid (RB_x.out.below hx_y)
  have HT := Lib.hid (Sl.below (FlatR.stays _) HT.out hx_y)
  have HR := Lib.hid (Sl.below (FlatR.stays _) HR.out hx_y)
  have HSRC := Lib.hid (SrcT.below HSRC.out hx_y)
  have HF := Lib.hid (Sl.below (FlatR.stays _) HF.out hx_y)
  have HG := Lib.hid (Sl.below (FlatR.stays _) HG.out hx_y)
  have HSRC3 := Lib.hid (SrcT.below HSRC3.out hx_y)
  have HSRC2 := Lib.hid (SrcT.below HSRC2.out hx_y)
  have HX_an := Lib.hid (Sl.below (FlatR.stays _) HX_an.out hx_y)
  have HX_or := Lib.hid (Sl.below (FlatR.stays _) HX_or.out hx_y)
  have hz_zb_y := (hz_y124).trans ((hx_y).mono (hz_y124).size)
  obtain ⟨⟨k0_v, k1_v, k2_v⟩, -⟩ := RB_v.out.three
  obtain ⟨⟨k0_u, k1_u, k2_u⟩, -⟩ := RB_u.out.three
  obtain ⟨⟨k0_x, k1_x, k2_x⟩, -⟩ := RB_x.out.three
  obtain ⟨⟨k0_y, k1_y, k2_y⟩, -⟩ := RB_y.out.three
  have hd := (hz_zb_y).drew
  refine wp_region_noPanic ?_
  refine wp_region_held_drew (S := fun w' => w'.cell? ⟨y101.heap.size, 0, none⟩ = some (.int .i64 vv.k) ∧ w'.cell? ⟨y101.heap.size, 1, none⟩ = some (.int .i64 vv.n) ∧ w'.cell? ⟨y101.heap.size, 2, none⟩ = some (.string vv.s) ∧ w'.cell? ⟨y111.heap.size, 0, none⟩ = some (.int .i64 uu.k) ∧ w'.cell? ⟨y111.heap.size, 1, none⟩ = some (.int .i64 uu.n) ∧ w'.cell? ⟨y111.heap.size, 2, none⟩ = some (.string uu.s) ∧ w'.cell? ⟨y120.heap.size, 0, none⟩ = some (.int .i64 (asVl q1).k) ∧ w'.cell? ⟨y120.heap.size, 1, none⟩ = some (.int .i64 (asVl q1).n) ∧ w'.cell? ⟨y120.heap.size, 2, none⟩ = some (.string (asVl q1).s) ∧ w'.cell? ⟨y124.heap.size, 0, none⟩ = some (.int .i64 (asVl q2).k) ∧ w'.cell? ⟨y124.heap.size, 1, none⟩ = some (.int .i64 (asVl q2).n) ∧ w'.cell? ⟨y124.heap.size, 2, none⟩ = some (.string (asVl q2).s)) (by kernel_rfl) ⟨k0_v, k1_v, k2_v, k0_u, k1_u, k2_u, k0_x, k1_x, k2_x, k0_y, k1_y, k2_y⟩ (fun hHeld => ?_)
  refine wpAnyH_take (i := 0) (v := ?v1) rfl (by kernel_rfl) (by kernel_rfl) (by kernel_rfl) (fun _ _ _ h => h) (Or.inl ⟨by rfl, ?hy1⟩) hHeld ?rest1
  case hy1 => (intro w' hSw; (try dsimp only at hSw); first | (go_simp; done) | (go_simp; with_reducible rfl))
  simp only [Act.put, List.getElem_toArray, List.getElem_cons_zero, List.getElem_cons_succ, List.setIfInBounds_toArray, List.set_cons_zero, List.set_cons_succ]
  refine wpAnyH_ready (rs := [1]) (by kernel_rfl) (by simp) ?_
  refine AllReadyH.cons rfl (fun K hK => ?_) AllReadyH.nil
  go_simp
  refine (implValOk vv.k vv.n vv.s _).mono ?_
  rintro e w31 ⟨rfl, hb31⟩
  rw [HOK.out]
  go_wp2_with fail
  refine hK.out _ _ (keepV12 hHeld hb31) (fun hHeld => ?_)
  clear hK K
  (try simp only [Act.put, List.getElem_toArray, List.getElem_cons_zero, List.getElem_cons_succ, List.setIfInBounds_toArray, List.set_cons_zero, List.set_cons_succ])
  refine wpAnyH_take (i := 2) (v := ?v2) rfl (by kernel_rfl) (by kernel_rfl) (by kernel_rfl) (fun _ _ _ h => h) (Or.inl ⟨by rfl, ?hy2⟩) hHeld ?rest2
  case hy2 => (intro w' hSw; (try dsimp only at hSw); first | (go_simp; done) | (go_simp; with_reducible rfl))
  simp only [Act.put, List.getElem_toArray, List.getElem_cons_zero, List.getElem_cons_succ, List.setIfInBounds_toArray, List.set_cons_zero, List.set_cons_succ]
  refine wpAnyH_take (i := 3) (v := ?v3) rfl (by kernel_rfl) (by kernel_rfl) (by kernel_rfl) (fun _ _ _ h => h) (Or.inl ⟨by rfl, ?hy3⟩) hHeld ?rest3
  case hy3 => (intro w' hSw; (try dsimp only at hSw); first | (go_simp; done) | (go_simp; with_reducible rfl))
  simp only [Act.put, List.getElem_toArray, List.getElem_cons_zero, List.getElem_cons_succ, List.setIfInBounds_toArray, List.set_cons_zero, List.set_cons_succ]
  refine wpAnyH_take (i := 4) (v := ?v4) rfl (by kernel_rfl) (by kernel_rfl) (by kernel_rfl) (fun _ _ _ h => h) (Or.inl ⟨by rfl, ?hy4⟩) hHeld ?rest4
  case hy4 => (intro w' hSw; (try dsimp only at hSw); first | (go_simp; done) | (go_simp; with_reducible rfl))
  simp only [Act.put, List.getElem_toArray, List.getElem_cons_zero, List.getElem_cons_succ, List.setIfInBounds_toArray, List.set_cons_zero, List.set_cons_succ]
  refine wpAnyH_take (i := 5) (v := ?v5) rfl (by kernel_rfl) (by kernel_rfl) (by kernel_rfl) (fun _ _ _ h => h) (Or.inl ⟨by rfl, ?hy5⟩) hHeld ?rest5
  case hy5 => (intro w' hSw; (try dsimp only at hSw); first | (go_simp; done) | (go_simp; with_reducible rfl))
  simp only [Act.put, List.getElem_toArray, List.getElem_cons_zero, List.getElem_cons_succ, List.setIfInBounds_toArray, List.set_cons_zero, List.set_cons_succ]
  refine wpAnyH_take (i := 6) (v := ?v6) rfl (by kernel_rfl) (by kernel_rfl) (by kernel_rfl) (fun _ _ _ h => h) (Or.inl ⟨by rfl, ?hy6⟩) hHeld ?rest6
  case hy6 => (intro w' hSw; (try dsimp only at hSw); first | (go_simp; done) | (go_simp; with_reducible rfl))
  simp only [Act.put, List.getElem_toArray, List.getElem_cons_zero, List.getElem_cons_succ, List.setIfInBounds_toArray, List.set_cons_zero, List.set_cons_succ]
  refine wpAnyH_take (i := 7) (v := ?v7) rfl (by kernel_rfl) (by kernel_rfl) (by kernel_rfl) (fun _ _ _ h => h) (Or.inl ⟨by rfl, ?hy7⟩) hHeld ?rest7
  case hy7 => (intro w' hSw; (try dsimp only at hSw); first | (go_simp; done) | (go_simp; with_reducible rfl))
  simp only [Act.put, List.getElem_toArray, List.getElem_cons_zero, List.getElem_cons_succ, List.setIfInBounds_toArray, List.set_cons_zero, List.set_cons_succ]
  refine wpAnyH_take (i := 8) (v := ?v8) rfl (by kernel_rfl) (by kernel_rfl) (by kernel_rfl) (fun _ _ _ h => h) (Or.inl ⟨by rfl, ?hy8⟩) hHeld ?rest8
  case hy8 => (intro w' hSw; (try dsimp only at hSw); first | (go_simp; done) | (go_simp; with_reducible rfl))
  simp only [Act.put, List.getElem_toArray, List.getElem_cons_zero, List.getElem_cons_succ, List.setIfInBounds_toArray, List.set_cons_zero, List.set_cons_succ]
  refine wpAnyH_take (i := 9) (v := ?v9) rfl (by kernel_rfl) (by kernel_rfl) (by kernel_rfl) (fun _ _ _ h => h) (Or.inl ⟨by rfl, ?hy9⟩) hHeld ?rest9
  case hy9 => (intro w' hSw; (try dsimp only at hSw); first | (go_simp; done) | (go_simp; with_reducible rfl))
  simp only [Act.put, List.getElem_toArray, List.getElem_cons_zero, List.getElem_cons_succ, List.setIfInBounds_toArray, List.set_cons_zero, List.set_cons_succ]
  refine wpAnyH_take (i := 11) (v := ?v10) rfl (by kernel_rfl) (by kernel_rfl) (by kernel_rfl) (fun _ _ _ h => h) (Or.inl ⟨by rfl, ?hy10⟩) hHeld ?rest10
  case hy10 => (intro w' hSw; (try dsimp only at hSw); first | (go_simp; done) | (go_simp; with_reducible rfl))
  simp only [Act.put, List.getElem_toArray, List.getElem_cons_zero, List.getElem_cons_succ, List.setIfInBounds_toArray, List.set_cons_zero, List.set_cons_succ]
  refine wpAnyH_take (i := 12) (v := ?v11) rfl (by kernel_rfl) (by kernel_rfl) (by kernel_rfl) (fun _ _ _ h => h) (Or.inl ⟨by rfl, ?hy11⟩) hHeld ?rest11
  case hy11 => (intro w' hSw; (try dsimp only at hSw); first | (go_simp; done) | (go_simp; with_reducible rfl))
  simp only [Act.put, List.getElem_toArray, List.getElem_cons_zero, List.getElem_cons_succ, List.setIfInBounds_toArray, List.set_cons_zero, List.set_cons_succ]
  refine wpAnyH_ready (rs := [10]) (by kernel_rfl) (by simp) ?_
  refine AllReadyH.cons rfl (fun K hK => ?_) AllReadyH.nil
  go_simp
  refine (lawsTold3 q1 HR1.out _).mono ?_
  rintro e w32 ⟨rfl, hb32⟩
  go_wp2_with fail
  refine hK.out _ _ (keepV12 hHeld hb32) (fun hHeld => ?_)
  clear hK K
  (try simp only [Act.put, List.getElem_toArray, List.getElem_cons_zero, List.getElem_cons_succ, List.setIfInBounds_toArray, List.set_cons_zero, List.set_cons_succ])
  refine wpAnyH_ready (rs := [13]) (by kernel_rfl) (by simp) ?_
  refine AllReadyH.cons rfl (fun K hK => ?_) AllReadyH.nil
  go_simp
  refine (implEqual3 vv.k vv.n vv.s uu.k uu.n uu.s _).mono ?_
  rintro e w33 ⟨rfl, hb33⟩
  rw [HQ1.out]
  go_wp2_with fail
  refine hK.out _ _ (keepV12 hHeld hb33) (fun hHeld => ?_)
  clear hK K
  (try simp only [Act.put, List.getElem_toArray, List.getElem_cons_zero, List.getElem_cons_succ, List.setIfInBounds_toArray, List.set_cons_zero, List.set_cons_succ])
  refine wpAnyH_take (i := 14) (v := ?v12) rfl (by kernel_rfl) (by kernel_rfl) (by kernel_rfl) (fun _ _ _ h => h) (Or.inl ⟨by rfl, ?hy12⟩) hHeld ?rest12
  case hy12 => (intro w' hSw; (try dsimp only at hSw); first | (go_simp; done) | (go_simp; with_reducible rfl))
  simp only [Act.put, List.getElem_toArray, List.getElem_cons_zero, List.getElem_cons_succ, List.setIfInBounds_toArray, List.set_cons_zero, List.set_cons_succ]
  refine wpAnyH_take (i := 15) (v := ?v13) rfl (by kernel_rfl) (by kernel_rfl) (by kernel_rfl) (fun _ _ _ h => h) (Or.inl ⟨by rfl, ?hy13⟩) hHeld ?rest13
  case hy13 => (intro w' hSw; (try dsimp only at hSw); first | (go_simp; done) | (go_simp; with_reducible rfl))
  simp only [Act.put, List.getElem_toArray, List.getElem_cons_zero, List.getElem_cons_succ, List.setIfInBounds_toArray, List.set_cons_zero, List.set_cons_succ]
  refine wpAnyH_take (i := 16) (v := ?v14) rfl (by kernel_rfl) (by kernel_rfl) (by kernel_rfl) (fun _ _ _ h => h) (Or.inl ⟨by rfl, ?hy14⟩) hHeld ?rest14
  case hy14 => (intro w' hSw; (try dsimp only at hSw); first | (go_simp; done) | (go_simp; with_reducible rfl))
  simp only [Act.put, List.getElem_toArray, List.getElem_cons_zero, List.getElem_cons_succ, List.setIfInBounds_toArray, List.set_cons_zero, List.set_cons_succ]
  refine wpAnyH_take (i := 17) (v := ?v15) rfl (by kernel_rfl) (by kernel_rfl) (by kernel_rfl) (fun _ _ _ h => h) (Or.inl ⟨by rfl, ?hy15⟩) hHeld ?rest15
  case hy15 => (intro w' hSw; (try dsimp only at hSw); first | (go_simp; done) | (go_simp; with_reducible rfl))
  simp only [Act.put, List.getElem_toArray, List.getElem_cons_zero, List.getElem_cons_succ, List.setIfInBounds_toArray, List.set_cons_zero, List.set_cons_succ]
  refine wpAnyH_take (i := 19) (v := ?v16) rfl (by kernel_rfl) (by kernel_rfl) (by kernel_rfl) (fun _ _ _ h => h) (Or.inl ⟨by rfl, ?hy16⟩) hHeld ?rest16
  case hy16 => (intro w' hSw; (try dsimp only at hSw); first | (go_simp; done) | (go_simp; with_reducible rfl))
  simp only [Act.put, List.getElem_toArray, List.getElem_cons_zero, List.getElem_cons_succ, List.setIfInBounds_toArray, List.set_cons_zero, List.set_cons_succ]
  refine wpAnyH_take (i := 20) (v := ?v17) rfl (by kernel_rfl) (by kernel_rfl) (by kernel_rfl) (fun _ _ _ h => h) (Or.inl ⟨by rfl, ?hy17⟩) hHeld ?rest17
  case hy17 => (intro w' hSw; (try dsimp only at hSw); first | (go_simp; done) | (go_simp; with_reducible rfl))
  simp only [Act.put, List.getElem_toArray, List.getElem_cons_zero, List.getElem_cons_succ, List.setIfInBounds_toArray, List.set_cons_zero, List.set_cons_succ]
  refine wpAnyH_ready (rs := [18]) (by kernel_rfl) (by simp) ?_
  refine AllReadyH.cons rfl (fun K hK => ?_) AllReadyH.nil
  go_simp
  refine (lawsTold3 q2 HR2.out _).mono ?_
  rintro e w34 ⟨rfl, hb34⟩
  go_wp2_with fail
  refine hK.out _ _ (keepV12 hHeld hb34) (fun hHeld => ?_)
  clear hK K
  (try simp only [Act.put, List.getElem_toArray, List.getElem_cons_zero, List.getElem_cons_succ, List.setIfInBounds_toArray, List.set_cons_zero, List.set_cons_succ])
  refine wpAnyH_ready (rs := [21]) (by kernel_rfl) (by simp) ?_
  refine AllReadyH.cons rfl (fun K hK => ?_) AllReadyH.nil
  go_simp
  refine (implLess3 vv.k vv.n vv.s uu.k uu.n uu.s _).mono ?_
  rintro e w35 ⟨rfl, hb35⟩
  rw [HQ2.out]
  go_wp2_with fail
  refine hK.out _ _ (keepV12 hHeld hb35) (fun hHeld => ?_)
  clear hK K
  (try simp only [Act.put, List.getElem_toArray, List.getElem_cons_zero, List.getElem_cons_succ, List.setIfInBounds_toArray, List.set_cons_zero, List.set_cons_succ])
  refine wpAnyH_take (i := 22) (v := ?v18) rfl (by kernel_rfl) (by kernel_rfl) (by kernel_rfl) (fun _ _ _ h => h) (Or.inl ⟨by rfl, ?hy18⟩) hHeld ?rest18
  case hy18 => (intro w' hSw; (try dsimp only at hSw); first | (go_simp; done) | (go_simp; with_reducible rfl))
  simp only [Act.put, List.getElem_toArray, List.getElem_cons_zero, List.getElem_cons_succ, List.setIfInBounds_toArray, List.set_cons_zero, List.set_cons_succ]
  refine wpAnyH_take (i := 23) (v := ?v19) rfl (by kernel_rfl) (by kernel_rfl) (by kernel_rfl) (fun _ _ _ h => h) (Or.inl ⟨by rfl, ?hy19⟩) hHeld ?rest19
  case hy19 => (intro w' hSw; (try dsimp only at hSw); first | (go_simp; done) | (go_simp; with_reducible rfl))
  simp only [Act.put, List.getElem_toArray, List.getElem_cons_zero, List.getElem_cons_succ, List.setIfInBounds_toArray, List.set_cons_zero, List.set_cons_succ]
  refine wpAnyH_take (i := 24) (v := ?v20) rfl (by kernel_rfl) (by kernel_rfl) (by kernel_rfl) (fun _ _ _ h => h) (Or.inl ⟨by rfl, ?hy20⟩) hHeld ?rest20
  case hy20 => (intro w' hSw; (try dsimp only at hSw); first | (go_simp; done) | (go_simp; with_reducible rfl))
  simp only [Act.put, List.getElem_toArray, List.getElem_cons_zero, List.getElem_cons_succ, List.setIfInBounds_toArray, List.set_cons_zero, List.set_cons_succ]
  refine wpAnyH_done (by kernel_rfl) ?_ _
  refine NoPanic.normal ?_
  clear hHeld
  go_wp2_with fail
  go_ret
  have he1 := (hd).trans (hb31.mono (hd).size)
  have he2 := (he1).trans (hb32.mono (he1).size)
  have he3 := (he2).trans (hb33.mono (he2).size)
  have he4 := (he3).trans (hb34.mono (he3).size)
  have he5 := (he4).trans (hb35.mono (he4).size)
  exact ⟨rfl, he5⟩

set_option maxRecDepth 100000 in
theorem lifted (os : Os) (started : os.Started) (H : Type) (enc : TypeId × Value → H) :
    ReturnsInHanded {} Try.checked os 5 .any (Rows.fnEvalSpec.pre6 enc Try.prog Try.f5 Rows.fnEvalRow.domain false) (Rows.fnEvalSpec.post enc Try.prog Try.f5 false true false false) := by
  refine returnsInHanded_of_change (C := Try.checked) own started (by kernel_rfl) Try.func5
    (ChangeSpec.witness6 (enc := enc) (C := Try.checked) false ⟨#[], #[.slice none 0 0], []⟩ 8 (by kernel_rfl) (by kernel_rfl) (by kernel_rfl) (by kernel_rfl)) ?_
  intro W base args ds gs before hval0 hW hcnd _
  have hval : ∀ (j : Nat) t v, Try.f5.params[j]? = some t → args[j]? = some v → Value.okWide Try.prog W .any base t v := hval0
  have hW' := hW
  obtain ⟨p, q, hA0, hV, rfl, hfz, hnd⟩ := hW
  have hA : DataW.TrodAll enc Try.prog W 0 (fun _ => true) true Try.f5.params.toList args.toList ds p := hA0
  rw [Try.params5] at hA hval
  obtain ⟨v0, vs0, d0, ds0, p0, q0, hargs, rfl, rfl, h0, r0⟩ := trodAll_cons hA
  obtain ⟨rfl, rfl, rfl⟩ := trodAll_nil r0
  obtain rfl : args = #[v0] := by cases args; simp_all
  obtain ⟨rfl, rfl⟩ := trodVars_none hV
  have k0' := h0
  have lt0 : ∀ x ∈ p0, x.block < W.heap.size := by obtain ⟨m, hm⟩ := k0'; exact DataW.trod_lt m _ _ _ hm
  obtain ⟨a0, len0, cap0, rfl⟩ := okWide_slice Try.underlying22 (hval 0 22 v0 rfl rfl)
  obtain ⟨z0, w0⟩ := isRow_of_trod Try.underlying22 Try.underlying5 (by kernel_rfl) h0
  clear hA0 hval0
  refine (walk a0 len0 cap0 z0 W w0).mono fun e W' ⟨he, bel⟩ => ?_
  subst he
  exact ⟨_, rfl, _, _, _, [], _, [], hW', trodAll_mk1 (shut_bool Try.underlying4 _), (trodAll_cons_mk (Below.trod laidOut (by kernel_rfl) (of_decide_eq_true (by kernel_rfl)) k0' bel lt0) trodAll_mk0), rfl, bel.frame _, fun h => by cases h⟩

set_option maxRecDepth 100000 in
set_option maxHeartbeats 16000000 in
theorem facts : joinedFacts Try.checked.prog 5 Try.f5 Rows.fnEvalSpec Rows.fnEvalRow = true := by
  unfold joinedFacts
  repeat' (with_reducible refine Bool.and_eq_true_iff.2 ⟨?_, ?_⟩)
  all_goals (as_aux_lemma => kernel_rfl)

theorem over : Rows.fnEvalRow.holds Try.pinned (OpenSpec.ofChange Rows.fnEvalSpec) :=
  OpenClaim.holds_of_wide 5 Try.f5 rfl rfl rfl rfl rfl rfl rfl ⟨rfl, rfl, rfl, rfl, rfl⟩ rfl rfl rfl rfl rfl (by kernel_rfl) Try.func5 facts
    (of_decide_eq_true (by as_aux_lemma => kernel_rfl)) (by unfold Func.isWrapper; first | (rw [if_pos (by decide +kernel)]; kernel_rfl) | (rw [if_neg (by decide +kernel)]; exact ⟨rfl, rfl⟩))
    (fun os started H enc _ => lifted os started H enc)

theorem proved : Rows.FnEvalSaid := over
#print axioms proved
end Go.Proofs.Ytkoihpejkcnokaa.fnEval
