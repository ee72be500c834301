/-
  Crash answers as the model at every disk, list of places and number of bytes, in memory of its own (law FnExactCrash, for every input).
-/
import Derived.Test.YtkinegapnknhiaaBase
import Derived.Test.YtkinegapnknhiaaDc
import Derived.Test.YtkinegapnknhiaaEq
import Derived.Test.YtkinegapnknhiaaTrod
import Derived.Test.YtkinegapnknhiaaSz
namespace Go.Proofs.Ytkinegapnknhiaa.fnExactCrash
open Go.ChangeShapes Go.WideShapes Go.ChangeAt Go.RowKit Go.Joins
open Go.ChangeMaps (open_string shut_string)
set_option linter.unusedSimpArgs false
set_option linter.unusedVariables false

set_option maxRecDepth 100000 in
set_option maxHeartbeats 4000000 in
theorem walk (x0 : Dz) (A0_0 : Option Addr) (n0_0 c0_0 : Nat) (A0_1 : Option Addr) (n0_1 c0_1 : Nat) (A0_2 : Option Addr) (n0_2 c0_2 : Nat) (a1 : Option Addr) (len1 cap1 : Nat) (x1 : List Int) (a2 : Int) (w : World) (w0 : (Sl FzR 2 (fun _ => True) w A0_0 n0_0 x0.live ∧ Sl FzR 2 (fun _ => True) w A0_1 n0_1 x0.safe ∧ Sl OzR 4 (fun _ => True) w A0_2 n0_2 x0.ops) ∧ x0.wf) (w1 : Sl IntR 1 (fun _ => True) w a1 len1 x1 ∧ x1.length ≤ maxLen) (w2 : (Lit.int .i64 a2).wf = true) :
    Calls Try.prog 9 #[.agg #[.slice A0_0 n0_0 c0_0, .slice A0_1 n0_1 c0_1, .slice A0_2 n0_2 c0_2], .slice a1 len1 cap1, .int .i64 a2] w fun e w' => e = .returned (.bool true) ∧ Below w.heap.size w w' := by
  obtain ⟨⟨h0_0, h0_1, h0_2⟩, wf0⟩ := w0
  have WF0 := Lib.hid wf0
  clear wf0
  have rb0 := Row.new w 50 #[.slice A0_0 n0_0 c0_0, .slice A0_1 n0_1 c0_1, .slice A0_2 n0_2 c0_2]
  have hb := (Below.refl w.heap.size w).alloc (Nat.le_refl _) (.cells #[.slice A0_0 n0_0 c0_0, .slice A0_1 n0_1 c0_1, .slice A0_2 n0_2 c0_2] 50)
  have hs_rb0 := Lib.hid (show w.heap.size < (w.alloc (.cells #[.slice A0_0 n0_0 c0_0, .slice A0_1 n0_1 c0_1, .slice A0_2 n0_2 c0_2] 50)).heap.size by simp)
  obtain ⟨h1, wf1⟩ := w1
  obtain rfl : x1.length = len1 := h1.1
  unfold maxLen at wf1
  by_cases hlong1 : (1048576 : Int) < (x1.length : Int)
  · go_enter Try.func9, Try.ntmps9
    go_wp2
    go_ret
    exact ⟨rfl, hb⟩
  have hlong1' : decide ((1048576 : Int) < (x1.length : Int)) = false := by simpa using hlong1
  have S1 : x1.length ≤ 1048576 := by omega
  go_enter Try.func9, Try.ntmps9
  go_wp2_with fail
  generalize w.alloc (.cells #[.slice A0_0 n0_0 c0_0, .slice A0_1 n0_1 c0_1, .slice A0_2 n0_2 c0_2] 50) = z0 at *
  refine (lawsSzDisk x0 A0_0 n0_0 c0_0 A0_1 n0_1 c0_1 A0_2 n0_2 c0_2 1048576 _ _ (h0_0.below FzR.stays hb) (h0_1.below FzR.stays hb) (h0_2.below OzR.stays hb) WF0.out (by omega) (by omega)).mono ?_
  rintro e y1 ⟨rfl, hq1⟩
  have rb0 := rb0.below hq1
  have hb := hb.trans (hq1.mono hb.size)
  obtain ⟨⟨krb0_0, krb0_1, krb0_2⟩, -⟩ := rb0.three
  rcases szR_cases 1048576 (x0.sz) (by omega) with ⟨hno, hv⟩ | ⟨l1, hv, hl1, h01, h11, hle1⟩
  · rw [hv.out]
    go_wp2
    go_ret
    exact ⟨rfl, hb⟩
  rw [hv.out]
  have S0 := Lib.hid (show x0.sz ≤ 1048576 by omega)
  clear hle1
  have FIT := Lib.hid (show Dz.fits (crashD x0 x1 a2) from crashD_fits x0 x1 a2)
  obtain ⟨aw, haw⟩ : ∃ g, g = crashD x0 x1 a2 := ⟨_, rfl⟩
  rw [← haw] at FIT
  have HAW := Lib.hid haw
  clear haw
  obtain ⟨kc, hkc⟩ : ∃ g, g = crashOk x0 x1 a2 := ⟨_, rfl⟩
  have HKC := Lib.hid hkc
  clear hkc
  go_wp2_with fail
  refine (lawsToDisk x0 A0_0 n0_0 c0_0 A0_1 n0_1 c0_1 A0_2 n0_2 c0_2 _ _ (h0_0.below FzR.stays hb) (h0_1.below FzR.stays hb) (h0_2.below OzR.stays hb) S0.out).mono ?_
  rintro e y2 ⟨css, rfl, hRs, hq2⟩
  obtain ⟨As0, ns0, cs0, As1, ns1, cs1, As2, ns2, cs2, rfl, ts0, ts1, ts2, -⟩ := hRs
  have rb0 := rb0.below hq2
  have hb := hb.trans (hq2.mono hb.size)
  clear krb0_0 krb0_1 krb0_2
  go_wp2_with fail
  refine (lawsToIntL a1 x1.length cap1 x1 _ _ (h1.below IntR.stays hb) S1).mono ?_
  rintro e y3 ⟨Bis, dis, rfl, -, tis, hq3⟩
  have ts0 := ts0.below FzR.stays hq3
  have ts1 := ts1.below FzR.stays hq3
  have ts2 := ts2.below OzR.stays hq3
  have rb0 := rb0.below hq3
  have hb := hb.trans (hq3.mono hb.size)
  go_wp2_with fail
  have hpre := True.intro
  refine (specCrash x0 Bis _ dis x1 a2 As0 ns0 cs0 As1 ns1 cs1 As2 ns2 cs2 _ _ _ ts0 ts1 ts2 tis S0.out S1).mono ?_
  rintro e y4 ⟨⟨vw, rfl, hDw⟩, hq4⟩
  rw [← HAW.out] at hDw
  obtain ⟨Aw0, cw0, Aw1, cw1, Aw2, cw2, bw0, bw1, bw2, rfl, tw0, tw1, tw2, fw0, fw1, fw2, ndw, ltw⟩ := hDw.open_ FIT.out
  clear hDw hpre
  rw [← HKC.out]
  have ts0 := ts0.below FzR.stays hq4
  have ts1 := ts1.below FzR.stays hq4
  have ts2 := ts2.below OzR.stays hq4
  have tis := tis.below IntR.stays hq4
  have rb0 := rb0.below hq4
  have hb := hb.trans (hq4.mono hb.size)
  clear ts0
  clear ts1
  clear ts2
  clear tis
  clear fw0
  clear fw1
  clear fw2
  clear ndw ltw
  have hal := (Below.refl y4.heap.size y4).alloc (Nat.le_refl _) (.cells #[.slice Aw0 aw.live.length cw0, .slice Aw1 aw.safe.length cw1, .slice Aw2 aw.ops.length cw2] 27)
  have tw0 := tw0.below FzR.stays hal
  have tw1 := tw1.below FzR.stays hal
  have tw2 := tw2.below OzR.stays hal
  have rb0 := rb0.below hal
  have rw_ := Row.new y4 27 #[.slice Aw0 aw.live.length cw0, .slice Aw1 aw.safe.length cw1, .slice Aw2 aw.ops.length cw2]
  have hb := hb.alloc hb.size (.cells #[.slice Aw0 aw.live.length cw0, .slice Aw1 aw.safe.length cw1, .slice Aw2 aw.ops.length cw2] 27)
  have hs_rw_ := Lib.hid (show y4.heap.size < (y4.alloc (.cells #[.slice Aw0 aw.live.length cw0, .slice Aw1 aw.safe.length cw1, .slice Aw2 aw.ops.length cw2] 27)).heap.size by simp)
  obtain ⟨⟨krb0_0, krb0_1, krb0_2⟩, -⟩ := rb0.three
  go_wp2_with fail
  generalize y4.alloc (.cells #[.slice Aw0 aw.live.length cw0, .slice Aw1 aw.safe.length cw1, .slice Aw2 aw.ops.length cw2] 27) = z5 at *
  clear hal
  clear krb0_0 krb0_1 krb0_2
  obtain ⟨⟨krb0_0, krb0_1, krb0_2⟩, -⟩ := rb0.three
  have HGB := Lib.hid (show w.heap.size < z5.heap.size from Nat.lt_of_lt_of_le hs_rb0.out (Nat.le_trans (Nat.le_trans hq1.size (Nat.le_trans hq2.size (Nat.le_trans hq3.size hq4.size))) (Nat.le_of_lt hs_rw_.out)))
  refine (lawsToDisk x0 A0_0 n0_0 c0_0 A0_1 n0_1 c0_1 A0_2 n0_2 c0_2 _ _ (h0_0.below FzR.stays hb) (h0_1.below FzR.stays hb) (h0_2.below OzR.stays hb) S0.out).mono ?_
  rintro e y6 ⟨csx, rfl, hRx, hq6⟩
  obtain ⟨Ax0, nx0, cx0, Ax1, nx1, cx1, Ax2, nx2, cx2, rfl, tx0, tx1, tx2, -⟩ := hRx
  have tw0 := tw0.below FzR.stays hq6
  have tw1 := tw1.below FzR.stays hq6
  have tw2 := tw2.below OzR.stays hq6
  have rb0 := rb0.below hq6
  have rw_ := rw_.below hq6
  have hb := hb.trans (hq6.mono hb.size)
  clear krb0_0 krb0_1 krb0_2
  have HBE := Lib.hid hq6.size
  have M := mayMark_okF (G := z5.heap.size) (Nat.le_refl y6.heap.size)
  have nx := Lib.hid (show nx0 ≤ 1048576 ∧ nx1 ≤ 1048576 ∧ nx2 ≤ 1048576 from ⟨by rw [← tx0.1]; exact (sz_lens S0.out).1, by rw [← tx1.1]; exact (sz_lens S0.out).2.1, by rw [← tx2.1]; exact (sz_lens S0.out).2.2⟩)
  have hal := (Below.refl y6.heap.size y6).alloc (Nat.le_refl _) (.cells #[.slice Ax0 nx0 cx0, .slice Ax1 nx1 cx1, .slice Ax2 nx2 cx2] 27)
  have tw0 := tw0.below FzR.stays hal
  have tw1 := tw1.below FzR.stays hal
  have tw2 := tw2.below OzR.stays hal
  have tx0 := tx0.below FzR.stays hal
  have tx1 := tx1.below FzR.stays hal
  have tx2 := tx2.below OzR.stays hal
  have M := M.below hal
  have rb0 := rb0.below hal
  have rw_ := rw_.below hal
  have rx_ := Row.new y6 27 #[.slice Ax0 nx0 cx0, .slice Ax1 nx1 cx1, .slice Ax2 nx2 cx2]
  have hb := hb.alloc hb.size (.cells #[.slice Ax0 nx0 cx0, .slice Ax1 nx1 cx1, .slice Ax2 nx2 cx2] 27)
  have hs_rx_ := Lib.hid (show y6.heap.size < (y6.alloc (.cells #[.slice Ax0 nx0 cx0, .slice Ax1 nx1 cx1, .slice Ax2 nx2 cx2] 27)).heap.size by simp)
  go_wp2_with fail
  generalize y6.alloc (.cells #[.slice Ax0 nx0 cx0, .slice Ax1 nx1 cx1, .slice Ax2 nx2 cx2] 27) = z7 at *
  clear hal
  obtain ⟨⟨krx__0, krx__1, krx__2⟩, -⟩ := rx_.three
  refine (lawsToIntL a1 x1.length cap1 x1 _ _ (h1.below IntR.stays hb) S1).mono ?_
  rintro e y8 ⟨Bix, dix, rfl, -, tix, hq8⟩
  have tw0 := tw0.below FzR.stays hq8
  have tw1 := tw1.below FzR.stays hq8
  have tw2 := tw2.below OzR.stays hq8
  have tx0 := tx0.below FzR.stays hq8
  have tx1 := tx1.below FzR.stays hq8
  have tx2 := tx2.below OzR.stays hq8
  have M := M.below hq8
  have rb0 := rb0.below hq8
  have rw_ := rw_.below hq8
  have rx_ := rx_.below hq8
  have hb := hb.trans (hq8.mono hb.size)
  clear krx__0 krx__1 krx__2
  obtain ⟨⟨krx__0, krx__1, krx__2⟩, -⟩ := rx_.three
  have HDI := Lib.hid hq8.size
  have M1 := mayMark_okF (G := z7.heap.size) (Nat.le_refl y8.heap.size)
  go_wp2_with fail
  have hpre := True.intro
  refine (implCrash x0 Bix _ dix x1 a2 Ax0 nx0 cx0 Ax1 nx1 cx1 Ax2 nx2 cx2 _ _ _ tx0 tx1 tx2 tix S0.out S1).mono ?_
  rintro e y9 ⟨⟨vg, rfl, hDg⟩, hq9⟩
  rw [← HAW.out] at hDg
  obtain ⟨Ag0, cg0, Ag1, cg1, Ag2, cg2, bg0, bg1, bg2, rfl, tg0, tg1, tg2, fg0, fg1, fg2, ndg, ltg⟩ := hDg.open_ FIT.out
  clear hDg hpre
  rw [← HKC.out]
  have tw0 := tw0.below FzR.stays hq9
  have tw1 := tw1.below FzR.stays hq9
  have tw2 := tw2.below OzR.stays hq9
  have tx0 := tx0.below FzR.stays hq9
  have tx1 := tx1.below FzR.stays hq9
  have tx2 := tx2.below OzR.stays hq9
  have M := M.below hq9
  have tix := tix.below IntR.stays hq9
  have M1 := M1.below hq9
  have rb0 := rb0.below hq9
  have rw_ := rw_.below hq9
  have rx_ := rx_.below hq9
  have hb := hb.trans (hq9.mono hb.size)
  clear krx__0 krx__1 krx__2
  have HDF := Lib.hid hq9.size
  have LTG := Lib.hid ltg
  clear ltg
  have hal := (Below.refl y9.heap.size y9).alloc (Nat.le_refl _) (.cells #[.slice Ag0 aw.live.length cg0, .slice Ag1 aw.safe.length cg1, .slice Ag2 aw.ops.length cg2] 27)
  have tw0 := tw0.below FzR.stays hal
  have tw1 := tw1.below FzR.stays hal
  have tw2 := tw2.below OzR.stays hal
  have tx0 := tx0.below FzR.stays hal
  have tx1 := tx1.below FzR.stays hal
  have tx2 := tx2.below OzR.stays hal
  have M := M.below hal
  have tix := tix.below IntR.stays hal
  have M1 := M1.below hal
  have tg0 := tg0.below FzR.stays hal
  have tg1 := tg1.below FzR.stays hal
  have tg2 := tg2.below OzR.stays hal
  have fg0 := fg0.stay (KeptL.below (bs := []) hal) (fun _ _ => List.not_mem_nil)
  have fg1 := fg1.stay (KeptL.below (bs := []) hal) (fun _ _ => List.not_mem_nil)
  have fg2 := fg2.stay (KeptL.below (bs := []) hal) (fun _ _ => List.not_mem_nil)
  have rb0 := rb0.below hal
  have rw_ := rw_.below hal
  have rx_ := rx_.below hal
  have rg_ := Row.new y9 27 #[.slice Ag0 aw.live.length cg0, .slice Ag1 aw.safe.length cg1, .slice Ag2 aw.ops.length cg2]
  have hb := hb.alloc hb.size (.cells #[.slice Ag0 aw.live.length cg0, .slice Ag1 aw.safe.length cg1, .slice Ag2 aw.ops.length cg2] 27)
  have hs_rg_ := Lib.hid (show y9.heap.size < (y9.alloc (.cells #[.slice Ag0 aw.live.length cg0, .slice Ag1 aw.safe.length cg1, .slice Ag2 aw.ops.length cg2] 27)).heap.size by simp)
  obtain ⟨⟨krw__0, krw__1, krw__2⟩, -⟩ := rw_.three
  go_wp2_with fail
  generalize y9.alloc (.cells #[.slice Ag0 aw.live.length cg0, .slice Ag1 aw.safe.length cg1, .slice Ag2 aw.ops.length cg2] 27) = z10 at *
  clear hal
  clear krw__0 krw__1 krw__2
  obtain ⟨⟨krg__0, krg__1, krg__2⟩, -⟩ := rg_.three
  obtain ⟨⟨krw__0, krw__1, krw__2⟩, -⟩ := rw_.three
  refine (lawsEqDiskM aw Ag0 Aw0 _ cg0 cw0 Ag1 Aw1 _ cg1 cw1 Ag2 Aw2 _ cg2 cw2 _ _ _ tg0 tg1 tg2 tw0 tw1 tw2 FIT.out).mono ?_
  rintro e y11 ⟨rfl, hq11⟩
  have tw0 := tw0.below FzR.stays hq11
  have tw1 := tw1.below FzR.stays hq11
  have tw2 := tw2.below OzR.stays hq11
  have tx0 := tx0.below FzR.stays hq11
  have tx1 := tx1.below FzR.stays hq11
  have tx2 := tx2.below OzR.stays hq11
  have M := M.below hq11
  have tix := tix.below IntR.stays hq11
  have M1 := M1.below hq11
  have tg0 := tg0.below FzR.stays hq11
  have tg1 := tg1.below FzR.stays hq11
  have tg2 := tg2.below OzR.stays hq11
  have fg0 := fg0.stay (KeptL.below (bs := []) hq11) (fun _ _ => List.not_mem_nil)
  have fg1 := fg1.stay (KeptL.below (bs := []) hq11) (fun _ _ => List.not_mem_nil)
  have fg2 := fg2.stay (KeptL.below (bs := []) hq11) (fun _ _ => List.not_mem_nil)
  have rb0 := rb0.below hq11
  have rw_ := rw_.below hq11
  have rx_ := rx_.below hq11
  have rg_ := rg_.below hq11
  have hb := hb.trans (hq11.mono hb.size)
  clear krg__0 krg__1 krg__2 krw__0 krw__1 krw__2
  obtain ⟨⟨krx__0, krx__1, krx__2⟩, -⟩ := rx_.three
  obtain ⟨⟨krb0_0, krb0_1, krb0_2⟩, -⟩ := rb0.three
  go_wp2_with fail
  have tw0 := tw0.below FzR.stays ((Below.refl _ _).drew)
  have tw1 := tw1.below FzR.stays ((Below.refl _ _).drew)
  have tw2 := tw2.below OzR.stays ((Below.refl _ _).drew)
  have tx0 := tx0.below FzR.stays ((Below.refl _ _).drew)
  have tx1 := tx1.below FzR.stays ((Below.refl _ _).drew)
  have tx2 := tx2.below OzR.stays ((Below.refl _ _).drew)
  have M := M.below ((Below.refl _ _).drew)
  have tix := tix.below IntR.stays ((Below.refl _ _).drew)
  have M1 := M1.below ((Below.refl _ _).drew)
  have tg0 := tg0.below FzR.stays ((Below.refl _ _).drew)
  have tg1 := tg1.below FzR.stays ((Below.refl _ _).drew)
  have tg2 := tg2.below OzR.stays ((Below.refl _ _).drew)
  have fg0 := fg0.stay (KeptL.below (bs := []) ((Below.refl _ _).drew)) (fun _ _ => List.not_mem_nil)
  have fg1 := fg1.stay (KeptL.below (bs := []) ((Below.refl _ _).drew)) (fun _ _ => List.not_mem_nil)
  have fg2 := fg2.stay (KeptL.below (bs := []) ((Below.refl _ _).drew)) (fun _ _ => List.not_mem_nil)
  have rb0 := rb0.below ((Below.refl _ _).drew)
  have rw_ := rw_.below ((Below.refl _ _).drew)
  have rx_ := rx_.below ((Below.refl _ _).drew)
  have rg_ := rg_.below ((Below.refl _ _).drew)
  have hb := hb.drew
  go_region_held3 (fun w' => w'.cell? ⟨y6.heap.size, 0, none⟩ = some (.slice Ax0 nx0 cx0) ∧ w'.cell? ⟨y6.heap.size, 1, none⟩ = some (.slice Ax1 nx1 cx1) ∧ w'.cell? ⟨y6.heap.size, 2, none⟩ = some (.slice Ax2 nx2 cx2) ∧ w'.cell? ⟨w.heap.size, 0, none⟩ = some (.slice A0_0 n0_0 c0_0) ∧ w'.cell? ⟨w.heap.size, 1, none⟩ = some (.slice A0_1 n0_1 c0_1) ∧ w'.cell? ⟨w.heap.size, 2, none⟩ = some (.slice A0_2 n0_2 c0_2))
    (first | go_keep | (with_reducible exact keepE6 (by assumption) hqB) | (with_reducible exact keepE6 (by assumption) hqA))
    (first | (go_at_call 27; refine (lawsToDisk x0 A0_0 n0_0 c0_0 A0_1 n0_1 c0_1 A0_2 n0_2 c0_2 _ _ (h0_0.below FzR.stays hb) (h0_1.below FzR.stays hb) (h0_2.below OzR.stays hb) S0.out).mono ?_; rintro e yA ⟨cse, rfl, hRe, hqA⟩; obtain ⟨Ae0, ne0, ce0, Ae1, ne1, ce1, Ae2, ne2, ce2, rfl, te0, te1, te2, -⟩ := hRe; obtain ⟨rfl, rfl, rfl⟩ : nx0 = ne0 ∧ nx1 = ne1 ∧ nx2 = ne2 := ⟨tx0.1.symm.trans te0.1, tx1.1.symm.trans te1.1, tx2.1.symm.trans te2.1⟩) | (go_at_call 28; refine (lawsEqDisk x0 Ax0 Ae0 nx0 cx0 ce0 Ax1 Ae1 nx1 cx1 ce1 Ax2 Ae2 nx2 cx2 ce2 _ _ _ (tx0.below FzR.stays hqA) (tx1.below FzR.stays hqA) (tx2.below OzR.stays hqA) te0 te1 te2 S0.out).mono ?_; rintro e yB ⟨rfl, hqB⟩))
  have tw0 := tw0.below FzR.stays hqA
  have tw1 := tw1.below FzR.stays hqA
  have tw2 := tw2.below OzR.stays hqA
  have tx0 := tx0.below FzR.stays hqA
  have tx1 := tx1.below FzR.stays hqA
  have tx2 := tx2.below OzR.stays hqA
  have M := M.below hqA
  have tix := tix.below IntR.stays hqA
  have M1 := M1.below hqA
  have tg0 := tg0.below FzR.stays hqA
  have tg1 := tg1.below FzR.stays hqA
  have tg2 := tg2.below OzR.stays hqA
  have fg0 := fg0.stay (KeptL.below (bs := []) hqA) (fun _ _ => List.not_mem_nil)
  have fg1 := fg1.stay (KeptL.below (bs := []) hqA) (fun _ _ => List.not_mem_nil)
  have fg2 := fg2.stay (KeptL.below (bs := []) hqA) (fun _ _ => List.not_mem_nil)
  have rb0 := rb0.below hqA
  have rw_ := rw_.below hqA
  have rx_ := rx_.below hqA
  have rg_ := rg_.below hqA
  have tw0 := tw0.below FzR.stays hqB
  have tw1 := tw1.below FzR.stays hqB
  have tw2 := tw2.below OzR.stays hqB
  have tx0 := tx0.below FzR.stays hqB
  have tx1 := tx1.below FzR.stays hqB
  have tx2 := tx2.below OzR.stays hqB
  have M := M.below hqB
  have tix := tix.below IntR.stays hqB
  have M1 := M1.below hqB
  have tg0 := tg0.below FzR.stays hqB
  have tg1 := tg1.below FzR.stays hqB
  have tg2 := tg2.below OzR.stays hqB
  have fg0 := fg0.stay (KeptL.below (bs := []) hqB) (fun _ _ => List.not_mem_nil)
  have fg1 := fg1.stay (KeptL.below (bs := []) hqB) (fun _ _ => List.not_mem_nil)
  have fg2 := fg2.stay (KeptL.below (bs := []) hqB) (fun _ _ => List.not_mem_nil)
  have rb0 := rb0.below hqB
  have rw_ := rw_.below hqB
  have rx_ := rx_.below hqB
  have rg_ := rg_.below hqB
  have hb := (hb.trans (hqA.mono hb.size))
  have hb := (hb.trans (hqB.mono hb.size))
  clear krx__0 krx__1 krx__2 krb0_0 krb0_1 krb0_2
  obtain ⟨⟨krx__0, krx__1, krx__2⟩, -⟩ := rx_.three
  go_wp2_with fail
  refine (lawsToIntL a1 x1.length cap1 x1 _ _ (h1.below IntR.stays hb) S1).mono ?_
  rintro e y12 ⟨Bie, die, rfl, -, tie, hq12⟩
  have tw0 := tw0.below FzR.stays hq12
  have tw1 := tw1.below FzR.stays hq12
  have tw2 := tw2.below OzR.stays hq12
  have tx0 := tx0.below FzR.stays hq12
  have tx1 := tx1.below FzR.stays hq12
  have tx2 := tx2.below OzR.stays hq12
  have M := M.below hq12
  have tix := tix.below IntR.stays hq12
  have M1 := M1.below hq12
  have tg0 := tg0.below FzR.stays hq12
  have tg1 := tg1.below FzR.stays hq12
  have tg2 := tg2.below OzR.stays hq12
  have fg0 := fg0.stay (KeptL.below (bs := []) hq12) (fun _ _ => List.not_mem_nil)
  have fg1 := fg1.stay (KeptL.below (bs := []) hq12) (fun _ _ => List.not_mem_nil)
  have fg2 := fg2.stay (KeptL.below (bs := []) hq12) (fun _ _ => List.not_mem_nil)
  have rb0 := rb0.below hq12
  have rw_ := rw_.below hq12
  have rx_ := rx_.below hq12
  have rg_ := rg_.below hq12
  have hb := hb.trans (hq12.mono hb.size)
  clear krx__0 krx__1 krx__2
  obtain ⟨⟨krx__0, krx__1, krx__2⟩, -⟩ := rx_.three
  go_wp2_with fail
  refine (lawsEqIntL Bix Bie _ _ _ x1 _ _ _ tix tie S1).mono ?_
  rintro e y13 ⟨rfl, hq13⟩
  have tw0 := tw0.below FzR.stays hq13
  have tw1 := tw1.below FzR.stays hq13
  have tw2 := tw2.below OzR.stays hq13
  have tx0 := tx0.below FzR.stays hq13
  have tx1 := tx1.below FzR.stays hq13
  have tx2 := tx2.below OzR.stays hq13
  have M := M.below hq13
  have tix := tix.below IntR.stays hq13
  have M1 := M1.below hq13
  have tg0 := tg0.below FzR.stays hq13
  have tg1 := tg1.below FzR.stays hq13
  have tg2 := tg2.below OzR.stays hq13
  have fg0 := fg0.stay (KeptL.below (bs := []) hq13) (fun _ _ => List.not_mem_nil)
  have fg1 := fg1.stay (KeptL.below (bs := []) hq13) (fun _ _ => List.not_mem_nil)
  have fg2 := fg2.stay (KeptL.below (bs := []) hq13) (fun _ _ => List.not_mem_nil)
  have tie := tie.below IntR.stays hq13
  have rb0 := rb0.below hq13
  have rw_ := rw_.below hq13
  have rx_ := rx_.below hq13
  have rg_ := rg_.below hq13
  have hb := hb.trans (hq13.mono hb.size)
  clear krx__0 krx__1 krx__2
  obtain ⟨⟨krx__0, krx__1, krx__2⟩, -⟩ := rx_.three
  clear tie
  go_wp2_with fail
  obtain ⟨m0, hm0⟩ : ∃ m, m = x0.live.map (fun _ : Fz => 2) := ⟨_, rfl⟩
  obtain ⟨m1, hm1⟩ : ∃ m, m = x0.safe.map (fun _ : Fz => 2) := ⟨_, rfl⟩
  obtain ⟨m2, hm2⟩ : ∃ m, m = x0.ops.map (fun _ : Oz => 4) := ⟨_, rfl⟩
  have hbd : m0.sum ≤ 6291456 ∧ m1.sum ≤ 6291456 ∧ m2.sum ≤ 6291456 := by
    have h1 := sum_le_of (f := fun _ : Fz => 2) (g := Fz.sz) 6 (fun _ => by omega) x0.live
    have h2 := sum_le_of (f := fun _ : Fz => 2) (g := Fz.sz) 6 (fun _ => by omega) x0.safe
    have h3 := sum_le_of (f := fun _ : Oz => 4) (g := Oz.sz) 6 (fun _ => by omega) x0.ops
    have h4 := S0.out
    unfold Dz.sz at h4
    rw [hm0, hm1, hm2]
    omega
  have sx0 := tx0.toSh Fz.toSh (fun _ _ => trivial)
  rw [← hm0] at sx0
  have sx1 := tx1.toSh Fz.toSh (fun _ _ => trivial)
  rw [← hm1] at sx1
  have sx2 := tx2.toSh Oz.toSh (fun _ _ => trivial)
  rw [← hm2] at sx2
  clear hm0 hm1 hm2
  clear tx0
  clear tx1
  clear tx2
  refine (marksDisk Ax0 nx0 cx0 Ax1 nx1 cx1 Ax2 nx2 cx2 m0 m1 m2 _ z5.heap.size y6.heap.size 1 _ sx0 sx1 sx2 M (by omega) nx.out rfl).mono ?_
  rintro e y14 ⟨rfl, hq14⟩
  have hb := Kept.toBelow hb hq14 (Nat.le_of_lt HGB.out) hb.size
  clear sx0 sx1 sx2
  clear M
  have tw0 := tw0.kept FzR.stays hq14 (fun b hb => Or.inl (Nat.lt_trans hb.2.1 hs_rw_.out))
  have tw1 := tw1.kept FzR.stays hq14 (fun b hb => Or.inl (Nat.lt_trans hb.2.1 hs_rw_.out))
  have tw2 := tw2.kept OzR.stays hq14 (fun b hb => Or.inl (Nat.lt_trans hb.2.1 hs_rw_.out))
  have tix := tix.kept IntR.stays hq14 (fun b hb => Or.inr (by have o0 := hb.1; have o1 := hs_rx_.out; have o2 := HDF.out; have o3 := HBE.out; have o4 := hs_rw_.out; have o5 := HGB.out; have o6 := HDI.out; omega))
  have M1 := M1.kept hq14
  have tg0 := tg0.kept FzR.stays hq14 (fun b hb => Or.inr (by have o0 := hb.1; have o1 := hs_rx_.out; have o2 := HDF.out; have o3 := HBE.out; have o4 := hs_rw_.out; have o5 := HGB.out; have o6 := HDI.out; omega))
  have tg1 := tg1.kept FzR.stays hq14 (fun b hb => Or.inr (by have o0 := hb.1; have o1 := hs_rx_.out; have o2 := HDF.out; have o3 := HBE.out; have o4 := hs_rw_.out; have o5 := HGB.out; have o6 := HDI.out; omega))
  have tg2 := tg2.kept OzR.stays hq14 (fun b hb => Or.inr (by have o0 := hb.1; have o1 := hs_rx_.out; have o2 := HDF.out; have o3 := HBE.out; have o4 := hs_rw_.out; have o5 := HGB.out; have o6 := HDI.out; omega))
  have fg0 := fg0.stay (KeptL.range hq14) (not_range (fun b hb => by have o0 := (LTG.out b (by simp [hb])).1; have o1 := hs_rx_.out; have o2 := HDF.out; have o3 := HBE.out; have o4 := hs_rw_.out; have o5 := HGB.out; have o6 := HDI.out; omega))
  have fg1 := fg1.stay (KeptL.range hq14) (not_range (fun b hb => by have o0 := (LTG.out b (by simp [hb])).1; have o1 := hs_rx_.out; have o2 := HDF.out; have o3 := HBE.out; have o4 := hs_rw_.out; have o5 := HGB.out; have o6 := HDI.out; omega))
  have fg2 := fg2.stay (KeptL.range hq14) (not_range (fun b hb => by have o0 := (LTG.out b (by simp [hb])).1; have o1 := hs_rx_.out; have o2 := HDF.out; have o3 := HBE.out; have o4 := hs_rw_.out; have o5 := HGB.out; have o6 := HDI.out; omega))
  have rb0 := Row.keptB rb0 hq14 (Or.inl HGB.out)
  have rw_ := Row.keptB rw_ hq14 (Or.inl hs_rw_.out)
  have rx_ := Row.keptB rx_ hq14 (Or.inr (Nat.le_refl _))
  have rg_ := Row.keptB rg_ hq14 (Or.inr (by have o1 := hs_rx_.out; have o2 := HDF.out; have o3 := HBE.out; have o4 := hs_rw_.out; have o5 := HGB.out; have o6 := HDI.out; omega))
  clear rx_
  clear krx__0 krx__1 krx__2
  obtain ⟨⟨krg__0, krg__1, krg__2⟩, -⟩ := rg_.three
  obtain ⟨⟨krw__0, krw__1, krw__2⟩, -⟩ := rw_.three
  generalize hk0 : 1 + m0.sum + m1.sum + m2.sum = k0
  have hkb : k0 ≤ 18874369 := by omega
  clear hk0 hbd
  obtain ⟨mi, hmi⟩ : ∃ m, m = x1.map (fun _ : Int => 1) := ⟨_, rfl⟩
  have hbi : mi.sum ≤ 1048576 := by rw [hmi, sum_ones]; exact S1
  have six := tix.toSh Int.toSh (fun _ _ => trivial)
  rw [← hmi] at six
  clear hmi
  clear tix
  clear krg__0 krg__1 krg__2 krw__0 krw__1 krw__2
  go_wp2_with fail
  refine (marksIntL Bix _ dix mi _ z7.heap.size y8.heap.size k0 _ six M1 (by omega) S1 rfl).mono ?_
  rintro e y15 ⟨rfl, hq15⟩
  have hb := Kept.toBelow hb hq15 (by have := HGB.out; have := HBE.out; have := hs_rx_.out; omega) hb.size
  clear six
  clear M1
  have tw0 := tw0.kept FzR.stays hq15 (fun b hb => Or.inl (by have o0 := hb.2.1; have o1 := hs_rx_.out; have o2 := HDF.out; have o3 := HBE.out; have o4 := hs_rw_.out; have o5 := HGB.out; have o6 := HDI.out; omega))
  have tw1 := tw1.kept FzR.stays hq15 (fun b hb => Or.inl (by have o0 := hb.2.1; have o1 := hs_rx_.out; have o2 := HDF.out; have o3 := HBE.out; have o4 := hs_rw_.out; have o5 := HGB.out; have o6 := HDI.out; omega))
  have tw2 := tw2.kept OzR.stays hq15 (fun b hb => Or.inl (by have o0 := hb.2.1; have o1 := hs_rx_.out; have o2 := HDF.out; have o3 := HBE.out; have o4 := hs_rw_.out; have o5 := HGB.out; have o6 := HDI.out; omega))
  have tg0 := tg0.kept FzR.stays hq15 (fun b hb => Or.inr hb.1)
  have tg1 := tg1.kept FzR.stays hq15 (fun b hb => Or.inr hb.1)
  have tg2 := tg2.kept OzR.stays hq15 (fun b hb => Or.inr hb.1)
  have fg0 := fg0.stay (KeptL.range hq15) (not_range (fun b hb => (LTG.out b (by simp [hb])).1))
  have fg1 := fg1.stay (KeptL.range hq15) (not_range (fun b hb => (LTG.out b (by simp [hb])).1))
  have fg2 := fg2.stay (KeptL.range hq15) (not_range (fun b hb => (LTG.out b (by simp [hb])).1))
  have rb0 := Row.keptB rb0 hq15 (Or.inl (by have o1 := hs_rx_.out; have o2 := HDF.out; have o3 := HBE.out; have o4 := hs_rw_.out; have o5 := HGB.out; have o6 := HDI.out; omega))
  have rw_ := Row.keptB rw_ hq15 (Or.inl (by have o1 := hs_rx_.out; have o2 := HDF.out; have o3 := HBE.out; have o4 := hs_rw_.out; have o5 := HGB.out; have o6 := HDI.out; omega))
  have rg_ := Row.keptB rg_ hq15 (Or.inr (by have o1 := hs_rx_.out; have o2 := HDF.out; have o3 := HBE.out; have o4 := hs_rw_.out; have o5 := HGB.out; have o6 := HDI.out; omega))
  obtain ⟨⟨krg__0, krg__1, krg__2⟩, -⟩ := rg_.three
  obtain ⟨⟨krw__0, krw__1, krw__2⟩, -⟩ := rw_.three
  generalize hkk : k0 + mi.sum = kk
  have hk1 : 1 ≤ kk ∨ True := Or.inr trivial
  have hk2 : (0 : Int) ≤ (kk : Int) := by omega
  have hk3 : decide ((kk : Int) < 0) = false := by rw [decide_eq_false_iff_not]; omega
  clear hkk hbi hkb
  go_wp2_with fail
  refine (lawsEqDiskM aw Ag0 Aw0 _ cg0 cw0 Ag1 Aw1 _ cg1 cw1 Ag2 Aw2 _ cg2 cw2 _ _ _ tg0 tg1 tg2 tw0 tw1 tw2 FIT.out).mono ?_
  rintro e y16 ⟨rfl, hq16⟩
  have tw0 := tw0.below FzR.stays hq16
  have tw1 := tw1.below FzR.stays hq16
  have tw2 := tw2.below OzR.stays hq16
  have tg0 := tg0.below FzR.stays hq16
  have tg1 := tg1.below FzR.stays hq16
  have tg2 := tg2.below OzR.stays hq16
  have fg0 := fg0.stay (KeptL.below (bs := []) hq16) (fun _ _ => List.not_mem_nil)
  have fg1 := fg1.stay (KeptL.below (bs := []) hq16) (fun _ _ => List.not_mem_nil)
  have fg2 := fg2.stay (KeptL.below (bs := []) hq16) (fun _ _ => List.not_mem_nil)
  have rb0 := rb0.below hq16
  have rw_ := rw_.below hq16
  have rg_ := rg_.below hq16
  have hb := hb.trans (hq16.mono hb.size)
  clear krg__0 krg__1 krg__2 krw__0 krw__1 krw__2
  obtain ⟨⟨krg__0, krg__1, krg__2⟩, -⟩ := rg_.three
  clear hk1 hk2 hk3
  clear tg0
  clear tg1
  clear tg2
  go_wp2_with fail
  have HSG := Lib.hid (show ∀ b ∈ bg0 ++ bg1 ++ bg2, w.heap.size ≤ b from fun b hh => by have o0 := (LTG.out b hh).1; have o1 := hs_rx_.out; have o2 := HDF.out; have o3 := HBE.out; have o4 := hs_rw_.out; have o5 := HGB.out; have o6 := HDI.out; omega)
  refine (marksXDisk Ag0 _ cg0 Ag1 _ cg1 Ag2 _ cg2 bg0 bg1 bg2 1 _ fg0 fg1 fg2 ndg (by omega) rfl).mono ?_
  rintro e y17 ⟨rfl, hq17, mg0, mg1, mg2⟩
  have hb := KeptL.toBelow hb hq17 HSG.out hb.size
  clear fg0
  clear fg1
  clear fg2
  have tw0 := tw0.keptL FzR.stays hq17 (fun b hb hh => by have h1 := hb.2.1; have h2 := LTG.out _ hh; have o1 := hs_rx_.out; have o2 := HDF.out; have o3 := HBE.out; have o4 := hs_rw_.out; have o5 := HGB.out; have o6 := HDI.out; omega)
  have tw1 := tw1.keptL FzR.stays hq17 (fun b hb hh => by have h1 := hb.2.1; have h2 := LTG.out _ hh; have o1 := hs_rx_.out; have o2 := HDF.out; have o3 := HBE.out; have o4 := hs_rw_.out; have o5 := HGB.out; have o6 := HDI.out; omega)
  have tw2 := tw2.keptL OzR.stays hq17 (fun b hb hh => by have h1 := hb.2.1; have h2 := LTG.out _ hh; have o1 := hs_rx_.out; have o2 := HDF.out; have o3 := HBE.out; have o4 := hs_rw_.out; have o5 := HGB.out; have o6 := HDI.out; omega)
  have rb0 := Row.keptL rb0 hq17 (fun hh => by have h2 := LTG.out _ hh; have o1 := hs_rx_.out; have o2 := HDF.out; have o3 := HBE.out; have o4 := hs_rw_.out; have o5 := HGB.out; have o6 := HDI.out; omega)
  have rw_ := Row.keptL rw_ hq17 (fun hh => by have h2 := LTG.out _ hh; have o1 := hs_rx_.out; have o2 := HDF.out; have o3 := HBE.out; have o4 := hs_rw_.out; have o5 := HGB.out; have o6 := HDI.out; omega)
  have rg_ := Row.keptL rg_ hq17 (fun hh => by have h2 := LTG.out _ hh; omega)
  clear krg__0 krg__1 krg__2
  obtain ⟨⟨krg__0, krg__1, krg__2⟩, -⟩ := rg_.three
  generalize hmm : 1 + aw.live.length * 2 + aw.safe.length * 2 + aw.ops.length * 4 = mm
  have HMM := Lib.hid hmm
  have hp1 : decide ((mm : Int) < 0) = false := by rw [decide_eq_false_iff_not]; omega
  clear hmm
  go_wp2_with fail
  refine (heldXDisk Ag0 _ cg0 Ag1 _ cg1 Ag2 _ cg2 bg0 bg1 bg2 1 _ mg0 mg1 mg2 (by omega) rfl).mono ?_
  rintro e y18 ⟨rfl, hq18⟩
  rw [HMM.out]
  have hb := hb.trans (hq18.mono hb.size)
  have tw0 := tw0.below FzR.stays hq18
  have tw1 := tw1.below FzR.stays hq18
  have tw2 := tw2.below OzR.stays hq18
  have rb0 := rb0.below hq18
  have rw_ := rw_.below hq18
  have rg_ := rg_.below hq18
  have mg0 := mg0.stay (KeptL.below (bs := []) hq18) (fun _ _ => List.not_mem_nil)
  have mg1 := mg1.stay (KeptL.below (bs := []) hq18) (fun _ _ => List.not_mem_nil)
  have mg2 := mg2.stay (KeptL.below (bs := []) hq18) (fun _ _ => List.not_mem_nil)
  clear krg__0 krg__1 krg__2
  obtain ⟨⟨krb0_0, krb0_1, krb0_2⟩, -⟩ := rb0.three
  go_wp2_with fail
  refine (lawsToDisk x0 A0_0 n0_0 c0_0 A0_1 n0_1 c0_1 A0_2 n0_2 c0_2 _ _ (h0_0.below FzR.stays hb) (h0_1.below FzR.stays hb) (h0_2.below OzR.stays hb) S0.out).mono ?_
  rintro e y19 ⟨csh, rfl, hRh, hq19⟩
  obtain ⟨Ah0, nh0, ch0, Ah1, nh1, ch1, Ah2, nh2, ch2, rfl, th0, th1, th2, -⟩ := hRh
  have tw0 := tw0.below FzR.stays hq19
  have tw1 := tw1.below FzR.stays hq19
  have tw2 := tw2.below OzR.stays hq19
  have rb0 := rb0.below hq19
  have rw_ := rw_.below hq19
  have rg_ := rg_.below hq19
  have hb := hb.trans (hq19.mono hb.size)
  clear krb0_0 krb0_1 krb0_2
  have mg0 := mg0.stay (KeptL.below (bs := []) hq19) (fun _ _ => List.not_mem_nil)
  have mg1 := mg1.stay (KeptL.below (bs := []) hq19) (fun _ _ => List.not_mem_nil)
  have mg2 := mg2.stay (KeptL.below (bs := []) hq19) (fun _ _ => List.not_mem_nil)
  go_wp2_with fail
  refine (lawsToIntL a1 x1.length cap1 x1 _ _ (h1.below IntR.stays hb) S1).mono ?_
  rintro e y20 ⟨Bih, dih, rfl, -, tih, hq20⟩
  have tw0 := tw0.below FzR.stays hq20
  have tw1 := tw1.below FzR.stays hq20
  have tw2 := tw2.below OzR.stays hq20
  have th0 := th0.below FzR.stays hq20
  have th1 := th1.below FzR.stays hq20
  have th2 := th2.below OzR.stays hq20
  have rb0 := rb0.below hq20
  have rw_ := rw_.below hq20
  have rg_ := rg_.below hq20
  have hb := hb.trans (hq20.mono hb.size)
  have mg0 := mg0.stay (KeptL.below (bs := []) hq20) (fun _ _ => List.not_mem_nil)
  have mg1 := mg1.stay (KeptL.below (bs := []) hq20) (fun _ _ => List.not_mem_nil)
  have mg2 := mg2.stay (KeptL.below (bs := []) hq20) (fun _ _ => List.not_mem_nil)
  go_wp2_with fail
  have hpre := True.intro
  refine (implCrash x0 Bih _ dih x1 a2 Ah0 nh0 ch0 Ah1 nh1 ch1 Ah2 nh2 ch2 _ _ _ th0 th1 th2 tih S0.out S1).mono ?_
  rintro e y21 ⟨⟨vi, rfl, hDi⟩, hq21⟩
  rw [← HAW.out] at hDi
  obtain ⟨Ai0, ci0, Ai1, ci1, Ai2, ci2, bi0, bi1, bi2, rfl, ti0, ti1, ti2, fi0, fi1, fi2, ndi, lti⟩ := hDi.open_ FIT.out
  clear hDi hpre
  rw [← HKC.out]
  have tw0 := tw0.below FzR.stays hq21
  have tw1 := tw1.below FzR.stays hq21
  have tw2 := tw2.below OzR.stays hq21
  have th0 := th0.below FzR.stays hq21
  have th1 := th1.below FzR.stays hq21
  have th2 := th2.below OzR.stays hq21
  have tih := tih.below IntR.stays hq21
  have rb0 := rb0.below hq21
  have rw_ := rw_.below hq21
  have rg_ := rg_.below hq21
  have hb := hb.trans (hq21.mono hb.size)
  have mg0 := mg0.stay (KeptL.below (bs := []) hq21) (fun _ _ => List.not_mem_nil)
  have mg1 := mg1.stay (KeptL.below (bs := []) hq21) (fun _ _ => List.not_mem_nil)
  have mg2 := mg2.stay (KeptL.below (bs := []) hq21) (fun _ _ => List.not_mem_nil)
  clear th0
  clear th1
  clear th2
  clear tih
  clear fi0
  clear fi1
  clear fi2
  clear ndi lti
  have hal := (Below.refl y21.heap.size y21).alloc (Nat.le_refl _) (.cells #[.slice Ai0 aw.live.length ci0, .slice Ai1 aw.safe.length ci1, .slice Ai2 aw.ops.length ci2] 27)
  have mg0 := mg0.stay (KeptL.below (bs := []) hal) (fun _ _ => List.not_mem_nil)
  have mg1 := mg1.stay (KeptL.below (bs := []) hal) (fun _ _ => List.not_mem_nil)
  have mg2 := mg2.stay (KeptL.below (bs := []) hal) (fun _ _ => List.not_mem_nil)
  clear hal
  have hal := (Below.refl y21.heap.size y21).alloc (Nat.le_refl _) (.cells #[.slice Ai0 aw.live.length ci0, .slice Ai1 aw.safe.length ci1, .slice Ai2 aw.ops.length ci2] 27)
  have tw0 := tw0.below FzR.stays hal
  have tw1 := tw1.below FzR.stays hal
  have tw2 := tw2.below OzR.stays hal
  have ti0 := ti0.below FzR.stays hal
  have ti1 := ti1.below FzR.stays hal
  have ti2 := ti2.below OzR.stays hal
  have rb0 := rb0.below hal
  have rw_ := rw_.below hal
  have rg_ := rg_.below hal
  have ri_ := Row.new y21 27 #[.slice Ai0 aw.live.length ci0, .slice Ai1 aw.safe.length ci1, .slice Ai2 aw.ops.length ci2]
  have hb := hb.alloc hb.size (.cells #[.slice Ai0 aw.live.length ci0, .slice Ai1 aw.safe.length ci1, .slice Ai2 aw.ops.length ci2] 27)
  obtain ⟨⟨krw__0, krw__1, krw__2⟩, -⟩ := rw_.three
  go_wp2_with fail
  generalize y21.alloc (.cells #[.slice Ai0 aw.live.length ci0, .slice Ai1 aw.safe.length ci1, .slice Ai2 aw.ops.length ci2] 27) = z22 at *
  clear hal
  clear krw__0 krw__1 krw__2
  obtain ⟨⟨kri__0, kri__1, kri__2⟩, -⟩ := ri_.three
  obtain ⟨⟨krw__0, krw__1, krw__2⟩, -⟩ := rw_.three
  refine (lawsEqDiskM aw Ai0 Aw0 _ ci0 cw0 Ai1 Aw1 _ ci1 cw1 Ai2 Aw2 _ ci2 cw2 _ _ _ ti0 ti1 ti2 tw0 tw1 tw2 FIT.out).mono ?_
  rintro e y23 ⟨rfl, hq23⟩
  have tw0 := tw0.below FzR.stays hq23
  have tw1 := tw1.below FzR.stays hq23
  have tw2 := tw2.below OzR.stays hq23
  have ti0 := ti0.below FzR.stays hq23
  have ti1 := ti1.below FzR.stays hq23
  have ti2 := ti2.below OzR.stays hq23
  have rb0 := rb0.below hq23
  have rw_ := rw_.below hq23
  have rg_ := rg_.below hq23
  have ri_ := ri_.below hq23
  have hb := hb.trans (hq23.mono hb.size)
  clear kri__0 kri__1 kri__2 krw__0 krw__1 krw__2
  obtain ⟨⟨krg__0, krg__1, krg__2⟩, -⟩ := rg_.three
  have mg0 := mg0.stay (KeptL.below (bs := []) hq23) (fun _ _ => List.not_mem_nil)
  have mg1 := mg1.stay (KeptL.below (bs := []) hq23) (fun _ _ => List.not_mem_nil)
  have mg2 := mg2.stay (KeptL.below (bs := []) hq23) (fun _ _ => List.not_mem_nil)
  go_wp2_with fail
  refine (heldXDisk Ag0 _ cg0 Ag1 _ cg1 Ag2 _ cg2 bg0 bg1 bg2 1 _ mg0 mg1 mg2 (by omega) rfl).mono ?_
  rintro e y24 ⟨rfl, hq24⟩
  rw [HMM.out]
  have hb := hb.trans (hq24.mono hb.size)
  have tw0 := tw0.below FzR.stays hq24
  have tw1 := tw1.below FzR.stays hq24
  have tw2 := tw2.below OzR.stays hq24
  have ti0 := ti0.below FzR.stays hq24
  have ti1 := ti1.below FzR.stays hq24
  have ti2 := ti2.below OzR.stays hq24
  have rb0 := rb0.below hq24
  have rw_ := rw_.below hq24
  have rg_ := rg_.below hq24
  have ri_ := ri_.below hq24
  have mg0 := mg0.stay (KeptL.below (bs := []) hq24) (fun _ _ => List.not_mem_nil)
  have mg1 := mg1.stay (KeptL.below (bs := []) hq24) (fun _ _ => List.not_mem_nil)
  have mg2 := mg2.stay (KeptL.below (bs := []) hq24) (fun _ _ => List.not_mem_nil)
  clear krg__0 krg__1 krg__2
  go_wp2_with fail
  go_ret
  exact ⟨rfl, hb⟩

set_option maxRecDepth 100000 in
theorem lifted (os : Os) (started : os.Started) (H : Type) (enc : TypeId × Value → H) :
    ReturnsInHanded {} Try.checked os 9 .any (Rows.fnExactCrashSpec.pre6 enc Try.prog Try.f9 Rows.fnExactCrashRow.domain false) (Rows.fnExactCrashSpec.post enc Try.prog Try.f9 false true false false) := by
  refine returnsInHanded_of_change (C := Try.checked) own started (by kernel_rfl) Try.func9
    (ChangeSpec.witness6 (enc := enc) (C := Try.checked) false ⟨#[], #[.agg #[.slice none 0 0, .slice none 0 0, .slice none 0 0], .slice none 0 0, .int .i64 0], []⟩ 8 (by kernel_rfl) (by kernel_rfl) (by kernel_rfl) (by kernel_rfl)) ?_
  intro W base args ds gs before hval0 hW hcnd _
  have hval : ∀ (j : Nat) t v, Try.f9.params[j]? = some t → args[j]? = some v → Value.okWide Try.prog W .any base t v := hval0
  have hW' := hW
  obtain ⟨p, q, hA0, hV, rfl, hfz, hnd⟩ := hW
  have hA : DataW.TrodAll enc Try.prog W 0 (fun _ => true) true Try.f9.params.toList args.toList ds p := hA0
  rw [Try.params9] at hA hval
  obtain ⟨v0, vs0, d0, ds0, p0, q0, hargs, rfl, rfl, h0, r0⟩ := trodAll_cons hA
  obtain ⟨v1, vs1, d1, ds1, p1, q1, rfl, rfl, rfl, h1, r1⟩ := trodAll_cons r0
  obtain ⟨v2, vs2, d2, ds2, p2, q2, rfl, rfl, rfl, h2, r2⟩ := trodAll_cons r1
  obtain ⟨rfl, rfl, rfl⟩ := trodAll_nil r2
  obtain rfl : args = #[v0, v1, v2] := by cases args; simp_all
  obtain ⟨rfl, rfl⟩ := trodVars_none hV
  have k0' := h0
  have lt0 : ∀ x ∈ p0, x.block < W.heap.size := by obtain ⟨m, hm⟩ := k0'; exact DataW.trod_lt m _ _ _ hm
  have k1' := h1
  have lt1 : ∀ x ∈ p1, x.block < W.heap.size := by obtain ⟨m, hm⟩ := k1'; exact DataW.trod_lt m _ _ _ hm
  have k2' := h2
  have lt2 : ∀ x ∈ p2, x.block < W.heap.size := by obtain ⟨m, hm⟩ := k2'; exact DataW.trod_lt m _ _ _ hm
  obtain ⟨cs0, rfl, hsz0⟩ := okWide_struct Try.underlying50 (hval 0 50 v0 rfl rfl)
  obtain ⟨x0, hx0, wf0⟩ := (by obtain ⟨m, hm⟩ := h0; exact Disk_of_trod (by simpa [Value.cells] using hm) : ∃ d, DzR (fun _ => True) W cs0.toList d ∧ d.wf)
  obtain ⟨A0_0, n0_0, c0_0, A0_1, n0_1, c0_1, A0_2, n0_2, c0_2, ecs0, s0_0, s0_1, s0_2, -⟩ := hx0
  obtain rfl : cs0 = #[.slice A0_0 n0_0 c0_0, .slice A0_1 n0_1 c0_1, .slice A0_2 n0_2 c0_2] := by cases cs0; simp_all
  obtain ⟨a1, len1, cap1, rfl⟩ := okWide_slice Try.underlying30 (hval 1 30 v1 rfl rfl)
  obtain ⟨x1, w1⟩ := (by obtain ⟨m, hm⟩ := h1; exact IntL_of_trod (by simpa [Value.cells] using hm) : ∃ ds, Sl IntR 1 (fun _ => True) W a1 len1 ds ∧ ds.length ≤ maxLen)
  obtain ⟨a2, rfl, rfl, rfl, w2⟩ := open_int Try.underlying2 (hval 2 2 v2 rfl rfl) h2
  clear hA0 hval0
  refine (walk x0 A0_0 n0_0 c0_0 A0_1 n0_1 c0_1 A0_2 n0_2 c0_2 a1 len1 cap1 x1 a2 W ⟨⟨s0_0, s0_1, s0_2⟩, wf0⟩ w1 w2).mono fun e W' ⟨he, bel⟩ => ?_
  subst he
  exact ⟨_, rfl, _, _, _, [], _, [], hW', trodAll_mk1 (shut_bool Try.underlying4 _), (trodAll_cons_mk (Below.trod laidOut (by kernel_rfl) (of_decide_eq_true (by kernel_rfl)) k0' bel lt0) (trodAll_cons_mk (Below.trod laidOut (by kernel_rfl) (of_decide_eq_true (by kernel_rfl)) k1' bel lt1) (trodAll_cons_mk (Below.trod laidOut (by kernel_rfl) (of_decide_eq_true (by kernel_rfl)) k2' bel lt2) trodAll_mk0))), rfl, bel.frame _, fun h => by cases h⟩

set_option maxRecDepth 100000 in
set_option maxHeartbeats 16000000 in
theorem facts : joinedFacts Try.checked.prog 9 Try.f9 Rows.fnExactCrashSpec Rows.fnExactCrashRow = true := by
  unfold joinedFacts
  repeat' (with_reducible refine Bool.and_eq_true_iff.2 ⟨?_, ?_⟩)
  all_goals (as_aux_lemma => kernel_rfl)

theorem over : Rows.fnExactCrashRow.holds Try.pinned (OpenSpec.ofChange Rows.fnExactCrashSpec) :=
  OpenClaim.holds_of_wide 9 Try.f9 rfl rfl rfl rfl rfl rfl rfl ⟨rfl, rfl, rfl, rfl, rfl⟩ rfl rfl rfl rfl rfl (by kernel_rfl) Try.func9 facts
    (of_decide_eq_true (by as_aux_lemma => kernel_rfl)) (by unfold Func.isWrapper; first | (rw [if_pos (by decide +kernel)]; kernel_rfl) | (rw [if_neg (by decide +kernel)]; exact ⟨rfl, rfl⟩))
    (fun os started H enc _ => lifted os started H enc)

theorem proved : Rows.FnExactCrashSaid := over
#print axioms proved
end Go.Proofs.Ytkinegapnknhiaa.fnExactCrash
