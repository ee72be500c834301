/-
  An expression and itself is as true as it is; it or not it is never false (law FnEither, for every code).
-/
import Derived.Test.YtkoihpejkcnokaaBase
import Derived.Test.YtkoihpejkcnokaaDrawExpr3
namespace Go.Proofs.Ytkoihpejkcnokaa.fnEither
open Go.ChangeShapes Go.WideShapes Go.ChangeAt Go.RowKit Go.Joins
open Go.ChangeMaps (open_string shut_string)
set_option linter.unusedVariables false

set_option maxRecDepth 100000 in
set_option maxHeartbeats 4000000 in
theorem walk (a0 : Option Addr) (len0 cap0 : Nat) (z0 : List Int) (w : World) (w0 : IsRow .u8 w a0 len0 cap0 z0) :
    Calls Try.prog 4 #[.slice a0 len0 cap0] w fun e w' => e = .returned (.bool true) ∧ Below w.heap.size w w' := by
  by_cases hbig : (1048576 : Int) < len0
  · have hbg : decide ((1048576 : Int) < len0) = true := by simpa using hbig
    go_enter Try.func4, Try.ntmps4
    go_wp2_with fail
    refine (lawsBig a0 len0 cap0 w).mono ?_
    rintro e w' ⟨rfl, rfl⟩
    go_wp2
    go_ret
    exact ⟨rfl, Below.refl _ _⟩
  have hbg : decide ((1048576 : Int) < len0) = false := by simpa using hbig
  obtain ⟨i0, hi', hz0, hz1, hz2⟩ := info_parts infoTokD
  have H1 := Lib.hid hi'
  have H2 := Lib.hid hz0
  have H3 := Lib.hid hz1
  have H4 := Lib.hid hz2
  clear hi' hz0 hz1 hz2 hbig
  go_enter Try.func4, Try.ntmps4
  go_wp2_with fail
  refine (lawsBig a0 len0 cap0 w).mono ?_
  rintro e w' ⟨rfl, rfl⟩
  go_wp2_with fail
  refine (drawTruth a0 len0 cap0 z0 _ w0).mono ?_
  rintro e w1 ⟨v, rfl, ⟨x, y, rfl, ⟨ts, hts, hl, hp⟩, ⟨xs, hxs, hxl⟩⟩, hb1⟩
  obtain ⟨g1, cap1, rfl, hg1, hg1', hsrc⟩ := OwnG.src hts (by omega)
  obtain ⟨AT, cT, eT, -, -, hslT⟩ := OwnG.sl (f := Tk.cells) (sz := 5) (fun _ => rfl) hts
  obtain ⟨rfl, rfl⟩ : some (⟨g1, 0, none⟩ : Addr) = AT ∧ cap1 = cT := by simpa using eT
  obtain ⟨AR, cR, rfl, hcR, hcm, hslR⟩ := OwnG.sl (f := Vl.cells) (sz := 3) (fun _ => rfl) hxs
  have HT := Lib.hid hslT
  have HR := Lib.hid hslR
  have HSRC : Hid (SrcT w1 g1 ts) := Lib.hid hsrc
  have hr4 := truthB_rng' ts xs
  obtain ⟨tv, htv⟩ : ∃ tv, truthB ts xs = tv := ⟨_, rfl⟩
  rw [htv] at hr4
  have HTV := Lib.hid htv
  have HR4 := Lib.hid hr4
  have z24 : ((ts.length : Int) == 24) = false := by rw [beq_eq_false_iff_ne]; omega
  clear hts hxs hslT hslR hsrc eT htv hr4 hg1 hcR hcm
  go_wp2_with fail
  refine (implTruth (some ⟨g1, 0, none⟩) AR ts.length xs.length cap1 cR ts xs _ (Sl.cellz (fun _ => rfl) HT.out) (Sl.cellz (fun _ => rfl) HR.out) (by unfold maxLen; omega) (by unfold maxLen; omega)).mono ?_
  rintro e y116 ⟨rfl, hq116⟩
  have HT := Lib.hid (Sl.below (FlatR.stays _) HT.out hq116)
  have HR := Lib.hid (Sl.below (FlatR.stays _) HR.out hq116)
  have HSRC := Lib.hid (SrcT.below HSRC.out hq116)
  have hz_y116 := (hb1).trans ((hq116).mono (hb1).size)
  rw [HTV.out]
  go_wp2_with fail
  refine (specTruth (some ⟨g1, 0, none⟩) AR ts.length xs.length cap1 cR ts xs _ (Sl.cellz (fun _ => rfl) HT.out) (Sl.cellz (fun _ => rfl) HR.out) (by unfold maxLen; omega) (by unfold maxLen; omega)).mono ?_
  rintro e y117 ⟨rfl, hq117⟩
  have HT := Lib.hid (Sl.below (FlatR.stays _) HT.out hq117)
  have HR := Lib.hid (Sl.below (FlatR.stays _) HR.out hq117)
  have HSRC := Lib.hid (SrcT.below HSRC.out hq117)
  have hz_y117 := (hz_y116).trans ((hq117).mono (hz_y116).size)
  rw [HTV.out]
  by_cases hneg : tv < 0
  case pos =>
    have zn : decide (tv < 0) = true := decide_eq_true hneg
    go_wp2_with fail
    refine (specTruth (some ⟨g1, 0, none⟩) AR ts.length xs.length cap1 cR ts xs _ (Sl.cellz (fun _ => rfl) HT.out) (Sl.cellz (fun _ => rfl) HR.out) (by unfold maxLen; omega) (by unfold maxLen; omega)).mono ?_
    rintro e y118 ⟨rfl, hq118⟩
    have HT := Lib.hid (Sl.below (FlatR.stays _) HT.out hq118)
    have HR := Lib.hid (Sl.below (FlatR.stays _) HR.out hq118)
    have HSRC := Lib.hid (SrcT.below HSRC.out hq118)
    have hz_y118 := (hz_y117).trans ((hq118).mono (hz_y117).size)
    rw [HTV.out]
    go_wp2_with fail
    go_ret
    exact ⟨rfl, hz_y118⟩
  have zn : decide (tv < 0) = false := decide_eq_false hneg
  by_cases hbg2 : 2 * ts.length + 2 ≤ 24
  case neg =>
    have z2 : decide ((24 : Int) < 2 * (ts.length : Int) + 2) = true := decide_eq_true (by omega)
    go_wp2_with fail
    refine (specTruth (some ⟨g1, 0, none⟩) AR ts.length xs.length cap1 cR ts xs _ (Sl.cellz (fun _ => rfl) HT.out) (Sl.cellz (fun _ => rfl) HR.out) (by unfold maxLen; omega) (by unfold maxLen; omega)).mono ?_
    rintro e y119 ⟨rfl, hq119⟩
    have HT := Lib.hid (Sl.below (FlatR.stays _) HT.out hq119)
    have HR := Lib.hid (Sl.below (FlatR.stays _) HR.out hq119)
    have HSRC := Lib.hid (SrcT.below HSRC.out hq119)
    have hz_y119 := (hz_y117).trans ((hq119).mono (hz_y117).size)
    rw [HTV.out]
    go_wp2_with fail
    go_ret
    exact ⟨rfl, hz_y119⟩
  have z2 : decide ((24 : Int) < 2 * (ts.length : Int) + 2) = false := decide_eq_false (by omega)
  have h0 : 0 ≤ truthB ts xs := by rw [HTV.out]; omega
  have HA := Lib.hid (truthB_both hbg2 h0)
  have HOr := Lib.hid (truthB_or hbg2 h0)
  clear h0
  have HB120 := Lib.hid ((Below.refl y117.heap.size y117).alloc (Nat.le_refl _) (.cells #[] 32))
  have HO120 := Lib.hid (OwnG.lit (T := 32) (sz := 5) (f := Tk.cells) y117 (Nat.le_refl y117.heap.size))
  have HS121 := Lib.hid (SrcT.below HSRC.out HB120.out)
  go_wp2_with (at_builtin; refine wpList_append_own _ rfl _ _ 24 rfl y117.heap.size 32 i0 (.agg #[.int .i64 0, .int .i64 0, .int .i64 0, .int .i64 0, .string ⟨#[]⟩]) 5 48 Try.underlying24 H1.out H2.out H3.out H4.out rfl (by decide) _ _ _ rfl HO120.out ⟨g1, 0, none⟩ ts.length cap1 ((ts.map Tk.cells).flatten) rfl (flat_tk ts) HS121.out (tk_one ts) ?a121 ?b121 ?c121 ?_)
  case a121 => unfold maxLen; (try simp only [List.length_nil]); omega
  case b121 => (try simp only [List.length_nil]); omega
  case c121 => simp
  intro v121 w121 hown121 hgrow121 _
  have HO121 := Lib.hid (show OwnT w121 y117.heap.size v121 ts by simpa [OwnT, OwnG] using hown121)
  have HB121 := Lib.hid (HB120.out.grown hgrow121 (by simp) (fun k hk => (OwnG.block_lt HO120.out k hk).1))
  clear hown121 hgrow121 HO120 HB120 HS121
  have HS122 := Lib.hid (SrcT.below HSRC.out HB121.out)
  go_wp2_with (at_builtin; refine wpList_append_own _ rfl _ _ 24 rfl y117.heap.size 32 i0 (.agg #[.int .i64 0, .int .i64 0, .int .i64 0, .int .i64 0, .string ⟨#[]⟩]) 5 48 Try.underlying24 H1.out H2.out H3.out H4.out rfl (by decide) _ _ _ rfl HO121.out ⟨g1, 0, none⟩ ts.length cap1 ((ts.map Tk.cells).flatten) rfl (flat_tk ts) HS122.out (tk_one ts) ?a122 ?b122 ?c122 ?_)
  case a122 => unfold maxLen; (try simp only [List.length_nil]); omega
  case b122 => (try simp only [List.length_nil]); omega
  case c122 => exact HB121.out.size
  intro v122 w122 hown122 hgrow122 _
  have HO122 := Lib.hid (show OwnT w122 y117.heap.size v122 (ts ++ ts) from OwnG.appL HO121.out hown122)
  have HB122 := Lib.hid (HB121.out.grown hgrow122 HB121.out.size (fun k hk => (OwnG.block_lt HO121.out k hk).1))
  clear hown122 hgrow122 HO121 HB121 HS122
  obtain ⟨bo, hbo⟩ : ∃ l, (ts ++ ts) = l := ⟨_, rfl⟩
  rw [hbo] at HO122
  have H_bo := Lib.hid hbo
  clear hbo
  have hbl : bo.length ≤ 30 := by rw [← H_bo.out, List.length_append]; omega
  have hbp : 0 < bo.length := by rw [← H_bo.out, List.length_append]; omega
  rw [H_bo.out] at HA HOr
  obtain ⟨g2, cap2, rfl, -, -, hsrc2⟩ := OwnG.src HO122.out hbp
  have HSRC2 : Hid (SrcT w122 g2 bo) := Lib.hid hsrc2
  clear hsrc2
  have HT := Lib.hid (Sl.below (FlatR.stays _) HT.out HB122.out)
  have HR := Lib.hid (Sl.below (FlatR.stays _) HR.out HB122.out)
  have HSRC := Lib.hid (SrcT.below HSRC.out HB122.out)
  have hz_w122 := (hz_y117).trans ((HB122.out).mono (hz_y117).size)
  have HB123 := Lib.hid ((Below.refl w122.heap.size w122).alloc (Nat.le_refl _) (.cells #[] 32))
  have HO123 := Lib.hid (OwnG.lit (T := 32) (sz := 5) (f := Tk.cells) w122 (Nat.le_refl w122.heap.size))
  have HS124 := Lib.hid (SrcT.below HSRC2.out HB123.out)
  go_wp2_with (at_builtin; refine wpList_append_own _ rfl _ _ 24 rfl w122.heap.size 32 i0 (.agg #[.int .i64 0, .int .i64 0, .int .i64 0, .int .i64 0, .string ⟨#[]⟩]) 5 48 Try.underlying24 H1.out H2.out H3.out H4.out rfl (by decide) _ _ _ rfl HO123.out ⟨g2, 0, none⟩ bo.length cap2 ((bo.map Tk.cells).flatten) rfl (flat_tk bo) HS124.out (tk_one bo) ?a124 ?b124 ?c124 ?_)
  case a124 => unfold maxLen; (try simp only [List.length_nil]); omega
  case b124 => (try simp only [List.length_nil]); omega
  case c124 => simp
  intro v124 w124 hown124 hgrow124 _
  have HO124 := Lib.hid (show OwnT w124 w122.heap.size v124 bo by simpa [OwnT, OwnG] using hown124)
  have HB124 := Lib.hid (HB123.out.grown hgrow124 (by simp) (fun k hk => (OwnG.block_lt HO123.out k hk).1))
  clear hown124 hgrow124 HO123 HB123 HS124
  go_wp2_with (at_builtin; refine wpList_append_own _ rfl _ _ 24 rfl w122.heap.size 32 i0 (.agg #[.int .i64 0, .int .i64 0, .int .i64 0, .int .i64 0, .string ⟨#[]⟩]) 5 48 Try.underlying24 H1.out H2.out H3.out H4.out rfl (by decide) _ _ _ rfl (World.ownsRow.alloc HO124.out _) ⟨_, 0, none⟩ 1 1 (([opTk 5].map Tk.cells).flatten) rfl rfl ?a125 (tk_one [opTk 5]) ?b125 ?c125 ?d125 ?_)
  case a125 => exact cells_newAt _ (([opTk 5].map Tk.cells).flatten) _ (by simp)
  case b125 => unfold maxLen; omega
  case c125 => omega
  case d125 => have h1 := HB124.out.size; simp; omega
  intro v125 w125 hown125 hgrow125 _
  have HO125 := Lib.hid (show OwnT w125 w122.heap.size v125 (bo ++ [opTk 5]) from OwnG.appL HO124.out (by first | exact hown125 | simpa [Tk.cells, opTk] using hown125))
  have HB125 := Lib.hid ((HB124.out.alloc HB124.out.size _).grown hgrow125 (by have h1 := HB124.out.size; simp; omega) (fun k hk => (OwnG.block_lt HO124.out k hk).1))
  clear hown125 hgrow125 HO124 HB124
  obtain ⟨l_an, hl_an⟩ : ∃ l, (bo ++ [opTk 5]) = l := ⟨_, rfl⟩
  rw [hl_an] at HO125
  have H_l_an := Lib.hid hl_an
  clear hl_an
  obtain ⟨A_an, c_an, e_an, -, -, h_an⟩ := OwnG.sl (f := Tk.cells) (sz := 5) (fun _ => rfl) HO125.out
  have HX_an := Lib.hid h_an
  subst e_an
  clear h_an
  have HT := Lib.hid (Sl.below (FlatR.stays _) HT.out HB125.out)
  have HR := Lib.hid (Sl.below (FlatR.stays _) HR.out HB125.out)
  have HSRC := Lib.hid (SrcT.below HSRC.out HB125.out)
  have HSRC2 := Lib.hid (SrcT.below HSRC2.out HB125.out)
  have hz_w125 := (hz_w122).trans ((HB125.out).mono (hz_w122).size)
  rw [H_l_an.out] at HA
  have hl_an : l_an.length ≤ 32 := by rw [← H_l_an.out, List.length_append]; simp; omega
  go_wp2_with fail
  refine (implTruth A_an AR l_an.length xs.length c_an cR l_an xs _ (Sl.cellz (fun _ => rfl) HX_an.out) (Sl.cellz (fun _ => rfl) HR.out) (by unfold maxLen; omega) (by unfold maxLen; omega)).mono ?_
  rintro e y126 ⟨rfl, hq126⟩
  have HT := Lib.hid (Sl.below (FlatR.stays _) HT.out hq126)
  have HR := Lib.hid (Sl.below (FlatR.stays _) HR.out hq126)
  have HSRC := Lib.hid (SrcT.below HSRC.out hq126)
  have HSRC2 := Lib.hid (SrcT.below HSRC2.out hq126)
  have HX_an := Lib.hid (Sl.below (FlatR.stays _) HX_an.out hq126)
  have hz_y126 := (hz_w125).trans ((hq126).mono (hz_w125).size)
  rw [HA.out]
  rw [HTV.out]
  have HB127 := Lib.hid ((Below.refl y126.heap.size y126).alloc (Nat.le_refl _) (.cells #[] 32))
  have HO127 := Lib.hid (OwnG.lit (T := 32) (sz := 5) (f := Tk.cells) y126 (Nat.le_refl y126.heap.size))
  have HS128 := Lib.hid (SrcT.below HSRC2.out HB127.out)
  go_wp2_with (at_builtin; refine wpList_append_own _ rfl _ _ 24 rfl y126.heap.size 32 i0 (.agg #[.int .i64 0, .int .i64 0, .int .i64 0, .int .i64 0, .string ⟨#[]⟩]) 5 48 Try.underlying24 H1.out H2.out H3.out H4.out rfl (by decide) _ _ _ rfl HO127.out ⟨g2, 0, none⟩ bo.length cap2 ((bo.map Tk.cells).flatten) rfl (flat_tk bo) HS128.out (tk_one bo) ?a128 ?b128 ?c128 ?_)
  case a128 => unfold maxLen; (try simp only [List.length_nil]); omega
  case b128 => (try simp only [List.length_nil]); omega
  case c128 => simp
  intro v128 w128 hown128 hgrow128 _
  have HO128 := Lib.hid (show OwnT w128 y126.heap.size v128 bo by simpa [OwnT, OwnG] using hown128)
  have HB128 := Lib.hid (HB127.out.grown hgrow128 (by simp) (fun k hk => (OwnG.block_lt HO127.out k hk).1))
  clear hown128 hgrow128 HO127 HB127 HS128
  go_wp2_with (at_builtin; refine wpList_append_own _ rfl _ _ 24 rfl y126.heap.size 32 i0 (.agg #[.int .i64 0, .int .i64 0, .int .i64 0, .int .i64 0, .string ⟨#[]⟩]) 5 48 Try.underlying24 H1.out H2.out H3.out H4.out rfl (by decide) _ _ _ rfl (World.ownsRow.alloc HO128.out _) ⟨_, 0, none⟩ 2 2 (([opTk 7, opTk 6].map Tk.cells).flatten) rfl rfl ?a129 (tk_one [opTk 7, opTk 6]) ?b129 ?c129 ?d129 ?_)
  case a129 => exact cells_newAt _ (([opTk 7, opTk 6].map Tk.cells).flatten) _ (by simp)
  case b129 => unfold maxLen; omega
  case c129 => omega
  case d129 => have h1 := HB128.out.size; simp; omega
  intro v129 w129 hown129 hgrow129 _
  have HO129 := Lib.hid (show OwnT w129 y126.heap.size v129 (bo ++ [opTk 7, opTk 6]) from OwnG.appL HO128.out (by first | exact hown129 | simpa [Tk.cells, opTk] using hown129))
  have HB129 := Lib.hid ((HB128.out.alloc HB128.out.size _).grown hgrow129 (by have h1 := HB128.out.size; simp; omega) (fun k hk => (OwnG.block_lt HO128.out k hk).1))
  clear hown129 hgrow129 HO128 HB128
  obtain ⟨l_or, hl_or⟩ : ∃ l, (bo ++ [opTk 7, opTk 6]) = l := ⟨_, rfl⟩
  rw [hl_or] at HO129
  have H_l_or := Lib.hid hl_or
  clear hl_or
  obtain ⟨A_or, c_or, e_or, -, -, h_or⟩ := OwnG.sl (f := Tk.cells) (sz := 5) (fun _ => rfl) HO129.out
  have HX_or := Lib.hid h_or
  subst e_or
  clear h_or
  have HT := Lib.hid (Sl.below (FlatR.stays _) HT.out HB129.out)
  have HR := Lib.hid (Sl.below (FlatR.stays _) HR.out HB129.out)
  have HSRC := Lib.hid (SrcT.below HSRC.out HB129.out)
  have HSRC2 := Lib.hid (SrcT.below HSRC2.out HB129.out)
  have HX_an := Lib.hid (Sl.below (FlatR.stays _) HX_an.out HB129.out)
  have hz_w129 := (hz_y126).trans ((HB129.out).mono (hz_y126).size)
  rw [H_l_or.out] at HOr
  have hl_or : l_or.length ≤ 32 := by rw [← H_l_or.out, List.length_append]; simp; omega
  go_wp2_with fail
  refine (implTruth A_or AR l_or.length xs.length c_or cR l_or xs _ (Sl.cellz (fun _ => rfl) HX_or.out) (Sl.cellz (fun _ => rfl) HR.out) (by unfold maxLen; omega) (by unfold maxLen; omega)).mono ?_
  rintro e y130 ⟨rfl, hq130⟩
  have HT := Lib.hid (Sl.below (FlatR.stays _) HT.out hq130)
  have HR := Lib.hid (Sl.below (FlatR.stays _) HR.out hq130)
  have HSRC := Lib.hid (SrcT.below HSRC.out hq130)
  have HSRC2 := Lib.hid (SrcT.below HSRC2.out hq130)
  have HX_an := Lib.hid (Sl.below (FlatR.stays _) HX_an.out hq130)
  have HX_or := Lib.hid (Sl.below (FlatR.stays _) HX_or.out hq130)
  have hz_y130 := (hz_w129).trans ((hq130).mono (hz_w129).size)
  rw [HOr.out]
  rw [HTV.out]
  have hr4 := HR4.out
  have h3 : tv = 0 ∨ tv = 1 ∨ tv = 2 := by omega
  rcases h3 with rfl | rfl | rfl
  · rw [show or3 0 (not3 0) = 1 from rfl]
    go_wp2_with fail
    go_ret
    exact ⟨rfl, hz_y130⟩
  · rw [show or3 1 (not3 1) = 1 from rfl]
    go_wp2_with fail
    go_ret
    exact ⟨rfl, hz_y130⟩
  · rw [show or3 2 (not3 2) = 2 from rfl]
    go_wp2_with fail
    go_ret
    exact ⟨rfl, hz_y130⟩

set_option maxRecDepth 100000 in
theorem lifted (os : Os) (started : os.Started) (H : Type) (enc : TypeId × Value → H) :
    ReturnsInHanded {} Try.checked os 4 .any (Rows.fnEitherSpec.pre6 enc Try.prog Try.f4 Rows.fnEitherRow.domain false) (Rows.fnEitherSpec.post enc Try.prog Try.f4 false true false false) := by
  refine returnsInHanded_of_change (C := Try.checked) own started (by kernel_rfl) Try.func4
    (ChangeSpec.witness6 (enc := enc) (C := Try.checked) false ⟨#[], #[.slice none 0 0], []⟩ 8 (by kernel_rfl) (by kernel_rfl) (by kernel_rfl) (by kernel_rfl)) ?_
  intro W base args ds gs before hval0 hW hcnd _
  have hval : ∀ (j : Nat) t v, Try.f4.params[j]? = some t → args[j]? = some v → Value.okWide Try.prog W .any base t v := hval0
  have hW' := hW
  obtain ⟨p, q, hA0, hV, rfl, hfz, hnd⟩ := hW
  have hA : DataW.TrodAll enc Try.prog W 0 (fun _ => true) true Try.f4.params.toList args.toList ds p := hA0
  rw [Try.params4] at hA hval
  obtain ⟨v0, vs0, d0, ds0, p0, q0, hargs, rfl, rfl, h0, r0⟩ := trodAll_cons hA
  obtain ⟨rfl, rfl, rfl⟩ := trodAll_nil r0
  obtain rfl : args = #[v0] := by cases args; simp_all
  obtain ⟨rfl, rfl⟩ := trodVars_none hV
  have k0' := h0
  have lt0 : ∀ x ∈ p0, x.block < W.heap.size := by obtain ⟨m, hm⟩ := k0'; exact DataW.trod_lt m _ _ _ hm
  obtain ⟨a0, len0, cap0, rfl⟩ := okWide_slice Try.underlying22 (hval 0 22 v0 rfl rfl)
  obtain ⟨z0, w0⟩ := isRow_of_trod Try.underlying22 Try.underlying5 (by kernel_rfl) h0
  clear hA0 hval0
  refine (walk a0 len0 cap0 z0 W w0).mono fun e W' ⟨he, bel⟩ => ?_
  subst he
  exact ⟨_, rfl, _, _, _, [], _, [], hW', trodAll_mk1 (shut_bool Try.underlying4 _), (trodAll_cons_mk (Below.trod laidOut (by kernel_rfl) (of_decide_eq_true (by kernel_rfl)) k0' bel lt0) trodAll_mk0), rfl, bel.frame _, fun h => by cases h⟩

set_option maxRecDepth 100000 in
set_option maxHeartbeats 16000000 in
theorem facts : joinedFacts Try.checked.prog 4 Try.f4 Rows.fnEitherSpec Rows.fnEitherRow = true := by
  unfold joinedFacts
  repeat' (with_reducible refine Bool.and_eq_true_iff.2 ⟨?_, ?_⟩)
  all_goals (as_aux_lemma => kernel_rfl)

theorem over : Rows.fnEitherRow.holds Try.pinned (OpenSpec.ofChange Rows.fnEitherSpec) :=
  OpenClaim.holds_of_wide 4 Try.f4 rfl rfl rfl rfl rfl rfl rfl ⟨rfl, rfl, rfl, rfl, rfl⟩ rfl rfl rfl rfl rfl (by kernel_rfl) Try.func4 facts
    (of_decide_eq_true (by as_aux_lemma => kernel_rfl)) (by unfold Func.isWrapper; first | (rw [if_pos (by decide +kernel)]; kernel_rfl) | (rw [if_neg (by decide +kernel)]; exact ⟨rfl, rfl⟩))
    (fun os started H enc _ => lifted os started H enc)

theorem proved : Rows.FnEitherSaid := over
#print axioms proved
end Go.Proofs.Ytkoihpejkcnokaa.fnEither
