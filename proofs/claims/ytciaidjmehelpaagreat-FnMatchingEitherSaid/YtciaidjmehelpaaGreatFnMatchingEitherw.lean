/-
  Who matches one of two conditions matches either (law FnMatchingEither, for every code).
-/
import Derived.Test.YtciaidjmehelpaaGreatMa
import Derived.Test.YtciaidjmehelpaaGreatMb
import Derived.Test.YtciaidjmehelpaaGreatMc
import Derived.Test.YtciaidjmehelpaaGreatMd
import Derived.Test.YtciaidjmehelpaaGreatMe
namespace Go.Proofs.YtciaidjmehelpaaGreat.fnMatchingEither
open Go.ChangeShapes Go.WideShapes Go.ChangeAt Go.RowKit Go.Joins
open Go.ChangeMaps (open_string shut_string)
set_option linter.unusedSimpArgs false
set_option linter.unusedVariables false

set_option maxRecDepth 100000 in
set_option maxHeartbeats 4000000 in
theorem walk (a0 : Option Addr) (len0 cap0 : Nat) (z0 : List Int) (w : World) (w0 : IsRow .u8 w a0 len0 cap0 z0) :
    Calls Tryz.prog 4 #[.slice a0 len0 cap0] w fun e w' => e = .returned (.bool true) ∧ Below w.heap.size w w' := by
  by_cases hbig : (1048576 : Int) < len0
  · have hbg : decide ((1048576 : Int) < len0) = true := by simpa using hbig
    go_enter Tryz.func4, Tryz.ntmps4
    go_wp2_with fail
    refine (lawsBig a0 len0 cap0 w).mono ?_
    rintro e w' ⟨rfl, rfl⟩
    go_wp2
    go_ret
    exact ⟨rfl, Below.refl _ _⟩
  have hbg : decide ((1048576 : Int) < len0) = false := by simpa using hbig
  obtain ⟨i0, hi', hz0, hz1, hz2⟩ := info_parts infoTokD
  have H1 := Lib.hid hi'
  have H2 := Lib.hid hz0
  have H3 := Lib.hid hz1
  have H4 := Lib.hid hz2
  clear hi' hz0 hz1 hz2 hbig
  go_enter Tryz.func4, Tryz.ntmps4
  go_wp2_with fail
  refine (lawsBig a0 len0 cap0 w).mono ?_
  rintro e w' ⟨rfl, rfl⟩
  go_wp2_with fail
  refine (drawMatching a0 len0 cap0 z0 _ w0).mono ?_
  rintro e w1 ⟨v, rfl, ⟨ok, A1, c1, ts, A2, c2, ds, t, v3, wh, rfl, hc1, hS, hD, hT, hsk, hbk, hdl, hl1, hl7⟩, hb1⟩
  obtain ⟨g1, cap1, rfl, -, -, hsrc⟩ := OwnG.src hT (by omega)
  obtain ⟨AT, cT, eT, -, -, hslT⟩ := OwnG.sl (f := Tk.cells) (sz := 5) (fun _ => rfl) hT
  obtain ⟨rfl, rfl⟩ : some (⟨g1, 0, none⟩ : Addr) = AT ∧ cap1 = cT := by simpa using eT
  have HT := Lib.hid hslT
  have HS := Lib.hid hS
  have HD := Lib.hid hD
  have HSRC : Hid (SrcT w1 g1 wh) := Lib.hid hsrc
  have hss : szL Tb.sz ts ≤ 1048576 := by have := hsk.sz; omega
  have hds : szL Dt.sz ds ≤ 1048576 := by have := hbk.sz hsk (by omega) hdl; omega
  obtain ⟨L, hL⟩ : ∃ L, matchB ts ds t wh = L := ⟨_, rfl⟩
  obtain ⟨F, hF⟩ : ∃ F, matchF ts ds t wh = F := ⟨_, rfl⟩
  have hLl : L.length ≤ 1048576 := by rw [← hL]; exact matchB_len _ _ _ _ hds
  have HL := Lib.hid hL
  have HF := Lib.hid hF
  have z0' : ((wh.length : Int) == 0) = false := by rw [beq_eq_false_iff_ne]; omega
  have z2 : decide ((24 : Int) < 2 * (wh.length : Int) + 2) = false := decide_eq_false (by omega)
  have HSS := Lib.hid hss
  have HDS := Lib.hid hds
  have HSK := Lib.hid hsk
  clear hS hD hT hslT hsrc eT hsk hbk hdl hL hF hss hds
  go_wp2_with fail
  refine (implMatching A1 A2 (some ⟨g1, 0, none⟩) ts.length c1 ds.length c2 wh.length cap1 ts ds t wh _ _ _ _ HS.out HD.out HT.out HSS.out HDS.out (by omega)).mono ?_
  rintro e y116 ⟨A_l, c_l, rfl, -, h_l, hq116⟩
  have HT := Lib.hid (Sl.below (FlatR.stays _) HT.out hq116)
  have HS := Lib.hid (Sl.below TbR.stays HS.out hq116)
  have HD := Lib.hid (Sl.below DtR.stays HD.out hq116)
  have HSRC := Lib.hid (SrcT.below HSRC.out hq116)
  have hz_y116 := (hb1).trans ((hq116).mono (hb1).size)
  rw [HL.out] at h_l
  rw [HL.out, HF.out]
  have HM_l := Lib.hid h_l
  clear h_l hq116
  go_wp2_with fail
  refine (specMatching A1 A2 (some ⟨g1, 0, none⟩) ts.length c1 ds.length c2 wh.length cap1 ts ds t wh _ _ _ _ HS.out HD.out HT.out hc1 HSS.out HDS.out (by omega)).mono ?_
  rintro e y117 ⟨A_m, c_m, rfl, -, h_m, hq117⟩
  have HT := Lib.hid (Sl.below (FlatR.stays _) HT.out hq117)
  have HS := Lib.hid (Sl.below TbR.stays HS.out hq117)
  have HD := Lib.hid (Sl.below DtR.stays HD.out hq117)
  have HSRC := Lib.hid (SrcT.below HSRC.out hq117)
  have HM_l := Lib.hid (Sl.below IntR.stays HM_l.out hq117)
  have hz_y117 := (hz_y116).trans ((hq117).mono (hz_y116).size)
  rw [HL.out] at h_m
  rw [HL.out, HF.out]
  have HM_m := Lib.hid h_m
  clear h_m hq117
  cases F
  · go_wp2_with fail
    go_ret
    exact ⟨rfl, hz_y117⟩
  obtain ⟨hn1, -⟩ := match_not HF.out hl1 (by omega)
  obtain ⟨hw1, hw2⟩ := match_or HF.out hl1 (by omega)
  rw [HL.out] at hw2
  obtain ⟨K, hK⟩ : ∃ K, matchB ts ds t (wh ++ [opTk 7]) = K := ⟨_, rfl⟩
  rw [hK] at hw2
  obtain ⟨E, hE⟩ : ∃ E, matchB ts ds t ((wh ++ (wh ++ [opTk 7])) ++ [opTk 6]) = E := ⟨_, rfl⟩
  rw [hE] at hw2
  have hKl : K.length ≤ 1048576 := by rw [← hK]; exact matchB_len _ _ _ _ HDS.out
  have HK := Lib.hid hK
  have HE := Lib.hid hE
  have HN1 := Lib.hid hn1
  have HW1 := Lib.hid hw1
  have HW2 := Lib.hid hw2
  clear hn1 hw1 hw2 hK hE
  have HB118 := Lib.hid ((Below.refl y117.heap.size y117).alloc (Nat.le_refl _) (.cells #[] 36))
  have HO118 := Lib.hid (OwnG.lit (T := 36) (sz := 5) (f := Tk.cells) y117 (Nat.le_refl y117.heap.size))
  have HS119 := Lib.hid (SrcT.below HSRC.out HB118.out)
  go_wp2_with (at_builtin; refine wpList_append_own _ rfl _ _ 26 rfl y117.heap.size 36 i0 (.agg #[.int .i64 0, .int .i64 0, .int .i64 0, .int .i64 0, .string ⟨#[]⟩]) 5 48 Tryz.underlying26 H1.out H2.out H3.out H4.out rfl (by decide) _ _ _ rfl HO118.out ⟨g1, 0, none⟩ wh.length cap1 ((wh.map Tk.cells).flatten) rfl (flat_tk wh) HS119.out (tk_one wh) ?a119 ?b119 ?c119 ?_)
  case a119 => unfold maxLen; (try simp only [List.length_nil]); omega
  case b119 => (try simp only [List.length_nil]); omega
  case c119 => simp
  intro v119 w119 hown119 hgrow119 _
  have HO119 := Lib.hid (show OwnT w119 y117.heap.size v119 wh by simpa [OwnT, OwnG] using hown119)
  have HB119 := Lib.hid (HB118.out.grown hgrow119 (by simp) (fun k hk => (OwnG.block_lt HO118.out k hk).1))
  clear hown119 hgrow119 HO118 HB118 HS119
  go_wp2_with (at_builtin; refine wpList_append_own _ rfl _ _ 26 rfl y117.heap.size 36 i0 (.agg #[.int .i64 0, .int .i64 0, .int .i64 0, .int .i64 0, .string ⟨#[]⟩]) 5 48 Tryz.underlying26 H1.out H2.out H3.out H4.out rfl (by decide) _ _ _ rfl (World.ownsRow.alloc HO119.out _) ⟨_, 0, none⟩ 1 1 (([opTk 7].map Tk.cells).flatten) rfl rfl ?a120 (tk_one [opTk 7]) ?b120 ?c120 ?d120 ?_)
  case a120 => exact cells_newAt _ (([opTk 7].map Tk.cells).flatten) _ (by simp)
  case b120 => unfold maxLen; omega
  case c120 => omega
  case d120 => have h1 := HB119.out.size; simp; omega
  intro v120 w120 hown120 hgrow120 _
  have HO120 := Lib.hid (show OwnT w120 y117.heap.size v120 (wh ++ [opTk 7]) from OwnG.appL HO119.out (by first | exact hown120 | simpa [Tk.cells, opTk] using hown120))
  have HB120 := Lib.hid ((HB119.out.alloc HB119.out.size _).grown hgrow120 (by have h1 := HB119.out.size; simp; omega) (fun k hk => (OwnG.block_lt HO119.out k hk).1))
  clear hown120 hgrow120 HO119 HB119
  obtain ⟨l_no, hl_no⟩ : ∃ l, (wh ++ [opTk 7]) = l := ⟨_, rfl⟩
  rw [hl_no] at HO120
  have H_l_no := Lib.hid hl_no
  clear hl_no
  have hno : l_no.length ≤ 8 := by rw [← H_l_no.out]; simp; omega
  have hnp : 0 < l_no.length := by rw [← H_l_no.out]; simp
  obtain ⟨g2, cap2, rfl, -, -, hsrc2⟩ := OwnG.src HO120.out hnp
  have HSRC2 : Hid (SrcT w120 g2 l_no) := Lib.hid hsrc2
  obtain ⟨AU, cU, eU, -, -, hslU⟩ := OwnG.sl (f := Tk.cells) (sz := 5) (fun _ => rfl) HO120.out
  obtain ⟨rfl, rfl⟩ : some (⟨g2, 0, none⟩ : Addr) = AU ∧ cap2 = cU := by simpa using eU
  have HX_no := Lib.hid hslU
  clear hsrc2 hslU eU
  have HT := Lib.hid (Sl.below (FlatR.stays _) HT.out HB120.out)
  have HS := Lib.hid (Sl.below TbR.stays HS.out HB120.out)
  have HD := Lib.hid (Sl.below DtR.stays HD.out HB120.out)
  have HSRC := Lib.hid (SrcT.below HSRC.out HB120.out)
  have HM_l := Lib.hid (Sl.below IntR.stays HM_l.out HB120.out)
  have HM_m := Lib.hid (Sl.below IntR.stays HM_m.out HB120.out)
  have hz_w120 := (hz_y117).trans ((HB120.out).mono (hz_y117).size)
  rw [H_l_no.out] at HK HN1 HW1 HE
  go_wp2_with fail
  refine (implMatching A1 A2 (some ⟨g2, 0, none⟩) ts.length c1 ds.length c2 l_no.length cap2 ts ds t l_no _ _ _ _ HS.out HD.out HX_no.out HSS.out HDS.out (by omega)).mono ?_
  rintro e y121 ⟨A_k, c_k, rfl, -, h_k, hq121⟩
  have HT := Lib.hid (Sl.below (FlatR.stays _) HT.out hq121)
  have HS := Lib.hid (Sl.below TbR.stays HS.out hq121)
  have HD := Lib.hid (Sl.below DtR.stays HD.out hq121)
  have HSRC := Lib.hid (SrcT.below HSRC.out hq121)
  have HM_l := Lib.hid (Sl.below IntR.stays HM_l.out hq121)
  have HM_m := Lib.hid (Sl.below IntR.stays HM_m.out hq121)
  have HSRC2 := Lib.hid (SrcT.below HSRC2.out hq121)
  have HX_no := Lib.hid (Sl.below (FlatR.stays _) HX_no.out hq121)
  have hz_y121 := (hz_w120).trans ((hq121).mono (hz_w120).size)
  rw [HK.out] at h_k
  rw [HK.out, HN1.out]
  have HM_k := Lib.hid h_k
  clear h_k hq121
  have HB122 := Lib.hid ((Below.refl y121.heap.size y121).alloc (Nat.le_refl _) (.cells #[] 36))
  have HO122 := Lib.hid (OwnG.lit (T := 36) (sz := 5) (f := Tk.cells) y121 (Nat.le_refl y121.heap.size))
  have HS123 := Lib.hid (SrcT.below HSRC.out HB122.out)
  go_wp2_with (at_builtin; refine wpList_append_own _ rfl _ _ 26 rfl y121.heap.size 36 i0 (.agg #[.int .i64 0, .int .i64 0, .int .i64 0, .int .i64 0, .string ⟨#[]⟩]) 5 48 Tryz.underlying26 H1.out H2.out H3.out H4.out rfl (by decide) _ _ _ rfl HO122.out ⟨g1, 0, none⟩ wh.length cap1 ((wh.map Tk.cells).flatten) rfl (flat_tk wh) HS123.out (tk_one wh) ?a123 ?b123 ?c123 ?_)
  case a123 => unfold maxLen; (try simp only [List.length_nil]); omega
  case b123 => (try simp only [List.length_nil]); omega
  case c123 => simp
  intro v123 w123 hown123 hgrow123 _
  have HO123 := Lib.hid (show OwnT w123 y121.heap.size v123 wh by simpa [OwnT, OwnG] using hown123)
  have HB123 := Lib.hid (HB122.out.grown hgrow123 (by simp) (fun k hk => (OwnG.block_lt HO122.out k hk).1))
  clear hown123 hgrow123 HO122 HB122 HS123
  have HS124 := Lib.hid (SrcT.below HSRC2.out HB123.out)
  go_wp2_with (at_builtin; refine wpList_append_own _ rfl _ _ 26 rfl y121.heap.size 36 i0 (.agg #[.int .i64 0, .int .i64 0, .int .i64 0, .int .i64 0, .string ⟨#[]⟩]) 5 48 Tryz.underlying26 H1.out H2.out H3.out H4.out rfl (by decide) _ _ _ rfl HO123.out ⟨g2, 0, none⟩ l_no.length cap2 ((l_no.map Tk.cells).flatten) rfl (flat_tk l_no) HS124.out (tk_one l_no) ?a124 ?b124 ?c124 ?_)
  case a124 => unfold maxLen; (try simp only [List.length_nil]); omega
  case b124 => (try simp only [List.length_nil]); omega
  case c124 => exact HB123.out.size
  intro v124 w124 hown124 hgrow124 _
  have HO124 := Lib.hid (show OwnT w124 y121.heap.size v124 (wh ++ l_no) from OwnG.appL HO123.out hown124)
  have HB124 := Lib.hid (HB123.out.grown hgrow124 HB123.out.size (fun k hk => (OwnG.block_lt HO123.out k hk).1))
  clear hown124 hgrow124 HO123 HB123 HS124
  obtain ⟨bo, hbo⟩ : ∃ l, (wh ++ l_no) = l := ⟨_, rfl⟩
  rw [hbo] at HO124
  have H_bo := Lib.hid hbo
  clear hbo
  have hbl : bo.length ≤ 15 := by rw [← H_bo.out, List.length_append]; omega
  rw [H_bo.out] at HW1 HE
  go_wp2_with (at_builtin; refine wpList_append_own _ rfl _ _ 26 rfl y121.heap.size 36 i0 (.agg #[.int .i64 0, .int .i64 0, .int .i64 0, .int .i64 0, .string ⟨#[]⟩]) 5 48 Tryz.underlying26 H1.out H2.out H3.out H4.out rfl (by decide) _ _ _ rfl (World.ownsRow.alloc HO124.out _) ⟨_, 0, none⟩ 1 1 (([opTk 6].map Tk.cells).flatten) rfl rfl ?a125 (tk_one [opTk 6]) ?b125 ?c125 ?d125 ?_)
  case a125 => exact cells_newAt _ (([opTk 6].map Tk.cells).flatten) _ (by simp)
  case b125 => unfold maxLen; omega
  case c125 => omega
  case d125 => have h1 := HB124.out.size; simp; omega
  intro v125 w125 hown125 hgrow125 _
  have HO125 := Lib.hid (show OwnT w125 y121.heap.size v125 (bo ++ [opTk 6]) from OwnG.appL HO124.out (by first | exact hown125 | simpa [Tk.cells, opTk] using hown125))
  have HB125 := Lib.hid ((HB124.out.alloc HB124.out.size _).grown hgrow125 (by have h1 := HB124.out.size; simp; omega) (fun k hk => (OwnG.block_lt HO124.out k hk).1))
  clear hown125 hgrow125 HO124 HB124
  obtain ⟨l_or, hl_or⟩ : ∃ l, (bo ++ [opTk 6]) = l := ⟨_, rfl⟩
  rw [hl_or] at HO125
  have H_l_or := Lib.hid hl_or
  clear hl_or
  have HN_or : l_or.length ≤ 16 := by rw [← H_l_or.out]; simp; omega
  obtain ⟨A_or, c_or, e_or, -, -, h_or⟩ := OwnG.sl (f := Tk.cells) (sz := 5) (fun _ => rfl) HO125.out
  have HX_or := Lib.hid h_or
  subst e_or
  clear h_or
  have HT := Lib.hid (Sl.below (FlatR.stays _) HT.out HB125.out)
  have HS := Lib.hid (Sl.below TbR.stays HS.out HB125.out)
  have HD := Lib.hid (Sl.below DtR.stays HD.out HB125.out)
  have HSRC := Lib.hid (SrcT.below HSRC.out HB125.out)
  have HM_l := Lib.hid (Sl.below IntR.stays HM_l.out HB125.out)
  have HM_m := Lib.hid (Sl.below IntR.stays HM_m.out HB125.out)
  have HSRC2 := Lib.hid (SrcT.below HSRC2.out HB125.out)
  have HX_no := Lib.hid (Sl.below (FlatR.stays _) HX_no.out HB125.out)
  have HM_k := Lib.hid (Sl.below IntR.stays HM_k.out HB125.out)
  have hz_w125 := (hz_y121).trans ((HB125.out).mono (hz_y121).size)
  rw [H_l_or.out] at HW1 HE
  go_wp2_with fail
  refine (implMatching A1 A2 A_or ts.length c1 ds.length c2 l_or.length c_or ts ds t l_or _ _ _ _ HS.out HD.out HX_or.out HSS.out HDS.out (by omega)).mono ?_
  rintro e y126 ⟨A_e, c_e, rfl, -, h_e, hq126⟩
  have HT := Lib.hid (Sl.below (FlatR.stays _) HT.out hq126)
  have HS := Lib.hid (Sl.below TbR.stays HS.out hq126)
  have HD := Lib.hid (Sl.below DtR.stays HD.out hq126)
  have HSRC := Lib.hid (SrcT.below HSRC.out hq126)
  have HM_l := Lib.hid (Sl.below IntR.stays HM_l.out hq126)
  have HM_m := Lib.hid (Sl.below IntR.stays HM_m.out hq126)
  have HSRC2 := Lib.hid (SrcT.below HSRC2.out hq126)
  have HX_no := Lib.hid (Sl.below (FlatR.stays _) HX_no.out hq126)
  have HM_k := Lib.hid (Sl.below IntR.stays HM_k.out hq126)
  have HX_or := Lib.hid (Sl.below (FlatR.stays _) HX_or.out hq126)
  have hz_y126 := (hz_w125).trans ((hq126).mono (hz_w125).size)
  rw [HE.out] at h_e
  rw [HE.out, HW1.out]
  have HM_e := Lib.hid h_e
  clear h_e hq126
  have he : ((E.length : Int) == (L.length : Int) + (K.length : Int)) = true := by rw [beq_iff_eq]; have := HW2.out; omega
  have he' : (E.length : Int) = (L.length : Int) + (K.length : Int) := by have := HW2.out; omega
  go_wp2_with fail
  go_ret
  exact ⟨rfl, hz_y126⟩

set_option maxRecDepth 100000 in
theorem lifted (os : Os) (started : os.Started) (H : Type) (enc : TypeId × Value → H) :
    ReturnsInHanded {} Tryz.checked os 4 .any (Rows.fnMatchingEitherSpec.pre6 enc Tryz.prog Tryz.f4 Rows.fnMatchingEitherRow.domain false) (Rows.fnMatchingEitherSpec.post enc Tryz.prog Tryz.f4 false true false false) := by
  refine returnsInHanded_of_change (C := Tryz.checked) own started (by kernel_rfl) Tryz.func4
    (ChangeSpec.witness6 (enc := enc) (C := Tryz.checked) false ⟨#[], #[.slice none 0 0], []⟩ 8 (by kernel_rfl) (by kernel_rfl) (by kernel_rfl) (by kernel_rfl)) ?_
  intro W base args ds gs before hval0 hW hcnd _
  have hval : ∀ (j : Nat) t v, Tryz.f4.params[j]? = some t → args[j]? = some v → Value.okWide Tryz.prog W .any base t v := hval0
  have hW' := hW
  obtain ⟨p, q, hA0, hV, rfl, hfz, hnd⟩ := hW
  have hA : DataW.TrodAll enc Tryz.prog W 0 (fun _ => true) true Tryz.f4.params.toList args.toList ds p := hA0
  rw [Tryz.params4] at hA hval
  obtain ⟨v0, vs0, d0, ds0, p0, q0, hargs, rfl, rfl, h0, r0⟩ := trodAll_cons hA
  obtain ⟨rfl, rfl, rfl⟩ := trodAll_nil r0
  obtain rfl : args = #[v0] := by cases args; simp_all
  obtain ⟨rfl, rfl⟩ := trodVars_none hV
  have k0' := h0
  have lt0 : ∀ x ∈ p0, x.block < W.heap.size := by obtain ⟨m, hm⟩ := k0'; exact DataW.trod_lt m _ _ _ hm
  obtain ⟨a0, len0, cap0, rfl⟩ := okWide_slice Tryz.underlying22 (hval 0 22 v0 rfl rfl)
  obtain ⟨z0, w0⟩ := isRow_of_trod Tryz.underlying22 Tryz.underlying5 (by kernel_rfl) h0
  clear hA0 hval0
  refine (walk a0 len0 cap0 z0 W w0).mono fun e W' ⟨he, bel⟩ => ?_
  subst he
  exact ⟨_, rfl, _, _, _, [], _, [], hW', trodAll_mk1 (shut_bool Tryz.underlying4 _), (trodAll_cons_mk (Below.trod laidOut (by kernel_rfl) (of_decide_eq_true (by kernel_rfl)) k0' bel lt0) trodAll_mk0), rfl, bel.frame _, fun h => by cases h⟩

set_option maxRecDepth 100000 in
set_option maxHeartbeats 16000000 in
theorem facts : joinedFacts Tryz.checked.prog 4 Tryz.f4 Rows.fnMatchingEitherSpec Rows.fnMatchingEitherRow = true := by
  unfold joinedFacts
  repeat' (with_reducible refine Bool.and_eq_true_iff.2 ⟨?_, ?_⟩)
  all_goals (as_aux_lemma => kernel_rfl)

theorem over : Rows.fnMatchingEitherRow.holds Tryz.pinned (OpenSpec.ofChange Rows.fnMatchingEitherSpec) :=
  OpenClaim.holds_of_wide 4 Tryz.f4 rfl rfl rfl rfl rfl rfl rfl ⟨rfl, rfl, rfl, rfl, rfl⟩ rfl rfl rfl rfl rfl (by kernel_rfl) Tryz.func4 facts
    (of_decide_eq_true (by as_aux_lemma => kernel_rfl)) (by unfold Func.isWrapper; first | (rw [if_pos (by decide +kernel)]; kernel_rfl) | (rw [if_neg (by decide +kernel)]; exact ⟨rfl, rfl⟩))
    (fun os started H enc _ => lifted os started H enc)

theorem proved : Rows.FnMatchingEitherSaid := over
#print axioms proved
end Go.Proofs.YtciaidjmehelpaaGreat.fnMatchingEither
