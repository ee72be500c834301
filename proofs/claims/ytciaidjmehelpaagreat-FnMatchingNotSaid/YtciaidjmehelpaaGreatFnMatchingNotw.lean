/-
  No row matches a condition and its opposite; each row that matches both a condition and itself matches it (law FnMatchingNot, for every code).
-/
import Derived.Test.YtciaidjmehelpaaGreatMa
import Derived.Test.YtciaidjmehelpaaGreatMb
import Derived.Test.YtciaidjmehelpaaGreatMc
import Derived.Test.YtciaidjmehelpaaGreatMd
import Derived.Test.YtciaidjmehelpaaGreatMe
namespace Go.Proofs.YtciaidjmehelpaaGreat.fnMatchingNot
open Go.ChangeShapes Go.WideShapes Go.ChangeAt Go.RowKit Go.Joins
open Go.ChangeMaps (open_string shut_string)
set_option linter.unusedSimpArgs false
set_option linter.unusedVariables false

set_option maxRecDepth 100000 in
set_option maxHeartbeats 4000000 in
theorem walk (a0 : Option Addr) (len0 cap0 : Nat) (z0 : List Int) (w : World) (w0 : IsRow .u8 w a0 len0 cap0 z0) :
    Calls Tryz.prog 3 #[.slice a0 len0 cap0] w fun e w' => e = .returned (.bool true) ∧ Below w.heap.size w w' := by
  by_cases hbig : (1048576 : Int) < len0
  · have hbg : decide ((1048576 : Int) < len0) = true := by simpa using hbig
    go_enter Tryz.func3, Tryz.ntmps3
    go_wp2_with fail
    refine (lawsBig a0 len0 cap0 w).mono ?_
    rintro e w' ⟨rfl, rfl⟩
    go_wp2
    go_ret
    exact ⟨rfl, Below.refl _ _⟩
  have hbg : decide ((1048576 : Int) < len0) = false := by simpa using hbig
  obtain ⟨i0, hi', hz0, hz1, hz2⟩ := info_parts infoTokD
  have H1 := Lib.hid hi'
  have H2 := Lib.hid hz0
  have H3 := Lib.hid hz1
  have H4 := Lib.hid hz2
  clear hi' hz0 hz1 hz2 hbig
  go_enter Tryz.func3, Tryz.ntmps3
  go_wp2_with fail
  refine (lawsBig a0 len0 cap0 w).mono ?_
  rintro e w' ⟨rfl, rfl⟩
  go_wp2_with fail
  refine (drawMatching a0 len0 cap0 z0 _ w0).mono ?_
  rintro e w1 ⟨v, rfl, ⟨ok, A1, c1, ts, A2, c2, ds, t, v3, wh, rfl, hc1, hS, hD, hT, hsk, hbk, hdl, hl1, hl7⟩, hb1⟩
  obtain ⟨g1, cap1, rfl, -, -, hsrc⟩ := OwnG.src hT (by omega)
  obtain ⟨AT, cT, eT, -, -, hslT⟩ := OwnG.sl (f := Tk.cells) (sz := 5) (fun _ => rfl) hT
  obtain ⟨rfl, rfl⟩ : some (⟨g1, 0, none⟩ : Addr) = AT ∧ cap1 = cT := by simpa using eT
  have HT := Lib.hid hslT
  have HS := Lib.hid hS
  have HD := Lib.hid hD
  have HSRC : Hid (SrcT w1 g1 wh) := Lib.hid hsrc
  have hss : szL Tb.sz ts ≤ 1048576 := by have := hsk.sz; omega
  have hds : szL Dt.sz ds ≤ 1048576 := by have := hbk.sz hsk (by omega) hdl; omega
  obtain ⟨L, hL⟩ : ∃ L, matchB ts ds t wh = L := ⟨_, rfl⟩
  obtain ⟨F, hF⟩ : ∃ F, matchF ts ds t wh = F := ⟨_, rfl⟩
  have hLl : L.length ≤ 1048576 := by rw [← hL]; exact matchB_len _ _ _ _ hds
  have HL := Lib.hid hL
  have HF := Lib.hid hF
  have z0' : ((wh.length : Int) == 0) = false := by rw [beq_eq_false_iff_ne]; omega
  have z2 : decide ((24 : Int) < 2 * (wh.length : Int) + 2) = false := decide_eq_false (by omega)
  have HSS := Lib.hid hss
  have HDS := Lib.hid hds
  have HSK := Lib.hid hsk
  clear hS hD hT hslT hsrc eT hsk hbk hdl hL hF hss hds
  go_wp2_with fail
  refine (implMatching A1 A2 (some ⟨g1, 0, none⟩) ts.length c1 ds.length c2 wh.length cap1 ts ds t wh _ _ _ _ HS.out HD.out HT.out HSS.out HDS.out (by omega)).mono ?_
  rintro e y101 ⟨A_l, c_l, rfl, -, h_l, hq101⟩
  have HT := Lib.hid (Sl.below (FlatR.stays _) HT.out hq101)
  have HS := Lib.hid (Sl.below TbR.stays HS.out hq101)
  have HD := Lib.hid (Sl.below DtR.stays HD.out hq101)
  have HSRC := Lib.hid (SrcT.below HSRC.out hq101)
  have hz_y101 := (hb1).trans ((hq101).mono (hb1).size)
  rw [HL.out] at h_l
  rw [HL.out, HF.out]
  have HM_l := Lib.hid h_l
  clear h_l hq101
  go_wp2_with fail
  refine (specMatching A1 A2 (some ⟨g1, 0, none⟩) ts.length c1 ds.length c2 wh.length cap1 ts ds t wh _ _ _ _ HS.out HD.out HT.out hc1 HSS.out HDS.out (by omega)).mono ?_
  rintro e y102 ⟨A_m, c_m, rfl, -, h_m, hq102⟩
  have HT := Lib.hid (Sl.below (FlatR.stays _) HT.out hq102)
  have HS := Lib.hid (Sl.below TbR.stays HS.out hq102)
  have HD := Lib.hid (Sl.below DtR.stays HD.out hq102)
  have HSRC := Lib.hid (SrcT.below HSRC.out hq102)
  have HM_l := Lib.hid (Sl.below IntR.stays HM_l.out hq102)
  have hz_y102 := (hz_y101).trans ((hq102).mono (hz_y101).size)
  rw [HL.out] at h_m
  rw [HL.out, HF.out]
  have HM_m := Lib.hid h_m
  clear h_m hq102
  cases F
  · go_wp2_with fail
    refine (lawsSameInts A_l A_m L.length c_l c_m L _ _ _ HM_l.out HM_m.out (by omega)).mono ?_
    rintro e y103 ⟨rfl, hq103⟩
    have HT := Lib.hid (Sl.below (FlatR.stays _) HT.out hq103)
    have HS := Lib.hid (Sl.below TbR.stays HS.out hq103)
    have HD := Lib.hid (Sl.below DtR.stays HD.out hq103)
    have HSRC := Lib.hid (SrcT.below HSRC.out hq103)
    have HM_l := Lib.hid (Sl.below IntR.stays HM_l.out hq103)
    have HM_m := Lib.hid (Sl.below IntR.stays HM_m.out hq103)
    have hz_y103 := (hz_y102).trans ((hq103).mono (hz_y102).size)
    clear hq103
    go_wp2_with fail
    refine (lawsSameInts A_l A_m L.length c_l c_m L _ _ _ HM_l.out HM_m.out (by omega)).mono ?_
    rintro e y104 ⟨rfl, hq104⟩
    have HT := Lib.hid (Sl.below (FlatR.stays _) HT.out hq104)
    have HS := Lib.hid (Sl.below TbR.stays HS.out hq104)
    have HD := Lib.hid (Sl.below DtR.stays HD.out hq104)
    have HSRC := Lib.hid (SrcT.below HSRC.out hq104)
    have HM_l := Lib.hid (Sl.below IntR.stays HM_l.out hq104)
    have HM_m := Lib.hid (Sl.below IntR.stays HM_m.out hq104)
    have hz_y104 := (hz_y103).trans ((hq104).mono (hz_y103).size)
    clear hq104
    go_wp2_with fail
    go_ret
    exact ⟨rfl, hz_y104⟩
  obtain ⟨hn1, hn2⟩ := match_not HF.out hl1 (by omega)
  obtain ⟨hw1, hw2⟩ := match_both HF.out hl1 (by omega)
  rw [HL.out] at hn2 hw2
  obtain ⟨K, hK⟩ : ∃ K, matchB ts ds t (wh ++ [opTk 7]) = K := ⟨_, rfl⟩
  rw [hK] at hn2
  have hKl : K.length ≤ 1048576 := by rw [← hK]; exact matchB_len _ _ _ _ HDS.out
  have HK := Lib.hid hK
  have HN1 := Lib.hid hn1
  have HN2 := Lib.hid hn2
  have HW1 := Lib.hid hw1
  have HW2 := Lib.hid hw2
  clear hn1 hn2 hw1 hw2 hK
  go_wp2_with fail
  refine (lawsSameInts A_l A_m L.length c_l c_m L _ _ _ HM_l.out HM_m.out (by omega)).mono ?_
  rintro e y105 ⟨rfl, hq105⟩
  have HT := Lib.hid (Sl.below (FlatR.stays _) HT.out hq105)
  have HS := Lib.hid (Sl.below TbR.stays HS.out hq105)
  have HD := Lib.hid (Sl.below DtR.stays HD.out hq105)
  have HSRC := Lib.hid (SrcT.below HSRC.out hq105)
  have HM_l := Lib.hid (Sl.below IntR.stays HM_l.out hq105)
  have HM_m := Lib.hid (Sl.below IntR.stays HM_m.out hq105)
  have hz_y105 := (hz_y102).trans ((hq105).mono (hz_y102).size)
  clear hq105
  have HB106 := Lib.hid ((Below.refl y105.heap.size y105).alloc (Nat.le_refl _) (.cells #[] 36))
  have HO106 := Lib.hid (OwnG.lit (T := 36) (sz := 5) (f := Tk.cells) y105 (Nat.le_refl y105.heap.size))
  have HS107 := Lib.hid (SrcT.below HSRC.out HB106.out)
  go_wp2_with (at_builtin; refine wpList_append_own _ rfl _ _ 26 rfl y105.heap.size 36 i0 (.agg #[.int .i64 0, .int .i64 0, .int .i64 0, .int .i64 0, .string ⟨#[]⟩]) 5 48 Tryz.underlying26 H1.out H2.out H3.out H4.out rfl (by decide) _ _ _ rfl HO106.out ⟨g1, 0, none⟩ wh.length cap1 ((wh.map Tk.cells).flatten) rfl (flat_tk wh) HS107.out (tk_one wh) ?a107 ?b107 ?c107 ?_)
  case a107 => unfold maxLen; (try simp only [List.length_nil]); omega
  case b107 => (try simp only [List.length_nil]); omega
  case c107 => simp
  intro v107 w107 hown107 hgrow107 _
  have HO107 := Lib.hid (show OwnT w107 y105.heap.size v107 wh by simpa [OwnT, OwnG] using hown107)
  have HB107 := Lib.hid (HB106.out.grown hgrow107 (by simp) (fun k hk => (OwnG.block_lt HO106.out k hk).1))
  clear hown107 hgrow107 HO106 HB106 HS107
  go_wp2_with (at_builtin; refine wpList_append_own _ rfl _ _ 26 rfl y105.heap.size 36 i0 (.agg #[.int .i64 0, .int .i64 0, .int .i64 0, .int .i64 0, .string ⟨#[]⟩]) 5 48 Tryz.underlying26 H1.out H2.out H3.out H4.out rfl (by decide) _ _ _ rfl (World.ownsRow.alloc HO107.out _) ⟨_, 0, none⟩ 1 1 (([opTk 7].map Tk.cells).flatten) rfl rfl ?a108 (tk_one [opTk 7]) ?b108 ?c108 ?d108 ?_)
  case a108 => exact cells_newAt _ (([opTk 7].map Tk.cells).flatten) _ (by simp)
  case b108 => unfold maxLen; omega
  case c108 => omega
  case d108 => have h1 := HB107.out.size; simp; omega
  intro v108 w108 hown108 hgrow108 _
  have HO108 := Lib.hid (show OwnT w108 y105.heap.size v108 (wh ++ [opTk 7]) from OwnG.appL HO107.out (by first | exact hown108 | simpa [Tk.cells, opTk] using hown108))
  have HB108 := Lib.hid ((HB107.out.alloc HB107.out.size _).grown hgrow108 (by have h1 := HB107.out.size; simp; omega) (fun k hk => (OwnG.block_lt HO107.out k hk).1))
  clear hown108 hgrow108 HO107 HB107
  obtain ⟨l_no, hl_no⟩ : ∃ l, (wh ++ [opTk 7]) = l := ⟨_, rfl⟩
  rw [hl_no] at HO108
  have H_l_no := Lib.hid hl_no
  clear hl_no
  have HN_no : l_no.length ≤ 8 := by rw [← H_l_no.out]; simp; omega
  obtain ⟨A_no, c_no, e_no, -, -, h_no⟩ := OwnG.sl (f := Tk.cells) (sz := 5) (fun _ => rfl) HO108.out
  have HX_no := Lib.hid h_no
  subst e_no
  clear h_no
  have HT := Lib.hid (Sl.below (FlatR.stays _) HT.out HB108.out)
  have HS := Lib.hid (Sl.below TbR.stays HS.out HB108.out)
  have HD := Lib.hid (Sl.below DtR.stays HD.out HB108.out)
  have HSRC := Lib.hid (SrcT.below HSRC.out HB108.out)
  have HM_l := Lib.hid (Sl.below IntR.stays HM_l.out HB108.out)
  have HM_m := Lib.hid (Sl.below IntR.stays HM_m.out HB108.out)
  have hz_w108 := (hz_y105).trans ((HB108.out).mono (hz_y105).size)
  rw [H_l_no.out] at HK HN1
  go_wp2_with fail
  refine (implMatching A1 A2 A_no ts.length c1 ds.length c2 l_no.length c_no ts ds t l_no _ _ _ _ HS.out HD.out HX_no.out HSS.out HDS.out (by omega)).mono ?_
  rintro e y109 ⟨A_k, c_k, rfl, -, h_k, hq109⟩
  have HT := Lib.hid (Sl.below (FlatR.stays _) HT.out hq109)
  have HS := Lib.hid (Sl.below TbR.stays HS.out hq109)
  have HD := Lib.hid (Sl.below DtR.stays HD.out hq109)
  have HSRC := Lib.hid (SrcT.below HSRC.out hq109)
  have HM_l := Lib.hid (Sl.below IntR.stays HM_l.out hq109)
  have HM_m := Lib.hid (Sl.below IntR.stays HM_m.out hq109)
  have HX_no := Lib.hid (Sl.below (FlatR.stays _) HX_no.out hq109)
  have hz_y109 := (hz_w108).trans ((hq109).mono (hz_w108).size)
  rw [HK.out] at h_k
  rw [HK.out, HN1.out]
  have HM_k := Lib.hid h_k
  clear h_k hq109
  have HB110 := Lib.hid ((Below.refl y109.heap.size y109).alloc (Nat.le_refl _) (.cells #[] 36))
  have HO110 := Lib.hid (OwnG.lit (T := 36) (sz := 5) (f := Tk.cells) y109 (Nat.le_refl y109.heap.size))
  have HS111 := Lib.hid (SrcT.below HSRC.out HB110.out)
  go_wp2_with (at_builtin; refine wpList_append_own _ rfl _ _ 26 rfl y109.heap.size 36 i0 (.agg #[.int .i64 0, .int .i64 0, .int .i64 0, .int .i64 0, .string ⟨#[]⟩]) 5 48 Tryz.underlying26 H1.out H2.out H3.out H4.out rfl (by decide) _ _ _ rfl HO110.out ⟨g1, 0, none⟩ wh.length cap1 ((wh.map Tk.cells).flatten) rfl (flat_tk wh) HS111.out (tk_one wh) ?a111 ?b111 ?c111 ?_)
  case a111 => unfold maxLen; (try simp only [List.length_nil]); omega
  case b111 => (try simp only [List.length_nil]); omega
  case c111 => simp
  intro v111 w111 hown111 hgrow111 _
  have HO111 := Lib.hid (show OwnT w111 y109.heap.size v111 wh by simpa [OwnT, OwnG] using hown111)
  have HB111 := Lib.hid (HB110.out.grown hgrow111 (by simp) (fun k hk => (OwnG.block_lt HO110.out k hk).1))
  clear hown111 hgrow111 HO110 HB110 HS111
  have HS112 := Lib.hid (SrcT.below HSRC.out HB111.out)
  go_wp2_with (at_builtin; refine wpList_append_own _ rfl _ _ 26 rfl y109.heap.size 36 i0 (.agg #[.int .i64 0, .int .i64 0, .int .i64 0, .int .i64 0, .string ⟨#[]⟩]) 5 48 Tryz.underlying26 H1.out H2.out H3.out H4.out rfl (by decide) _ _ _ rfl HO111.out ⟨g1, 0, none⟩ wh.length cap1 ((wh.map Tk.cells).flatten) rfl (flat_tk wh) HS112.out (tk_one wh) ?a112 ?b112 ?c112 ?_)
  case a112 => unfold maxLen; (try simp only [List.length_nil]); omega
  case b112 => (try simp only [List.length_nil]); omega
  case c112 => exact HB111.out.size
  intro v112 w112 hown112 hgrow112 _
  have HO112 := Lib.hid (show OwnT w112 y109.heap.size v112 (wh ++ wh) from OwnG.appL HO111.out hown112)
  have HB112 := Lib.hid (HB111.out.grown hgrow112 HB111.out.size (fun k hk => (OwnG.block_lt HO111.out k hk).1))
  clear hown112 hgrow112 HO111 HB111 HS112
  obtain ⟨bo, hbo⟩ : ∃ l, (wh ++ wh) = l := ⟨_, rfl⟩
  rw [hbo] at HO112
  have H_bo := Lib.hid hbo
  clear hbo
  have hbl : bo.length ≤ 14 := by rw [← H_bo.out, List.length_append]; omega
  rw [H_bo.out] at HW1 HW2
  go_wp2_with (at_builtin; refine wpList_append_own _ rfl _ _ 26 rfl y109.heap.size 36 i0 (.agg #[.int .i64 0, .int .i64 0, .int .i64 0, .int .i64 0, .string ⟨#[]⟩]) 5 48 Tryz.underlying26 H1.out H2.out H3.out H4.out rfl (by decide) _ _ _ rfl (World.ownsRow.alloc HO112.out _) ⟨_, 0, none⟩ 1 1 (([opTk 5].map Tk.cells).flatten) rfl rfl ?a113 (tk_one [opTk 5]) ?b113 ?c113 ?d113 ?_)
  case a113 => exact cells_newAt _ (([opTk 5].map Tk.cells).flatten) _ (by simp)
  case b113 => unfold maxLen; omega
  case c113 => omega
  case d113 => have h1 := HB112.out.size; simp; omega
  intro v113 w113 hown113 hgrow113 _
  have HO113 := Lib.hid (show OwnT w113 y109.heap.size v113 (bo ++ [opTk 5]) from OwnG.appL HO112.out (by first | exact hown113 | simpa [Tk.cells, opTk] using hown113))
  have HB113 := Lib.hid ((HB112.out.alloc HB112.out.size _).grown hgrow113 (by have h1 := HB112.out.size; simp; omega) (fun k hk => (OwnG.block_lt HO112.out k hk).1))
  clear hown113 hgrow113 HO112 HB112
  obtain ⟨l_an, hl_an⟩ : ∃ l, (bo ++ [opTk 5]) = l := ⟨_, rfl⟩
  rw [hl_an] at HO113
  have H_l_an := Lib.hid hl_an
  clear hl_an
  have HN_an : l_an.length ≤ 15 := by rw [← H_l_an.out]; simp; omega
  obtain ⟨A_an, c_an, e_an, -, -, h_an⟩ := OwnG.sl (f := Tk.cells) (sz := 5) (fun _ => rfl) HO113.out
  have HX_an := Lib.hid h_an
  subst e_an
  clear h_an
  have HT := Lib.hid (Sl.below (FlatR.stays _) HT.out HB113.out)
  have HS := Lib.hid (Sl.below TbR.stays HS.out HB113.out)
  have HD := Lib.hid (Sl.below DtR.stays HD.out HB113.out)
  have HSRC := Lib.hid (SrcT.below HSRC.out HB113.out)
  have HM_l := Lib.hid (Sl.below IntR.stays HM_l.out HB113.out)
  have HM_m := Lib.hid (Sl.below IntR.stays HM_m.out HB113.out)
  have HX_no := Lib.hid (Sl.below (FlatR.stays _) HX_no.out HB113.out)
  have HM_k := Lib.hid (Sl.below IntR.stays HM_k.out HB113.out)
  have hz_w113 := (hz_y109).trans ((HB113.out).mono (hz_y109).size)
  rw [H_l_an.out] at HW1 HW2
  go_wp2_with fail
  refine (implMatching A1 A2 A_an ts.length c1 ds.length c2 l_an.length c_an ts ds t l_an _ _ _ _ HS.out HD.out HX_an.out HSS.out HDS.out (by omega)).mono ?_
  rintro e y114 ⟨A_w, c_w, rfl, -, h_w, hq114⟩
  have HT := Lib.hid (Sl.below (FlatR.stays _) HT.out hq114)
  have HS := Lib.hid (Sl.below TbR.stays HS.out hq114)
  have HD := Lib.hid (Sl.below DtR.stays HD.out hq114)
  have HSRC := Lib.hid (SrcT.below HSRC.out hq114)
  have HM_l := Lib.hid (Sl.below IntR.stays HM_l.out hq114)
  have HM_m := Lib.hid (Sl.below IntR.stays HM_m.out hq114)
  have HX_no := Lib.hid (Sl.below (FlatR.stays _) HX_no.out hq114)
  have HM_k := Lib.hid (Sl.below IntR.stays HM_k.out hq114)
  have HX_an := Lib.hid (Sl.below (FlatR.stays _) HX_an.out hq114)
  have hz_y114 := (hz_w113).trans ((hq114).mono (hz_w113).size)
  rw [HW2.out] at h_w
  rw [HW2.out, HW1.out]
  have HM_w := Lib.hid h_w
  clear h_w hq114
  go_wp2_with fail
  refine (lawsSameInts A_w A_l L.length c_w c_l L _ _ _ HM_w.out HM_l.out (by omega)).mono ?_
  rintro e y115 ⟨rfl, hq115⟩
  have HT := Lib.hid (Sl.below (FlatR.stays _) HT.out hq115)
  have HS := Lib.hid (Sl.below TbR.stays HS.out hq115)
  have HD := Lib.hid (Sl.below DtR.stays HD.out hq115)
  have HSRC := Lib.hid (SrcT.below HSRC.out hq115)
  have HM_l := Lib.hid (Sl.below IntR.stays HM_l.out hq115)
  have HM_m := Lib.hid (Sl.below IntR.stays HM_m.out hq115)
  have HX_no := Lib.hid (Sl.below (FlatR.stays _) HX_no.out hq115)
  have HM_k := Lib.hid (Sl.below IntR.stays HM_k.out hq115)
  have HX_an := Lib.hid (Sl.below (FlatR.stays _) HX_an.out hq115)
  have HM_w := Lib.hid (Sl.below IntR.stays HM_w.out hq115)
  have hz_y115 := (hz_y114).trans ((hq115).mono (hz_y114).size)
  clear hq115
  go_wp2_with fail
  go_loopw [16] (fun i wr => ∃ k : Nat, k ≤ L.length ∧ i = .int .i64 k ∧ Below y115.heap.size y115 wr) (fun i _ => L.length - (intOf i).toNat)
  case atStart => exact ⟨0, by omega, rfl, Below.refl _ _⟩
  case round =>
    obtain ⟨k, hk, rfl, hb⟩ := hrel
    by_cases hlt : k < L.length
    · have i1 : (k : Int) < L.length := by omega
      have i0' : (0 : Int) ≤ k := by omega
      obtain ⟨wo, hwo⟩ : ∃ wo, wo = wr := ⟨_, rfl⟩
      subst hwo
      go_wp2_with fail
      go_loopw [17] (fun j wi => ∃ q : Nat, q ≤ K.length ∧ j = .int .i64 q ∧ Below y115.heap.size y115 wi) (fun j _ => K.length - (intOf j).toNat)
      case atStart => exact ⟨0, by omega, rfl, hb⟩
      case round =>
        obtain ⟨q, hq, rfl, hb⟩ := hrel
        by_cases hqt : q < K.length
        · obtain ⟨b, off, -, rfl, q0⟩ := IntR.at_ (HM_l.out.below IntR.stays hb) hlt
          obtain ⟨b', off', -, rfl, r0⟩ := IntR.at_ (HM_k.out.below IntR.stays hb) hqt
          have j0 : (0 : Int) ≤ q := by omega
          have j1 : (q : Int) < K.length := by omega
          have hne : (L[k] == K[q]) = false := by rw [beq_eq_false_iff_ne]; exact HN2.out _ (List.getElem_mem hlt) _ (List.getElem_mem hqt)
          have hne' : ¬ L[k] = K[q] := HN2.out _ (List.getElem_mem hlt) _ (List.getElem_mem hqt)
          go_wp2_with fail
          go_region_held3 (fun w' => w'.cell? ⟨b, off + k, none⟩ = some (.int .i64 L[k]) ∧ w'.cell? ⟨b', off' + q, none⟩ = some (.int .i64 K[q])) (go_keep) (fail)
          go_wp2
          go_roundw
          case rel => exact ⟨q + 1, by omega, by go_num, hb.drew⟩
          case measure => simp [intOf]; omega
        · have j1 : ¬ (q : Int) < K.length := by omega
          go_wp2_with fail
          go_roundw
          case rel => exact ⟨k + 1, by omega, by go_num, hb⟩
          case measure => simp [intOf]; omega
    · have i1 : ¬ (k : Int) < L.length := by omega
      go_wp2_with fail
      go_ret
      exact ⟨rfl, hz_y115.trans (hb.mono hz_y115.size)⟩

set_option maxRecDepth 100000 in
theorem lifted (os : Os) (started : os.Started) (H : Type) (enc : TypeId × Value → H) :
    ReturnsInHanded {} Tryz.checked os 3 .any (Rows.fnMatchingNotSpec.pre6 enc Tryz.prog Tryz.f3 Rows.fnMatchingNotRow.domain false) (Rows.fnMatchingNotSpec.post enc Tryz.prog Tryz.f3 false true false false) := by
  refine returnsInHanded_of_change (C := Tryz.checked) own started (by kernel_rfl) Tryz.func3
    (ChangeSpec.witness6 (enc := enc) (C := Tryz.checked) false ⟨#[], #[.slice none 0 0], []⟩ 8 (by kernel_rfl) (by kernel_rfl) (by kernel_rfl) (by kernel_rfl)) ?_
  intro W base args ds gs before hval0 hW hcnd _
  have hval : ∀ (j : Nat) t v, Tryz.f3.params[j]? = some t → args[j]? = some v → Value.okWide Tryz.prog W .any base t v := hval0
  have hW' := hW
  obtain ⟨p, q, hA0, hV, rfl, hfz, hnd⟩ := hW
  have hA : DataW.TrodAll enc Tryz.prog W 0 (fun _ => true) true Tryz.f3.params.toList args.toList ds p := hA0
  rw [Tryz.params3] at hA hval
  obtain ⟨v0, vs0, d0, ds0, p0, q0, hargs, rfl, rfl, h0, r0⟩ := trodAll_cons hA
  obtain ⟨rfl, rfl, rfl⟩ := trodAll_nil r0
  obtain rfl : args = #[v0] := by cases args; simp_all
  obtain ⟨rfl, rfl⟩ := trodVars_none hV
  have k0' := h0
  have lt0 : ∀ x ∈ p0, x.block < W.heap.size := by obtain ⟨m, hm⟩ := k0'; exact DataW.trod_lt m _ _ _ hm
  obtain ⟨a0, len0, cap0, rfl⟩ := okWide_slice Tryz.underlying22 (hval 0 22 v0 rfl rfl)
  obtain ⟨z0, w0⟩ := isRow_of_trod Tryz.underlying22 Tryz.underlying5 (by kernel_rfl) h0
  clear hA0 hval0
  refine (walk a0 len0 cap0 z0 W w0).mono fun e W' ⟨he, bel⟩ => ?_
  subst he
  exact ⟨_, rfl, _, _, _, [], _, [], hW', trodAll_mk1 (shut_bool Tryz.underlying4 _), (trodAll_cons_mk (Below.trod laidOut (by kernel_rfl) (of_decide_eq_true (by kernel_rfl)) k0' bel lt0) trodAll_mk0), rfl, bel.frame _, fun h => by cases h⟩

set_option maxRecDepth 100000 in
set_option maxHeartbeats 16000000 in
theorem facts : joinedFacts Tryz.checked.prog 3 Tryz.f3 Rows.fnMatchingNotSpec Rows.fnMatchingNotRow = true := by
  unfold joinedFacts
  repeat' (with_reducible refine Bool.and_eq_true_iff.2 ⟨?_, ?_⟩)
  all_goals (as_aux_lemma => kernel_rfl)

theorem over : Rows.fnMatchingNotRow.holds Tryz.pinned (OpenSpec.ofChange Rows.fnMatchingNotSpec) :=
  OpenClaim.holds_of_wide 3 Tryz.f3 rfl rfl rfl rfl rfl rfl rfl ⟨rfl, rfl, rfl, rfl, rfl⟩ rfl rfl rfl rfl rfl (by kernel_rfl) Tryz.func3 facts
    (of_decide_eq_true (by as_aux_lemma => kernel_rfl)) (by unfold Func.isWrapper; first | (rw [if_pos (by decide +kernel)]; kernel_rfl) | (rw [if_neg (by decide +kernel)]; exact ⟨rfl, rfl⟩))
    (fun os started H enc _ => lifted os started H enc)

theorem proved : Rows.FnMatchingNotSaid := over
#print axioms proved
end Go.Proofs.YtciaidjmehelpaaGreat.fnMatchingNot
