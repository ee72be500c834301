/-
  The truth of a not is the not of the truth; whether there is nothing is always known (law FnTruth, for every code).
-/
import Derived.Test.YtkoihpejkcnokaaBase
import Derived.Test.YtkoihpejkcnokaaDrawExpr3
namespace Go.Proofs.Ytkoihpejkcnokaa.fnTruth
open Go.ChangeShapes Go.WideShapes Go.ChangeAt Go.RowKit Go.Joins
open Go.ChangeMaps (open_string shut_string)
set_option linter.unusedVariables false

set_option maxRecDepth 100000 in
set_option maxHeartbeats 4000000 in
theorem walk (a0 : Option Addr) (len0 cap0 : Nat) (z0 : List Int) (w : World) (w0 : IsRow .u8 w a0 len0 cap0 z0) :
    Calls Try.prog 3 #[.slice a0 len0 cap0] w fun e w' => e = .returned (.bool true) ∧ Below w.heap.size w w' := by
  by_cases hbig : (1048576 : Int) < len0
  · have hbg : decide ((1048576 : Int) < len0) = true := by simpa using hbig
    go_enter Try.func3, Try.ntmps3
    go_wp2_with fail
    refine (lawsBig a0 len0 cap0 w).mono ?_
    rintro e w' ⟨rfl, rfl⟩
    go_wp2
    go_ret
    exact ⟨rfl, Below.refl _ _⟩
  have hbg : decide ((1048576 : Int) < len0) = false := by simpa using hbig
  obtain ⟨i0, hi', hz0, hz1, hz2⟩ := info_parts infoTokD
  have H1 := Lib.hid hi'
  have H2 := Lib.hid hz0
  have H3 := Lib.hid hz1
  have H4 := Lib.hid hz2
  clear hi' hz0 hz1 hz2 hbig
  go_enter Try.func3, Try.ntmps3
  go_wp2_with fail
  refine (lawsBig a0 len0 cap0 w).mono ?_
  rintro e w' ⟨rfl, rfl⟩
  go_wp2_with fail
  refine (drawTruth a0 len0 cap0 z0 _ w0).mono ?_
  rintro e w1 ⟨v, rfl, ⟨x, y, rfl, ⟨ts, hts, hl, hp⟩, ⟨xs, hxs, hxl⟩⟩, hb1⟩
  obtain ⟨g1, cap1, rfl, hg1, hg1', hsrc⟩ := OwnG.src hts (by omega)
  obtain ⟨AT, cT, eT, -, -, hslT⟩ := OwnG.sl (f := Tk.cells) (sz := 5) (fun _ => rfl) hts
  obtain ⟨rfl, rfl⟩ : some (⟨g1, 0, none⟩ : Addr) = AT ∧ cap1 = cT := by simpa using eT
  obtain ⟨AR, cR, rfl, hcR, hcm, hslR⟩ := OwnG.sl (f := Vl.cells) (sz := 3) (fun _ => rfl) hxs
  have HT := Lib.hid hslT
  have HR := Lib.hid hslR
  have HSRC : Hid (SrcT w1 g1 ts) := Lib.hid hsrc
  have hr4 := truthB_rng' ts xs
  obtain ⟨tv, htv⟩ : ∃ tv, truthB ts xs = tv := ⟨_, rfl⟩
  rw [htv] at hr4
  have HTV := Lib.hid htv
  have HR4 := Lib.hid hr4
  have z24 : ((ts.length : Int) == 24) = false := by rw [beq_eq_false_iff_ne]; omega
  clear hts hxs hslT hslR hsrc eT htv hr4 hg1 hcR hcm
  go_wp2_with fail
  refine (implTruth (some ⟨g1, 0, none⟩) AR ts.length xs.length cap1 cR ts xs _ (Sl.cellz (fun _ => rfl) HT.out) (Sl.cellz (fun _ => rfl) HR.out) (by unfold maxLen; omega) (by unfold maxLen; omega)).mono ?_
  rintro e y101 ⟨rfl, hq101⟩
  have HT := Lib.hid (Sl.below (FlatR.stays _) HT.out hq101)
  have HR := Lib.hid (Sl.below (FlatR.stays _) HR.out hq101)
  have HSRC := Lib.hid (SrcT.below HSRC.out hq101)
  have hz_y101 := (hb1).trans ((hq101).mono (hb1).size)
  rw [HTV.out]
  go_wp2_with fail
  refine (specTruth (some ⟨g1, 0, none⟩) AR ts.length xs.length cap1 cR ts xs _ (Sl.cellz (fun _ => rfl) HT.out) (Sl.cellz (fun _ => rfl) HR.out) (by unfold maxLen; omega) (by unfold maxLen; omega)).mono ?_
  rintro e y102 ⟨rfl, hq102⟩
  have HT := Lib.hid (Sl.below (FlatR.stays _) HT.out hq102)
  have HR := Lib.hid (Sl.below (FlatR.stays _) HR.out hq102)
  have HSRC := Lib.hid (SrcT.below HSRC.out hq102)
  have hz_y102 := (hz_y101).trans ((hq102).mono (hz_y101).size)
  rw [HTV.out]
  have HLN := Lib.hid hl
  have HB103 := Lib.hid ((Below.refl y102.heap.size y102).alloc (Nat.le_refl _) (.cells #[] 32))
  have HO103 := Lib.hid (OwnG.lit (T := 32) (sz := 5) (f := Tk.cells) y102 (Nat.le_refl y102.heap.size))
  have HS104 := Lib.hid (SrcT.below HSRC.out HB103.out)
  go_wp2_with (at_builtin; refine wpList_append_own _ rfl _ _ 24 rfl y102.heap.size 32 i0 (.agg #[.int .i64 0, .int .i64 0, .int .i64 0, .int .i64 0, .string ⟨#[]⟩]) 5 48 Try.underlying24 H1.out H2.out H3.out H4.out rfl (by decide) _ _ _ rfl HO103.out ⟨g1, 0, none⟩ ts.length cap1 ((ts.map Tk.cells).flatten) rfl (flat_tk ts) HS104.out (tk_one ts) ?a104 ?b104 ?c104 ?_)
  case a104 => unfold maxLen; (try simp only [List.length_nil]); omega
  case b104 => (try simp only [List.length_nil]); omega
  case c104 => simp
  intro v104 w104 hown104 hgrow104 _
  have HO104 := Lib.hid (show OwnT w104 y102.heap.size v104 ts by simpa [OwnT, OwnG] using hown104)
  have HB104 := Lib.hid (HB103.out.grown hgrow104 (by simp) (fun k hk => (OwnG.block_lt HO103.out k hk).1))
  clear hown104 hgrow104 HO103 HB103 HS104
  go_wp2_with (at_builtin; refine wpList_append_own _ rfl _ _ 24 rfl y102.heap.size 32 i0 (.agg #[.int .i64 0, .int .i64 0, .int .i64 0, .int .i64 0, .string ⟨#[]⟩]) 5 48 Try.underlying24 H1.out H2.out H3.out H4.out rfl (by decide) _ _ _ rfl (World.ownsRow.alloc HO104.out _) ⟨_, 0, none⟩ 1 1 (([opTk 7].map Tk.cells).flatten) rfl rfl ?a105 (tk_one [opTk 7]) ?b105 ?c105 ?d105 ?_)
  case a105 => exact cells_newAt _ (([opTk 7].map Tk.cells).flatten) _ (by simp)
  case b105 => unfold maxLen; omega
  case c105 => omega
  case d105 => have h1 := HB104.out.size; simp; omega
  intro v105 w105 hown105 hgrow105 _
  have HO105 := Lib.hid (show OwnT w105 y102.heap.size v105 (ts ++ [opTk 7]) from OwnG.appL HO104.out (by first | exact hown105 | simpa [Tk.cells, opTk] using hown105))
  have HB105 := Lib.hid ((HB104.out.alloc HB104.out.size _).grown hgrow105 (by have h1 := HB104.out.size; simp; omega) (fun k hk => (OwnG.block_lt HO104.out k hk).1))
  clear hown105 hgrow105 HO104 HB104
  obtain ⟨l_no, hl_no⟩ : ∃ l, (ts ++ [opTk 7]) = l := ⟨_, rfl⟩
  rw [hl_no] at HO105
  have H_l_no := Lib.hid hl_no
  clear hl_no
  obtain ⟨A_no, c_no, e_no, -, -, h_no⟩ := OwnG.sl (f := Tk.cells) (sz := 5) (fun _ => rfl) HO105.out
  have HX_no := Lib.hid h_no
  subst e_no
  clear h_no
  have HT := Lib.hid (Sl.below (FlatR.stays _) HT.out HB105.out)
  have HR := Lib.hid (Sl.below (FlatR.stays _) HR.out HB105.out)
  have HSRC := Lib.hid (SrcT.below HSRC.out HB105.out)
  have hz_w105 := (hz_y102).trans ((HB105.out).mono (hz_y102).size)
  have HV_no := Lib.hid (show l_no.length = ts.length + 1 by rw [← H_l_no.out]; simp)
  have HB106 := Lib.hid ((Below.refl w105.heap.size w105).alloc (Nat.le_refl _) (.cells #[] 32))
  have HO106 := Lib.hid (OwnG.lit (T := 32) (sz := 5) (f := Tk.cells) w105 (Nat.le_refl w105.heap.size))
  have HS107 := Lib.hid (SrcT.below HSRC.out HB106.out)
  go_wp2_with (at_builtin; refine wpList_append_own _ rfl _ _ 24 rfl w105.heap.size 32 i0 (.agg #[.int .i64 0, .int .i64 0, .int .i64 0, .int .i64 0, .string ⟨#[]⟩]) 5 48 Try.underlying24 H1.out H2.out H3.out H4.out rfl (by decide) _ _ _ rfl HO106.out ⟨g1, 0, none⟩ ts.length cap1 ((ts.map Tk.cells).flatten) rfl (flat_tk ts) HS107.out (tk_one ts) ?a107 ?b107 ?c107 ?_)
  case a107 => unfold maxLen; (try simp only [List.length_nil]); omega
  case b107 => (try simp only [List.length_nil]); omega
  case c107 => simp
  intro v107 w107 hown107 hgrow107 _
  have HO107 := Lib.hid (show OwnT w107 w105.heap.size v107 ts by simpa [OwnT, OwnG] using hown107)
  have HB107 := Lib.hid (HB106.out.grown hgrow107 (by simp) (fun k hk => (OwnG.block_lt HO106.out k hk).1))
  clear hown107 hgrow107 HO106 HB106 HS107
  go_wp2_with (at_builtin; refine wpList_append_own _ rfl _ _ 24 rfl w105.heap.size 32 i0 (.agg #[.int .i64 0, .int .i64 0, .int .i64 0, .int .i64 0, .string ⟨#[]⟩]) 5 48 Try.underlying24 H1.out H2.out H3.out H4.out rfl (by decide) _ _ _ rfl (World.ownsRow.alloc HO107.out _) ⟨_, 0, none⟩ 1 1 (([opTk 8].map Tk.cells).flatten) rfl rfl ?a108 (tk_one [opTk 8]) ?b108 ?c108 ?d108 ?_)
  case a108 => exact cells_newAt _ (([opTk 8].map Tk.cells).flatten) _ (by simp)
  case b108 => unfold maxLen; omega
  case c108 => omega
  case d108 => have h1 := HB107.out.size; simp; omega
  intro v108 w108 hown108 hgrow108 _
  have HO108 := Lib.hid (show OwnT w108 w105.heap.size v108 (ts ++ [opTk 8]) from OwnG.appL HO107.out (by first | exact hown108 | simpa [Tk.cells, opTk] using hown108))
  have HB108 := Lib.hid ((HB107.out.alloc HB107.out.size _).grown hgrow108 (by have h1 := HB107.out.size; simp; omega) (fun k hk => (OwnG.block_lt HO107.out k hk).1))
  clear hown108 hgrow108 HO107 HB107
  obtain ⟨l_nu, hl_nu⟩ : ∃ l, (ts ++ [opTk 8]) = l := ⟨_, rfl⟩
  rw [hl_nu] at HO108
  have H_l_nu := Lib.hid hl_nu
  clear hl_nu
  obtain ⟨A_nu, c_nu, e_nu, -, -, h_nu⟩ := OwnG.sl (f := Tk.cells) (sz := 5) (fun _ => rfl) HO108.out
  have HX_nu := Lib.hid h_nu
  subst e_nu
  clear h_nu
  have HT := Lib.hid (Sl.below (FlatR.stays _) HT.out HB108.out)
  have HR := Lib.hid (Sl.below (FlatR.stays _) HR.out HB108.out)
  have HSRC := Lib.hid (SrcT.below HSRC.out HB108.out)
  have HX_no := Lib.hid (Sl.below (FlatR.stays _) HX_no.out HB108.out)
  have hz_w108 := (hz_w105).trans ((HB108.out).mono (hz_w105).size)
  have HV_nu := Lib.hid (show l_nu.length = ts.length + 1 by rw [← H_l_nu.out]; simp)
  have HN7 := Lib.hid (show truthB l_no xs = not3 tv by rw [← H_l_no.out, ← HTV.out]; exact truthB_not (by omega))
  have HN8 := Lib.hid (show 0 ≤ tv → truthB l_nu xs = yes (tv == 2) from fun h0 => by rw [← H_l_nu.out, ← HTV.out]; exact truthB_null (by omega) (by rw [HTV.out]; exact h0))
  have hln : l_no.length ≤ 16 := by have := HV_no.out; omega
  have hlu : l_nu.length ≤ 16 := by have := HV_nu.out; omega
  have hr4 := HR4.out
  rcases hr4 with rfl | rfl | rfl | rfl
  · go_wp2_with fail
    refine (implTruth A_no AR l_no.length xs.length c_no cR l_no xs _ (Sl.cellz (fun _ => rfl) HX_no.out) (Sl.cellz (fun _ => rfl) HR.out) (by unfold maxLen; omega) (by unfold maxLen; omega)).mono ?_
    rintro e y109 ⟨rfl, hq109⟩
    have HT := Lib.hid (Sl.below (FlatR.stays _) HT.out hq109)
    have HR := Lib.hid (Sl.below (FlatR.stays _) HR.out hq109)
    have HSRC := Lib.hid (SrcT.below HSRC.out hq109)
    have HX_no := Lib.hid (Sl.below (FlatR.stays _) HX_no.out hq109)
    have HX_nu := Lib.hid (Sl.below (FlatR.stays _) HX_nu.out hq109)
    have hz_y109 := (hz_w108).trans ((hq109).mono (hz_w108).size)
    rw [HN7.out]
    rw [show not3 (-1) = -1 from rfl]
    go_wp2_with fail
    go_ret
    exact ⟨rfl, hz_y109⟩
  · go_wp2_with fail
    refine (implTruth A_no AR l_no.length xs.length c_no cR l_no xs _ (Sl.cellz (fun _ => rfl) HX_no.out) (Sl.cellz (fun _ => rfl) HR.out) (by unfold maxLen; omega) (by unfold maxLen; omega)).mono ?_
    rintro e y110 ⟨rfl, hq110⟩
    have HT := Lib.hid (Sl.below (FlatR.stays _) HT.out hq110)
    have HR := Lib.hid (Sl.below (FlatR.stays _) HR.out hq110)
    have HSRC := Lib.hid (SrcT.below HSRC.out hq110)
    have HX_no := Lib.hid (Sl.below (FlatR.stays _) HX_no.out hq110)
    have HX_nu := Lib.hid (Sl.below (FlatR.stays _) HX_nu.out hq110)
    have hz_y110 := (hz_w108).trans ((hq110).mono (hz_w108).size)
    rw [HN7.out]
    go_wp2_with fail
    refine (implNot3 0 _).mono ?_
    rintro e yn ⟨rfl, rfl⟩
    go_wp2_with fail
    refine (implTruth A_nu AR l_nu.length xs.length c_nu cR l_nu xs _ (Sl.cellz (fun _ => rfl) HX_nu.out) (Sl.cellz (fun _ => rfl) HR.out) (by unfold maxLen; omega) (by unfold maxLen; omega)).mono ?_
    rintro e y111 ⟨rfl, hq111⟩
    have HT := Lib.hid (Sl.below (FlatR.stays _) HT.out hq111)
    have HR := Lib.hid (Sl.below (FlatR.stays _) HR.out hq111)
    have HSRC := Lib.hid (SrcT.below HSRC.out hq111)
    have HX_no := Lib.hid (Sl.below (FlatR.stays _) HX_no.out hq111)
    have HX_nu := Lib.hid (Sl.below (FlatR.stays _) HX_nu.out hq111)
    have hz_y111 := (hz_y110).trans ((hq111).mono (hz_y110).size)
    rw [HN8.out (by omega)]
    rw [show yes ((0 : Int) == 2) = 0 from rfl]
    go_wp2_with fail
    go_ret
    exact ⟨rfl, hz_y111⟩
  · go_wp2_with fail
    refine (implTruth A_no AR l_no.length xs.length c_no cR l_no xs _ (Sl.cellz (fun _ => rfl) HX_no.out) (Sl.cellz (fun _ => rfl) HR.out) (by unfold maxLen; omega) (by unfold maxLen; omega)).mono ?_
    rintro e y112 ⟨rfl, hq112⟩
    have HT := Lib.hid (Sl.below (FlatR.stays _) HT.out hq112)
    have HR := Lib.hid (Sl.below (FlatR.stays _) HR.out hq112)
    have HSRC := Lib.hid (SrcT.below HSRC.out hq112)
    have HX_no := Lib.hid (Sl.below (FlatR.stays _) HX_no.out hq112)
    have HX_nu := Lib.hid (Sl.below (FlatR.stays _) HX_nu.out hq112)
    have hz_y112 := (hz_w108).trans ((hq112).mono (hz_w108).size)
    rw [HN7.out]
    go_wp2_with fail
    refine (implNot3 1 _).mono ?_
    rintro e yn ⟨rfl, rfl⟩
    go_wp2_with fail
    refine (implTruth A_nu AR l_nu.length xs.length c_nu cR l_nu xs _ (Sl.cellz (fun _ => rfl) HX_nu.out) (Sl.cellz (fun _ => rfl) HR.out) (by unfold maxLen; omega) (by unfold maxLen; omega)).mono ?_
    rintro e y113 ⟨rfl, hq113⟩
    have HT := Lib.hid (Sl.below (FlatR.stays _) HT.out hq113)
    have HR := Lib.hid (Sl.below (FlatR.stays _) HR.out hq113)
    have HSRC := Lib.hid (SrcT.below HSRC.out hq113)
    have HX_no := Lib.hid (Sl.below (FlatR.stays _) HX_no.out hq113)
    have HX_nu := Lib.hid (Sl.below (FlatR.stays _) HX_nu.out hq113)
    have hz_y113 := (hz_y112).trans ((hq113).mono (hz_y112).size)
    rw [HN8.out (by omega)]
    rw [show yes ((1 : Int) == 2) = 0 from rfl]
    go_wp2_with fail
    go_ret
    exact ⟨rfl, hz_y113⟩
  · go_wp2_with fail
    refine (implTruth A_no AR l_no.length xs.length c_no cR l_no xs _ (Sl.cellz (fun _ => rfl) HX_no.out) (Sl.cellz (fun _ => rfl) HR.out) (by unfold maxLen; omega) (by unfold maxLen; omega)).mono ?_
    rintro e y114 ⟨rfl, hq114⟩
    have HT := Lib.hid (Sl.below (FlatR.stays _) HT.out hq114)
    have HR := Lib.hid (Sl.below (FlatR.stays _) HR.out hq114)
    have HSRC := Lib.hid (SrcT.below HSRC.out hq114)
    have HX_no := Lib.hid (Sl.below (FlatR.stays _) HX_no.out hq114)
    have HX_nu := Lib.hid (Sl.below (FlatR.stays _) HX_nu.out hq114)
    have hz_y114 := (hz_w108).trans ((hq114).mono (hz_w108).size)
    rw [HN7.out]
    go_wp2_with fail
    refine (implNot3 2 _).mono ?_
    rintro e yn ⟨rfl, rfl⟩
    go_wp2_with fail
    refine (implTruth A_nu AR l_nu.length xs.length c_nu cR l_nu xs _ (Sl.cellz (fun _ => rfl) HX_nu.out) (Sl.cellz (fun _ => rfl) HR.out) (by unfold maxLen; omega) (by unfold maxLen; omega)).mono ?_
    rintro e y115 ⟨rfl, hq115⟩
    have HT := Lib.hid (Sl.below (FlatR.stays _) HT.out hq115)
    have HR := Lib.hid (Sl.below (FlatR.stays _) HR.out hq115)
    have HSRC := Lib.hid (SrcT.below HSRC.out hq115)
    have HX_no := Lib.hid (Sl.below (FlatR.stays _) HX_no.out hq115)
    have HX_nu := Lib.hid (Sl.below (FlatR.stays _) HX_nu.out hq115)
    have hz_y115 := (hz_y114).trans ((hq115).mono (hz_y114).size)
    rw [HN8.out (by omega)]
    rw [show yes ((2 : Int) == 2) = 1 from rfl]
    go_wp2_with fail
    go_ret
    exact ⟨rfl, hz_y115⟩

set_option maxRecDepth 100000 in
theorem lifted (os : Os) (started : os.Started) (H : Type) (enc : TypeId × Value → H) :
    ReturnsInHanded {} Try.checked os 3 .any (Rows.fnTruthSpec.pre6 enc Try.prog Try.f3 Rows.fnTruthRow.domain false) (Rows.fnTruthSpec.post enc Try.prog Try.f3 false true false false) := by
  refine returnsInHanded_of_change (C := Try.checked) own started (by kernel_rfl) Try.func3
    (ChangeSpec.witness6 (enc := enc) (C := Try.checked) false ⟨#[], #[.slice none 0 0], []⟩ 8 (by kernel_rfl) (by kernel_rfl) (by kernel_rfl) (by kernel_rfl)) ?_
  intro W base args ds gs before hval0 hW hcnd _
  have hval : ∀ (j : Nat) t v, Try.f3.params[j]? = some t → args[j]? = some v → Value.okWide Try.prog W .any base t v := hval0
  have hW' := hW
  obtain ⟨p, q, hA0, hV, rfl, hfz, hnd⟩ := hW
  have hA : DataW.TrodAll enc Try.prog W 0 (fun _ => true) true Try.f3.params.toList args.toList ds p := hA0
  rw [Try.params3] at hA hval
  obtain ⟨v0, vs0, d0, ds0, p0, q0, hargs, rfl, rfl, h0, r0⟩ := trodAll_cons hA
  obtain ⟨rfl, rfl, rfl⟩ := trodAll_nil r0
  obtain rfl : args = #[v0] := by cases args; simp_all
  obtain ⟨rfl, rfl⟩ := trodVars_none hV
  have k0' := h0
  have lt0 : ∀ x ∈ p0, x.block < W.heap.size := by obtain ⟨m, hm⟩ := k0'; exact DataW.trod_lt m _ _ _ hm
  obtain ⟨a0, len0, cap0, rfl⟩ := okWide_slice Try.underlying22 (hval 0 22 v0 rfl rfl)
  obtain ⟨z0, w0⟩ := isRow_of_trod Try.underlying22 Try.underlying5 (by kernel_rfl) h0
  clear hA0 hval0
  refine (walk a0 len0 cap0 z0 W w0).mono fun e W' ⟨he, bel⟩ => ?_
  subst he
  exact ⟨_, rfl, _, _, _, [], _, [], hW', trodAll_mk1 (shut_bool Try.underlying4 _), (trodAll_cons_mk (Below.trod laidOut (by kernel_rfl) (of_decide_eq_true (by kernel_rfl)) k0' bel lt0) trodAll_mk0), rfl, bel.frame _, fun h => by cases h⟩

set_option maxRecDepth 100000 in
set_option maxHeartbeats 16000000 in
theorem facts : joinedFacts Try.checked.prog 3 Try.f3 Rows.fnTruthSpec Rows.fnTruthRow = true := by
  unfold joinedFacts
  repeat' (with_reducible refine Bool.and_eq_true_iff.2 ⟨?_, ?_⟩)
  all_goals (as_aux_lemma => kernel_rfl)

theorem over : Rows.fnTruthRow.holds Try.pinned (OpenSpec.ofChange Rows.fnTruthSpec) :=
  OpenClaim.holds_of_wide 3 Try.f3 rfl rfl rfl rfl rfl rfl rfl ⟨rfl, rfl, rfl, rfl, rfl⟩ rfl rfl rfl rfl rfl (by kernel_rfl) Try.func3 facts
    (of_decide_eq_true (by as_aux_lemma => kernel_rfl)) (by unfold Func.isWrapper; first | (rw [if_pos (by decide +kernel)]; kernel_rfl) | (rw [if_neg (by decide +kernel)]; exact ⟨rfl, rfl⟩))
    (fun os started H enc _ => lifted os started H enc)

theorem proved : Rows.FnTruthSaid := over
#print axioms proved
end Go.Proofs.Ytkoihpejkcnokaa.fnTruth
