/-
  What is sound is sound for now, what is not sound for now has a flaw; a sound database without a row that nobody refers to is sound (law FnSound, for every code).
-/
import Derived.Test.YtjhhamlnlalkoaaGreatPa
import Derived.Test.YtjhhamlnlalkoaaGreatPb
import Derived.Test.YtjhhamlnlalkoaaGreatPc
import Derived.Test.YtjhhamlnlalkoaaGreatPd
import Derived.Test.YtjhhamlnlalkoaaGreatPe
import Derived.Test.YtjhhamlnlalkoaaGreatPf
import Derived.Test.YtjhhamlnlalkoaaGreatPg
import Derived.Test.YtjhhamlnlalkoaaGreatPh
import Derived.Test.YtjhhamlnlalkoaaGreatPi
namespace Go.Proofs.YtjhhamlnlalkoaaGreat.fnSound
open Go.ChangeShapes Go.WideShapes Go.ChangeAt Go.RowKit Go.Joins
open Go.ChangeMaps (open_string shut_string)
set_option linter.unusedSimpArgs false
set_option linter.unusedVariables false

set_option maxRecDepth 100000 in
set_option maxHeartbeats 8000000 in
theorem walk (a0 : Option Addr) (len0 cap0 : Nat) (z0 : List Int) (w : World) (w0 : IsRow .u8 w a0 len0 cap0 z0) :
    Calls Tryz.prog 4 #[.slice a0 len0 cap0] w fun e w' => e = .returned (.bool true) ∧ Below w.heap.size w w' := by
  by_cases hbig : (1048576 : Int) < len0
  · have hbg : decide ((1048576 : Int) < len0) = true := by simpa using hbig
    go_enter Tryz.func4, Tryz.ntmps4
    go_wp2_with fail
    refine (lawsBig a0 len0 cap0 w).mono ?_
    rintro e w' ⟨rfl, rfl⟩
    go_wp2
    go_ret
    exact ⟨rfl, Below.refl _ _⟩
  have hbg : decide ((1048576 : Int) < len0) = false := by simpa using hbig
  obtain ⟨ti0, hi', hz0, hz1, hz2⟩ := info_parts infoDataT'
  have H1 := Lib.hid hi'
  have H2 := Lib.hid hz0
  have H3 := Lib.hid hz1
  have H4 := Lib.hid hz2
  clear hi' hz0 hz1 hz2
  go_enter Tryz.func4, Tryz.ntmps4
  go_wp2_with fail
  refine (lawsBig a0 len0 cap0 w).mono ?_
  rintro e w' ⟨rfl, rfl⟩
  go_wp2_with fail
  refine (drawSound a0 len0 cap0 z0 _ w0).mono ?_
  rintro e w1 ⟨v1, rfl, ⟨okp, A1p, c1p, tsp, A2p, n2p, c2p, dsp, rfl, hc1p, hS, hD, hsk, hn2, hdsp⟩, hz⟩
  obtain rfl : dsp.length = n2p := hD.1
  have hssp : szL Tb.sz tsp ≤ 1048576 := by have := hsk.sz; omega
  have HSp := Lib.hid hS
  have HDp := Lib.hid hD
  have hl3p : tsp.length ≤ 3 := hsk.2.1
  have HZp := Lib.hid (And.intro hssp hdsp)
  clear hS hD hsk hn2 hssp hdsp
  obtain ⟨sb, hsb⟩ : ∃ b, soundB tsp dsp false = b := ⟨_, rfl⟩
  have HSB := Lib.hid hsb
  clear hsb
  go_wp2_with fail
  refine (implSound A1p A2p tsp.length c1p dsp.length c2p tsp dsp _ _ _ HSp.out HDp.out HZp.out.1 HZp.out.2).mono ?_
  rintro e w2 ⟨rfl, hq⟩
  rw [HSB.out]
  have HSp := Lib.hid (HSp.out.below TbR.stays hq)
  have HDp := Lib.hid (HDp.out.below DtR.stays hq)
  have hz := hz.trans (hq.mono hz.size)
  clear hq
  go_wp2_with fail
  refine (drawSoundNow a0 len0 cap0 z0 _ (w0.below hz)).mono ?_
  rintro e w3 ⟨v3, rfl, ⟨okq, A1q, c1q, tsq, A2q, n2q, c2q, dsq, rfl, hc1q, hS, hD, hsk, hn2, hdsq⟩, hq⟩
  have HSp := Lib.hid (HSp.out.below TbR.stays hq)
  have HDp := Lib.hid (HDp.out.below DtR.stays hq)
  have hz := hz.trans (hq.mono hz.size)
  clear hq
  obtain rfl : dsq.length = n2q := hD.1
  have hssq : szL Tb.sz tsq ≤ 1048576 := by have := hsk.sz; omega
  have HSq := Lib.hid hS
  have HDq := Lib.hid hD
  have hl3q : tsq.length ≤ 3 := hsk.2.1
  have HZq := Lib.hid (And.intro hssq hdsq)
  clear hS hD hsk hn2 hssq hdsq
  obtain ⟨nb, hnb⟩ : ∃ b, soundB tsq dsq true = b := ⟨_, rfl⟩
  have HNB := Lib.hid hnb
  clear hnb
  obtain ⟨qb, hqb⟩ : ∃ b, soundB tsq dsq false = b := ⟨_, rfl⟩
  have HQN : Hid (qb = true → nb = true) := Lib.hid (fun h => by rw [← HNB.out]; exact snd_now (hqb.trans h))
  have HQB := Lib.hid hqb
  clear hqb
  go_wp2_with fail
  refine (implSoundNow A1q A2q tsq.length c1q dsq.length c2q tsq dsq _ _ _ HSq.out HDq.out HZq.out.1 HZq.out.2).mono ?_
  rintro e w4 ⟨rfl, hq⟩
  rw [HNB.out]
  have HSp := Lib.hid (HSp.out.below TbR.stays hq)
  have HDp := Lib.hid (HDp.out.below DtR.stays hq)
  have HSq := Lib.hid (HSq.out.below TbR.stays hq)
  have HDq := Lib.hid (HDq.out.below DtR.stays hq)
  have hz := hz.trans (hq.mono hz.size)
  clear hq
  have e1 : (sb == sb) = true := by simp
  have e3 : (sb != sb) = false := by simp
  have e4 : (nb == nb) = true := by simp
  have e5 : (nb != nb) = false := by simp
  go_wp2_with fail
  refine (specSound A1p A2p tsp.length c1p dsp.length c2p tsp dsp _ _ _ HSp.out HDp.out hc1p HZp.out.1 HZp.out.2).mono ?_
  rintro e w5 ⟨rfl, hq⟩
  rw [HSB.out]
  have HSp := Lib.hid (HSp.out.below TbR.stays hq)
  have HDp := Lib.hid (HDp.out.below DtR.stays hq)
  have HSq := Lib.hid (HSq.out.below TbR.stays hq)
  have HDq := Lib.hid (HDq.out.below DtR.stays hq)
  have hz := hz.trans (hq.mono hz.size)
  clear hq
  go_wp2_with fail
  refine (specSoundNow A1q A2q tsq.length c1q dsq.length c2q tsq dsq _ _ _ HSq.out HDq.out hc1q HZq.out.1 HZq.out.2).mono ?_
  rintro e w6 ⟨rfl, hq⟩
  rw [HNB.out]
  have HSp := Lib.hid (HSp.out.below TbR.stays hq)
  have HDp := Lib.hid (HDp.out.below DtR.stays hq)
  have HSq := Lib.hid (HSq.out.below TbR.stays hq)
  have HDq := Lib.hid (HDq.out.below DtR.stays hq)
  have hz := hz.trans (hq.mono hz.size)
  clear hq
  go_wp2_with fail
  refine (implSound A1q A2q tsq.length c1q dsq.length c2q tsq dsq _ _ _ HSq.out HDq.out HZq.out.1 HZq.out.2).mono ?_
  rintro e w7 ⟨rfl, hq⟩
  rw [HQB.out]
  have HSp := Lib.hid (HSp.out.below TbR.stays hq)
  have HDp := Lib.hid (HDp.out.below DtR.stays hq)
  have HSq := Lib.hid (HSq.out.below TbR.stays hq)
  have HDq := Lib.hid (HDq.out.below DtR.stays hq)
  have hz := hz.trans (hq.mono hz.size)
  clear hq
  have hqn := HQN.out
  cases qb
  · clear e1 e3 e4 e5 hqn
    cases sb
    · go_wp2_with fail
      go_ret
      exact ⟨rfl, hz⟩
    have hB := snd_ok HSB.out
    have hdl := dbB_len hB
    by_cases hs0 : tsp.length = 0
    · have s0 : ((tsp.length : Int) == 0) = true := by rw [beq_iff_eq]; omega
      go_wp2_with fail
      go_ret
      exact ⟨rfl, hz⟩
    have s0 : ((tsp.length : Int) == 0) = false := by rw [beq_eq_false_iff_ne]; omega
    obtain ⟨n, hn⟩ : ∃ n, tsp.length = n + 1 := ⟨tsp.length - 1, by omega⟩
    have hnt : n < tsp.length := by omega
    have hnd : n < dsp.length := by omega
    have HN := Lib.hid (And.intro hn hdl)
    have j0 : (0 : Int) ≤ n := by omega
    have j1 : (n : Int) < tsp.length := by omega
    have j2 : (n : Int) < dsp.length := by omega
    have j3 : IntKind.i64.wrap ((tsp.length : Int) - 1) = n := by rw [IntWalk.i64_in _ (by omega)]; omega
    have j4 : ((tsp.length : Int) - 1) = n := by omega
    clear hn hdl hs0 hB
    obtain ⟨bt, ot, B1, m1, d1, B2, m2, d2, B3, m3, d3, B4, m4, d4, B5, m5, d5, -, eT, t0, -⟩ := TbR.at_ HSp.out hnt
    subst eT
    obtain ⟨bd, od, AR, nR, cR, -, eD, p0, hrw, hrc⟩ := DtR.at_ HDp.out hnd
    subst eD
    obtain rfl : dsp[n].rows.length = nR := hrw.1
    have P0 := Lib.hid p0
    have HRW0 := Lib.hid hrw
    clear hrw p0
    go_wp2_with fail
    refine (implRefers (some ⟨bt, ot, none⟩) tsp.length c1p tsp tsp[n].name _ _ HSp.out HZp.out.1).mono ?_
    rintro e w8 ⟨A8, c8, rfl, -, h8, hq⟩
    have p0 := below_keep hq _ _ P0.out
    have HRW := Lib.hid (HRW0.out.below RwR.stays hq)
    obtain ⟨Rf, hRf⟩ : ∃ l, refsB tsp[n].name tsp = l := ⟨_, rfl⟩
    rw [hRf] at h8 ⊢
    have HRF := Lib.hid hRf
    clear hRf P0 h8 HRW0
    have HSp := Lib.hid (HSp.out.below TbR.stays hq)
    have HDp := Lib.hid (HDp.out.below DtR.stays hq)
    have HSq := Lib.hid (HSq.out.below TbR.stays hq)
    have HDq := Lib.hid (HDq.out.below DtR.stays hq)
    have hz := hz.trans (hq.mono hz.size)
    clear hq
    by_cases hrf : (0 : Int) < Rf.length
    · have hrd : decide ((0 : Int) < Rf.length) = true := by simpa using hrf
      have hrx : ¬ Rf = [] := by rintro rfl; simp at hrf
      go_wp2_with fail
      go_ret
      exact ⟨rfl, hz⟩
    have hrd : decide ((0 : Int) < Rf.length) = false := by simpa using hrf
    have hrx : Rf = [] := by cases Rf with
    | nil => rfl
    | cons x l => simp at hrf
    by_cases hr0 : dsp[n].rows.length = 0
    · have r0 : ((dsp[n].rows.length : Int) == 0) = true := by rw [beq_iff_eq]; omega
      go_wp2_with fail
      go_ret
      exact ⟨rfl, hz⟩
    have r0 : ((dsp[n].rows.length : Int) == 0) = false := by rw [beq_eq_false_iff_ne]; omega
    have HRN := Lib.hid (show Rf = [] by cases Rf with
    | nil => rfl
    | cons x l => simp at hrf)
    obtain ⟨vs, hvl, hvr, hvc⟩ := dt_vals HDp.out
    have HVL := Lib.hid hvl
    have HVC := Lib.hid (hvc _ _ rfl)
    have HVO := Lib.hid (dtv_one hvl hvr)
    have HVR := Lib.hid hvr
    clear hvl hvr hvc
    obtain ⟨br, orr, eR⟩ : ∃ b off, AR = some ⟨b, off, none⟩ := by obtain ⟨b, off, e, -, -⟩ := HRW.out.2 (by omega); exact ⟨b, off, e⟩
    subst eR
    have f0 := Lib.hid (ownsLitD w8 (Nat.le_refl _) 33 1)
    have hal := (Below.refl w8.heap.size w8).alloc (Nat.le_refl _) (.cells #[] 33)
    have hd20 : dsp.length ≤ 3 := by have := HN.out.2; omega
    have HAL := Lib.hid hal
    clear hal
    go_wp2_with (at_builtin; refine wpList_append_own _ rfl _ _ 25 rfl w8.heap.size 33 ti0 (.agg #[.slice none 0 0]) 1 24 Tryz.underlying25 H1.out H2.out H3.out H4.out rfl (by decide) _ _ _ rfl f0.out ⟨bd, od, none⟩ dsp.length c2p vs rfl (by have := HVL.out; omega) ?c1 ?c2 ?c3 ?c4 ?c5 ?_)
    case c1 => exact fun j u hj => below_keep HAL.out _ _ (HVC.out j u hj)
    case c2 => exact HVO.out
    case c3 => unfold maxLen; omega
    case c4 => omega
    case c5 => simp
    intro v9 w9 hown9 hgrow9 _
    have hb9 : Below w8.heap.size w8 w9 := HAL.out.grown hgrow9 (by simp) (fun q hq => by cases hq; exact Nat.le_refl _)
    clear hgrow9 f0
    obtain ⟨g9, c9, rfl, hg9⟩ := own_at hown9 (by omega)
    have p0 := below_keep hb9 _ _ p0
    have x9 := (own_cellsD hown9).1 n _ (List.getElem?_eq_getElem (by have := HVL.out; omega))
    have x8 := (own_cellsD hown9).2 n
    have k1 : (1 : Int) ≤ dsp[n].rows.length := by omega
    have HW9 := Lib.hid hown9
    have HB9 := Lib.hid hb9
    clear hown9 hb9 HAL HVC HVO
    by_cases hcR : cR = 1
    · go_wp2_with fail
      have hst := World.ownsRow.stored HW9.out n (.slice (some ⟨br, orr, none⟩) (dsp[n].rows.length - 1) 0)
      have hb10 := HB9.out.trans ((Below.refl w8.heap.size w9).setCell (p := ⟨g9, n, none⟩) hg9 (.slice (some ⟨br, orr, none⟩) (dsp[n].rows.length - 1) 0))
      obtain ⟨hl10, hv10⟩ := dtv_less HVR.out hnd HVL.out (by have h := tail_dtv HRW.out hrc (some ⟨br, orr, none⟩) (fun h => absurd hcR h); rw [hcR] at h; exact h)
      have hD10 := dt_of hst.1 (lessD_len dsp n).symm (fun i hi hi' => (hv10 i hi hi').below hb10) hl10
      refine (implSound (some ⟨bt, ot, none⟩) (some ⟨g9, 0, none⟩) tsp.length c1p dsp.length c9 tsp (lessD dsp n) _ _ _ (HSp.out.below TbR.stays hb10) hD10 HZp.out.1 (lessD_sz hnd HZp.out.2)).mono ?_
      rintro e w10 ⟨rfl, hq10⟩
      rw [snd_less HSB.out hnt (HRF.out.trans HRN.out)]
      go_wp2_with fail
      go_ret
      exact ⟨rfl, hz.trans ((hb10.trans (hq10.mono hb10.size)).mono hz.size)⟩
    · go_wp2_with fail
      have hst := World.ownsRow.stored HW9.out n (.slice (some ⟨br, orr + 2, none⟩) (dsp[n].rows.length - 1) (cR - 1))
      have hb10 := HB9.out.trans ((Below.refl w8.heap.size w9).setCell (p := ⟨g9, n, none⟩) hg9 (.slice (some ⟨br, orr + 2, none⟩) (dsp[n].rows.length - 1) (cR - 1)))
      obtain ⟨hl10, hv10⟩ := dtv_less HVR.out hnd HVL.out (tail_dtv HRW.out hrc (some ⟨br, orr + 2, none⟩) (fun _ => rfl))
      have hD10 := dt_of hst.1 (lessD_len dsp n).symm (fun i hi hi' => (hv10 i hi hi').below hb10) hl10
      refine (implSound (some ⟨bt, ot, none⟩) (some ⟨g9, 0, none⟩) tsp.length c1p dsp.length c9 tsp (lessD dsp n) _ _ _ (HSp.out.below TbR.stays hb10) hD10 HZp.out.1 (lessD_sz hnd HZp.out.2)).mono ?_
      rintro e w10 ⟨rfl, hq10⟩
      rw [snd_less HSB.out hnt (HRF.out.trans HRN.out)]
      go_wp2_with fail
      go_ret
      exact ⟨rfl, hz.trans ((hb10.trans (hq10.mono hb10.size)).mono hz.size)⟩
  cases nb
  · cases hqn rfl
  · clear e1 e3 e4 e5 hqn
    cases sb
    · go_wp2_with fail
      go_ret
      exact ⟨rfl, hz⟩
    have hB := snd_ok HSB.out
    have hdl := dbB_len hB
    by_cases hs0 : tsp.length = 0
    · have s0 : ((tsp.length : Int) == 0) = true := by rw [beq_iff_eq]; omega
      go_wp2_with fail
      go_ret
      exact ⟨rfl, hz⟩
    have s0 : ((tsp.length : Int) == 0) = false := by rw [beq_eq_false_iff_ne]; omega
    obtain ⟨n, hn⟩ : ∃ n, tsp.length = n + 1 := ⟨tsp.length - 1, by omega⟩
    have hnt : n < tsp.length := by omega
    have hnd : n < dsp.length := by omega
    have HN := Lib.hid (And.intro hn hdl)
    have j0 : (0 : Int) ≤ n := by omega
    have j1 : (n : Int) < tsp.length := by omega
    have j2 : (n : Int) < dsp.length := by omega
    have j3 : IntKind.i64.wrap ((tsp.length : Int) - 1) = n := by rw [IntWalk.i64_in _ (by omega)]; omega
    have j4 : ((tsp.length : Int) - 1) = n := by omega
    clear hn hdl hs0 hB
    obtain ⟨bt, ot, B1, m1, d1, B2, m2, d2, B3, m3, d3, B4, m4, d4, B5, m5, d5, -, eT, t0, -⟩ := TbR.at_ HSp.out hnt
    subst eT
    obtain ⟨bd, od, AR, nR, cR, -, eD, p0, hrw, hrc⟩ := DtR.at_ HDp.out hnd
    subst eD
    obtain rfl : dsp[n].rows.length = nR := hrw.1
    have P0 := Lib.hid p0
    have HRW0 := Lib.hid hrw
    clear hrw p0
    go_wp2_with fail
    refine (implRefers (some ⟨bt, ot, none⟩) tsp.length c1p tsp tsp[n].name _ _ HSp.out HZp.out.1).mono ?_
    rintro e w8 ⟨A8, c8, rfl, -, h8, hq⟩
    have p0 := below_keep hq _ _ P0.out
    have HRW := Lib.hid (HRW0.out.below RwR.stays hq)
    obtain ⟨Rf, hRf⟩ : ∃ l, refsB tsp[n].name tsp = l := ⟨_, rfl⟩
    rw [hRf] at h8 ⊢
    have HRF := Lib.hid hRf
    clear hRf P0 h8 HRW0
    have HSp := Lib.hid (HSp.out.below TbR.stays hq)
    have HDp := Lib.hid (HDp.out.below DtR.stays hq)
    have HSq := Lib.hid (HSq.out.below TbR.stays hq)
    have HDq := Lib.hid (HDq.out.below DtR.stays hq)
    have hz := hz.trans (hq.mono hz.size)
    clear hq
    by_cases hrf : (0 : Int) < Rf.length
    · have hrd : decide ((0 : Int) < Rf.length) = true := by simpa using hrf
      have hrx : ¬ Rf = [] := by rintro rfl; simp at hrf
      go_wp2_with fail
      go_ret
      exact ⟨rfl, hz⟩
    have hrd : decide ((0 : Int) < Rf.length) = false := by simpa using hrf
    have hrx : Rf = [] := by cases Rf with
    | nil => rfl
    | cons x l => simp at hrf
    by_cases hr0 : dsp[n].rows.length = 0
    · have r0 : ((dsp[n].rows.length : Int) == 0) = true := by rw [beq_iff_eq]; omega
      go_wp2_with fail
      go_ret
      exact ⟨rfl, hz⟩
    have r0 : ((dsp[n].rows.length : Int) == 0) = false := by rw [beq_eq_false_iff_ne]; omega
    have HRN := Lib.hid (show Rf = [] by cases Rf with
    | nil => rfl
    | cons x l => simp at hrf)
    obtain ⟨vs, hvl, hvr, hvc⟩ := dt_vals HDp.out
    have HVL := Lib.hid hvl
    have HVC := Lib.hid (hvc _ _ rfl)
    have HVO := Lib.hid (dtv_one hvl hvr)
    have HVR := Lib.hid hvr
    clear hvl hvr hvc
    obtain ⟨br, orr, eR⟩ : ∃ b off, AR = some ⟨b, off, none⟩ := by obtain ⟨b, off, e, -, -⟩ := HRW.out.2 (by omega); exact ⟨b, off, e⟩
    subst eR
    have f0 := Lib.hid (ownsLitD w8 (Nat.le_refl _) 33 1)
    have hal := (Below.refl w8.heap.size w8).alloc (Nat.le_refl _) (.cells #[] 33)
    have hd20 : dsp.length ≤ 3 := by have := HN.out.2; omega
    have HAL := Lib.hid hal
    clear hal
    go_wp2_with (at_builtin; refine wpList_append_own _ rfl _ _ 25 rfl w8.heap.size 33 ti0 (.agg #[.slice none 0 0]) 1 24 Tryz.underlying25 H1.out H2.out H3.out H4.out rfl (by decide) _ _ _ rfl f0.out ⟨bd, od, none⟩ dsp.length c2p vs rfl (by have := HVL.out; omega) ?c1 ?c2 ?c3 ?c4 ?c5 ?_)
    case c1 => exact fun j u hj => below_keep HAL.out _ _ (HVC.out j u hj)
    case c2 => exact HVO.out
    case c3 => unfold maxLen; omega
    case c4 => omega
    case c5 => simp
    intro v9 w9 hown9 hgrow9 _
    have hb9 : Below w8.heap.size w8 w9 := HAL.out.grown hgrow9 (by simp) (fun q hq => by cases hq; exact Nat.le_refl _)
    clear hgrow9 f0
    obtain ⟨g9, c9, rfl, hg9⟩ := own_at hown9 (by omega)
    have p0 := below_keep hb9 _ _ p0
    have x9 := (own_cellsD hown9).1 n _ (List.getElem?_eq_getElem (by have := HVL.out; omega))
    have x8 := (own_cellsD hown9).2 n
    have k1 : (1 : Int) ≤ dsp[n].rows.length := by omega
    have HW9 := Lib.hid hown9
    have HB9 := Lib.hid hb9
    clear hown9 hb9 HAL HVC HVO
    by_cases hcR : cR = 1
    · go_wp2_with fail
      have hst := World.ownsRow.stored HW9.out n (.slice (some ⟨br, orr, none⟩) (dsp[n].rows.length - 1) 0)
      have hb10 := HB9.out.trans ((Below.refl w8.heap.size w9).setCell (p := ⟨g9, n, none⟩) hg9 (.slice (some ⟨br, orr, none⟩) (dsp[n].rows.length - 1) 0))
      obtain ⟨hl10, hv10⟩ := dtv_less HVR.out hnd HVL.out (by have h := tail_dtv HRW.out hrc (some ⟨br, orr, none⟩) (fun h => absurd hcR h); rw [hcR] at h; exact h)
      have hD10 := dt_of hst.1 (lessD_len dsp n).symm (fun i hi hi' => (hv10 i hi hi').below hb10) hl10
      refine (implSound (some ⟨bt, ot, none⟩) (some ⟨g9, 0, none⟩) tsp.length c1p dsp.length c9 tsp (lessD dsp n) _ _ _ (HSp.out.below TbR.stays hb10) hD10 HZp.out.1 (lessD_sz hnd HZp.out.2)).mono ?_
      rintro e w10 ⟨rfl, hq10⟩
      rw [snd_less HSB.out hnt (HRF.out.trans HRN.out)]
      go_wp2_with fail
      go_ret
      exact ⟨rfl, hz.trans ((hb10.trans (hq10.mono hb10.size)).mono hz.size)⟩
    · go_wp2_with fail
      have hst := World.ownsRow.stored HW9.out n (.slice (some ⟨br, orr + 2, none⟩) (dsp[n].rows.length - 1) (cR - 1))
      have hb10 := HB9.out.trans ((Below.refl w8.heap.size w9).setCell (p := ⟨g9, n, none⟩) hg9 (.slice (some ⟨br, orr + 2, none⟩) (dsp[n].rows.length - 1) (cR - 1)))
      obtain ⟨hl10, hv10⟩ := dtv_less HVR.out hnd HVL.out (tail_dtv HRW.out hrc (some ⟨br, orr + 2, none⟩) (fun _ => rfl))
      have hD10 := dt_of hst.1 (lessD_len dsp n).symm (fun i hi hi' => (hv10 i hi hi').below hb10) hl10
      refine (implSound (some ⟨bt, ot, none⟩) (some ⟨g9, 0, none⟩) tsp.length c1p dsp.length c9 tsp (lessD dsp n) _ _ _ (HSp.out.below TbR.stays hb10) hD10 HZp.out.1 (lessD_sz hnd HZp.out.2)).mono ?_
      rintro e w10 ⟨rfl, hq10⟩
      rw [snd_less HSB.out hnt (HRF.out.trans HRN.out)]
      go_wp2_with fail
      go_ret
      exact ⟨rfl, hz.trans ((hb10.trans (hq10.mono hb10.size)).mono hz.size)⟩

set_option maxRecDepth 100000 in
theorem lifted (os : Os) (started : os.Started) (H : Type) (enc : TypeId × Value → H) :
    ReturnsInHanded {} Tryz.checked os 4 .any (Rows.fnSoundSpec.pre6 enc Tryz.prog Tryz.f4 Rows.fnSoundRow.domain false) (Rows.fnSoundSpec.post enc Tryz.prog Tryz.f4 false true false false) := by
  refine returnsInHanded_of_change (C := Tryz.checked) own started (by kernel_rfl) Tryz.func4
    (ChangeSpec.witness6 (enc := enc) (C := Tryz.checked) false ⟨#[], #[.slice none 0 0], []⟩ 8 (by kernel_rfl) (by kernel_rfl) (by kernel_rfl) (by kernel_rfl)) ?_
  intro W base args ds gs before hval0 hW hcnd _
  have hval : ∀ (j : Nat) t v, Tryz.f4.params[j]? = some t → args[j]? = some v → Value.okWide Tryz.prog W .any base t v := hval0
  have hW' := hW
  obtain ⟨p, q, hA0, hV, rfl, hfz, hnd⟩ := hW
  have hA : DataW.TrodAll enc Tryz.prog W 0 (fun _ => true) true Tryz.f4.params.toList args.toList ds p := hA0
  rw [Tryz.params4] at hA hval
  obtain ⟨v0, vs0, d0, ds0, p0, q0, hargs, rfl, rfl, h0, r0⟩ := trodAll_cons hA
  obtain ⟨rfl, rfl, rfl⟩ := trodAll_nil r0
  obtain rfl : args = #[v0] := by cases args; simp_all
  obtain ⟨rfl, rfl⟩ := trodVars_none hV
  have k0' := h0
  have lt0 : ∀ x ∈ p0, x.block < W.heap.size := by obtain ⟨m, hm⟩ := k0'; exact DataW.trod_lt m _ _ _ hm
  obtain ⟨a0, len0, cap0, rfl⟩ := okWide_slice Tryz.underlying22 (hval 0 22 v0 rfl rfl)
  obtain ⟨z0, w0⟩ := isRow_of_trod Tryz.underlying22 Tryz.underlying5 (by kernel_rfl) h0
  clear hA0 hval0
  refine (walk a0 len0 cap0 z0 W w0).mono fun e W' ⟨he, bel⟩ => ?_
  subst he
  exact ⟨_, rfl, _, _, _, [], _, [], hW', trodAll_mk1 (shut_bool Tryz.underlying4 _), (trodAll_cons_mk (Below.trod laidOut (by kernel_rfl) (of_decide_eq_true (by kernel_rfl)) k0' bel lt0) trodAll_mk0), rfl, bel.frame _, fun h => by cases h⟩

set_option maxRecDepth 100000 in
set_option maxHeartbeats 16000000 in
theorem facts : joinedFacts Tryz.checked.prog 4 Tryz.f4 Rows.fnSoundSpec Rows.fnSoundRow = true := by
  unfold joinedFacts
  repeat' (with_reducible refine Bool.and_eq_true_iff.2 ⟨?_, ?_⟩)
  all_goals (as_aux_lemma => kernel_rfl)

theorem over : Rows.fnSoundRow.holds Tryz.pinned (OpenSpec.ofChange Rows.fnSoundSpec) :=
  OpenClaim.holds_of_wide 4 Tryz.f4 rfl rfl rfl rfl rfl rfl rfl ⟨rfl, rfl, rfl, rfl, rfl⟩ rfl rfl rfl rfl rfl (by kernel_rfl) Tryz.func4 facts
    (of_decide_eq_true (by as_aux_lemma => kernel_rfl)) (by unfold Func.isWrapper; first | (rw [if_pos (by decide +kernel)]; kernel_rfl) | (rw [if_neg (by decide +kernel)]; exact ⟨rfl, rfl⟩))
    (fun os started H enc _ => lifted os started H enc)

theorem proved : Rows.FnSoundSaid := over
#print axioms proved
end Go.Proofs.YtjhhamlnlalkoaaGreat.fnSound
