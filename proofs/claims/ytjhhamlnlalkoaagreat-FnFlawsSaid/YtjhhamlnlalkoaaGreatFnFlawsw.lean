/-
  Of each flaw that is told the law finds why; a database without a flaw is sound (law FnFlaws, for every code).
-/
import Derived.Test.YtjhhamlnlalkoaaGreatPa
import Derived.Test.YtjhhamlnlalkoaaGreatPb
import Derived.Test.YtjhhamlnlalkoaaGreatPc
import Derived.Test.YtjhhamlnlalkoaaGreatPd
import Derived.Test.YtjhhamlnlalkoaaGreatPe
import Derived.Test.YtjhhamlnlalkoaaGreatPf
import Derived.Test.YtjhhamlnlalkoaaGreatPg
import Derived.Test.YtjhhamlnlalkoaaGreatPh
import Derived.Test.YtjhhamlnlalkoaaGreatPi
import Derived.Test.YtjhhamlnlalkoaaGreatQa
import Derived.Test.YtjhhamlnlalkoaaGreatQb
import Derived.Test.YtjhhamlnlalkoaaGreatSa
import Derived.Test.YtjhhamlnlalkoaaGreatSb
import Derived.Test.YtjhhamlnlalkoaaGreatSc
import Derived.Test.YtjhhamlnlalkoaaGreatTa
import Derived.Test.YtjhhamlnlalkoaaGreatTb
namespace Go.Proofs.YtjhhamlnlalkoaaGreat.fnFlaws
open Go.ChangeShapes Go.WideShapes Go.ChangeAt Go.RowKit Go.Joins
open Go.ChangeMaps (open_string shut_string)
set_option linter.unusedSimpArgs false
set_option linter.unusedVariables false

set_option maxRecDepth 100000 in
set_option maxHeartbeats 8000000 in
theorem walk (a0 : Option Addr) (len0 cap0 : Nat) (z0 : List Int) (w : World) (w0 : IsRow .u8 w a0 len0 cap0 z0) :
    Calls Tryz.prog 5 #[.slice a0 len0 cap0] w fun e w' => e = .returned (.bool true) ∧ Below w.heap.size w w' := by
  by_cases hbig : (1048576 : Int) < len0
  · have hbg : decide ((1048576 : Int) < len0) = true := by simpa using hbig
    go_enter Tryz.func5, Tryz.ntmps5
    go_wp2_with fail
    refine (lawsBig a0 len0 cap0 w).mono ?_
    rintro e w' ⟨rfl, rfl⟩
    go_wp2
    go_ret
    exact ⟨rfl, Below.refl _ _⟩
  have hbg : decide ((1048576 : Int) < len0) = false := by simpa using hbig
  go_enter Tryz.func5, Tryz.ntmps5
  go_wp2_with fail
  refine (lawsBig a0 len0 cap0 w).mono ?_
  rintro e w' ⟨rfl, rfl⟩
  go_wp2_with fail
  refine (drawFlaws a0 len0 cap0 z0 _ w0).mono ?_
  rintro e w1 ⟨v1, rfl, ⟨ok, A1, c1, ts, A2, n2, c2, ds, rfl, hc1, hS, hD, hsk, hn2, hds⟩, hz⟩
  obtain rfl : ds.length = n2 := hD.1
  have hss : szL Tb.sz ts ≤ 1048576 := by have := hsk.sz; omega
  have HS := Lib.hid hS
  have HD := Lib.hid hD
  have HZ := Lib.hid (And.intro hss hds)
  have hl3 : ts.length ≤ 3 := hsk.2.1
  clear hS hD hsk hn2 hss hds
  obtain ⟨ob, hob⟩ : ∃ b, dbB ts ds = b := ⟨_, rfl⟩
  obtain ⟨G, hG⟩ : ∃ G, flawsB ts ds false = G := ⟨_, rfl⟩
  have HOB := Lib.hid (And.intro hob hG)
  clear hob hG
  go_wp2_with fail
  refine (implFlaws A1 A2 ts.length c1 ds.length c2 ts ds _ _ _ HS.out HD.out HZ.out.1 HZ.out.2).mono ?_
  rintro e w2 ⟨AF, cF, rfl, -, hF, hq⟩
  rw [HOB.out.2] at hF ⊢
  rw [HOB.out.1]
  have HS := Lib.hid (HS.out.below TbR.stays hq)
  have HD := Lib.hid (HD.out.below DtR.stays hq)
  have hz := hz.trans (hq.mono hz.size)
  clear hq
  have HF := Lib.hid hF
  clear hF
  go_wp2_with fail
  refine (specFlaws A1 A2 ts.length c1 ds.length c2 ts ds _ _ _ HS.out HD.out hc1 HZ.out.1 HZ.out.2).mono ?_
  rintro e w3 ⟨AG, cG, rfl, -, hF, hq⟩
  rw [HOB.out.2] at hF ⊢
  rw [HOB.out.1]
  have HS := Lib.hid (HS.out.below TbR.stays hq)
  have HD := Lib.hid (HD.out.below DtR.stays hq)
  have HF := Lib.hid (HF.out.below (FlatR.stays _) hq)
  have hz := hz.trans (hq.mono hz.size)
  clear hq
  have HG := Lib.hid hF
  clear hF
  have e1 : (ob == ob) = true := by simp
  have e2 : ((G.length : Int) == G.length) = true := by simp
  have e3 : (ob != ob) = false := by simp
  have e4 : ((G.length : Int) != G.length) = false := by simp
  cases ob
  · go_wp2_with fail
    go_ret
    exact ⟨rfl, hz⟩
  clear e1 e2 e3 e4
  have e4 : ((G.length : Int) != G.length) = false := by simp
  have hB := HOB.out.1
  have hdl := dbB_len hB
  have HWHY := Lib.hid (fun x (hx : x ∈ G) => why_all hB (by rw [HOB.out.2]; exact hx))
  have HRI := Lib.hid (fun i (h : i < ts.length) (h' : i < ds.length) x (hx : x ∈ ds[i].rows) => rowIn_of hB i h h' x hx)
  have HLN := Lib.hid (And.intro hdl (fun i (h : i < ts.length) (h' : i < ds.length) => dbB_rows hB h h'))
  have HCO := Lib.hid (fun i (h : i < ts.length) => tab_small hB h)
  have HTZ := Lib.hid (fun i (h : i < ts.length) => (show ts[i].sz ≤ 1048576 by have h1 := sum_mem_le Tb.sz ts i h; have h2 := HZ.out.1; unfold szL at h2; omega))
  have hGn : G.length ≤ 1048576 := by rw [← HOB.out.2]; exact flawsB_few hB
  have HSB := Lib.hid (show (soundB ts ds false == ((G.length : Int) == 0)) = true by unfold soundB; rw [hB, Bool.true_and, ← HOB.out.2]; unfold flawsB; rw [if_pos hB]; cases h0 : decide ((dbFw ts ds false ts.length).length = 0) <;> simp at h0 <;> simp [h0])
  obtain ⟨ti0, hi', hz0, hz1, hz2⟩ := info_parts infoUqF
  clear hi' hz0 hz1 hz2 ti0
  clear hB hdl
  go_wp2_with fail
  clear e4
  go_loopw [9] (fun i wr => ∃ p : Nat, p ≤ G.length ∧ i = .int .i64 p ∧ Below w3.heap.size w3 wr) (fun i _ => G.length - (intOf i).toNat)
  case atStart => exact ⟨0, by omega, rfl, Below.refl _ _⟩
  case round =>
    obtain ⟨p, hp, rfl, hb⟩ := hrel
    by_cases hpt : p < G.length
    case neg =>
      have i1 : ¬ (p : Int) < G.length := by omega
      obtain rfl : p = G.length := by omega
      go_wp2_with fail
      refine (implSound A1 A2 ts.length c1 ds.length c2 ts ds _ _ _ (HS.out.below TbR.stays hb) (HD.out.below DtR.stays hb) HZ.out.1 HZ.out.2).mono ?_
      rintro e w4 ⟨rfl, hq⟩
      have es := HSB.out
      generalize soundB ts ds false = sb at *
      go_wp2_with fail
      go_ret
      exact ⟨by first | rfl | simpa using es | (rw [es]), hz.trans ((hb.trans (hq.mono hb.size)).mono hz.size)⟩
    have i0 : (0 : Int) ≤ p := by omega
    have i1 : (p : Int) < G.length := by omega
    obtain ⟨bf, of, eF, f0, f1', f2'⟩ := fw_at (HF.out.below (FlatR.stays _) hb) hpt
    obtain ⟨bg, og, eG, g0, g1, g2⟩ := fw_at (HG.out.below (FlatR.stays _) hb) hpt
    subst eF
    subst eG
    obtain ⟨i, h, h', k, hk, hxt, hxi, hat, hbad⟩ := HWHY.out _ (List.getElem_mem hpt)
    obtain ⟨x, hx⟩ : ∃ x, G[p] = x := ⟨_, rfl⟩
    rw [hx] at f0 f1' f2' g0 g1 g2 hxt hxi hat hbad
    rw [hxt] at f1' g1
    clear hx
    have HAT := Lib.hid hat
    have HBAD := Lib.hid hbad
    have HXT := Lib.hid (And.intro hxt hxi)
    clear hat hbad hxt hxi
    have i2 : (0 : Int) ≤ i := by omega
    have i3 : (i : Int) < ts.length := by omega
    have i4 : (i : Int) < ds.length := by omega
    have halx := (Below.refl wr.heap.size wr).alloc (Nat.le_refl _) (.cells #[.int .i64 x.k, .int .i64 i, .int .i64 x.id] 48)
    have HX := Lib.hid (show Blo (wr.alloc (.cells #[.int .i64 x.k, .int .i64 i, .int .i64 x.id] 48)) wr.heap.size [.int .i64 x.k, .int .i64 i, .int .i64 x.id] 48 from Blo.new _ _ _)
    have hbx := hb.trans (halx.mono hb.size)
    have g0 := below_keep halx _ _ g0
    have g1 := below_keep halx _ _ g1
    have g2 := below_keep halx _ _ g2
    clear halx
    go_wp2_with fail
    clear f0 f1' f2'
    generalize wr.alloc (.cells #[.int .i64 x.k, .int .i64 i, .int .i64 x.id] 48) = ux at *
    generalize wr.heap.size = gx at *
    clear hb
    have x0 := HX.out.cell 0 _ rfl
    have x1 := HX.out.cell 1 _ rfl
    have x2 := HX.out.cell 2 _ rfl
    have hbd := hbx.drew
    go_upto_region 12 with fail
    refine wp_region_noPanic ?_
    refine wp_region_held_drew (S := (fun w' => w'.cell? ⟨gx, 0, none⟩ = some (.int .i64 x.k) ∧ w'.cell? ⟨gx, 1, none⟩ = some (.int .i64 i) ∧ w'.cell? ⟨gx, 2, none⟩ = some (.int .i64 x.id) ∧ w'.cell? ⟨bg, og + p * 3, none⟩ = some (.int .i64 x.k) ∧ w'.cell? ⟨bg, og + p * 3 + 1, none⟩ = some (.int .i64 i) ∧ w'.cell? ⟨bg, og + p * 3 + 2, none⟩ = some (.int .i64 x.id))) (by kernel_rfl) ⟨x0, x1, x2, g0, g1, g2⟩ (fun hHeld => ?_)
    refine tk 0 ?_
    refine tk 1 ?_
    refine tk 2 ?_
    refine tk 3 ?_
    refine tk 4 ?_
    refine tk 5 ?_
    refine wpAnyH_done (by kernel_rfl) ?_ _
    refine NoPanic.normal ?_
    clear hHeld
    clear g0 g1 g2 x0 x1 x2
    have HX := Lib.hid (show Blo ux.drew gx [.int .i64 x.k, .int .i64 i, .int .i64 x.id] 48 from HX.out)
    generalize ux.drew = u1 at *
    clear hbx
    obtain ⟨bt, ot, B1, m1, d1, B2, m2, d2, B3, m3, d3, B4, m4, d4, B5, m5, d5, -, eT, t0, t1, t2, t3, t4, t5, s1, s2, s3, s4, s5, cc⟩ := TbR.at_ (HS.out.below TbR.stays hbd) h
    subst eT
    obtain rfl : ts[i].cols.length = m1 := s1.1
    obtain rfl : ts[i].key.length = m2 := s2.1
    obtain rfl : ts[i].uniqs.length = m3 := s3.1
    obtain rfl : ts[i].checks.length = m4 := s4.1
    obtain rfl : ts[i].fks.length = m5 := s5.1
    have x1 := HX.out.cell 1 _ rfl
    have hal := (Below.refl u1.heap.size u1).alloc (Nat.le_refl _) (.cells #[.string ts[i].name, .slice B1 ts[i].cols.length d1, .slice B2 ts[i].key.length d2, .slice B3 ts[i].uniqs.length d3, .slice B4 ts[i].checks.length d4, .slice B5 ts[i].fks.length d5] 45)
    have HT := Lib.hid (show Blo (u1.alloc (.cells #[.string ts[i].name, .slice B1 ts[i].cols.length d1, .slice B2 ts[i].key.length d2, .slice B3 ts[i].uniqs.length d3, .slice B4 ts[i].checks.length d4, .slice B5 ts[i].fks.length d5] 45)) u1.heap.size [.string ts[i].name, .slice B1 ts[i].cols.length d1, .slice B2 ts[i].key.length d2, .slice B3 ts[i].uniqs.length d3, .slice B4 ts[i].checks.length d4, .slice B5 ts[i].fks.length d5] 45 from Blo.new _ _ _)
    have HX := Lib.hid (show Blo (u1.alloc (.cells #[.string ts[i].name, .slice B1 ts[i].cols.length d1, .slice B2 ts[i].key.length d2, .slice B3 ts[i].uniqs.length d3, .slice B4 ts[i].checks.length d4, .slice B5 ts[i].fks.length d5] 45)) gx [.int .i64 x.k, .int .i64 i, .int .i64 x.id] 48 from (hal.block _ HX.out.lt).trans HX.out)
    have SS := Lib.hid (And.intro (s1.below ClR.stays hal) (And.intro (s2.below IntR.stays hal) (And.intro (s3.below UqR.stays hal) (And.intro (s4.below CkR.stays hal) (And.intro (s5.below FkR.stays hal) cc)))))
    have hbt := hbd.trans (hal.mono hbd.size)
    clear s1 s2 s3 s4 s5 cc hal hbd
    go_wp2_with fail
    clear t0 t1 t2 t3 t4 t5 x1
    generalize u1.alloc (.cells #[.string ts[i].name, .slice B1 ts[i].cols.length d1, .slice B2 ts[i].key.length d2, .slice B3 ts[i].uniqs.length d3, .slice B4 ts[i].checks.length d4, .slice B5 ts[i].fks.length d5] 45) = u2 at *
    generalize u1.heap.size = gt at *
    obtain ⟨bd, od, AR, nR, cR, -, eD, p0, hrw, hrc⟩ := DtR.at_ (HD.out.below DtR.stays hbt) h'
    subst eD
    obtain rfl : ds[i].rows.length = nR := hrw.1
    have hrn := HLN.out.2 i h h'
    have x1 := HX.out.cell 1 _ rfl
    have x2 := HX.out.cell 2 _ rfl
    have HRW := Lib.hid hrw
    clear hrw
    have hc0 : Below u2.heap.size u2 u2.drew := (Below.refl _ _).drew
    go_upto_region 15 with fail
    refine wp_region_noPanic ?_
    refine wp_region_held_drew (S := (fun w' => w'.cell? ⟨gx, 1, none⟩ = some (.int .i64 i) ∧ w'.cell? ⟨gx, 2, none⟩ = some (.int .i64 x.id) ∧ w'.cell? ⟨bd, od + i, none⟩ = some (.slice AR ds[i].rows.length cR))) (by kernel_rfl) ⟨x1, x2, p0⟩ (fun hHeld => ?_)
    generalize u2.drew = u3 at *
    refine tk 0 ?_
    refine tk 1 ?_
    refine tk 2 ?_
    refine tk 3 ?_
    refine tk 4 ?_
    refine tk 5 ?_
    refine tk 6 ?_
    refine wpAnyH_ready (rs := [7]) (by kernel_rfl) (by simp) ?_
    refine AllReadyH.cons rfl (fun K hK => ?_) AllReadyH.nil
    go_simp
    go_at_call 20
    refine (lawsAt AR ds[i].rows.length cR ds[i].rows x.id _ _ (HRW.out.below RwR.stays hc0) (by omega)).mono ?_
    rintro e u4 ⟨AV, nV, cV, rfl, hvc, hV, hq⟩
    rw [HAT.out] at hV
    obtain rfl : ds[i].rows[k].vals.length = nV := hV.1
    have hc1 := hc0.trans (hq.mono hc0.size)
    have HV := Lib.hid hV
    clear hV hq
    refine hK.out _ _ ⟨below_keep hc1 _ _ x1, below_keep hc1 _ _ x2, below_keep hc1 _ _ p0⟩ (fun hHeld => ?_)
    clear hK K
    (try simp only [Act.put, List.getElem_toArray, List.getElem_cons_zero, List.getElem_cons_succ, List.setIfInBounds_toArray, List.set_cons_zero, List.set_cons_succ])
    refine tk 8 ?_
    refine wpAnyH_done (by kernel_rfl) ?_ _
    refine NoPanic.normal ?_
    clear hHeld
    clear x1 x2 p0 HRW hc0
    have HX := Lib.hid (show Blo u4 gx [.int .i64 x.k, .int .i64 i, .int .i64 x.id] 48 from (hc1.block _ HX.out.lt).trans HX.out)
    have HT := Lib.hid (show Blo u4 gt [.string ts[i].name, .slice B1 ts[i].cols.length d1, .slice B2 ts[i].key.length d2, .slice B3 ts[i].uniqs.length d3, .slice B4 ts[i].checks.length d4, .slice B5 ts[i].fks.length d5] 45 from (hc1.block _ HT.out.lt).trans HT.out)
    obtain ⟨s1, s2, s3, s4, s5, cc⟩ := SS.out
    have SS := Lib.hid (And.intro (s1.below ClR.stays hc1) (And.intro (s2.below IntR.stays hc1) (And.intro (s3.below UqR.stays hc1) (And.intro (s4.below CkR.stays hc1) (And.intro (s5.below FkR.stays hc1) cc)))))
    clear s1 s2 s3 s4 s5 cc
    have hb4 := hbt.trans (hc1.mono hbt.size)
    clear hc1 hbt
    obtain ⟨r1, r2, r3, r4, r5, r6, r7⟩ := HRI.out i h h' _ (List.getElem_mem hk)
    have HR1 := Lib.hid r1
    have hvn := r7
    have HR6 := Lib.hid r6
    have htz := HTZ.out i h
    obtain ⟨hcl, hkl⟩ := HCO.out i h
    clear r1 r2 r3 r4 r5 r6 r7
    have SZ := Lib.hid (show szL Ck.sz ts[i].checks ≤ 1048576 ∧ szL Uq.sz ts[i].uniqs ≤ 1048576 ∧ szL Fk.sz ts[i].fks ≤ 1048576 by unfold Tb.sz at htz; refine ⟨?_, ?_, ?_⟩ <;> omega)
    go_wp2_with fail
    go_loopw [13, 14] (fun t j wr => ∃ c : Nat, c ≤ ts[i].cols.length ∧ j = .int .i64 c ∧ t = .bool (((ts[i].cols.zip ds[i].rows[k].vals).take c).any (f1 x)) ∧ Below u4.heap.size u4 wr) (fun _ j _ => ts[i].cols.length - (intOf j).toNat)
    case atStart => exact ⟨0, by omega, rfl, rfl, Below.refl _ _⟩
    case round =>
      obtain ⟨c, hc, rfl, rfl, hbc⟩ := hrel
      have hx9 := (show Blo wr gx [.int .i64 x.k, .int .i64 i, .int .i64 x.id] 48 from (hbc.block _ HX.out.lt).trans HX.out)
      have ht9 := (show Blo wr gt [.string ts[i].name, .slice B1 ts[i].cols.length d1, .slice B2 ts[i].key.length d2, .slice B3 ts[i].uniqs.length d3, .slice B4 ts[i].checks.length d4, .slice B5 ts[i].fks.length d5] 45 from (hbc.block _ HT.out.lt).trans HT.out)
      have t1 := ht9.cell 1 _ rfl
      by_cases hct : c < ts[i].cols.length
      case neg =>
        have l1 : ¬ (c : Int) < ts[i].cols.length := by omega
        obtain rfl : c = ts[i].cols.length := by omega
        rw [List.take_of_length_le (by rw [List.length_zip]; omega)]
        obtain ⟨q1, hq1⟩ : ∃ b, (ts[i].cols.zip ds[i].rows[k].vals).any (f1 x) = b := ⟨_, rfl⟩
        rw [hq1]
        have HQ1 := Lib.hid hq1
        clear hq1
        as_aux_lemma =>
          have HX := Lib.hid hx9
          have HT := Lib.hid ht9
          obtain ⟨s1, s2, s3, s4, s5, cc⟩ := SS.out
          have SS := Lib.hid (And.intro (s1.below ClR.stays hbc) (And.intro (s2.below IntR.stays hbc) (And.intro (s3.below UqR.stays hbc) (And.intro (s4.below CkR.stays hbc) (And.intro (s5.below FkR.stays hbc) cc)))))
          clear s1 s2 s3 s4 s5 cc
          have HV := Lib.hid (HV.out.below VlR.stays hbc)
          have hb4 := hb4.trans (hbc.mono hb4.size)
          clear hbc hx9 ht9
          have hcks : ts[i].checks.length ≤ 1048576 := by have := SZ.out.1; unfold szL at this; omega
          have huqs : ts[i].uniqs.length ≤ 1048576 := by have := SZ.out.2.1; unfold szL at this; omega
          have hfks : ts[i].fks.length ≤ 1048576 := by have := SZ.out.2.2; unfold szL at this; omega
          generalize hw5 : wr = u5 at *
          clear hw5
          go_wp2_with fail
          go_loopw [13, 15] (fun t j wr => ∃ c : Nat, c ≤ ts[i].checks.length ∧ j = .int .i64 c ∧ t = .bool (q1 || (ts[i].checks.take c).any (f2 x ds[i].rows[k].vals)) ∧ Below u5.heap.size u5 wr) (fun _ j _ => ts[i].checks.length - (intOf j).toNat)
          case atStart => exact ⟨0, by omega, rfl, by simp, Below.refl _ _⟩
          case round =>
            obtain ⟨c, hc, rfl, rfl, hbc⟩ := hrel
            have hx9 := (show Blo wr gx [.int .i64 x.k, .int .i64 i, .int .i64 x.id] 48 from (hbc.block _ HX.out.lt).trans HX.out)
            have ht9 := (show Blo wr gt [.string ts[i].name, .slice B1 ts[i].cols.length d1, .slice B2 ts[i].key.length d2, .slice B3 ts[i].uniqs.length d3, .slice B4 ts[i].checks.length d4, .slice B5 ts[i].fks.length d5] 45 from (hbc.block _ HT.out.lt).trans HT.out)
            have t4 := ht9.cell 4 _ rfl
            by_cases hct : c < ts[i].checks.length
            case neg =>
              have l1 : ¬ (c : Int) < ts[i].checks.length := by omega
              obtain rfl : c = ts[i].checks.length := by omega
              rw [List.take_length]
              obtain ⟨q2, hq2⟩ : ∃ b, (q1 || ts[i].checks.any (f2 x ds[i].rows[k].vals)) = b := ⟨_, rfl⟩
              rw [hq2]
              have HQ2 := Lib.hid hq2
              clear hq2
              as_aux_lemma =>
                have HX := Lib.hid hx9
                have HT := Lib.hid ht9
                obtain ⟨s1, s2, s3, s4, s5, cc⟩ := SS.out
                have SS := Lib.hid (And.intro (s1.below ClR.stays hbc) (And.intro (s2.below IntR.stays hbc) (And.intro (s3.below UqR.stays hbc) (And.intro (s4.below CkR.stays hbc) (And.intro (s5.below FkR.stays hbc) cc)))))
                clear s1 s2 s3 s4 s5 cc
                have HV := Lib.hid (HV.out.below VlR.stays hbc)
                have hb4 := hb4.trans (hbc.mono hb4.size)
                clear hbc hx9 ht9
                generalize hw6 : wr = u6 at *
                clear hw6
                have t2 := HT.out.cell 2 _ rfl
                have hal7 := (Below.refl u6.heap.size u6).alloc (Nat.le_refl _) (.cells #[.slice B2 ts[i].key.length d2] 61)
                have t3 := below_keep hal7 _ _ (HT.out.cell 3 _ rfl)
                have HN7 := Lib.hid (show Blo (u6.alloc (.cells #[.slice B2 ts[i].key.length d2] 61)) u6.heap.size [.slice B2 ts[i].key.length d2] 61 from Blo.new _ _ _)
                obtain ⟨gu, cu, u7, hru, hcu, hsu, hbu⟩ := run_app_uq (c3 := d3) hal7 (Nat.le_refl _) HN7.out SS.out.2.1 SS.out.2.2.2.2.2.2.1 SS.out.2.2.1 (by have h2 := SZ.out.2.1; unfold szL at h2; omega) 41
                go_wp2_with (at_builtin; refine Go.Lib.wpList_append_run _ rfl _ _ 41 41 rfl _ _ rfl rfl _ _ hru ?_)
                clear hru t2 t3 hal7 HN7
                have hbc := hbu
                have hx9 := (show Blo u7 gx [.int .i64 x.k, .int .i64 i, .int .i64 x.id] 48 from (hbc.block _ HX.out.lt).trans HX.out)
                have ht9 := (show Blo u7 gt [.string ts[i].name, .slice B1 ts[i].cols.length d1, .slice B2 ts[i].key.length d2, .slice B3 ts[i].uniqs.length d3, .slice B4 ts[i].checks.length d4, .slice B5 ts[i].fks.length d5] 45 from (hbc.block _ HT.out.lt).trans HT.out)
                have HU := Lib.hid hsu
                clear hsu hbu
                have HX := Lib.hid hx9
                have HT := Lib.hid ht9
                obtain ⟨s1, s2, s3, s4, s5, cc⟩ := SS.out
                have SS := Lib.hid (And.intro (s1.below ClR.stays hbc) (And.intro (s2.below IntR.stays hbc) (And.intro (s3.below UqR.stays hbc) (And.intro (s4.below CkR.stays hbc) (And.intro (s5.below FkR.stays hbc) cc)))))
                clear s1 s2 s3 s4 s5 cc
                have HV := Lib.hid (HV.out.below VlR.stays hbc)
                have hb4 := hb4.trans (hbc.mono hb4.size)
                clear hbc hx9 ht9
                obtain ⟨al, hal⟩ : ∃ al, ((⟨ts[i].key⟩ : Uq) :: ts[i].uniqs) = al := ⟨_, rfl⟩
                have hall : ts[i].uniqs.length + 1 = al.length := by rw [← hal]; rfl
                have HAL := Lib.hid (And.intro hal (show ∀ u ∈ al, u.cols.length ≤ 1048576 from hal ▸ al_small hkl SZ.out.2.1))
                rw [hal, hall] at HU
                rw [hall] at hcu ⊢
                clear hal
                go_wp2_with fail
                go_loopw [13, 18] (fun t j wr => ∃ c : Nat, c ≤ al.length ∧ j = .int .i64 c ∧ t = .bool (q2 || (al.take c).any (f3 x ts ds i ds[i].rows[k].vals)) ∧ Below u7.heap.size u7 wr) (fun _ j _ => al.length - (intOf j).toNat)
                case atStart => exact ⟨0, by omega, rfl, by simp, Below.refl _ _⟩
                case round =>
                  obtain ⟨c, hc, rfl, rfl, hbc⟩ := hrel
                  have hx9 := (show Blo wr gx [.int .i64 x.k, .int .i64 i, .int .i64 x.id] 48 from (hbc.block _ HX.out.lt).trans HX.out)
                  have ht9 := (show Blo wr gt [.string ts[i].name, .slice B1 ts[i].cols.length d1, .slice B2 ts[i].key.length d2, .slice B3 ts[i].uniqs.length d3, .slice B4 ts[i].checks.length d4, .slice B5 ts[i].fks.length d5] 45 from (hbc.block _ HT.out.lt).trans HT.out)
                  by_cases hct : c < al.length
                  case neg =>
                    have l1 : ¬ (c : Int) < al.length := by omega
                    obtain rfl : c = al.length := by omega
                    rw [List.take_length]
                    obtain ⟨q3, hq3⟩ : ∃ b, (q2 || al.any (f3 x ts ds i ds[i].rows[k].vals)) = b := ⟨_, rfl⟩
                    rw [hq3]
                    have HQ3 := Lib.hid hq3
                    clear hq3
                    as_aux_lemma =>
                      have HX := Lib.hid hx9
                      have HT := Lib.hid ht9
                      obtain ⟨s1, s2, s3, s4, s5, cc⟩ := SS.out
                      have SS := Lib.hid (And.intro (s1.below ClR.stays hbc) (And.intro (s2.below IntR.stays hbc) (And.intro (s3.below UqR.stays hbc) (And.intro (s4.below CkR.stays hbc) (And.intro (s5.below FkR.stays hbc) cc)))))
                      clear s1 s2 s3 s4 s5 cc
                      have HV := Lib.hid (HV.out.below VlR.stays hbc)
                      have hb4 := hb4.trans (hbc.mono hb4.size)
                      clear hbc hx9 ht9
                      generalize hw8 : wr = u8 at *
                      clear hw8
                      go_wp2_with fail
                      go_loopw [13, 21] (fun t j wr => ∃ c : Nat, c ≤ ts[i].fks.length ∧ j = .int .i64 c ∧ t = .bool (q3 || (ts[i].fks.take c).any (f4 x ts ds ds[i].rows[k].vals)) ∧ Below u8.heap.size u8 wr) (fun _ j _ => ts[i].fks.length - (intOf j).toNat)
                      case atStart => exact ⟨0, by omega, rfl, by simp, Below.refl _ _⟩
                      case round =>
                        obtain ⟨c, hc, rfl, rfl, hbc⟩ := hrel
                        have hx9 := (show Blo wr gx [.int .i64 x.k, .int .i64 i, .int .i64 x.id] 48 from (hbc.block _ HX.out.lt).trans HX.out)
                        have ht9 := (show Blo wr gt [.string ts[i].name, .slice B1 ts[i].cols.length d1, .slice B2 ts[i].key.length d2, .slice B3 ts[i].uniqs.length d3, .slice B4 ts[i].checks.length d4, .slice B5 ts[i].fks.length d5] 45 from (hbc.block _ HT.out.lt).trans HT.out)
                        have t5 := ht9.cell 5 _ rfl
                        by_cases hct : c < ts[i].fks.length
                        case neg =>
                          have l1 : ¬ (c : Int) < ts[i].fks.length := by omega
                          obtain rfl : c = ts[i].fks.length := by omega
                          rw [List.take_length, ← HQ3.out, ← HAL.out.1, ← HQ2.out, ← HQ1.out, HBAD.out]
                          go_wp2_with fail
                          go_roundw
                          case rel => exact ⟨p + 1, by omega, by go_num, hb4.trans (hbc.mono hb4.size)⟩
                          case measure => simp [intOf]; omega
                        have l0 : (0 : Int) ≤ c := by omega
                        have l1 : (c : Int) < ts[i].fks.length := by omega
                        obtain ⟨-, hfc, m, hm, hml, hmd, -⟩ := HR6.out _ (List.getElem_mem hct)
                        have htk : toKey ts ts[i].fks[c] = ts[m].key := by unfold toKey; rw [hm]; simp [hml]
                        have HNX := Lib.hid (show (q3 || (ts[i].fks.take (c + 1)).any (f4 x ts ds ds[i].rows[k].vals)) = ((q3 || (ts[i].fks.take c).any (f4 x ts ds ds[i].rows[k].vals)) || (x.k == 4 && (keyFl ts[i].fks[c].cols ds[i].rows[k].vals && ((findB ts ds (m : Int) ts[m].key (keyOf ts[i].fks[c].cols ds[i].rows[k].vals)).length : Int) == 0))) from by rw [any_take _ hct, Bool.or_assoc]; unfold f4; rw [htk, hm])
                        clear htk
                        obtain ⟨th, hth⟩ : ∃ b, (q3 || (ts[i].fks.take c).any (f4 x ts ds ds[i].rows[k].vals)) = b := ⟨_, rfl⟩
                        rw [hth]
                        have HTH := Lib.hid hth
                        clear hth
                        have HM := Lib.hid hm
                        clear hm
                        obtain ⟨bc, oc, A9, n9, c9, -, eC, y0, y1, -, -, -, se, -⟩ := FkR.at_ (SS.out.2.2.2.2.1.below FkR.stays hbc) hct
                        obtain rfl : ts[i].fks[c].cols.length = n9 := se.1
                        rw [eC] at t5
                        clear eC
                        have HSE := Lib.hid se
                        clear se
                        go_wp2_with fail
                        refine (implKeyOf A9 AV ts[i].fks[c].cols.length c9 ds[i].rows[k].vals.length cV ts[i].fks[c].cols ds[i].rows[k].vals _ _ _ HSE.out (HV.out.below VlR.stays hbc) hfc hvn).mono ?_
                        rintro e u9 ⟨AK, cK, rfl, -, hky, hq9⟩
                        have hb9 := hbc.trans (hq9.mono hbc.size)
                        have x0 := below_keep hq9 _ _ (hx9.cell 0 _ rfl)
                        have y0 := below_keep hq9 _ _ y0
                        have y1 := below_keep hq9 _ _ y1
                        have t5 := below_keep hq9 _ _ t5
                        obtain ⟨fl, hfl⟩ : ∃ b, keyFl ts[i].fks[c].cols ds[i].rows[k].vals = b := ⟨_, rfl⟩
                        rw [hfl]
                        have HFL := Lib.hid hfl
                        have HKY := Lib.hid hky
                        clear hfl hky
                        go_wp2_with fail
                        refine (implTableAt (some ⟨bt, ot, none⟩) ts.length c1 ts ts[i].fks[c].table _ _ (HS.out.below TbR.stays (hb4.trans (hb9.mono hb4.size))) HZ.out.1 (by have h1 := sum_mem_le Fk.sz ts[i].fks c hct; have h2 := SZ.out.2.2; unfold szL at h2; have h3 : ts[i].fks[c].table.size ≤ ts[i].fks[c].sz := (by unfold Fk.sz; omega); unfold maxLen; omega)).mono ?_
                        rintro e u10 ⟨rfl, hq10⟩
                        rw [HM.out]
                        have hb10 := hb9.trans (hq10.mono hb9.size)
                        have x0 := below_keep hq10 _ _ x0
                        have HKY := Lib.hid (HKY.out.below VlR.stays hq10)
                        obtain ⟨bm, om, -, -, -, K2, k2, e2, -, -, -, -, -, -, -, -, -, -, eM, -, -, z2, -, -, -, -, sk, -⟩ := TbR.at_ (HS.out.below TbR.stays (hb4.trans (hb10.mono hb4.size))) hml
                        cases eM
                        obtain rfl : ts[m].key.length = k2 := sk.1
                        have HSK := Lib.hid sk
                        clear sk
                        have l3 : (0 : Int) ≤ m := by omega
                        have l4 : (m : Int) < ts.length := by omega
                        have hmk := (HCO.out m hml).2
                        cases th
                        case true =>
                          go_wp2_with fail
                          go_roundw
                          case rel => exact ⟨c + 1, by omega, by go_num, by rw [HNX.out, HTH.out]; rfl, hb10⟩
                          case measure => simp [intOf]; omega
                        by_cases hk4 : x.k = 4
                        case neg =>
                          have k1 : (x.k == 4) = false := by simpa using hk4
                          clear hk4
                          have K1 := Lib.hid k1
                          go_wp2_with fail
                          go_roundw
                          case rel => exact ⟨c + 1, by omega, by go_num, by rw [HNX.out, HTH.out, K1.out]; rfl, hb10⟩
                          case measure => simp [intOf]; omega
                        have k1 : (x.k == 4) = true := by simpa using hk4
                        clear hk4
                        have K1 := Lib.hid k1
                        cases fl
                        case false =>
                          go_wp2_with fail
                          go_roundw
                          case rel => exact ⟨c + 1, by omega, by go_num, by rw [HNX.out, HTH.out, K1.out, HFL.out]; rfl, hb10⟩
                          case measure => simp [intOf]; omega
                        go_wp2_with fail
                        refine (implFindRows (some ⟨bt, ot, none⟩) (some ⟨bd, od, none⟩) K2 AK ts.length c1 ds.length c2 ts[m].key.length e2 (keyOf ts[i].fks[c].cols ds[i].rows[k].vals).length cK ts ds m ts[m].key (keyOf ts[i].fks[c].cols ds[i].rows[k].vals) _ _ _ _ _ (HS.out.below TbR.stays (hb4.trans (hb10.mono hb4.size))) (HD.out.below DtR.stays (hb4.trans (hb10.mono hb4.size))) HSK.out HKY.out HZ.out.1 HZ.out.2 (by omega) (keyOf_few hfc)).mono ?_
                        rintro e u11 ⟨A8, c8, rfl, -, -, hq11⟩
                        have hb11 := hb10.trans (hq11.mono hb10.size)
                        obtain ⟨N, hN⟩ : ∃ n, (findB ts ds (m : Int) ts[m].key (keyOf ts[i].fks[c].cols ds[i].rows[k].vals)).length = n := ⟨_, rfl⟩
                        have HNN := Lib.hid hN
                        rw [hN]
                        clear hN
                        skip
                        by_cases hN0 : (N : Int) = 0
                        · have k9 : ((N : Int) == 0) = true := by simpa using hN0
                          clear hN0
                          have K9 := Lib.hid k9
                          go_wp2_with fail
                          go_roundw
                          case rel => exact ⟨c + 1, by omega, by go_num, by rw [HNX.out, HTH.out, K1.out, HFL.out, HNN.out, K9.out]; rfl, hb11⟩
                          case measure => simp [intOf]; omega
                        · have k9 : ((N : Int) == 0) = false := by simpa using hN0
                          clear hN0
                          have K9 := Lib.hid k9
                          go_wp2_with fail
                          go_roundw
                          case rel => exact ⟨c + 1, by omega, by go_num, by rw [HNX.out, HTH.out, K1.out, HFL.out, HNN.out, K9.out]; rfl, hb11⟩
                          case measure => simp [intOf]; omega
                  have l0 : (0 : Int) ≤ c := by omega
                  have l1 : (c : Int) < al.length := by omega
                  have HNX := Lib.hid (show (q2 || (al.take (c + 1)).any (f3 x ts ds i ds[i].rows[k].vals)) = ((q2 || (al.take c).any (f3 x ts ds i ds[i].rows[k].vals)) || (x.k == 3 && (keyFl al[c].cols ds[i].rows[k].vals && decide (1 < (findB ts ds (i : Int) al[c].cols (keyOf al[c].cols ds[i].rows[k].vals)).length)))) from by rw [any_take _ hct, Bool.or_assoc]; rfl)
                  obtain ⟨th, hth⟩ : ∃ b, (q2 || (al.take c).any (f3 x ts ds i ds[i].rows[k].vals)) = b := ⟨_, rfl⟩
                  rw [hth]
                  have HTH := Lib.hid hth
                  clear hth
                  obtain ⟨bc, oc, A9, n9, c9, -, eC, y0, se, -⟩ := UqR.at_ (HU.out.below UqR.stays hbc) hct
                  obtain rfl : al[c].cols.length = n9 := se.1
                  cases eC
                  rw [Nat.zero_add] at y0
                  have hcn := HAL.out.2 _ (List.getElem_mem hct)
                  have HSE := Lib.hid se
                  clear se
                  go_wp2_with fail
                  refine (implKeyOf A9 AV al[c].cols.length c9 ds[i].rows[k].vals.length cV al[c].cols ds[i].rows[k].vals _ _ _ HSE.out (HV.out.below VlR.stays hbc) hcn hvn).mono ?_
                  rintro e u9 ⟨AK, cK, rfl, -, hky, hq9⟩
                  have hb9 := hbc.trans (hq9.mono hbc.size)
                  have x0 := below_keep hq9 _ _ (hx9.cell 0 _ rfl)
                  have x1 := below_keep hq9 _ _ (hx9.cell 1 _ rfl)
                  have y0 := below_keep hq9 _ _ y0
                  obtain ⟨fl, hfl⟩ : ∃ b, keyFl al[c].cols ds[i].rows[k].vals = b := ⟨_, rfl⟩
                  rw [hfl]
                  have HFL := Lib.hid hfl
                  have HKY := Lib.hid hky
                  have HSE := Lib.hid (HSE.out.below IntR.stays hq9)
                  clear hfl hky
                  have hc0 := hb9.drew
                  go_wp2_with fail
                  cases th
                  case true =>
                    refine wp_region_noPanic ?_
                    refine wp_region_held_drew (S := (fun w' => w'.cell? ⟨gx, 0, none⟩ = some (.int .i64 x.k) ∧ w'.cell? ⟨gx, 1, none⟩ = some (.int .i64 i) ∧ w'.cell? ⟨gu, c, none⟩ = some (.slice A9 al[c].cols.length c9))) (by kernel_rfl) ⟨x0, x1, y0⟩ (fun hHeld => ?_)
                    refine tk 0 ?_
                    refine tk 1 ?_
                    refine tu 2 ?_
                    refine tu 3 ?_
                    refine tu 4 ?_
                    refine tu 5 ?_
                    refine tu 6 ?_
                    refine tu 7 ?_
                    refine tu 8 ?_
                    refine tu 9 ?_
                    refine tu 10 ?_
                    refine tu 11 ?_
                    refine tu 12 ?_
                    refine tu 13 ?_
                    refine tu 14 ?_
                    refine tu 15 ?_
                    refine tu 16 ?_
                    refine tu 17 ?_
                    refine tu 18 ?_
                    refine tu 19 ?_
                    refine tu 20 ?_
                    refine tu 21 ?_
                    refine tu 22 ?_
                    refine tk 23 ?_
                    refine tk 24 ?_
                    refine wpAnyH_done (by kernel_rfl) ?_ _
                    refine NoPanic.normal ?_
                    clear hHeld
                    go_wp2_with fail
                    go_roundw
                    case rel => exact ⟨c + 1, by omega, by go_num, by rw [HNX.out, HTH.out]; rfl, hc0⟩
                    case measure => simp [intOf]; omega
                  by_cases hk3 : x.k = 3
                  case neg =>
                    have k1 : (x.k == 3) = false := by simpa using hk3
                    clear hk3
                    have K1 := Lib.hid k1
                    refine wp_region_noPanic ?_
                    refine wp_region_held_drew (S := (fun w' => w'.cell? ⟨gx, 0, none⟩ = some (.int .i64 x.k) ∧ w'.cell? ⟨gx, 1, none⟩ = some (.int .i64 i) ∧ w'.cell? ⟨gu, c, none⟩ = some (.slice A9 al[c].cols.length c9))) (by kernel_rfl) ⟨x0, x1, y0⟩ (fun hHeld => ?_)
                    refine tk 0 ?_
                    refine tk 1 ?_
                    refine tk 2 ?_
                    refine tk 3 ?_
                    refine tk 4 ?_
                    refine tk 5 ?_
                    refine tu 6 ?_
                    refine tk 7 ?_
                    refine tk 8 ?_
                    refine tu 9 ?_
                    refine tu 10 ?_
                    refine tu 11 ?_
                    refine tu 12 ?_
                    refine tu 13 ?_
                    refine tu 14 ?_
                    refine tu 15 ?_
                    refine tu 16 ?_
                    refine tu 17 ?_
                    refine tu 18 ?_
                    refine tu 19 ?_
                    refine tu 20 ?_
                    refine tu 21 ?_
                    refine tk 22 ?_
                    refine tk 23 ?_
                    refine tk 24 ?_
                    refine wpAnyH_done (by kernel_rfl) ?_ _
                    refine NoPanic.normal ?_
                    clear hHeld
                    go_wp2_with fail
                    go_roundw
                    case rel => exact ⟨c + 1, by omega, by go_num, by rw [HNX.out, HTH.out, K1.out]; rfl, hc0⟩
                    case measure => simp [intOf]; omega
                  have k1 : (x.k == 3) = true := by simpa using hk3
                  clear hk3
                  have K1 := Lib.hid k1
                  cases fl
                  case false =>
                    refine wp_region_noPanic ?_
                    refine wp_region_held_drew (S := (fun w' => w'.cell? ⟨gx, 0, none⟩ = some (.int .i64 x.k) ∧ w'.cell? ⟨gx, 1, none⟩ = some (.int .i64 i) ∧ w'.cell? ⟨gu, c, none⟩ = some (.slice A9 al[c].cols.length c9))) (by kernel_rfl) ⟨x0, x1, y0⟩ (fun hHeld => ?_)
                    refine tk 0 ?_
                    refine tk 1 ?_
                    refine tk 2 ?_
                    refine tk 3 ?_
                    refine tk 4 ?_
                    refine tk 5 ?_
                    refine tk 6 ?_
                    refine tk 7 ?_
                    refine tk 8 ?_
                    refine tu 9 ?_
                    refine tu 10 ?_
                    refine tu 11 ?_
                    refine tu 12 ?_
                    refine tu 13 ?_
                    refine tu 14 ?_
                    refine tu 15 ?_
                    refine tu 16 ?_
                    refine tu 17 ?_
                    refine tu 18 ?_
                    refine tu 19 ?_
                    refine tu 20 ?_
                    refine tu 21 ?_
                    refine tk 22 ?_
                    refine tk 23 ?_
                    refine tk 24 ?_
                    refine wpAnyH_done (by kernel_rfl) ?_ _
                    refine NoPanic.normal ?_
                    clear hHeld
                    go_wp2_with fail
                    go_roundw
                    case rel => exact ⟨c + 1, by omega, by go_num, by rw [HNX.out, HTH.out, K1.out, HFL.out]; rfl, hc0⟩
                    case measure => simp [intOf]; omega
                  refine wp_region_noPanic ?_
                  refine wp_region_held_drew (S := (fun w' => w'.cell? ⟨gx, 0, none⟩ = some (.int .i64 x.k) ∧ w'.cell? ⟨gx, 1, none⟩ = some (.int .i64 i) ∧ w'.cell? ⟨gu, c, none⟩ = some (.slice A9 al[c].cols.length c9))) (by kernel_rfl) ⟨x0, x1, y0⟩ (fun hHeld => ?_)
                  refine tk 0 ?_
                  refine tk 1 ?_
                  refine tk 2 ?_
                  refine tk 3 ?_
                  refine tk 4 ?_
                  refine tk 5 ?_
                  refine tk 6 ?_
                  refine tk 7 ?_
                  refine tk 8 ?_
                  refine tk 9 ?_
                  refine tk 10 ?_
                  refine tk 11 ?_
                  refine tk 12 ?_
                  refine tk 13 ?_
                  refine tk 14 ?_
                  refine tk 15 ?_
                  refine tk 16 ?_
                  refine tk 17 ?_
                  refine tk 18 ?_
                  refine wpAnyH_ready (rs := [19]) (by kernel_rfl) (by simp) ?_
                  refine AllReadyH.cons rfl (fun K hK => ?_) AllReadyH.nil
                  go_simp
                  go_at_call 12
                  refine (implFindRows (some ⟨bt, ot, none⟩) (some ⟨bd, od, none⟩) A9 AK ts.length c1 ds.length c2 al[c].cols.length c9 (keyOf al[c].cols ds[i].rows[k].vals).length cK ts ds i al[c].cols (keyOf al[c].cols ds[i].rows[k].vals) _ _ _ _ _ (HS.out.below TbR.stays (hb4.trans (hc0.mono hb4.size))) (HD.out.below DtR.stays (hb4.trans (hc0.mono hb4.size))) (HSE.out.stays IntR.stays (fun _ h => h) fun _ _ _ h => h) (HKY.out.stays VlR.stays (fun _ h => h) fun _ _ _ h => h) HZ.out.1 HZ.out.2 hcn (keyOf_few hcn)).mono ?_
                  rintro e u11 ⟨A8, c8, rfl, -, -, hq8⟩
                  have hc1 := hc0.trans (hq8.mono hc0.size)
                  obtain ⟨N, hN⟩ : ∃ n, (findB ts ds (i : Int) al[c].cols (keyOf al[c].cols ds[i].rows[k].vals)).length = n := ⟨_, rfl⟩
                  have HNN := Lib.hid hN
                  rw [hN]
                  clear hN
                  refine hK.out _ _ ⟨below_keep (show Below u9.heap.size u9 u11 from (Below.refl u9.heap.size u9).drew.trans hq8) _ _ x0, below_keep (show Below u9.heap.size u9 u11 from (Below.refl u9.heap.size u9).drew.trans hq8) _ _ x1, below_keep (show Below u9.heap.size u9 u11 from (Below.refl u9.heap.size u9).drew.trans hq8) _ _ y0⟩ (fun hHeld => ?_)
                  clear hK K
                  (try simp only [Act.put, List.getElem_toArray, List.getElem_cons_zero, List.getElem_cons_succ, List.setIfInBounds_toArray, List.set_cons_zero, List.set_cons_succ])
                  refine tk 20 ?_
                  refine tk 21 ?_
                  refine tk 22 ?_
                  refine tk 23 ?_
                  refine tk 24 ?_
                  refine wpAnyH_done (by kernel_rfl) ?_ _
                  refine NoPanic.normal ?_
                  clear hHeld
                  go_wp2_with fail
                  go_roundw
                  case rel => exact ⟨c + 1, by omega, by go_num, by rw [HNX.out, HTH.out, K1.out, HFL.out, HNN.out]; simp; omega, hc1⟩
                  case measure => simp [intOf]; omega
            have l0 : (0 : Int) ≤ c := by omega
            have l1 : (c : Int) < ts[i].checks.length := by omega
            have HNX := Lib.hid (show (q1 || (ts[i].checks.take (c + 1)).any (f2 x ds[i].rows[k].vals)) = ((q1 || (ts[i].checks.take c).any (f2 x ds[i].rows[k].vals)) || (x.k == 2 && (decide (truthB ts[i].checks[c].expr ds[i].rows[k].vals < 0) || truthB ts[i].checks[c].expr ds[i].rows[k].vals == 0))) from by rw [any_take _ hct, Bool.or_assoc]; rfl)
            obtain ⟨th, hth⟩ : ∃ b, (q1 || (ts[i].checks.take c).any (f2 x ds[i].rows[k].vals)) = b := ⟨_, rfl⟩
            rw [hth]
            have HTH := Lib.hid hth
            clear hth
            obtain ⟨bc, oc, A9, n9, c9, -, eC, y0, se, -⟩ := CkR.at_ (SS.out.2.2.2.1.below CkR.stays hbc) hct
            obtain rfl : ts[i].checks[c].expr.length = n9 := se.1
            rw [eC] at t4
            clear eC
            have hen : ts[i].checks[c].expr.length ≤ 1048576 := by have h1 := sum_mem_le Ck.sz ts[i].checks c hct; have h2 := SZ.out.1; unfold szL at h2; have h3 : ts[i].checks[c].expr.length ≤ ts[i].checks[c].sz := (by unfold Ck.sz szL; omega); omega
            go_wp2_with fail
            refine (implTruth A9 AV ts[i].checks[c].expr.length ds[i].rows[k].vals.length c9 cV ts[i].checks[c].expr ds[i].rows[k].vals _ (Sl.cellz (fun _ => rfl) se) (Sl.cellz (fun _ => rfl) (HV.out.below VlR.stays hbc)) (by unfold maxLen; omega) (by unfold maxLen; omega)).mono ?_
            rintro e u9 ⟨rfl, hq9⟩
            have hb9 := hbc.trans (hq9.mono hbc.size)
            have x0 := below_keep hq9 _ _ (hx9.cell 0 _ rfl)
            obtain ⟨tr, htr⟩ : ∃ t, truthB ts[i].checks[c].expr ds[i].rows[k].vals = t := ⟨_, rfl⟩
            rw [htr]
            have HTR := Lib.hid htr
            clear htr
            cases th
            case true =>
              go_wp2_with fail
              go_roundw
              case rel => exact ⟨c + 1, by omega, by go_num, by rw [HNX.out, HTH.out]; rfl, hb9⟩
              case measure => simp [intOf]; omega
            by_cases hk2 : x.k = 2
            case neg =>
              have k1 : (x.k == 2) = false := by simpa using hk2
              clear hk2
              have K1 := Lib.hid k1
              go_wp2_with fail
              go_roundw
              case rel => exact ⟨c + 1, by omega, by go_num, by rw [HNX.out, HTH.out, K1.out]; rfl, hb9⟩
              case measure => simp [intOf]; omega
            have k1 : (x.k == 2) = true := by simpa using hk2
            clear hk2
            have K1 := Lib.hid k1
            by_cases htn : tr < 0
            · have k2 : decide (tr < 0) = true := by simpa using htn
              clear htn
              have K2 := Lib.hid k2
              go_wp2_with fail
              go_roundw
              case rel => exact ⟨c + 1, by omega, by go_num, by rw [HNX.out, HTH.out, K1.out, HTR.out, K2.out]; rfl, hb9⟩
              case measure => simp [intOf]; omega
            · have k2 : decide (tr < 0) = false := by simpa using htn
              clear htn
              have K2 := Lib.hid k2
              by_cases htz9 : tr = 0
              · have k9 : (tr == 0) = true := by simpa using htz9
                clear htz9
                have K9 := Lib.hid k9
                go_wp2_with fail
                go_roundw
                case rel => exact ⟨c + 1, by omega, by go_num, by rw [HNX.out, HTH.out, K1.out, HTR.out, K2.out, K9.out]; rfl, hb9⟩
                case measure => simp [intOf]; omega
              · have k9 : (tr == 0) = false := by simpa using htz9
                clear htz9
                have K9 := Lib.hid k9
                go_wp2_with fail
                go_roundw
                case rel => exact ⟨c + 1, by omega, by go_num, by rw [HNX.out, HTH.out, K1.out, HTR.out, K2.out, K9.out]; rfl, hb9⟩
                case measure => simp [intOf]; omega
      have l0 : (0 : Int) ≤ c := by omega
      have l1 : (c : Int) < ts[i].cols.length := by omega
      have hcv : c < ds[i].rows[k].vals.length := by have := HR1.out; omega
      have l2 : (c : Int) < ds[i].rows[k].vals.length := by omega
      have HNX := Lib.hid (show ((ts[i].cols.zip ds[i].rows[k].vals).take (c + 1)).any (f1 x) = (((ts[i].cols.zip ds[i].rows[k].vals).take c).any (f1 x) || (x.k == 1 && (ts[i].cols[c].nn && ds[i].rows[k].vals[c].k == 0))) from by rw [any_take _ (by rw [List.length_zip]; omega), List.getElem_zip]; rfl)
      obtain ⟨th, hth⟩ : ∃ b, ((ts[i].cols.zip ds[i].rows[k].vals).take c).any (f1 x) = b := ⟨_, rfl⟩
      rw [hth]
      have HTH := Lib.hid hth
      clear hth
      cases th
      case true =>
        go_wp2_with fail
        go_roundw
        case rel => exact ⟨c + 1, by omega, by go_num, by rw [HNX.out, HTH.out]; rfl, hbc⟩
        case measure => simp [intOf]; omega
      obtain ⟨bc, oc, -, eC, -, -, y2, -⟩ := ClR.at_ (SS.out.1.below ClR.stays hbc) hct
      obtain ⟨bv, ov, -, eV, v0, -, -⟩ := VlR.at_ (HV.out.below VlR.stays hbc) hcv
      skip
      have x0 := hx9.cell 0 _ rfl
      obtain ⟨nn, hnn⟩ : ∃ b, ts[i].cols[c].nn = b := ⟨_, rfl⟩
      rw [hnn] at y2
      have HNN := Lib.hid hnn
      clear hnn
      rw [eC] at t1
      clear eC
      subst eV
      by_cases hk1 : x.k = 1
      case neg =>
        have k1 : (x.k == 1) = false := by simpa using hk1
        clear hk1
        have K1 := Lib.hid k1
        go_wp2_with fail
        go_roundw
        case rel => exact ⟨c + 1, by omega, by go_num, by rw [HNX.out, HTH.out, K1.out]; rfl, hbc⟩
        case measure => simp [intOf]; omega
      have k1 : (x.k == 1) = true := by simpa using hk1
      clear hk1
      have K1 := Lib.hid k1
      cases nn
      · go_wp2_with fail
        go_roundw
        case rel => exact ⟨c + 1, by omega, by go_num, by rw [HNX.out, HTH.out, K1.out, HNN.out]; rfl, hbc⟩
        case measure => simp [intOf]; omega
      · obtain ⟨vk, hvk⟩ : ∃ n, ds[i].rows[k].vals[c].k = n := ⟨_, rfl⟩
        rw [hvk] at v0
        have HVK := Lib.hid hvk
        clear hvk
        by_cases hv9 : vk = 0
        · have k9 : (vk == 0) = true := by simpa using hv9
          clear hv9
          have K9 := Lib.hid k9
          go_wp2_with fail
          go_roundw
          case rel => exact ⟨c + 1, by omega, by go_num, by rw [HNX.out, HTH.out, K1.out, HNN.out, HVK.out, K9.out]; rfl, hbc⟩
          case measure => simp [intOf]; omega
        · have k9 : (vk == 0) = false := by simpa using hv9
          clear hv9
          have K9 := Lib.hid k9
          go_wp2_with fail
          go_roundw
          case rel => exact ⟨c + 1, by omega, by go_num, by rw [HNX.out, HTH.out, K1.out, HNN.out, HVK.out, K9.out]; rfl, hbc⟩
          case measure => simp [intOf]; omega

set_option maxRecDepth 100000 in
theorem lifted (os : Os) (started : os.Started) (H : Type) (enc : TypeId × Value → H) :
    ReturnsInHanded {} Tryz.checked os 5 .any (Rows.fnFlawsSpec.pre6 enc Tryz.prog Tryz.f5 Rows.fnFlawsRow.domain false) (Rows.fnFlawsSpec.post enc Tryz.prog Tryz.f5 false true false false) := by
  refine returnsInHanded_of_change (C := Tryz.checked) own started (by kernel_rfl) Tryz.func5
    (ChangeSpec.witness6 (enc := enc) (C := Tryz.checked) false ⟨#[], #[.slice none 0 0], []⟩ 8 (by kernel_rfl) (by kernel_rfl) (by kernel_rfl) (by kernel_rfl)) ?_
  intro W base args ds gs before hval0 hW hcnd _
  have hval : ∀ (j : Nat) t v, Tryz.f5.params[j]? = some t → args[j]? = some v → Value.okWide Tryz.prog W .any base t v := hval0
  have hW' := hW
  obtain ⟨p, q, hA0, hV, rfl, hfz, hnd⟩ := hW
  have hA : DataW.TrodAll enc Tryz.prog W 0 (fun _ => true) true Tryz.f5.params.toList args.toList ds p := hA0
  rw [Tryz.params5] at hA hval
  obtain ⟨v0, vs0, d0, ds0, p0, q0, hargs, rfl, rfl, h0, r0⟩ := trodAll_cons hA
  obtain ⟨rfl, rfl, rfl⟩ := trodAll_nil r0
  obtain rfl : args = #[v0] := by cases args; simp_all
  obtain ⟨rfl, rfl⟩ := trodVars_none hV
  have k0' := h0
  have lt0 : ∀ x ∈ p0, x.block < W.heap.size := by obtain ⟨m, hm⟩ := k0'; exact DataW.trod_lt m _ _ _ hm
  obtain ⟨a0, len0, cap0, rfl⟩ := okWide_slice Tryz.underlying22 (hval 0 22 v0 rfl rfl)
  obtain ⟨z0, w0⟩ := isRow_of_trod Tryz.underlying22 Tryz.underlying5 (by kernel_rfl) h0
  clear hA0 hval0
  refine (walk a0 len0 cap0 z0 W w0).mono fun e W' ⟨he, bel⟩ => ?_
  subst he
  exact ⟨_, rfl, _, _, _, [], _, [], hW', trodAll_mk1 (shut_bool Tryz.underlying4 _), (trodAll_cons_mk (Below.trod laidOut (by kernel_rfl) (of_decide_eq_true (by kernel_rfl)) k0' bel lt0) trodAll_mk0), rfl, bel.frame _, fun h => by cases h⟩

set_option maxRecDepth 100000 in
set_option maxHeartbeats 16000000 in
theorem facts : joinedFacts Tryz.checked.prog 5 Tryz.f5 Rows.fnFlawsSpec Rows.fnFlawsRow = true := by
  unfold joinedFacts
  repeat' (with_reducible refine Bool.and_eq_true_iff.2 ⟨?_, ?_⟩)
  all_goals (as_aux_lemma => kernel_rfl)

theorem over : Rows.fnFlawsRow.holds Tryz.pinned (OpenSpec.ofChange Rows.fnFlawsSpec) :=
  OpenClaim.holds_of_wide 5 Tryz.f5 rfl rfl rfl rfl rfl rfl rfl ⟨rfl, rfl, rfl, rfl, rfl⟩ rfl rfl rfl rfl rfl (by kernel_rfl) Tryz.func5 facts
    (of_decide_eq_true (by as_aux_lemma => kernel_rfl)) (by unfold Func.isWrapper; first | (rw [if_pos (by decide +kernel)]; kernel_rfl) | (rw [if_neg (by decide +kernel)]; exact ⟨rfl, rfl⟩))
    (fun os started H enc _ => lifted os started H enc)

theorem proved : Rows.FnFlawsSaid := over
#print axioms proved
end Go.Proofs.YtjhhamlnlalkoaaGreat.fnFlaws
