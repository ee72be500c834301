/-
  An index has each row once, with its values, in order (law FnIndex, for every code).
-/
import Derived.Test.YtciaidjmehelpaaGreatMa
import Derived.Test.YtciaidjmehelpaaGreatMb
import Derived.Test.YtciaidjmehelpaaGreatMc
import Derived.Test.YtciaidjmehelpaaGreatMd
import Derived.Test.YtciaidjmehelpaaGreatMe
import Derived.Test.YtciaidjmehelpaaGreatRa
import Derived.Test.YtciaidjmehelpaaGreatRb
import Derived.Test.YtciaidjmehelpaaGreatRc
import Derived.Test.YtciaidjmehelpaaGreatRd
import Derived.Test.YtciaidjmehelpaaGreatQa
import Derived.Test.YtciaidjmehelpaaGreatQb
import Derived.Test.YtciaidjmehelpaaGreatQc
namespace Go.Proofs.YtciaidjmehelpaaGreat.fnIndex
open Go.ChangeShapes Go.WideShapes Go.ChangeAt Go.RowKit Go.Joins
open Go.ChangeMaps (open_string shut_string)
set_option linter.unusedSimpArgs false
set_option linter.unusedVariables false

set_option maxRecDepth 100000 in
set_option maxHeartbeats 8000000 in
theorem walk (a0 : Option Addr) (len0 cap0 : Nat) (z0 : List Int) (w : World) (w0 : IsRow .u8 w a0 len0 cap0 z0) :
    Calls Tryz.prog 8 #[.slice a0 len0 cap0] w fun e w' => e = .returned (.bool true) ∧ Below w.heap.size w w' := by
  by_cases hbig : (1048576 : Int) < len0
  · have hbg : decide ((1048576 : Int) < len0) = true := by simpa using hbig
    go_enter Tryz.func8, Tryz.ntmps8
    go_wp2_with fail
    refine (lawsBig a0 len0 cap0 w).mono ?_
    rintro e w' ⟨rfl, rfl⟩
    go_wp2
    go_ret
    exact ⟨rfl, Below.refl _ _⟩
  have hbg : decide ((1048576 : Int) < len0) = false := by simpa using hbig
  obtain ⟨ti0, hi', hz0, hz1, hz2⟩ := info_parts infoIntI
  have H1 := Lib.hid hi'
  have H2 := Lib.hid hz0
  have H3 := Lib.hid hz1
  have H4 := Lib.hid hz2
  clear hi' hz0 hz1 hz2
  go_enter Tryz.func8, Tryz.ntmps8
  go_wp2_with fail
  refine (lawsBig a0 len0 cap0 w).mono ?_
  rintro e w' ⟨rfl, rfl⟩
  go_wp2_with fail
  refine (drawIndexOf a0 len0 cap0 z0 _ w0).mono ?_
  rintro e w1 ⟨v1, rfl, ⟨ok, A1, c1, ts, A2, c2, ds, t, A3, c3, cols, rfl, hc1, hS, hD, hC, hc3, hsk, hbk, hdl, hcols⟩, hz⟩
  have HS := Lib.hid hS
  have HD := Lib.hid hD
  have HC := Lib.hid hC
  have hss : szL Tb.sz ts ≤ 1048576 := by have := hsk.sz; omega
  have hds : szL Dt.sz ds ≤ 1048576 := by have := hbk.sz hsk (by omega) hdl; omega
  have hcl : cols.length ≤ 2 := by rcases hcols with rfl | ⟨y, rfl⟩ <;> simp
  have HSS := Lib.hid hss
  have HDS := Lib.hid hds
  clear hS hD hC hsk hbk hdl hcols hss hds
  go_wp2_with fail
  refine (implIndexOf A1 A2 A3 ts.length c1 ds.length c2 cols.length c3 t ts ds cols _ _ _ _ HS.out HD.out HC.out HSS.out HDS.out (by omega)).mono ?_
  rintro e w2 ⟨v2, rfl, ho, hq⟩
  obtain ⟨AE, cE, rfl, -, -, hsl⟩ := ho.sl
  clear ho
  obtain ⟨es, hes⟩ : ∃ es, ixL ts ds t cols = es := ⟨_, rfl⟩
  obtain ⟨ob, hob⟩ : ∃ b, ixOk ts ds t cols = b := ⟨_, rfl⟩
  have hkl := ixL_few ts ds t cols
  have hez := ixL_sz ts ds t cols
  rw [hes] at hsl hkl hez ⊢
  rw [hob]
  have HES := Lib.hid (And.intro hes hob)
  have hle : es.length ≤ 60 := hkl.1
  have HK1 := Lib.hid hkl.2
  have HEZ := Lib.hid hez
  clear hes hob hkl hez
  have HS := Lib.hid (HS.out.below TbR.stays hq)
  have HD := Lib.hid (HD.out.below DtR.stays hq)
  have HC := Lib.hid (HC.out.below IntR.stays hq)
  have hz := hz.trans (hq.mono hz.size)
  clear hq
  have HE := Lib.hid hsl
  clear hsl
  go_wp2_with fail
  refine (specIndexOf A1 A2 A3 ts.length c1 ds.length c2 cols.length c3 t ts ds cols _ _ _ _ HS.out HD.out HC.out hc1 hc3 HSS.out HDS.out (by omega)).mono ?_
  rintro e w3 ⟨v3, rfl, ho, hq⟩
  obtain ⟨AF, cF, rfl, -, -, hsl⟩ := ho.sl
  clear ho
  rw [HES.out.1] at hsl ⊢
  rw [HES.out.2]
  have HS := Lib.hid (HS.out.below TbR.stays hq)
  have HD := Lib.hid (HD.out.below DtR.stays hq)
  have HC := Lib.hid (HC.out.below IntR.stays hq)
  have HE := Lib.hid (HE.out.below EnR.stays hq)
  have hz := hz.trans (hq.mono hz.size)
  clear hq
  have HE2 := Lib.hid hsl
  clear hsl
  go_wp2_with fail
  refine (drawIndexOk a0 len0 cap0 z0 _ (w0.below hz)).mono ?_
  rintro e w4 ⟨v4, rfl, ⟨ok2, B1, d1, ts2, B2, d2, ds2, t2, B3, d3, cols2, B4, n4, d4, l2, rfl, hd1, hS, hD, hC, hd3, hL, hsk, hbk, hdl, hcols, hlz⟩, hq⟩
  have HS := Lib.hid (HS.out.below TbR.stays hq)
  have HD := Lib.hid (HD.out.below DtR.stays hq)
  have HC := Lib.hid (HC.out.below IntR.stays hq)
  have HE := Lib.hid (HE.out.below EnR.stays hq)
  have HE2 := Lib.hid (HE2.out.below EnR.stays hq)
  have hz := hz.trans (hq.mono hz.size)
  clear hq
  have HT := Lib.hid hS
  have HU := Lib.hid hD
  have HV := Lib.hid hC
  have HW := Lib.hid hL
  have hss : szL Tb.sz ts2 ≤ 1048576 := by have := hsk.sz; omega
  have hds : szL Dt.sz ds2 ≤ 1048576 := by have := hbk.sz hsk (by omega) hdl; omega
  have hcl2 : cols2.length ≤ 2 := by rcases hcols with rfl | ⟨y, rfl⟩ <;> simp
  have HSS2 := Lib.hid (And.intro hss (And.intro hds hlz))
  clear hS hD hC hL hsk hbk hdl hcols hss hds hlz
  obtain ⟨kb, hkb⟩ : ∃ b, idxOkB ts2 ds2 t2 cols2 l2 = b := ⟨_, rfl⟩
  have HKB := Lib.hid hkb
  clear hkb
  have e1 : (ob == ob) = true := by simp
  have e3 : (ob != ob) = false := by simp
  have e4 : (kb == kb) = true := by simp
  have e5 : (kb != kb) = false := by simp
  go_wp2_with fail
  refine (lawsSameEntries AE AF es.length cE cF es _ _ _ HE.out HE2.out (by omega) HK1.out).mono ?_
  rintro e w5 ⟨rfl, hq⟩
  have HS := Lib.hid (HS.out.below TbR.stays hq)
  have HD := Lib.hid (HD.out.below DtR.stays hq)
  have HC := Lib.hid (HC.out.below IntR.stays hq)
  have HE := Lib.hid (HE.out.below EnR.stays hq)
  have HE2 := Lib.hid (HE2.out.below EnR.stays hq)
  have HT := Lib.hid (HT.out.below TbR.stays hq)
  have HU := Lib.hid (HU.out.below DtR.stays hq)
  have HV := Lib.hid (HV.out.below IntR.stays hq)
  have HW := Lib.hid (HW.out.below EnR.stays hq)
  have hz := hz.trans (hq.mono hz.size)
  clear hq
  go_wp2_with fail
  refine (implIndexOk B1 B2 B3 B4 ts2.length d1 ds2.length d2 cols2.length d3 n4 d4 t2 ts2 ds2 cols2 l2 _ _ _ _ _ HT.out HU.out HV.out HW.out HSS2.out.1 HSS2.out.2.1 (by omega) HSS2.out.2.2).mono ?_
  rintro e w6 ⟨rfl, hq⟩
  rw [HKB.out]
  have HS := Lib.hid (HS.out.below TbR.stays hq)
  have HD := Lib.hid (HD.out.below DtR.stays hq)
  have HC := Lib.hid (HC.out.below IntR.stays hq)
  have HE := Lib.hid (HE.out.below EnR.stays hq)
  have HE2 := Lib.hid (HE2.out.below EnR.stays hq)
  have HT := Lib.hid (HT.out.below TbR.stays hq)
  have HU := Lib.hid (HU.out.below DtR.stays hq)
  have HV := Lib.hid (HV.out.below IntR.stays hq)
  have HW := Lib.hid (HW.out.below EnR.stays hq)
  have hz := hz.trans (hq.mono hz.size)
  clear hq
  go_wp2_with fail
  refine (specIndexOk B1 B2 B3 B4 ts2.length d1 ds2.length d2 cols2.length d3 n4 d4 t2 ts2 ds2 cols2 l2 _ _ _ _ _ HT.out HU.out HV.out HW.out hd1 hd3 HSS2.out.1 HSS2.out.2.1 (by omega) HSS2.out.2.2).mono ?_
  rintro e w7 ⟨rfl, hq⟩
  rw [HKB.out]
  have HS := Lib.hid (HS.out.below TbR.stays hq)
  have HD := Lib.hid (HD.out.below DtR.stays hq)
  have HC := Lib.hid (HC.out.below IntR.stays hq)
  have HE := Lib.hid (HE.out.below EnR.stays hq)
  have HE2 := Lib.hid (HE2.out.below EnR.stays hq)
  have HT := Lib.hid (HT.out.below TbR.stays hq)
  have HU := Lib.hid (HU.out.below DtR.stays hq)
  have HV := Lib.hid (HV.out.below IntR.stays hq)
  have HW := Lib.hid (HW.out.below EnR.stays hq)
  have hz := hz.trans (hq.mono hz.size)
  clear hq
  cases ob
  · go_wp2_with fail
    refine (lawsSameEntries AE AF es.length cE cF es _ _ _ HE.out HE2.out (by omega) HK1.out).mono ?_
    rintro e w8 ⟨rfl, hq⟩
    have HS := Lib.hid (HS.out.below TbR.stays hq)
    have HD := Lib.hid (HD.out.below DtR.stays hq)
    have HC := Lib.hid (HC.out.below IntR.stays hq)
    have HE := Lib.hid (HE.out.below EnR.stays hq)
    have HE2 := Lib.hid (HE2.out.below EnR.stays hq)
    have HT := Lib.hid (HT.out.below TbR.stays hq)
    have HU := Lib.hid (HU.out.below DtR.stays hq)
    have HV := Lib.hid (HV.out.below IntR.stays hq)
    have HW := Lib.hid (HW.out.below EnR.stays hq)
    have hz := hz.trans (hq.mono hz.size)
    clear hq
    go_wp2_with fail
    refine (implIndexOk B1 B2 B3 B4 ts2.length d1 ds2.length d2 cols2.length d3 n4 d4 t2 ts2 ds2 cols2 l2 _ _ _ _ _ HT.out HU.out HV.out HW.out HSS2.out.1 HSS2.out.2.1 (by omega) HSS2.out.2.2).mono ?_
    rintro e w9 ⟨rfl, hq⟩
    rw [HKB.out]
    have HS := Lib.hid (HS.out.below TbR.stays hq)
    have HD := Lib.hid (HD.out.below DtR.stays hq)
    have HC := Lib.hid (HC.out.below IntR.stays hq)
    have HE := Lib.hid (HE.out.below EnR.stays hq)
    have HE2 := Lib.hid (HE2.out.below EnR.stays hq)
    have HT := Lib.hid (HT.out.below TbR.stays hq)
    have HU := Lib.hid (HU.out.below DtR.stays hq)
    have HV := Lib.hid (HV.out.below IntR.stays hq)
    have HW := Lib.hid (HW.out.below EnR.stays hq)
    have hz := hz.trans (hq.mono hz.size)
    clear hq
    go_wp2_with fail
    refine (specIndexOk B1 B2 B3 B4 ts2.length d1 ds2.length d2 cols2.length d3 n4 d4 t2 ts2 ds2 cols2 l2 _ _ _ _ _ HT.out HU.out HV.out HW.out hd1 hd3 HSS2.out.1 HSS2.out.2.1 (by omega) HSS2.out.2.2).mono ?_
    rintro e w10 ⟨rfl, hq⟩
    rw [HKB.out]
    have HS := Lib.hid (HS.out.below TbR.stays hq)
    have HD := Lib.hid (HD.out.below DtR.stays hq)
    have HC := Lib.hid (HC.out.below IntR.stays hq)
    have HE := Lib.hid (HE.out.below EnR.stays hq)
    have HE2 := Lib.hid (HE2.out.below EnR.stays hq)
    have HT := Lib.hid (HT.out.below TbR.stays hq)
    have HU := Lib.hid (HU.out.below DtR.stays hq)
    have HV := Lib.hid (HV.out.below IntR.stays hq)
    have HW := Lib.hid (HW.out.below EnR.stays hq)
    have hz := hz.trans (hq.mono hz.size)
    clear hq
    go_wp2_with fail
    go_ret
    exact ⟨rfl, hz⟩
  clear HE2 HT HU HV HW HSS2 HKB e4 e5 hcl2
  obtain ⟨m, rfl, hm, hd, hB, hix, hin, h8⟩ := ixOk_all HES.out.2
  have h9 : es = ixK cols ds[m].rows ds[m].rows.length := by rw [← HES.out.1]; exact hix
  have HENT : Hid (∀ k (hk : k < es.length), (∃ j, ∃ hj : j < ds[m].rows.length, atB ds[m].rows es[k].id = ds[m].rows[j].vals ∧ es[k].key = keyL cols ds[m].rows[j].vals ∧ keyOf cols ds[m].rows[j].vals = keyL cols ds[m].rows[j].vals) ∧ es[k].key.length = cols.length) := Lib.hid (by subst h9; exact fun k hk => ix_ent hin (by omega) hk)
  have HIDS : Hid (∀ k (hk : k < es.length), hasI ((es.take k).map En.id) es[k].id = false) := Lib.hid (by subst h9; exact fun k hk => ix_has hin hk)
  have HORD : Hid (∀ k (hk : k < es.length) (h : 0 < k), decide (0 < ordX (headV es[k - 1]) (headV es[k])) = false) := Lib.hid (by subst h9; exact fun k hk h => ix_up hin hk h)
  have HLEN : Hid (es.length = ds[m].rows.length) := Lib.hid (by subst h9; exact (ix_step hin _ (Nat.le_refl _)).2.1)
  have HIX : Hid (idxOkB ts ds (m : Int) cols es = true) := Lib.hid (ix_ok HES.out.1 HES.out.2)
  have hrw60 : ds[m].rows.length ≤ 60 := hin.few
  have HROW := Lib.hid (show ∀ j (hj : j < ds[m].rows.length), ds[m].rows[j].vals.length ≤ 8 from fun j hj => by have := (hin.row _ (List.getElem_mem hj)).2.2.1; omega)
  have hc0 : 0 < cols.length := hin.c0
  have hmd : (m : Int) < ds.length := by omega
  have hm0 : (0 : Int) ≤ m := by omega
  clear hB hix hin h8 h9
  have hO := OwnI.lit w7 (Nat.le_refl _)
  have hlt7 := (Below.refl w7.heap.size w7).alloc (Nat.le_refl _) (.cells #[] 2)
  go_wp2_with fail
  clear e1 e3
  have HOO := Lib.hid hO
  clear hO
  go_loopw [16, 17] (fun v i wr => ∃ k : Nat, k ≤ es.length ∧ i = .int .i64 k ∧ Hid (OwnI wr w7.heap.size v ((es.take k).map En.id)) ∧ Hid (Below w7.heap.size w7 wr)) (fun _ i _ => es.length - (intOf i).toNat)
  case atStart => exact ⟨0, by omega, rfl, HOO, Lib.hid hlt7⟩
  case round =>
    clear HOO hlt7
    obtain ⟨k, hk, rfl, hown, hbh⟩ := hrel
    have hb := hbh.out
    clear hbh
    by_cases hlt : k < es.length
    · have i0 : (0 : Int) ≤ k := by omega
      have i1 : (k : Int) < es.length := by omega
      obtain ⟨⟨j, hj, m1, m2, m3⟩, m4⟩ := HENT.out k hlt
      have HM4 := Lib.hid m4
      have hkl0 : 0 < es[k].key.length := by omega
      clear m4
      have hvn := HROW.out j hj
      obtain ⟨ids, hids⟩ : ∃ ids, (es.take k).map En.id = ids := ⟨_, rfl⟩
      have HID := Lib.hid hids
      have HHAS := Lib.hid (show hasI ids es[k].id = false by rw [← hids]; exact HIDS.out k hlt)
      have hsIn := Lib.hid (show ids.length ≤ 60 by rw [← hids, List.length_map, List.length_take]; omega)
      rw [hids] at hown
      clear hids
      obtain ⟨bd, od, AL, nL, cL, -, rfl, p0, hrw, -⟩ := DtR.at_ (HD.out.below DtR.stays hb) hd
      obtain rfl : ds[m].rows.length = nL := hrw.1
      obtain ⟨be, oe, A0, n0, c0, -, rfl, q0, q1, hky, -⟩ := EnR.at_ (HE.out.below EnR.stays hb) hlt
      obtain rfl : es[k].key.length = n0 := hky.1
      have HRW := Lib.hid (Sl.drew RwR.stays hrw)
      have HM := Lib.hid (And.intro m1 (And.intro m2 m3))
      have KS := Lib.hid (And.intro p0 (And.intro q0 q1))
      obtain ⟨wo, hwo⟩ : ∃ wo, wo = wr := ⟨_, rfl⟩
      subst hwo
      have hb0 := hb.drew
      clear hrw hky p0 q0 q1 m1 m2 m3
      go_upto_region 13 with fail
      refine wp_region_noPanic ?_
      refine wp_region_held_drew (S := (fun w' => w'.cell? ⟨bd, od + m, none⟩ = some (.slice AL ds[m].rows.length cL) ∧ w'.cell? ⟨be, oe + k * 2, none⟩ = some (.slice A0 es[k].key.length c0) ∧ w'.cell? ⟨be, oe + k * 2 + 1, none⟩ = some (.int .i64 es[k].id))) (by kernel_rfl) KS.out (fun hHeld => ?_)
      refine tk 0 ?_
      refine tk 1 ?_
      refine tk 2 ?_
      refine tk 3 ?_
      refine tk 4 ?_
      refine tk 5 ?_
      refine tk 6 ?_
      refine tk 7 ?_
      refine tk 8 ?_
      refine tk 9 ?_
      refine wpAnyH_ready (rs := [10]) (by kernel_rfl) (by simp) ?_
      refine AllReadyH.cons rfl (fun K hK => ?_) AllReadyH.nil
      go_simp
      go_at_call 33
      refine (lawsAt AL ds[m].rows.length cL ds[m].rows es[k].id _ _ HRW.out (by omega)).mono ?_
      rintro e w8 ⟨BV, nV, cV, rfl, hvc, hvl, hq8⟩
      rw [HM.out.1] at hvl
      have hb8 := hb0.trans (hq8.mono hb0.size)
      have hvN : nV ≤ 1048576 := by have := hvl.1; omega
      refine hK.out _ _ (keepI3 hHeld hq8) (fun hHeld => ?_)
      clear hK K
      (try simp only [Act.put, List.getElem_toArray, List.getElem_cons_zero, List.getElem_cons_succ, List.setIfInBounds_toArray, List.set_cons_zero, List.set_cons_succ])
      refine wpAnyH_ready (rs := [11]) (by kernel_rfl) (by simp) ?_
      refine AllReadyH.cons rfl (fun K hK => ?_) AllReadyH.nil
      go_simp
      go_at_call 32
      refine (implKeyOf A3 BV cols.length c3 nV cV cols ds[m].rows[j].vals _ _ _ (HC.out.below IntR.stays hb8) hvl (by omega) hvN).mono ?_
      rintro e w9 ⟨AK, cK, rfl, -, hkl, hq9⟩
      rw [HM.out.2.2, ← HM.out.2.1] at hkl ⊢
      have hb9 := hb8.trans (hq9.mono hb8.size)
      refine hK.out _ _ (keepI3 hHeld hq9) (fun hHeld => ?_)
      clear hK K
      (try simp only [Act.put, List.getElem_toArray, List.getElem_cons_zero, List.getElem_cons_succ, List.setIfInBounds_toArray, List.set_cons_zero, List.set_cons_succ])
      refine tk 12 ?_
      refine tk 13 ?_
      refine tk 14 ?_
      refine tk 15 ?_
      refine tk 16 ?_
      refine wpAnyH_done (by kernel_rfl) ?_ _
      refine NoPanic.normal ?_
      clear hHeld
      have HW9 : Hid (OwnI w9 w7.heap.size _ ids) := Lib.hid ((hown.out.below (below_two hq8)).below hq9)
      obtain ⟨be2, oe2, A5, n5, c5, -, e5, q0, q1, hky, -⟩ := EnR.at_ (HE.out.below EnR.stays hb9) hlt
      cases e5
      obtain rfl : es[k].key.length = n5 := hky.1
      generalize keyFl cols ds[m].rows[j].vals = fl
      skip
      go_wp2_with fail
      refine (lawsSameVals AK A5 _ cK _ c5 es[k].key es[k].key _ _ _ hkl hky (by have := HM4.out; omega) (by have := HM4.out; omega)).mono ?_
      rintro e w10 ⟨rfl, hq10⟩
      rw [eqlL_self]
      have q0 := below_keep hq10 _ _ q0
      have q1 := below_keep hq10 _ _ q1
      have hb10 := hb9.trans (hq10.mono hb9.size)
      have ho10 := HW9.out.below hq10
      obtain ⟨AI, cI, eI, hcI, -, hsI⟩ := ho10.sl
      subst eI
      go_wp2_with fail
      refine (lawsHas AI ids.length cI ids es[k].id _ _ hsI (by have := hsIn.out; omega)).mono ?_
      rintro e w11 ⟨rfl, hq11⟩
      rw [HHAS.out]
      have q0 := below_keep hq11 _ _ q0
      have q1 := below_keep hq11 _ _ q1
      have hb11 := hb10.trans (hq11.mono hb10.size)
      have ho11 := Lib.hid (ho10.below hq11)
      clear hsI ho10 hq10 hq11 HW9
      generalize Value.slice AI ids.length cI = vI at *
      go_wp2_with (at_builtin; refine wpList_append_own _ rfl _ _ 29 rfl w7.heap.size 2 ti0 (.int .i64 0) 1 8 Tryz.underlying29 H1.out H2.out H3.out H4.out rfl (by decide) _ _ _ rfl (World.ownsRow.alloc ho11.out _) ⟨_, 0, none⟩ 1 1 [.int .i64 es[k].id] rfl rfl ?c1 ?c2 ?c3 ?c4 ?c5 ?_)
      case c1 => exact cell_one_new _ _ _
      case c2 => intro u hu; simp at hu; subst hu; rfl
      case c3 => have := hsIn.out; unfold maxLen; omega
      case c4 => have := hsIn.out; omega
      case c5 => have := hb11.size; simp; omega
      intro v' w12 hown3 hgrow _
      have RO := Lib.hid (OwnI.app ho11.out hb11.size hown3 hgrow)
      have hb12 := hb11.trans RO.out.2
      clear hown3 hgrow ho11 q0 q1 hb11 hb10 hky hkl
      have HNX : Hid (OwnI w12 w7.heap.size v' ((es.take (k + 1)).map En.id)) := Lib.hid (by rw [List.take_succ_eq_append_getElem hlt, List.map_append, HID.out]; exact RO.out.1)
      clear RO
      obtain ⟨be3, oe3, A6, n6, c6, -, e6, s0, -, hky, -⟩ := EnR.at_ (HE.out.below EnR.stays hb12) hlt
      cases e6
      obtain rfl : es[k].key.length = n6 := hky.1
      by_cases hk0 : 0 < k
      · have k1 : (0 : Int) < k := by omega
        have hp : k - 1 < es.length := by omega
        obtain ⟨be4, oe4, A7, n7, c7, -, e7, t0, -, hkp, -⟩ := EnR.at_ (HE.out.below EnR.stays hb12) hp
        cases e7
        obtain rfl : es[k - 1].key.length = n7 := hkp.1
        have mp := (HENT.out (k - 1) hp).2
        have hpl0 : 0 < es[k - 1].key.length := by omega
        clear mp
        obtain ⟨bq, oq, -, rfl, u0, u1, u2⟩ := VlR.at_ hky hkl0
        obtain ⟨bp, op, -, rfl, v0, v1, v2⟩ := VlR.at_ hkp hpl0
        simp only [Nat.zero_mul, Nat.add_zero] at u0 u1 u2 v0 v1 v2
        have hOR := HORD.out k hlt hk0
        rw [← headV_at hkl0, ← headV_at hpl0] at hOR
        obtain ⟨x, hx⟩ : ∃ x, es[k].key[0] = x := ⟨_, rfl⟩
        obtain ⟨y, hy⟩ : ∃ y, es[k - 1].key[0] = y := ⟨_, rfl⟩
        rw [hx] at u0 u1 u2
        rw [hy] at v0 v1 v2
        rw [hx, hy] at hOR
        have HOR := Lib.hid (show decide ((0 : Int) < ordOk y.k y.n y.s x.k x.n x.s) = false from hOR)
        clear hx hy hOR
        have hor : decide ((0 : Int) < ordOk y.k y.n y.s x.k x.n x.s) = false := HOR.out
        have hor2 : ordOk y.k y.n y.s x.k x.n x.s ≤ 0 := by have := HOR.out; rw [decide_eq_false_iff_not] at this; omega
        have hor3 : ¬ (0 : Int) < ordOk y.k y.n y.s x.k x.n x.s := by omega
        have hkm : ((k : Int) - 1) = ((k - 1 : Nat) : Int) := by omega
        have k2 : (0 : Int) ≤ ((k - 1 : Nat) : Int) := by omega
        have k3 : ((k - 1 : Nat) : Int) < es.length := by omega
        have hwr : IntKind.i64.wrap ((k - 1 : Nat) : Int) = ((k - 1 : Nat) : Int) := IntWalk.i64_in _ (by omega)
        have k4 : (0 : Int) < es[k].key.length := by omega
        have k5 : (0 : Int) < es[k - 1].key.length := by omega
        have KP := Lib.hid (And.intro s0 (And.intro t0 (And.intro u0 (And.intro u1 (And.intro u2 (And.intro v0 (And.intro v1 v2)))))))
        clear s0 t0 u0 u1 u2 v0 v1 v2 hky hkp
        have hbd := hb12.drew
        go_upto_region 17 with fail
        refine wp_region_noPanic ?_
        refine wp_region_held_drew (S := (fun w' => w'.cell? ⟨be, oe + k * 2, none⟩ = some (.slice (some ⟨bq, oq, none⟩) es[k].key.length c6) ∧ w'.cell? ⟨be, oe + (k - 1) * 2, none⟩ = some (.slice (some ⟨bp, op, none⟩) es[k - 1].key.length c7) ∧ w'.cell? ⟨bq, oq, none⟩ = some (.int .i64 x.k) ∧ w'.cell? ⟨bq, oq + 1, none⟩ = some (.int .i64 x.n) ∧ w'.cell? ⟨bq, oq + 2, none⟩ = some (.string x.s) ∧ w'.cell? ⟨bp, op, none⟩ = some (.int .i64 y.k) ∧ w'.cell? ⟨bp, op + 1, none⟩ = some (.int .i64 y.n) ∧ w'.cell? ⟨bp, op + 2, none⟩ = some (.string y.s))) (by kernel_rfl) KP.out (fun hHeld => ?_)
        refine tk 0 ?_
        refine tk 1 ?_
        refine tk 2 ?_
        refine tk 3 ?_
        refine tk 4 ?_
        refine tk 5 ?_
        refine tk 6 ?_
        refine tk 7 ?_
        refine tk 8 ?_
        refine tk 9 ?_
        refine tk 10 ?_
        refine tk 11 ?_
        refine tk 12 ?_
        refine tk 13 ?_
        refine tk 14 ?_
        refine tk 15 ?_
        refine tk 16 ?_
        refine tk 17 ?_
        refine wpAnyH_ready (rs := [18]) (by kernel_rfl) (by simp) ?_
        refine AllReadyH.cons rfl (fun K hK => ?_) AllReadyH.nil
        go_simp
        go_at_call 17
        refine (implOrder y.k y.n y.s x.k x.n x.s _).mono ?_
        rintro e w13 ⟨rfl, hq13⟩
        have hb13 := hbd.trans (hq13.mono hbd.size)
        have HN13 := Lib.hid (OwnI.below (w := w12.drew) HNX.out hq13)
        refine hK.out _ _ (keepI8 hHeld hq13) (fun hHeld => ?_)
        clear hK K
        (try simp only [Act.put, List.getElem_toArray, List.getElem_cons_zero, List.getElem_cons_succ, List.setIfInBounds_toArray, List.set_cons_zero, List.set_cons_succ])
        refine tk 19 ?_
        refine tk 20 ?_
        refine wpAnyH_done (by kernel_rfl) ?_ _
        refine NoPanic.normal ?_
        clear hHeld
        go_wp2_with fail
        go_roundw
        case rel => exact ⟨k + 1, by omega, by go_num, HN13, Lib.hid hb13⟩
        case measure => simp [intOf]; omega
      · obtain rfl : k = 0 := by omega
        have k1 : ¬ (0 : Int) < ((0 : Nat) : Int) := by omega
        go_upto_region 17 with fail
        refine wp_region_noPanic ?_
        refine wp_region_held_drew (S := (fun _ => True)) (by kernel_rfl) trivial (fun hHeld => ?_)
        refine tk 0 ?_
        refine tk 1 ?_
        refine tk 2 ?_
        refine tu 3 ?_
        refine tu 4 ?_
        refine tu 5 ?_
        refine tu 6 ?_
        refine tu 7 ?_
        refine tu 8 ?_
        refine tu 9 ?_
        refine tu 10 ?_
        refine tu 11 ?_
        refine tu 12 ?_
        refine tu 13 ?_
        refine tu 14 ?_
        refine tu 15 ?_
        refine tu 16 ?_
        refine tu 17 ?_
        refine tu 18 ?_
        refine tu 19 ?_
        refine tk 20 ?_
        refine wpAnyH_done (by kernel_rfl) ?_ _
        refine NoPanic.normal ?_
        clear hHeld
        go_wp2_with fail
        go_roundw
        case rel => exact ⟨0 + 1, by omega, by go_num, HNX, Lib.hid hb12.drew⟩
        case measure => simp [intOf]; omega
    · have i1 : ¬ (k : Int) < es.length := by omega
      obtain ⟨bd, od, AL, nL, cL, -, rfl, p0, hrw, -⟩ := DtR.at_ (HD.out.below DtR.stays hb) hd
      obtain rfl : ds[m].rows.length = nL := hrw.1
      have hll : ((es.length : Int) == (ds[m].rows.length : Int)) = true := by rw [beq_iff_eq]; have := HLEN.out; omega
      go_wp2_with fail
      refine (implIndexOk A1 (some ⟨bd, od, none⟩) A3 AE ts.length c1 ds.length c2 cols.length c3 es.length cE m ts ds cols es _ _ _ _ _ (HS.out.below TbR.stays hb) (HD.out.below DtR.stays hb) (HC.out.below IntR.stays hb) (HE.out.below EnR.stays hb) HSS.out HDS.out (by omega) HEZ.out).mono ?_
      rintro e w14 ⟨rfl, hq14⟩
      rw [HIX.out]
      have hb14 := hb.trans (hq14.mono hb.size)
      go_wp2_with fail
      go_ret
      exact ⟨rfl, hz.trans (hb14.mono hz.size)⟩

set_option maxRecDepth 100000 in
theorem lifted (os : Os) (started : os.Started) (H : Type) (enc : TypeId × Value → H) :
    ReturnsInHanded {} Tryz.checked os 8 .any (Rows.fnIndexSpec.pre6 enc Tryz.prog Tryz.f8 Rows.fnIndexRow.domain false) (Rows.fnIndexSpec.post enc Tryz.prog Tryz.f8 false true false false) := by
  refine returnsInHanded_of_change (C := Tryz.checked) own started (by kernel_rfl) Tryz.func8
    (ChangeSpec.witness6 (enc := enc) (C := Tryz.checked) false ⟨#[], #[.slice none 0 0], []⟩ 8 (by kernel_rfl) (by kernel_rfl) (by kernel_rfl) (by kernel_rfl)) ?_
  intro W base args ds gs before hval0 hW hcnd _
  have hval : ∀ (j : Nat) t v, Tryz.f8.params[j]? = some t → args[j]? = some v → Value.okWide Tryz.prog W .any base t v := hval0
  have hW' := hW
  obtain ⟨p, q, hA0, hV, rfl, hfz, hnd⟩ := hW
  have hA : DataW.TrodAll enc Tryz.prog W 0 (fun _ => true) true Tryz.f8.params.toList args.toList ds p := hA0
  rw [Tryz.params8] at hA hval
  obtain ⟨v0, vs0, d0, ds0, p0, q0, hargs, rfl, rfl, h0, r0⟩ := trodAll_cons hA
  obtain ⟨rfl, rfl, rfl⟩ := trodAll_nil r0
  obtain rfl : args = #[v0] := by cases args; simp_all
  obtain ⟨rfl, rfl⟩ := trodVars_none hV
  have k0' := h0
  have lt0 : ∀ x ∈ p0, x.block < W.heap.size := by obtain ⟨m, hm⟩ := k0'; exact DataW.trod_lt m _ _ _ hm
  obtain ⟨a0, len0, cap0, rfl⟩ := okWide_slice Tryz.underlying22 (hval 0 22 v0 rfl rfl)
  obtain ⟨z0, w0⟩ := isRow_of_trod Tryz.underlying22 Tryz.underlying5 (by kernel_rfl) h0
  clear hA0 hval0
  refine (walk a0 len0 cap0 z0 W w0).mono fun e W' ⟨he, bel⟩ => ?_
  subst he
  exact ⟨_, rfl, _, _, _, [], _, [], hW', trodAll_mk1 (shut_bool Tryz.underlying4 _), (trodAll_cons_mk (Below.trod laidOut (by kernel_rfl) (of_decide_eq_true (by kernel_rfl)) k0' bel lt0) trodAll_mk0), rfl, bel.frame _, fun h => by cases h⟩

set_option maxRecDepth 100000 in
set_option maxHeartbeats 16000000 in
theorem facts : joinedFacts Tryz.checked.prog 8 Tryz.f8 Rows.fnIndexSpec Rows.fnIndexRow = true := by
  unfold joinedFacts
  repeat' (with_reducible refine Bool.and_eq_true_iff.2 ⟨?_, ?_⟩)
  all_goals (as_aux_lemma => kernel_rfl)

theorem over : Rows.fnIndexRow.holds Tryz.pinned (OpenSpec.ofChange Rows.fnIndexSpec) :=
  OpenClaim.holds_of_wide 8 Tryz.f8 rfl rfl rfl rfl rfl rfl rfl ⟨rfl, rfl, rfl, rfl, rfl⟩ rfl rfl rfl rfl rfl (by kernel_rfl) Tryz.func8 facts
    (of_decide_eq_true (by as_aux_lemma => kernel_rfl)) (by unfold Func.isWrapper; first | (rw [if_pos (by decide +kernel)]; kernel_rfl) | (rw [if_neg (by decide +kernel)]; exact ⟨rfl, rfl⟩))
    (fun os started H enc _ => lifted os started H enc)

theorem proved : Rows.FnIndexSaid := over
#print axioms proved
end Go.Proofs.YtciaidjmehelpaaGreat.fnIndex
