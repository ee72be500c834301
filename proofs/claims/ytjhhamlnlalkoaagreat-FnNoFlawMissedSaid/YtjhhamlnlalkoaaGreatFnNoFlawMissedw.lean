/-
  A row with a null in its key, or with the key of another one, is told (law FnNoFlawMissed, for every code).
-/
import Derived.Test.YtjhhamlnlalkoaaGreatPa
import Derived.Test.YtjhhamlnlalkoaaGreatPb
import Derived.Test.YtjhhamlnlalkoaaGreatPc
import Derived.Test.YtjhhamlnlalkoaaGreatPd
import Derived.Test.YtjhhamlnlalkoaaGreatPe
import Derived.Test.YtjhhamlnlalkoaaGreatPf
import Derived.Test.YtjhhamlnlalkoaaGreatPg
import Derived.Test.YtjhhamlnlalkoaaGreatPh
import Derived.Test.YtjhhamlnlalkoaaGreatPi
import Derived.Test.YtjhhamlnlalkoaaGreatQa
import Derived.Test.YtjhhamlnlalkoaaGreatQb
namespace Go.Proofs.YtjhhamlnlalkoaaGreat.fnNoFlawMissed
open Go.ChangeShapes Go.WideShapes Go.ChangeAt Go.RowKit Go.Joins
open Go.ChangeMaps (open_string shut_string)
set_option linter.unusedSimpArgs false
set_option linter.unusedVariables false

set_option maxRecDepth 100000 in
set_option maxHeartbeats 8000000 in
theorem walk (a0 : Option Addr) (len0 cap0 : Nat) (z0 : List Int) (w : World) (w0 : IsRow .u8 w a0 len0 cap0 z0) :
    Calls Tryz.prog 3 #[.slice a0 len0 cap0] w fun e w' => e = .returned (.bool true) ∧ Below w.heap.size w w' := by
  by_cases hbig : (1048576 : Int) < len0
  · have hbg : decide ((1048576 : Int) < len0) = true := by simpa using hbig
    go_enter Tryz.func3, Tryz.ntmps3
    go_wp2_with fail
    refine (lawsBig a0 len0 cap0 w).mono ?_
    rintro e w' ⟨rfl, rfl⟩
    go_wp2
    go_ret
    exact ⟨rfl, Below.refl _ _⟩
  have hbg : decide ((1048576 : Int) < len0) = false := by simpa using hbig
  go_enter Tryz.func3, Tryz.ntmps3
  go_wp2_with fail
  refine (lawsBig a0 len0 cap0 w).mono ?_
  rintro e w' ⟨rfl, rfl⟩
  go_wp2_with fail
  refine (drawFlaws a0 len0 cap0 z0 _ w0).mono ?_
  rintro e w1 ⟨v1, rfl, ⟨ok, A1, c1, ts, A2, n2, c2, ds, rfl, hc1, hS, hD, hsk, hn2, hds⟩, hz⟩
  obtain rfl : ds.length = n2 := hD.1
  have hss : szL Tb.sz ts ≤ 1048576 := by have := hsk.sz; omega
  have HS := Lib.hid hS
  have HD := Lib.hid hD
  have HZ := Lib.hid (And.intro hss hds)
  have hl3 : ts.length ≤ 3 := hsk.2.1
  clear hS hD hsk hn2 hss hds
  obtain ⟨ob, hob⟩ : ∃ b, dbB ts ds = b := ⟨_, rfl⟩
  obtain ⟨G, hG⟩ : ∃ G, flawsB ts ds false = G := ⟨_, rfl⟩
  have HOB := Lib.hid (And.intro hob hG)
  clear hob hG
  go_wp2_with fail
  refine (implFlaws A1 A2 ts.length c1 ds.length c2 ts ds _ _ _ HS.out HD.out HZ.out.1 HZ.out.2).mono ?_
  rintro e w2 ⟨AF, cF, rfl, -, hF, hq⟩
  rw [HOB.out.2] at hF ⊢
  rw [HOB.out.1]
  have HS := Lib.hid (HS.out.below TbR.stays hq)
  have HD := Lib.hid (HD.out.below DtR.stays hq)
  have hz := hz.trans (hq.mono hz.size)
  clear hq
  have HF := Lib.hid hF
  clear hF
  go_wp2_with fail
  refine (specFlaws A1 A2 ts.length c1 ds.length c2 ts ds _ _ _ HS.out HD.out hc1 HZ.out.1 HZ.out.2).mono ?_
  rintro e w3 ⟨AG, cG, rfl, -, -, hq⟩
  rw [HOB.out.2, HOB.out.1]
  have HS := Lib.hid (HS.out.below TbR.stays hq)
  have HD := Lib.hid (HD.out.below DtR.stays hq)
  have HF := Lib.hid (HF.out.below (FlatR.stays _) hq)
  have hz := hz.trans (hq.mono hz.size)
  clear hq
  have e1 : (ob == ob) = true := by simp
  have e3 : (ob != ob) = false := by simp
  cases ob
  · go_wp2_with fail
    go_ret
    exact ⟨rfl, hz⟩
  clear e1 e3
  have hB := HOB.out.1
  have hdl := dbB_len hB
  have HNF := Lib.hid (fun i (h : i < ts.length) (h' : i < ds.length) k (hk : k < ds[i].rows.length) => no_flaw hB h h' hk)
  have HRI := Lib.hid (fun i (h : i < ts.length) (h' : i < ds.length) x (hx : x ∈ ds[i].rows) => (rowIn_of hB i h h' x hx).1)
  have HLN := Lib.hid (And.intro hdl (fun i (h : i < ts.length) (h' : i < ds.length) => dbB_rows hB h h'))
  have HCO := Lib.hid (fun i (h : i < ts.length) => tab_small hB h)
  have hGn : G.length ≤ 1048576 := by rw [← HOB.out.2]; exact flawsB_few hB
  clear hB hdl
  go_wp2_with fail
  go_loopw [9] (fun i wr => ∃ k : Nat, k ≤ ts.length ∧ i = .int .i64 k ∧ Below w3.heap.size w3 wr) (fun i _ => ts.length - (intOf i).toNat)
  case atStart => exact ⟨0, by omega, rfl, Below.refl _ _⟩
  case round =>
    obtain ⟨k, hk, rfl, hb⟩ := hrel
    by_cases hlt : k < ts.length
    case neg =>
      have i1 : ¬ (k : Int) < ts.length := by omega
      go_wp2_with fail
      go_ret
      exact ⟨rfl, hz.trans (hb.mono hz.size)⟩
    have i0 : (0 : Int) ≤ k := by omega
    have i1 : (k : Int) < ts.length := by omega
    have hkd : k < ds.length := by have := HLN.out.1; omega
    have i2 : (k : Int) < ds.length := by omega
    have hrn := HLN.out.2 k hlt hkd
    obtain ⟨wo, hwo⟩ : ∃ wo, wo = wr := ⟨_, rfl⟩
    subst hwo
    go_wp2_with fail
    go_loopw [10] (fun j wr => ∃ m : Nat, m ≤ ds[k].rows.length ∧ j = .int .i64 m ∧ Below w3.heap.size w3 wr) (fun j _ => ds[k].rows.length - (intOf j).toNat)
    case atStart => exact ⟨0, by omega, rfl, hb⟩
    case round =>
      clear hb
      obtain ⟨m, hm, rfl, hb⟩ := hrel
      obtain ⟨bd, od, AR, nR, cR, -, eD, p0, hrw, -⟩ := DtR.at_ (HD.out.below DtR.stays hb) hkd
      subst eD
      obtain rfl : ds[k].rows.length = nR := hrw.1
      by_cases hmt : m < ds[k].rows.length
      case neg =>
        have j1 : ¬ (m : Int) < ds[k].rows.length := by omega
        go_wp2_with fail
        go_roundw
        case rel => exact ⟨k + 1, by omega, by go_num, hb⟩
        case measure => simp [intOf]; omega
      have j0 : (0 : Int) ≤ m := by omega
      have j1 : (m : Int) < ds[k].rows.length := by omega
      obtain ⟨br, ow, AV, nV, cV, -, eR, q0, q1, hvl, -⟩ := RwR.at_ hrw hmt
      subst eR
      obtain rfl : ds[k].rows[m].vals.length = nV := hvl.1
      obtain ⟨bt, ot, B1, m1, d1, B2, m2, d2, B3, m3, d3, B4, m4, d4, B5, m5, d5, -, eT, -, -, t2, -, -, -, -, s2, -⟩ := TbR.at_ (HS.out.below TbR.stays hb) hlt
      subst eT
      obtain rfl : ts[k].key.length = m2 := s2.1
      have hvn : ds[k].rows[m].vals.length ≤ 1048576 := by have := HRI.out k hlt hkd _ (List.getElem_mem hmt); have := HCO.out k hlt; omega
      have hkn : ts[k].key.length ≤ 1048576 := by have := HCO.out k hlt; omega
      have hX := Blo.new wr [.int .i64 ds[k].rows[m].id, .slice AV ds[k].rows[m].vals.length cV] 36
      have hal := (Below.refl wr.heap.size wr).alloc (Nat.le_refl _) (.cells #[.int .i64 ds[k].rows[m].id, .slice AV ds[k].rows[m].vals.length cV] 36)
      have HV := Lib.hid (hvl.below VlR.stays hal)
      have HK := Lib.hid (s2.below IntR.stays hal)
      have T2 := Lib.hid (below_keep hal _ _ t2)
      have hb2 := hb.trans (hal.mono hb.size)
      have HX := Lib.hid (show Blo (wr.alloc (.cells #[.int .i64 ds[k].rows[m].id, .slice AV ds[k].rows[m].vals.length cV] 36)) wr.heap.size _ _ from hX)
      clear hX hal hvl hrw s2 t2
      go_wp2_with fail
      generalize wr.alloc (.cells #[.int .i64 ds[k].rows[m].id, .slice AV ds[k].rows[m].vals.length cV] 36) = ux at *
      generalize wr.heap.size = gx at *
      clear hb p0 q0 q1
      have x0 := HX.out.cell 0 _ rfl
      have x1 := HX.out.cell 1 _ rfl
      have KS := Lib.hid (And.intro T2.out (And.intro x0 x1))
      clear x0 x1
      have hb3 := hb2.drew
      go_upto_region 15 with fail
      refine wp_region_noPanic ?_
      refine wp_region_held_drew (S := (fun w' => w'.cell? ⟨bt, ot + k * 6 + 2, none⟩ = some (.slice B2 ts[k].key.length d2) ∧ w'.cell? ⟨gx, 0, none⟩ = some (.int .i64 ds[k].rows[m].id) ∧ w'.cell? ⟨gx, 1, none⟩ = some (.slice AV ds[k].rows[m].vals.length cV))) (by kernel_rfl) KS.out (fun hHeld => ?_)
      refine tk 0 ?_
      refine tk 1 ?_
      refine tk 2 ?_
      refine tk 3 ?_
      refine tk 4 ?_
      refine tk 5 ?_
      refine tk 6 ?_
      refine wpAnyH_ready (rs := [7]) (by kernel_rfl) (by simp) ?_
      refine AllReadyH.cons rfl (fun K hK => ?_) AllReadyH.nil
      go_simp
      go_at_call 11
      refine (implKeyOf B2 AV ts[k].key.length d2 ds[k].rows[m].vals.length cV ts[k].key ds[k].rows[m].vals _ _ _ (Sl.drew IntR.stays HK.out) (Sl.drew VlR.stays HV.out) hkn hvn).mono ?_
      rintro e w5 ⟨AK, cK, rfl, -, hky, hq5⟩
      have hb5 := hb3.trans (hq5.mono hb3.size)
      have hheld5 := keepI3 hHeld hq5
      refine hK.out _ _ hheld5 (fun hHeld => ?_)
      clear hK K
      (try simp only [Act.put, List.getElem_toArray, List.getElem_cons_zero, List.getElem_cons_succ, List.setIfInBounds_toArray, List.set_cons_zero, List.set_cons_succ])
      refine tk 8 ?_
      refine tk 9 ?_
      refine tk 10 ?_
      refine tk 11 ?_
      refine tk 12 ?_
      refine wpAnyH_done (by kernel_rfl) ?_ _
      refine NoPanic.normal ?_
      clear hHeld
      obtain ⟨k2, k0, k1⟩ := hheld5
      obtain ⟨fl, hfl⟩ : ∃ b, keyFl ts[k].key ds[k].rows[m].vals = b := ⟨_, rfl⟩
      rw [hfl]
      have hnf := HNF.out k hlt hkd m hmt
      rw [hfl] at hnf
      have HNW := Lib.hid hnf
      clear hnf hfl
      cases fl
      · have hin := HNW.out.1 rfl
        obtain ⟨tg, htg⟩ : ∃ t : Fw, t = ⟨1, k, ds[k].rows[m].id⟩ := ⟨_, rfl⟩
        have HT := Lib.hid htg
        have HIN := Lib.hid (show tg ∈ G by rw [htg, ← HOB.out.2]; exact hin)
        clear htg hin
        have HBX := Lib.hid k0
        have hb6 := hb5
        go_wp2_with fail
        go_loopw [15, 16] (fun t j wr => ∃ p : Nat, p ≤ G.length ∧ j = .int .i64 p ∧ t = .bool ((G.take p).any (fwE tg)) ∧ Below w5.heap.size w5 wr) (fun _ j _ => G.length - (intOf j).toNat)
        case atStart => exact ⟨0, by omega, rfl, rfl, Below.refl _ _⟩
        case round =>
          obtain ⟨p, hp, rfl, rfl, hb7⟩ := hrel
          by_cases hpt : p < G.length
          case neg =>
            have l1 : ¬ (p : Int) < G.length := by omega
            have hth : (G.take p).any (fwE tg) = true := by rw [List.take_of_length_le (by omega)]; exact fwE_mem HIN.out
            rw [hth]
            go_wp2_with fail
            go_roundw
            case rel => exact ⟨m + 1, by omega, by go_num, hb6.trans (hb7.mono hb6.size)⟩
            case measure => simp [intOf]; omega
          have l0 : (0 : Int) ≤ p := by omega
          have l1 : (p : Int) < G.length := by omega
          have hnx : (G.take (p + 1)).any (fwE tg) = ((G.take p).any (fwE tg) || fwE tg G[p]) := by rw [List.take_succ_eq_append_getElem hpt, List.any_append]; simp
          have HNX := Lib.hid hnx
          clear hnx
          obtain ⟨th, hth⟩ : ∃ b, (G.take p).any (fwE tg) = b := ⟨_, rfl⟩
          rw [hth]
          have HTH := Lib.hid hth
          clear hth
          go_wp2_with fail
          go_upto_region 24 with fail
          cases th
          · obtain ⟨bf, of, eF, f0, f1, f2⟩ := fw_at (HF.out.below (FlatR.stays _) (hb6.trans (hb7.mono hb6.size))) hpt
            subst eF
            have y0 := below_keep hb7 _ _ HBX.out
            obtain ⟨x, hx⟩ : ∃ x, G[p] = x := ⟨_, rfl⟩
            rw [hx] at f0 f1 f2
            have HXX := Lib.hid hx
            clear hx
            by_cases heq : x = tg
            · have hk9 : x.k = 1 ∧ x.t = k ∧ x.id = ds[k].rows[m].id := by rw [heq, HT.out]; exact ⟨rfl, rfl, rfl⟩
              obtain ⟨hk9, ht9, hi9⟩ := hk9
              rw [hk9] at f0
              rw [ht9] at f1
              rw [hi9] at f2
              refine wp_region_noPanic ?_
              refine wp_region_held_drew (S := (fun w' => w'.cell? ⟨bf, of + p * 3, none⟩ = some (.int .i64 1) ∧ w'.cell? ⟨bf, of + p * 3 + 1, none⟩ = some (.int .i64 k) ∧ w'.cell? ⟨bf, of + p * 3 + 2, none⟩ = some (.int .i64 ds[k].rows[m].id) ∧ w'.cell? ⟨gx, 0, none⟩ = some (.int .i64 ds[k].rows[m].id))) (by kernel_rfl) ⟨f0, f1, f2, y0⟩ (fun hHeld => ?_)
              refine tk 0 ?_
              refine tk 1 ?_
              refine tk 2 ?_
              refine tk 3 ?_
              refine tk 4 ?_
              refine tk 5 ?_
              refine tk 6 ?_
              refine tk 7 ?_
              refine tk 8 ?_
              refine tk 9 ?_
              refine tk 10 ?_
              refine tk 11 ?_
              refine tk 12 ?_
              refine tk 13 ?_
              refine wpAnyH_done (by kernel_rfl) ?_ _
              refine NoPanic.normal ?_
              clear hHeld
              go_wp2_with fail
              go_roundw
              case rel => exact ⟨p + 1, by omega, by go_num, by rw [HNX.out, HTH.out, HXX.out]; rw [fwE_self heq]; rfl, hb7.drew⟩
              case measure => simp [intOf]; omega
            · by_cases h0 : x.k = 1
              case neg =>
                refine wp_region_noPanic ?_
                refine wp_region_held_drew (S := (fun w' => w'.cell? ⟨bf, of + p * 3, none⟩ = some (.int .i64 x.k) ∧ w'.cell? ⟨bf, of + p * 3 + 1, none⟩ = some (.int .i64 x.t) ∧ w'.cell? ⟨bf, of + p * 3 + 2, none⟩ = some (.int .i64 x.id) ∧ w'.cell? ⟨gx, 0, none⟩ = some (.int .i64 ds[k].rows[m].id))) (by kernel_rfl) ⟨f0, f1, f2, y0⟩ (fun hHeld => ?_)
                refine tk 0 ?_
                refine tk 1 ?_
                refine tk 2 ?_
                refine tk 3 ?_
                refine tk 4 ?_
                refine tk 5 ?_
                refine tk 6 ?_
                refine tk 7 ?_
                refine tk 8 ?_
                refine tk 9 ?_
                refine tk 10 ?_
                refine tk 11 ?_
                refine tk 12 ?_
                refine tk 13 ?_
                refine wpAnyH_done (by kernel_rfl) ?_ _
                refine NoPanic.normal ?_
                clear hHeld
                go_wp2_with fail
                go_roundw
                case rel => exact ⟨p + 1, by omega, by go_num, by rw [HNX.out, HTH.out, HXX.out]; rw [fwE_no heq]; rfl, hb7.drew⟩
                case measure => simp [intOf]; omega
              by_cases h1 : x.t = k
              case neg =>
                rw [h0] at f0
                refine wp_region_noPanic ?_
                refine wp_region_held_drew (S := (fun w' => w'.cell? ⟨bf, of + p * 3, none⟩ = some (.int .i64 1) ∧ w'.cell? ⟨bf, of + p * 3 + 1, none⟩ = some (.int .i64 x.t) ∧ w'.cell? ⟨bf, of + p * 3 + 2, none⟩ = some (.int .i64 x.id) ∧ w'.cell? ⟨gx, 0, none⟩ = some (.int .i64 ds[k].rows[m].id))) (by kernel_rfl) ⟨f0, f1, f2, y0⟩ (fun hHeld => ?_)
                refine tk 0 ?_
                refine tk 1 ?_
                refine tk 2 ?_
                refine tk 3 ?_
                refine tk 4 ?_
                refine tk 5 ?_
                refine tk 6 ?_
                refine tk 7 ?_
                refine tk 8 ?_
                refine tk 9 ?_
                refine tk 10 ?_
                refine tk 11 ?_
                refine tk 12 ?_
                refine tk 13 ?_
                refine wpAnyH_done (by kernel_rfl) ?_ _
                refine NoPanic.normal ?_
                clear hHeld
                go_wp2_with fail
                go_roundw
                case rel => exact ⟨p + 1, by omega, by go_num, by rw [HNX.out, HTH.out, HXX.out]; rw [fwE_no heq]; rfl, hb7.drew⟩
                case measure => simp [intOf]; omega
              rw [h0] at f0
              rw [h1] at f1
              have h2 : ¬ x.id = ds[k].rows[m].id := fun h => heq (by rw [HT.out]; exact fw_ext h0 h1 h)
              refine wp_region_noPanic ?_
              refine wp_region_held_drew (S := (fun w' => w'.cell? ⟨bf, of + p * 3, none⟩ = some (.int .i64 1) ∧ w'.cell? ⟨bf, of + p * 3 + 1, none⟩ = some (.int .i64 k) ∧ w'.cell? ⟨bf, of + p * 3 + 2, none⟩ = some (.int .i64 x.id) ∧ w'.cell? ⟨gx, 0, none⟩ = some (.int .i64 ds[k].rows[m].id))) (by kernel_rfl) ⟨f0, f1, f2, y0⟩ (fun hHeld => ?_)
              refine tk 0 ?_
              refine tk 1 ?_
              refine tk 2 ?_
              refine tk 3 ?_
              refine tk 4 ?_
              refine tk 5 ?_
              refine tk 6 ?_
              refine tk 7 ?_
              refine tk 8 ?_
              refine tk 9 ?_
              refine tk 10 ?_
              refine tk 11 ?_
              refine tk 12 ?_
              refine tk 13 ?_
              refine wpAnyH_done (by kernel_rfl) ?_ _
              refine NoPanic.normal ?_
              clear hHeld
              go_wp2_with fail
              go_roundw
              case rel => exact ⟨p + 1, by omega, by go_num, by rw [HNX.out, HTH.out, HXX.out]; rw [fwE_no heq]; rfl, hb7.drew⟩
              case measure => simp [intOf]; omega
          · refine wp_region_noPanic ?_
            refine wp_region_held_drew (S := (fun _ => True)) (by kernel_rfl) trivial (fun hHeld => ?_)
            refine tk 0 ?_
            refine tk 1 ?_
            refine tu 2 ?_
            refine tu 3 ?_
            refine tu 4 ?_
            refine tu 5 ?_
            refine tu 6 ?_
            refine tu 7 ?_
            refine tu 8 ?_
            refine tu 9 ?_
            refine tu 10 ?_
            refine tu 11 ?_
            refine tk 12 ?_
            refine tk 13 ?_
            refine wpAnyH_done (by kernel_rfl) ?_ _
            refine NoPanic.normal ?_
            clear hHeld
            go_wp2_with fail
            go_roundw
            case rel => exact ⟨p + 1, by omega, by go_num, by rw [HNX.out, HTH.out]; rfl, hb7.drew⟩
            case measure => simp [intOf]; omega
      · go_wp2_with fail
        refine (implFindRows (some ⟨bt, ot, none⟩) (some ⟨bd, od, none⟩) B2 AK ts.length c1 ds.length c2 ts[k].key.length d2 (keyOf ts[k].key ds[k].rows[m].vals).length cK ts ds k ts[k].key (keyOf ts[k].key ds[k].rows[m].vals) _ _ _ _ _ (HS.out.below TbR.stays hb5) (HD.out.below DtR.stays hb5) ((Sl.drew IntR.stays HK.out).below IntR.stays hq5) hky HZ.out.1 HZ.out.2 hkn (keyOf_few hkn)).mono ?_
        rintro e w8 ⟨A8, c8, rfl, -, -, hq8⟩
        have k0 := below_keep hq8 _ _ k0
        have hb8 := hb5.trans (hq8.mono hb5.size)
        obtain ⟨N, hN⟩ : ∃ n, (findB ts ds (k : Int) ts[k].key (keyOf ts[k].key ds[k].rows[m].vals)).length = n := ⟨_, rfl⟩
        have HNN := Lib.hid hN
        rw [hN]
        clear hN
        by_cases h2 : (N : Int) < 2
        · go_wp2_with fail
          go_roundw
          case rel => exact ⟨m + 1, by omega, by go_num, hb8⟩
          case measure => simp [intOf]; omega
        have hin := HNW.out.2 (by trivial) (by rw [HNN.out]; omega)
        obtain ⟨tg, htg⟩ : ∃ t : Fw, t = ⟨3, k, ds[k].rows[m].id⟩ := ⟨_, rfl⟩
        have HT := Lib.hid htg
        have HIN := Lib.hid (show tg ∈ G by rw [htg, ← HOB.out.2]; exact hin)
        clear htg hin
        have HBX := Lib.hid k0
        have hb6 := hb8
        go_wp2_with fail
        go_loopw [15, 16] (fun t j wr => ∃ p : Nat, p ≤ G.length ∧ j = .int .i64 p ∧ t = .bool ((G.take p).any (fwE tg)) ∧ Below w8.heap.size w8 wr) (fun _ j _ => G.length - (intOf j).toNat)
        case atStart => exact ⟨0, by omega, rfl, rfl, Below.refl _ _⟩
        case round =>
          obtain ⟨p, hp, rfl, rfl, hb7⟩ := hrel
          by_cases hpt : p < G.length
          case neg =>
            have l1 : ¬ (p : Int) < G.length := by omega
            have hth : (G.take p).any (fwE tg) = true := by rw [List.take_of_length_le (by omega)]; exact fwE_mem HIN.out
            rw [hth]
            go_wp2_with fail
            go_roundw
            case rel => exact ⟨m + 1, by omega, by go_num, hb6.trans (hb7.mono hb6.size)⟩
            case measure => simp [intOf]; omega
          have l0 : (0 : Int) ≤ p := by omega
          have l1 : (p : Int) < G.length := by omega
          have hnx : (G.take (p + 1)).any (fwE tg) = ((G.take p).any (fwE tg) || fwE tg G[p]) := by rw [List.take_succ_eq_append_getElem hpt, List.any_append]; simp
          have HNX := Lib.hid hnx
          clear hnx
          obtain ⟨th, hth⟩ : ∃ b, (G.take p).any (fwE tg) = b := ⟨_, rfl⟩
          rw [hth]
          have HTH := Lib.hid hth
          clear hth
          go_wp2_with fail
          go_upto_region 24 with fail
          cases th
          · obtain ⟨bf, of, eF, f0, f1, f2⟩ := fw_at (HF.out.below (FlatR.stays _) (hb6.trans (hb7.mono hb6.size))) hpt
            subst eF
            have y0 := below_keep hb7 _ _ HBX.out
            obtain ⟨x, hx⟩ : ∃ x, G[p] = x := ⟨_, rfl⟩
            rw [hx] at f0 f1 f2
            have HXX := Lib.hid hx
            clear hx
            by_cases heq : x = tg
            · have hk9 : x.k = 3 ∧ x.t = k ∧ x.id = ds[k].rows[m].id := by rw [heq, HT.out]; exact ⟨rfl, rfl, rfl⟩
              obtain ⟨hk9, ht9, hi9⟩ := hk9
              rw [hk9] at f0
              rw [ht9] at f1
              rw [hi9] at f2
              refine wp_region_noPanic ?_
              refine wp_region_held_drew (S := (fun w' => w'.cell? ⟨bf, of + p * 3, none⟩ = some (.int .i64 3) ∧ w'.cell? ⟨bf, of + p * 3 + 1, none⟩ = some (.int .i64 k) ∧ w'.cell? ⟨bf, of + p * 3 + 2, none⟩ = some (.int .i64 ds[k].rows[m].id) ∧ w'.cell? ⟨gx, 0, none⟩ = some (.int .i64 ds[k].rows[m].id))) (by kernel_rfl) ⟨f0, f1, f2, y0⟩ (fun hHeld => ?_)
              refine tk 0 ?_
              refine tk 1 ?_
              refine tk 2 ?_
              refine tk 3 ?_
              refine tk 4 ?_
              refine tk 5 ?_
              refine tk 6 ?_
              refine tk 7 ?_
              refine tk 8 ?_
              refine tk 9 ?_
              refine tk 10 ?_
              refine tk 11 ?_
              refine tk 12 ?_
              refine tk 13 ?_
              refine wpAnyH_done (by kernel_rfl) ?_ _
              refine NoPanic.normal ?_
              clear hHeld
              go_wp2_with fail
              go_roundw
              case rel => exact ⟨p + 1, by omega, by go_num, by rw [HNX.out, HTH.out, HXX.out]; rw [fwE_self heq]; rfl, hb7.drew⟩
              case measure => simp [intOf]; omega
            · by_cases h0 : x.k = 3
              case neg =>
                refine wp_region_noPanic ?_
                refine wp_region_held_drew (S := (fun w' => w'.cell? ⟨bf, of + p * 3, none⟩ = some (.int .i64 x.k) ∧ w'.cell? ⟨bf, of + p * 3 + 1, none⟩ = some (.int .i64 x.t) ∧ w'.cell? ⟨bf, of + p * 3 + 2, none⟩ = some (.int .i64 x.id) ∧ w'.cell? ⟨gx, 0, none⟩ = some (.int .i64 ds[k].rows[m].id))) (by kernel_rfl) ⟨f0, f1, f2, y0⟩ (fun hHeld => ?_)
                refine tk 0 ?_
                refine tk 1 ?_
                refine tk 2 ?_
                refine tk 3 ?_
                refine tk 4 ?_
                refine tk 5 ?_
                refine tk 6 ?_
                refine tk 7 ?_
                refine tk 8 ?_
                refine tk 9 ?_
                refine tk 10 ?_
                refine tk 11 ?_
                refine tk 12 ?_
                refine tk 13 ?_
                refine wpAnyH_done (by kernel_rfl) ?_ _
                refine NoPanic.normal ?_
                clear hHeld
                go_wp2_with fail
                go_roundw
                case rel => exact ⟨p + 1, by omega, by go_num, by rw [HNX.out, HTH.out, HXX.out]; rw [fwE_no heq]; rfl, hb7.drew⟩
                case measure => simp [intOf]; omega
              by_cases h1 : x.t = k
              case neg =>
                rw [h0] at f0
                refine wp_region_noPanic ?_
                refine wp_region_held_drew (S := (fun w' => w'.cell? ⟨bf, of + p * 3, none⟩ = some (.int .i64 3) ∧ w'.cell? ⟨bf, of + p * 3 + 1, none⟩ = some (.int .i64 x.t) ∧ w'.cell? ⟨bf, of + p * 3 + 2, none⟩ = some (.int .i64 x.id) ∧ w'.cell? ⟨gx, 0, none⟩ = some (.int .i64 ds[k].rows[m].id))) (by kernel_rfl) ⟨f0, f1, f2, y0⟩ (fun hHeld => ?_)
                refine tk 0 ?_
                refine tk 1 ?_
                refine tk 2 ?_
                refine tk 3 ?_
                refine tk 4 ?_
                refine tk 5 ?_
                refine tk 6 ?_
                refine tk 7 ?_
                refine tk 8 ?_
                refine tk 9 ?_
                refine tk 10 ?_
                refine tk 11 ?_
                refine tk 12 ?_
                refine tk 13 ?_
                refine wpAnyH_done (by kernel_rfl) ?_ _
                refine NoPanic.normal ?_
                clear hHeld
                go_wp2_with fail
                go_roundw
                case rel => exact ⟨p + 1, by omega, by go_num, by rw [HNX.out, HTH.out, HXX.out]; rw [fwE_no heq]; rfl, hb7.drew⟩
                case measure => simp [intOf]; omega
              rw [h0] at f0
              rw [h1] at f1
              have h2 : ¬ x.id = ds[k].rows[m].id := fun h => heq (by rw [HT.out]; exact fw_ext h0 h1 h)
              refine wp_region_noPanic ?_
              refine wp_region_held_drew (S := (fun w' => w'.cell? ⟨bf, of + p * 3, none⟩ = some (.int .i64 3) ∧ w'.cell? ⟨bf, of + p * 3 + 1, none⟩ = some (.int .i64 k) ∧ w'.cell? ⟨bf, of + p * 3 + 2, none⟩ = some (.int .i64 x.id) ∧ w'.cell? ⟨gx, 0, none⟩ = some (.int .i64 ds[k].rows[m].id))) (by kernel_rfl) ⟨f0, f1, f2, y0⟩ (fun hHeld => ?_)
              refine tk 0 ?_
              refine tk 1 ?_
              refine tk 2 ?_
              refine tk 3 ?_
              refine tk 4 ?_
              refine tk 5 ?_
              refine tk 6 ?_
              refine tk 7 ?_
              refine tk 8 ?_
              refine tk 9 ?_
              refine tk 10 ?_
              refine tk 11 ?_
              refine tk 12 ?_
              refine tk 13 ?_
              refine wpAnyH_done (by kernel_rfl) ?_ _
              refine NoPanic.normal ?_
              clear hHeld
              go_wp2_with fail
              go_roundw
              case rel => exact ⟨p + 1, by omega, by go_num, by rw [HNX.out, HTH.out, HXX.out]; rw [fwE_no heq]; rfl, hb7.drew⟩
              case measure => simp [intOf]; omega
          · refine wp_region_noPanic ?_
            refine wp_region_held_drew (S := (fun _ => True)) (by kernel_rfl) trivial (fun hHeld => ?_)
            refine tk 0 ?_
            refine tk 1 ?_
            refine tu 2 ?_
            refine tu 3 ?_
            refine tu 4 ?_
            refine tu 5 ?_
            refine tu 6 ?_
            refine tu 7 ?_
            refine tu 8 ?_
            refine tu 9 ?_
            refine tu 10 ?_
            refine tu 11 ?_
            refine tk 12 ?_
            refine tk 13 ?_
            refine wpAnyH_done (by kernel_rfl) ?_ _
            refine NoPanic.normal ?_
            clear hHeld
            go_wp2_with fail
            go_roundw
            case rel => exact ⟨p + 1, by omega, by go_num, by rw [HNX.out, HTH.out]; rfl, hb7.drew⟩
            case measure => simp [intOf]; omega

set_option maxRecDepth 100000 in
theorem lifted (os : Os) (started : os.Started) (H : Type) (enc : TypeId × Value → H) :
    ReturnsInHanded {} Tryz.checked os 3 .any (Rows.fnNoFlawMissedSpec.pre6 enc Tryz.prog Tryz.f3 Rows.fnNoFlawMissedRow.domain false) (Rows.fnNoFlawMissedSpec.post enc Tryz.prog Tryz.f3 false true false false) := by
  refine returnsInHanded_of_change (C := Tryz.checked) own started (by kernel_rfl) Tryz.func3
    (ChangeSpec.witness6 (enc := enc) (C := Tryz.checked) false ⟨#[], #[.slice none 0 0], []⟩ 8 (by kernel_rfl) (by kernel_rfl) (by kernel_rfl) (by kernel_rfl)) ?_
  intro W base args ds gs before hval0 hW hcnd _
  have hval : ∀ (j : Nat) t v, Tryz.f3.params[j]? = some t → args[j]? = some v → Value.okWide Tryz.prog W .any base t v := hval0
  have hW' := hW
  obtain ⟨p, q, hA0, hV, rfl, hfz, hnd⟩ := hW
  have hA : DataW.TrodAll enc Tryz.prog W 0 (fun _ => true) true Tryz.f3.params.toList args.toList ds p := hA0
  rw [Tryz.params3] at hA hval
  obtain ⟨v0, vs0, d0, ds0, p0, q0, hargs, rfl, rfl, h0, r0⟩ := trodAll_cons hA
  obtain ⟨rfl, rfl, rfl⟩ := trodAll_nil r0
  obtain rfl : args = #[v0] := by cases args; simp_all
  obtain ⟨rfl, rfl⟩ := trodVars_none hV
  have k0' := h0
  have lt0 : ∀ x ∈ p0, x.block < W.heap.size := by obtain ⟨m, hm⟩ := k0'; exact DataW.trod_lt m _ _ _ hm
  obtain ⟨a0, len0, cap0, rfl⟩ := okWide_slice Tryz.underlying22 (hval 0 22 v0 rfl rfl)
  obtain ⟨z0, w0⟩ := isRow_of_trod Tryz.underlying22 Tryz.underlying5 (by kernel_rfl) h0
  clear hA0 hval0
  refine (walk a0 len0 cap0 z0 W w0).mono fun e W' ⟨he, bel⟩ => ?_
  subst he
  exact ⟨_, rfl, _, _, _, [], _, [], hW', trodAll_mk1 (shut_bool Tryz.underlying4 _), (trodAll_cons_mk (Below.trod laidOut (by kernel_rfl) (of_decide_eq_true (by kernel_rfl)) k0' bel lt0) trodAll_mk0), rfl, bel.frame _, fun h => by cases h⟩

set_option maxRecDepth 100000 in
set_option maxHeartbeats 16000000 in
theorem facts : joinedFacts Tryz.checked.prog 3 Tryz.f3 Rows.fnNoFlawMissedSpec Rows.fnNoFlawMissedRow = true := by
  unfold joinedFacts
  repeat' (with_reducible refine Bool.and_eq_true_iff.2 ⟨?_, ?_⟩)
  all_goals (as_aux_lemma => kernel_rfl)

theorem over : Rows.fnNoFlawMissedRow.holds Tryz.pinned (OpenSpec.ofChange Rows.fnNoFlawMissedSpec) :=
  OpenClaim.holds_of_wide 3 Tryz.f3 rfl rfl rfl rfl rfl rfl rfl ⟨rfl, rfl, rfl, rfl, rfl⟩ rfl rfl rfl rfl rfl (by kernel_rfl) Tryz.func3 facts
    (of_decide_eq_true (by as_aux_lemma => kernel_rfl)) (by unfold Func.isWrapper; first | (rw [if_pos (by decide +kernel)]; kernel_rfl) | (rw [if_neg (by decide +kernel)]; exact ⟨rfl, rfl⟩))
    (fun os started H enc _ => lifted os started H enc)

theorem proved : Rows.FnNoFlawMissedSaid := over
#print axioms proved
end Go.Proofs.YtjhhamlnlalkoaaGreat.fnNoFlawMissed
