/-
  An index finds just the rows that are found by their value (law FnIndexed, for every code).
-/
import Derived.Test.YtciaidjmehelpaaGreatMa
import Derived.Test.YtciaidjmehelpaaGreatMb
import Derived.Test.YtciaidjmehelpaaGreatMc
import Derived.Test.YtciaidjmehelpaaGreatMd
import Derived.Test.YtciaidjmehelpaaGreatMe
import Derived.Test.YtciaidjmehelpaaGreatRa
import Derived.Test.YtciaidjmehelpaaGreatRb
import Derived.Test.YtciaidjmehelpaaGreatRc
import Derived.Test.YtciaidjmehelpaaGreatRd
namespace Go.Proofs.YtciaidjmehelpaaGreat.fnIndexed
open Go.ChangeShapes Go.WideShapes Go.ChangeAt Go.RowKit Go.Joins
open Go.ChangeMaps (open_string shut_string)
set_option linter.unusedSimpArgs false
set_option linter.unusedVariables false

set_option maxRecDepth 100000 in
set_option maxHeartbeats 4000000 in
theorem walk (a0 : Option Addr) (len0 cap0 : Nat) (z0 : List Int) (w : World) (w0 : IsRow .u8 w a0 len0 cap0 z0) :
    Calls Tryz.prog 7 #[.slice a0 len0 cap0] w fun e w' => e = .returned (.bool true) ∧ Below w.heap.size w w' := by
  by_cases hbig : (1048576 : Int) < len0
  · have hbg : decide ((1048576 : Int) < len0) = true := by simpa using hbig
    go_enter Tryz.func7, Tryz.ntmps7
    go_wp2_with fail
    refine (lawsBig a0 len0 cap0 w).mono ?_
    rintro e w' ⟨rfl, rfl⟩
    go_wp2
    go_ret
    exact ⟨rfl, Below.refl _ _⟩
  have hbg : decide ((1048576 : Int) < len0) = false := by simpa using hbig
  go_enter Tryz.func7, Tryz.ntmps7
  go_wp2_with fail
  refine (lawsBig a0 len0 cap0 w).mono ?_
  rintro e w' ⟨rfl, rfl⟩
  go_wp2_with fail
  refine (drawIndexOf a0 len0 cap0 z0 _ w0).mono ?_
  rintro e w1 ⟨v1, rfl, ⟨ok, A1, c1, ts, A2, c2, ds, t, A3, c3, cols, rfl, hc1, hS, hD, hC, hc3, hsk, hbk, hdl, hcols⟩, hz⟩
  have HS := Lib.hid hS
  have HD := Lib.hid hD
  have HC := Lib.hid hC
  have hss : szL Tb.sz ts ≤ 1048576 := by have := hsk.sz; omega
  have hds : szL Dt.sz ds ≤ 1048576 := by have := hbk.sz hsk (by omega) hdl; omega
  have hcl : cols.length ≤ 2 := by rcases hcols with rfl | ⟨y, rfl⟩ <;> simp
  have HCO := Lib.hid hcols
  have HSS := Lib.hid hss
  have HDS := Lib.hid hds
  clear hS hD hC hsk hbk hdl hcols hss hds
  go_wp2_with fail
  refine (implIndexOf A1 A2 A3 ts.length c1 ds.length c2 cols.length c3 t ts ds cols _ _ _ _ HS.out HD.out HC.out HSS.out HDS.out (by omega)).mono ?_
  rintro e w2 ⟨v2, rfl, ho, hq⟩
  obtain ⟨AE, cE, rfl, -, -, hsl⟩ := ho.sl
  clear ho
  obtain ⟨es, hes⟩ : ∃ es, ixL ts ds t cols = es := ⟨_, rfl⟩
  obtain ⟨ob, hob⟩ : ∃ b, ixOk ts ds t cols = b := ⟨_, rfl⟩
  have hkl := ixL_few ts ds t cols
  rw [hes] at hsl hkl ⊢
  rw [hob]
  have HES := Lib.hid (And.intro hes hob)
  have hle : es.length ≤ 60 := hkl.1
  have HK1 := Lib.hid hkl.2
  clear hes hob hkl
  have HS := Lib.hid (HS.out.below TbR.stays hq)
  have HD := Lib.hid (HD.out.below DtR.stays hq)
  have HC := Lib.hid (HC.out.below IntR.stays hq)
  have hz := hz.trans (hq.mono hz.size)
  clear hq
  have HE := Lib.hid hsl
  clear hsl
  go_wp2_with fail
  refine (specIndexOf A1 A2 A3 ts.length c1 ds.length c2 cols.length c3 t ts ds cols _ _ _ _ HS.out HD.out HC.out hc1 hc3 HSS.out HDS.out (by omega)).mono ?_
  rintro e w3 ⟨v3, rfl, ho, hq⟩
  obtain ⟨AF, cF, rfl, -, -, hsl⟩ := ho.sl
  clear ho
  rw [HES.out.1] at hsl ⊢
  rw [HES.out.2]
  have HS := Lib.hid (HS.out.below TbR.stays hq)
  have HD := Lib.hid (HD.out.below DtR.stays hq)
  have HC := Lib.hid (HC.out.below IntR.stays hq)
  have hz := hz.trans (hq.mono hz.size)
  have HE := Lib.hid (HE.out.below EnR.stays hq)
  clear hq
  have HE2 := Lib.hid hsl
  clear hsl
  have e1 : (ob == ob) = true := by simp
  have e3 : (ob != ob) = false := by simp
  go_wp2_with fail
  refine (lawsSameEntries AE AF es.length cE cF es _ _ _ HE.out HE2.out (by omega) HK1.out).mono ?_
  rintro e w4 ⟨rfl, hq⟩
  have HS := Lib.hid (HS.out.below TbR.stays hq)
  have HD := Lib.hid (HD.out.below DtR.stays hq)
  have HC := Lib.hid (HC.out.below IntR.stays hq)
  have hz := hz.trans (hq.mono hz.size)
  have HE := Lib.hid (HE.out.below EnR.stays hq)
  have HE2 := Lib.hid (HE2.out.below EnR.stays hq)
  clear hq
  cases ob
  · skip
    go_wp2_with fail
    refine (lawsSameEntries AE AF es.length cE cF es _ _ _ HE.out HE2.out (by omega) HK1.out).mono ?_
    rintro e w5 ⟨rfl, hq⟩
    have hz := hz.trans (hq.mono hz.size)
    go_wp2_with fail
    go_ret
    exact ⟨rfl, hz⟩
  by_cases hl1 : cols.length = 1
  case neg =>
    have e5 : ((cols.length : Int) != 1) = true := by simp; omega
    go_wp2_with fail
    refine (lawsSameEntries AE AF es.length cE cF es _ _ _ HE.out HE2.out (by omega) HK1.out).mono ?_
    rintro e w5 ⟨rfl, hq⟩
    have hz := hz.trans (hq.mono hz.size)
    go_wp2_with fail
    go_ret
    exact ⟨rfl, hz⟩
  have e5 : ((cols.length : Int) != 1) = false := by simp; omega
  go_wp2_with fail
  clear e1 e3 e5 HE2
  obtain ⟨y, rfl⟩ : ∃ y, cols = [y] := by rcases HCO.out with rfl | h; simp at hl1; exact h
  obtain ⟨m, rfl, hm, hd, hB, hcb, hfew, hy0, hrow⟩ := ixOk_in HES.out.2
  obtain ⟨j, rfl⟩ : ∃ j : Nat, y = j := ⟨y.toNat, by omega⟩
  have hmd : (m : Int) < ds.length := by omega
  have hm0 : (0 : Int) ≤ m := by omega
  have HROW := Lib.hid hrow
  have HBB := Lib.hid (And.intro hB hcb)
  clear hrow hB hcb hy0 hl1
  go_loopw [11] (fun i wr => ∃ k : Nat, k ≤ ds[m].rows.length ∧ i = .int .i64 k ∧ Below w4.heap.size w4 wr) (fun i _ => ds[m].rows.length - (intOf i).toNat)
  case atStart => exact ⟨0, by omega, rfl, Below.refl _ _⟩
  case round =>
    obtain ⟨k, hk, rfl, hb⟩ := hrel
    obtain ⟨bd, od, AL, nL, cL, -, rfl, p0, hrw, -⟩ := DtR.at_ (HD.out.below DtR.stays hb) hd
    obtain rfl : ds[m].rows.length = nL := hrw.1
    by_cases hlt : k < ds[m].rows.length
    · have i0 : (0 : Int) ≤ k := by omega
      have i1 : (k : Int) < ds[m].rows.length := by omega
      obtain ⟨hjv, hxo⟩ := HROW.out _ (List.getElem_mem hlt)
      have hjv : j < ds[m].rows[k].vals.length := by omega
      obtain ⟨br, ow, AV, nV, cV, -, rfl, -, q1, hvl, -⟩ := RwR.at_ hrw hlt
      obtain rfl : ds[m].rows[k].vals.length = nV := hvl.1
      obtain ⟨bc, oc, -, rfl, r0⟩ := IntR.at_ (HC.out.below IntR.stays hb) (i := 0) (by simp)
      obtain ⟨bv, ov, -, rfl, v0, v1, v2⟩ := VlR.at_ hvl hjv
      have hxo := hxo _ (List.getElem_mem hjv)
      obtain ⟨x, hx⟩ : ∃ x, ds[m].rows[k].vals[j] = x := ⟨_, rfl⟩
      rw [hx] at v0 v1 v2 hxo
      clear hx
      have j0 : (0 : Int) ≤ j := by omega
      have j1 : (j : Int) < ds[m].rows[k].vals.length := by omega
      simp only [Nat.add_zero, List.getElem_cons_zero] at r0
      have KS := Lib.hid (And.intro p0 (And.intro q1 (And.intro r0 (And.intro v0 (And.intro v1 v2)))))
      have HXO := Lib.hid hxo
      obtain ⟨wo, hwo⟩ : ∃ wo, wo = wr := ⟨_, rfl⟩
      subst hwo
      have hb0 := hb.drew
      clear hrw hvl r0 v0 v1 v2 q1 hxo
      go_upto_region 11 with fail
      clear p0
      refine wp_region_noPanic ?_
      refine wp_region_held_drew (S := (fun w' => w'.cell? ⟨bd, od + m, none⟩ = some (.slice (some ⟨br, ow, none⟩) ds[m].rows.length cL) ∧ w'.cell? ⟨br, ow + k * 2 + 1, none⟩ = some (.slice (some ⟨bv, ov, none⟩) ds[m].rows[k].vals.length cV) ∧ w'.cell? ⟨bc, oc, none⟩ = some (.int .i64 j) ∧ w'.cell? ⟨bv, ov + j * 3, none⟩ = some (.int .i64 x.k) ∧ w'.cell? ⟨bv, ov + j * 3 + 1, none⟩ = some (.int .i64 x.n) ∧ w'.cell? ⟨bv, ov + j * 3 + 2, none⟩ = some (.string x.s))) (by kernel_rfl) KS.out (fun hHeld => ?_)
      have KS0 := KS.out
      change (fun w' => w'.cell? ⟨bd, od + m, none⟩ = some (.slice (some ⟨br, ow, none⟩) ds[m].rows.length cL) ∧ w'.cell? ⟨br, ow + k * 2 + 1, none⟩ = some (.slice (some ⟨bv, ov, none⟩) ds[m].rows[k].vals.length cV) ∧ w'.cell? ⟨bc, oc, none⟩ = some (.int .i64 j) ∧ w'.cell? ⟨bv, ov + j * 3, none⟩ = some (.int .i64 x.k) ∧ w'.cell? ⟨bv, ov + j * 3 + 1, none⟩ = some (.int .i64 x.n) ∧ w'.cell? ⟨bv, ov + j * 3 + 2, none⟩ = some (.string x.s)) wo.drew at KS0
      generalize wo.drew = u0 at *
      refine tk 0 ?_
      refine tk 1 ?_
      refine tk 2 ?_
      refine tk 3 ?_
      refine tk 4 ?_
      refine tk 5 ?_
      refine tk 6 ?_
      refine tk 7 ?_
      refine tk 8 ?_
      refine tk 9 ?_
      refine tk 10 ?_
      refine tk 11 ?_
      refine tk 12 ?_
      refine tk 13 ?_
      refine wpAnyH_ready (rs := [14]) (by kernel_rfl) (by simp) ?_
      refine AllReadyH.cons rfl (fun K hK => ?_) AllReadyH.nil
      go_simp
      refine hK.out _ _ (keepI6 hHeld ((Below.refl _ _).alloc (Nat.le_refl _) _)) (fun hHeld => ?_)
      clear hK K
      (try simp only [Act.put, List.getElem_toArray, List.getElem_cons_zero, List.getElem_cons_succ, List.setIfInBounds_toArray, List.set_cons_zero, List.set_cons_succ])
      refine wpAnyH_ready (rs := [15]) (by kernel_rfl) (by simp) ?_
      refine AllReadyH.cons rfl (fun K hK => ?_) AllReadyH.nil
      go_simp
      have KS2 := keepI6 KS0 ((Below.refl u0.heap.size u0).alloc (Nat.le_refl _) (.cells #[.int .i64 x.k, .int .i64 x.n, .string x.s] 34))
      refine hK.out _ _ KS2 (fun hHeld => ?_)
      clear hK K
      (try simp only [Act.put, List.getElem_toArray, List.getElem_cons_zero, List.getElem_cons_succ, List.setIfInBounds_toArray, List.set_cons_zero, List.set_cons_succ])
      refine wpAnyH_done (by kernel_rfl) ?_ _
      refine NoPanic.normal ?_
      clear hHeld
      clear hHeld KS KS0
      have HBX := Lib.hid (Blk.new u0 x.k x.n x.s)
      have hbx := hb0.alloc hb0.size (.cells #[.int .i64 x.k, .int .i64 x.n, .string x.s] 34)
      generalize u0.alloc (.cells #[.int .i64 x.k, .int .i64 x.n, .string x.s] 34) = ux at *
      generalize u0.heap.size = gx at *
      clear hb0 hb
      obtain ⟨z0, z1, z2⟩ := Blk.cells HBX.out
      by_cases hk0 : x.k = 0
      · have hk1 : (x.k == 0) = true := by simpa using hk0
        go_wp2_with fail
        go_roundw
        case rel => exact ⟨k + 1, by omega, by go_num, hbx⟩
        case measure => simp [intOf]; omega
      · have hk1 : (x.k == 0) = false := by simpa using hk0
        obtain ⟨Q, hQ⟩ : ∃ Q, rangeB es x x = Q := ⟨_, rfl⟩
        have hF : findB ts ds (m : Int) [(j : Int)] [x] = Q := by rw [← hQ, ← HES.out.1]; exact (ix_find HBB.out.1 hm hd HBB.out.2 HXO.out hk0).symm
        have hQn : Q.length ≤ 60 := by rw [← hQ]; exact Nat.le_trans (rangeB_len _ _ _) hle
        have HR := Lib.hid (And.intro hQ hF)
        clear hQ hF hk0
        go_upto_region 13 with fail
        have hb1 := hbx.drew
        clear hk1 hbx HBX
        refine wp_region_noPanic ?_
        refine wp_region_held_drew (S := (fun w' => w'.cell? ⟨gx, 0, none⟩ = some (.int .i64 x.k) ∧ w'.cell? ⟨gx, 1, none⟩ = some (.int .i64 x.n) ∧ w'.cell? ⟨gx, 2, none⟩ = some (.string x.s))) (by kernel_rfl) ⟨z0, z1, z2⟩ (fun hHeld => ?_)
        generalize ux.drew = u1 at *
        refine tk 0 ?_
        refine tk 1 ?_
        refine tk 2 ?_
        refine tk 4 ?_
        refine tk 5 ?_
        refine tk 6 ?_
        refine tk 7 ?_
        refine tk 8 ?_
        refine wpAnyH_ready (rs := [3, 9]) (by kernel_rfl) (by simp) ?_
        refine AllReadyH.cons rfl (fun K hK => ?_) ?_
        · go_simp
          go_at_call 15
          refine (implRange AE es.length cE es x x _ _ (HE.out.below EnR.stays hb1) (by omega) HK1.out).mono ?_
          rintro e w8 ⟨A8, c8, rfl, -, h8, hq8⟩
          rw [HR.out.1] at h8 ⊢
          have hb8 := hb1.trans (hq8.mono hb1.size)
          refine hK.out _ _ (keepI3 hHeld hq8) (fun hHeld => ?_)
          clear hK K
          (try simp only [Act.put, List.getElem_toArray, List.getElem_cons_zero, List.getElem_cons_succ, List.setIfInBounds_toArray, List.set_cons_zero, List.set_cons_succ])
          refine wpAnyH_ready (rs := [9]) (by kernel_rfl) (by simp) ?_
          refine AllReadyH.cons rfl (fun K hK => ?_) AllReadyH.nil
          go_simp
          refine hK.out _ _ (keepI3 hHeld ((Below.refl _ _).alloc (Nat.le_refl _) _)) (fun hHeld => ?_)
          clear hK K
          (try simp only [Act.put, List.getElem_toArray, List.getElem_cons_zero, List.getElem_cons_succ, List.setIfInBounds_toArray, List.set_cons_zero, List.set_cons_succ])
          refine wpAnyH_ready (rs := [10]) (by kernel_rfl) (by simp) ?_
          refine AllReadyH.cons rfl (fun K hK => ?_) AllReadyH.nil
          go_simp
          have hal := (Below.refl w8.heap.size w8).alloc (Nat.le_refl _) (.cells #[.int .i64 x.k, .int .i64 x.n, .string x.s] 34)
          have hKY := OwnG.slv (show OwnG 34 3 Vl.cells (w8.alloc (.cells #[.int .i64 x.k, .int .i64 x.n, .string x.s] 34)) w8.heap.size (.slice (some ⟨w8.heap.size, 0, none⟩) 1 1) [x] from OwnG.one w8 (Nat.le_refl _) x rfl)
          have hb9 := hb8.trans (hal.mono hb8.size)
          have h8 := h8.below IntR.stays hal
          go_at_call 28
          refine (implFindRows A1 (some ⟨bd, od, none⟩) (some ⟨bc, oc, none⟩) (some ⟨w8.heap.size, 0, none⟩) ts.length c1 ds.length c2 1 c3 1 1 ts ds m [(j : Int)] [x] _ _ _ _ _ (HS.out.below TbR.stays hb9) (HD.out.below DtR.stays hb9) (HC.out.below IntR.stays hb9) hKY HSS.out HDS.out (by omega) (by omega)).mono ?_
          rintro e w10 ⟨A10, c10, rfl, -, h10, hq10⟩
          rw [HR.out.2] at h10 ⊢
          have hb10 := hb9.trans (hq10.mono hb9.size)
          have h8 := h8.below IntR.stays hq10
          refine hK.out _ _ (keepI3 hHeld hq10) (fun hHeld => ?_)
          clear hK K
          (try simp only [Act.put, List.getElem_toArray, List.getElem_cons_zero, List.getElem_cons_succ, List.setIfInBounds_toArray, List.set_cons_zero, List.set_cons_succ])
          refine wpAnyH_ready (rs := [11]) (by kernel_rfl) (by simp) ?_
          refine AllReadyH.cons rfl (fun K hK => ?_) AllReadyH.nil
          go_simp
          go_at_call 13
          refine (lawsSameInts A8 A10 Q.length c8 c10 Q _ _ _ h8 h10 (by omega)).mono ?_
          rintro e w11 ⟨rfl, hq11⟩
          have hb11 := hb10.trans (hq11.mono hb10.size)
          refine hK.out _ _ (keepI3 hHeld hq11) (fun hHeld => ?_)
          clear hK K
          (try simp only [Act.put, List.getElem_toArray, List.getElem_cons_zero, List.getElem_cons_succ, List.setIfInBounds_toArray, List.set_cons_zero, List.set_cons_succ])
          refine tk 12 ?_
          refine wpAnyH_done (by kernel_rfl) ?_ _
          refine NoPanic.normal ?_
          clear hHeld
          go_wp2_with fail
          go_roundw
          case rel => exact ⟨k + 1, by omega, by go_num, hb11⟩
          case measure => simp [intOf]; omega
        refine AllReadyH.cons rfl (fun K hK => ?_) AllReadyH.nil
        go_simp
        refine hK.out _ _ (keepI3 hHeld ((Below.refl _ _).alloc (Nat.le_refl _) _)) (fun hHeld => ?_)
        clear hK K
        (try simp only [Act.put, List.getElem_toArray, List.getElem_cons_zero, List.getElem_cons_succ, List.setIfInBounds_toArray, List.set_cons_zero, List.set_cons_succ])
        refine wpAnyH_ready (rs := [3]) (by kernel_rfl) (by simp) ?_
        refine AllReadyH.cons rfl (fun K hK => ?_) AllReadyH.nil
        go_simp
        have hal := (Below.refl u1.heap.size u1).alloc (Nat.le_refl _) (.cells #[.int .i64 x.k, .int .i64 x.n, .string x.s] 34)
        have hKY := OwnG.slv (show OwnG 34 3 Vl.cells (u1.alloc (.cells #[.int .i64 x.k, .int .i64 x.n, .string x.s] 34)) u1.heap.size (.slice (some ⟨u1.heap.size, 0, none⟩) 1 1) [x] from OwnG.one u1 (Nat.le_refl _) x rfl)
        have hb9 := hb1.trans (hal.mono hb1.size)
        go_at_call 15
        refine (implRange AE es.length cE es x x _ _ (HE.out.below EnR.stays hb9) (by omega) HK1.out).mono ?_
        rintro e w8 ⟨A8, c8, rfl, -, h8, hq8⟩
        rw [HR.out.1] at h8 ⊢
        have hb8 := hb9.trans (hq8.mono hb9.size)
        have hKY := hKY.below VlR.stays hq8
        refine hK.out _ _ (keepI3 hHeld hq8) (fun hHeld => ?_)
        clear hK K
        (try simp only [Act.put, List.getElem_toArray, List.getElem_cons_zero, List.getElem_cons_succ, List.setIfInBounds_toArray, List.set_cons_zero, List.set_cons_succ])
        refine wpAnyH_ready (rs := [10]) (by kernel_rfl) (by simp) ?_
        refine AllReadyH.cons rfl (fun K hK => ?_) AllReadyH.nil
        go_simp
        go_at_call 28
        refine (implFindRows A1 (some ⟨bd, od, none⟩) (some ⟨bc, oc, none⟩) (some ⟨u1.heap.size, 0, none⟩) ts.length c1 ds.length c2 1 c3 1 1 ts ds m [(j : Int)] [x] _ _ _ _ _ (HS.out.below TbR.stays hb8) (HD.out.below DtR.stays hb8) (HC.out.below IntR.stays hb8) hKY HSS.out HDS.out (by omega) (by omega)).mono ?_
        rintro e w10 ⟨A10, c10, rfl, -, h10, hq10⟩
        rw [HR.out.2] at h10 ⊢
        have hb10 := hb8.trans (hq10.mono hb8.size)
        have h8 := h8.below IntR.stays hq10
        refine hK.out _ _ (keepI3 hHeld hq10) (fun hHeld => ?_)
        clear hK K
        (try simp only [Act.put, List.getElem_toArray, List.getElem_cons_zero, List.getElem_cons_succ, List.setIfInBounds_toArray, List.set_cons_zero, List.set_cons_succ])
        refine wpAnyH_ready (rs := [11]) (by kernel_rfl) (by simp) ?_
        refine AllReadyH.cons rfl (fun K hK => ?_) AllReadyH.nil
        go_simp
        go_at_call 13
        refine (lawsSameInts A8 A10 Q.length c8 c10 Q _ _ _ h8 h10 (by omega)).mono ?_
        rintro e w11 ⟨rfl, hq11⟩
        have hb11 := hb10.trans (hq11.mono hb10.size)
        refine hK.out _ _ (keepI3 hHeld hq11) (fun hHeld => ?_)
        clear hK K
        (try simp only [Act.put, List.getElem_toArray, List.getElem_cons_zero, List.getElem_cons_succ, List.setIfInBounds_toArray, List.set_cons_zero, List.set_cons_succ])
        refine tk 12 ?_
        refine wpAnyH_done (by kernel_rfl) ?_ _
        refine NoPanic.normal ?_
        clear hHeld
        go_wp2_with fail
        go_roundw
        case rel => exact ⟨k + 1, by omega, by go_num, hb11⟩
        case measure => simp [intOf]; omega
    · have i1 : ¬ (k : Int) < ds[m].rows.length := by omega
      go_wp2_with fail
      go_ret
      exact ⟨rfl, hz.trans (hb.mono hz.size)⟩

set_option maxRecDepth 100000 in
theorem lifted (os : Os) (started : os.Started) (H : Type) (enc : TypeId × Value → H) :
    ReturnsInHanded {} Tryz.checked os 7 .any (Rows.fnIndexedSpec.pre6 enc Tryz.prog Tryz.f7 Rows.fnIndexedRow.domain false) (Rows.fnIndexedSpec.post enc Tryz.prog Tryz.f7 false true false false) := by
  refine returnsInHanded_of_change (C := Tryz.checked) own started (by kernel_rfl) Tryz.func7
    (ChangeSpec.witness6 (enc := enc) (C := Tryz.checked) false ⟨#[], #[.slice none 0 0], []⟩ 8 (by kernel_rfl) (by kernel_rfl) (by kernel_rfl) (by kernel_rfl)) ?_
  intro W base args ds gs before hval0 hW hcnd _
  have hval : ∀ (j : Nat) t v, Tryz.f7.params[j]? = some t → args[j]? = some v → Value.okWide Tryz.prog W .any base t v := hval0
  have hW' := hW
  obtain ⟨p, q, hA0, hV, rfl, hfz, hnd⟩ := hW
  have hA : DataW.TrodAll enc Tryz.prog W 0 (fun _ => true) true Tryz.f7.params.toList args.toList ds p := hA0
  rw [Tryz.params7] at hA hval
  obtain ⟨v0, vs0, d0, ds0, p0, q0, hargs, rfl, rfl, h0, r0⟩ := trodAll_cons hA
  obtain ⟨rfl, rfl, rfl⟩ := trodAll_nil r0
  obtain rfl : args = #[v0] := by cases args; simp_all
  obtain ⟨rfl, rfl⟩ := trodVars_none hV
  have k0' := h0
  have lt0 : ∀ x ∈ p0, x.block < W.heap.size := by obtain ⟨m, hm⟩ := k0'; exact DataW.trod_lt m _ _ _ hm
  obtain ⟨a0, len0, cap0, rfl⟩ := okWide_slice Tryz.underlying22 (hval 0 22 v0 rfl rfl)
  obtain ⟨z0, w0⟩ := isRow_of_trod Tryz.underlying22 Tryz.underlying5 (by kernel_rfl) h0
  clear hA0 hval0
  refine (walk a0 len0 cap0 z0 W w0).mono fun e W' ⟨he, bel⟩ => ?_
  subst he
  exact ⟨_, rfl, _, _, _, [], _, [], hW', trodAll_mk1 (shut_bool Tryz.underlying4 _), (trodAll_cons_mk (Below.trod laidOut (by kernel_rfl) (of_decide_eq_true (by kernel_rfl)) k0' bel lt0) trodAll_mk0), rfl, bel.frame _, fun h => by cases h⟩

set_option maxRecDepth 100000 in
set_option maxHeartbeats 16000000 in
theorem facts : joinedFacts Tryz.checked.prog 7 Tryz.f7 Rows.fnIndexedSpec Rows.fnIndexedRow = true := by
  unfold joinedFacts
  repeat' (with_reducible refine Bool.and_eq_true_iff.2 ⟨?_, ?_⟩)
  all_goals (as_aux_lemma => kernel_rfl)

theorem over : Rows.fnIndexedRow.holds Tryz.pinned (OpenSpec.ofChange Rows.fnIndexedSpec) :=
  OpenClaim.holds_of_wide 7 Tryz.f7 rfl rfl rfl rfl rfl rfl rfl ⟨rfl, rfl, rfl, rfl, rfl⟩ rfl rfl rfl rfl rfl (by kernel_rfl) Tryz.func7 facts
    (of_decide_eq_true (by as_aux_lemma => kernel_rfl)) (by unfold Func.isWrapper; first | (rw [if_pos (by decide +kernel)]; kernel_rfl) | (rw [if_neg (by decide +kernel)]; exact ⟨rfl, rfl⟩))
    (fun os started H enc _ => lifted os started H enc)

theorem proved : Rows.FnIndexedSaid := over
#print axioms proved
end Go.Proofs.YtciaidjmehelpaaGreat.fnIndexed
