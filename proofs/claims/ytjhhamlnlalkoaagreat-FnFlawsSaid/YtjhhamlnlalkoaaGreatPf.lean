/-
  Several texts in one: what the proof leans on, part 6.
-/
import Derived.Test.YtjhhamlnlalkoaaGreatPc
import Derived.Test.YtjhhamlnlalkoaaGreatPd
import Derived.Test.YtjhhamlnlalkoaaGreatPb
set_option linter.unusedVariables false
set_option linter.unusedSimpArgs false
namespace Go.Proofs.YtjhhamlnlalkoaaGreat
open Go.RowKit Go.Maps
theorem act_in (a : Int) : actB a = (decide (0 ≤ a) && decide (a ≤ 2)) := by
 unfold actB; rw [Bool.eq_iff_iff]; simp; omega
theorem exprB_l2n {ts : List Tk} {n : Nat} (hn : n ≤ 16) : exprB ts n = l2B ts n := by
 have h0 : (0 : Int) ≤ n := by omega
 have h1 : (n : Int) ≤ 16 := by omega
 simp only [exprB, l2B, h0, h1, decide_true, Bool.true_and]
 exact Bool.and_comm _ _
theorem kind_in (k : Int) : (k == 1 || k == 2) = (decide (1 ≤ k) && decide (k ≤ 2)) := by
 rw [Bool.eq_iff_iff]; simp; omega
theorem uniqGo_at (l : List ByteArray) (k : Nat) (h : k < l.length) : uniqGo (l.take k) (l.drop k) = (decide (atN (l.take k) l[k] = -1) && uniqGo (l.take (k + 1)) (l.drop (k + 1))) := by
 rw [List.drop_eq_getElem_cons h, List.take_succ_eq_append_getElem h]; rfl
set_option maxRecDepth 100000 in
set_option maxHeartbeats 4000000 in
theorem specTableOk (x : Tb) (A1 : Option Addr) (n1 c1 : Nat) (A2 : Option Addr) (n2 c2 : Nat) (A3 : Option Addr) (n3 c3 : Nat) (A4 : Option Addr) (n4 c4 : Nat) (A5 : Option Addr) (n5 c5 : Nat) (ok : Nat → Prop) (w : World)
  (h1 : Sl ClR 6 ok w A1 n1 x.cols) (h2 : Sl IntR 1 ok w A2 n2 x.key) (h3 : Sl UqR 1 ok w A3 n3 x.uniqs) (h4 : Sl CkR 1 ok w A4 n4 x.checks) (h5 : Sl FkR 5 ok w A5 n5 x.fks) (hcp : n1 ≤ c1 ∧ n2 ≤ c2 ∧ n3 ≤ c3 ∧ n4 ≤ c4 ∧ n5 ≤ c5) (hs : x.sz ≤ 1048576) :
  Calls Tryz.prog 55 #[.agg #[.string x.name, .slice A1 n1 c1, .slice A2 n2 c2, .slice A3 n3 c3, .slice A4 n4 c4, .slice A5 n5 c5]] w fun e w' => e = .returned (.bool (tableB x)) ∧ Below w.heap.size w w' := by
 obtain rfl : x.cols.length = n1 := h1.1
 obtain rfl : x.key.length = n2 := h2.1
 have HNM := Lib.hid (show x.name.size ≤ maxLen by unfold Tb.sz at hs; unfold maxLen; omega)
 have HS1 := Lib.hid (show szL Cl.sz x.cols ≤ 1048576 by unfold Tb.sz at hs; omega)
 have HS3 := Lib.hid (show szL Uq.sz x.uniqs ≤ 1048576 by unfold Tb.sz at hs; omega)
 have HS4 := Lib.hid (show szL Ck.sz x.checks ≤ 1048576 by unfold Tb.sz at hs; omega)
 have HS5 := Lib.hid (show szL Fk.sz x.fks ≤ 1048576 by unfold Tb.sz at hs; omega)
 have hl1 : x.cols.length ≤ 1048576 := by unfold Tb.sz szL at hs; omega
 have hl2 : x.key.length ≤ 1048576 := by unfold Tb.sz at hs; omega
 obtain rfl : x.uniqs.length = n3 := h3.1
 obtain rfl : x.checks.length = n4 := h4.1
 obtain rfl : x.fks.length = n5 := h5.1
 have hl3 : x.uniqs.length ≤ 1048576 := by unfold Tb.sz szL at hs; omega
 have hl4 : x.checks.length ≤ 1048576 := by unfold Tb.sz szL at hs; omega
 have hl5 : x.fks.length ≤ 1048576 := by unfold Tb.sz szL at hs; omega
 have hcp2 := hcp.2.1
 have hcp1 := hcp.1
 clear hs hcp
 have hb0 := (Below.refl w.heap.size w).alloc (Nat.le_refl _) (.cells #[.string x.name, .slice A1 x.cols.length c1, .slice A2 x.key.length c2, .slice A3 x.uniqs.length c3, .slice A4 x.checks.length c4, .slice A5 x.fks.length c5] 45)
 have r0 := Row.new w 45 #[.string x.name, .slice A1 x.cols.length c1, .slice A2 x.key.length c2, .slice A3 x.uniqs.length c3, .slice A4 x.checks.length c4, .slice A5 x.fks.length c5]
 cases hN : nameB x.name
 ·skip
  have HN0 := Lib.hid hN
  have HF := Lib.hid (show tableB x = false by unfold tableB; rw [hN]; rfl)
  clear hN
  go_enter Tryz.func55, Tryz.ntmps55
  go_wp2_with fail
  refine (specName _ _ HNM.out).mono ?_
  rintro e w1 ⟨rfl, rfl⟩
  rw [HN0.out]
  go_wp2_with fail
  go_ret
  exact ⟨retB HF.out.symm, hb0⟩
 have HN0 := Lib.hid hN
 clear hN
 cases h8 : (decide (1 ≤ (x.cols.length : Int)) && decide ((x.cols.length : Int) ≤ 8))
 ·skip
  have H8 := Lib.hid h8
  have HF := Lib.hid (show tableB x = false by
   have : colsB x.cols = false := by
    unfold colsB
    by_cases e : 1 ≤ x.cols.length
    ·have e2 : ¬ x.cols.length ≤ 8 := by intro e3; simp [e3] at h8; omega
     rw [decide_eq_false e2]; simp
    ·rw [decide_eq_false e]; rfl
   unfold tableB; rw [this]; simp)
  clear h8
  go_enter Tryz.func55, Tryz.ntmps55
  go_wp2_with fail
  refine (specName _ _ HNM.out).mono ?_
  rintro e w1 ⟨rfl, rfl⟩
  rw [HN0.out]
  go_wp2_with fail
  refine (specIn _ _ _ _).mono ?_
  rintro e w1 ⟨rfl, rfl⟩
  rw [H8.out]
  go_wp2_with fail
  go_ret
  exact ⟨retB HF.out.symm, hb0⟩
 have H8 := Lib.hid h8
 have hlen8 : x.cols.length ≤ 8 := by simp at h8; omega
 clear h8
 cases hK : colsInB x.key x.cols.length
 ·skip
  have HK := Lib.hid hK
  have HF := Lib.hid (show tableB x = false by unfold tableB keyB; rw [hK]; simp)
  clear hK
  go_enter Tryz.func55, Tryz.ntmps55
  go_wp2_with fail
  refine (specName _ _ HNM.out).mono ?_
  rintro e w1 ⟨rfl, rfl⟩
  rw [HN0.out]
  go_wp2_with fail
  refine (specIn _ _ _ _).mono ?_
  rintro e w1 ⟨rfl, rfl⟩
  rw [H8.out]
  go_wp2_with fail
  refine (specCols A2 x.key.length c2 x.key x.cols.length ok _ (h2.below IntR.stays hb0) hcp2 hl2 (by omega) (by omega)).mono ?_
  rintro e w2 ⟨rfl, hq1⟩
  rw [HK.out]
  go_wp2_with fail
  go_ret
  exact ⟨retB HF.out.symm, hb0.trans (hq1.mono hb0.size)⟩
 have HK := Lib.hid hK
 have HIN := Lib.hid (colsInB_len hK).2
 clear hK
 by_cases hu : 3 < (x.uniqs.length : Int)
 ·skip
  have HF := Lib.hid (show tableB x = false by unfold tableB uqsB; rw [decide_eq_false (p := x.uniqs.length ≤ 3) (by have := h3.1; omega)]; simp)
  go_enter Tryz.func55, Tryz.ntmps55
  go_wp2_with fail
  refine (specName _ _ HNM.out).mono ?_
  rintro e w1 ⟨rfl, rfl⟩
  rw [HN0.out]
  go_wp2_with fail
  refine (specIn _ _ _ _).mono ?_
  rintro e w1 ⟨rfl, rfl⟩
  rw [H8.out]
  go_wp2_with fail
  refine (specCols A2 x.key.length c2 x.key x.cols.length ok _ (h2.below IntR.stays hb0) hcp2 hl2 (by omega) (by omega)).mono ?_
  rintro e w2 ⟨rfl, hq1⟩
  rw [HK.out]
  obtain ⟨⟨a0, a1, a2, a3, a4, a5⟩, -⟩ := (r0.below hq1).all6
  go_wp2_with fail
  go_ret
  exact ⟨retB HF.out.symm, hb0.trans (hq1.mono hb0.size)⟩
 have hu' : decide (3 < (x.uniqs.length : Int)) = false := by simpa using hu
 by_cases hc : 3 < (x.checks.length : Int)
 ·skip
  have HF := Lib.hid (show tableB x = false by unfold tableB cksB; rw [decide_eq_false (p := x.checks.length ≤ 3) (by have := h4.1; omega)]; simp)
  go_enter Tryz.func55, Tryz.ntmps55
  go_wp2_with fail
  refine (specName _ _ HNM.out).mono ?_
  rintro e w1 ⟨rfl, rfl⟩
  rw [HN0.out]
  go_wp2_with fail
  refine (specIn _ _ _ _).mono ?_
  rintro e w1 ⟨rfl, rfl⟩
  rw [H8.out]
  go_wp2_with fail
  refine (specCols A2 x.key.length c2 x.key x.cols.length ok _ (h2.below IntR.stays hb0) hcp2 hl2 (by omega) (by omega)).mono ?_
  rintro e w2 ⟨rfl, hq1⟩
  rw [HK.out]
  obtain ⟨⟨a0, a1, a2, a3, a4, a5⟩, -⟩ := (r0.below hq1).all6
  go_wp2_with fail
  go_ret
  exact ⟨retB HF.out.symm, hb0.trans (hq1.mono hb0.size)⟩
 have hc' : decide (3 < (x.checks.length : Int)) = false := by simpa using hc
 by_cases hf : 3 < (x.fks.length : Int)
 ·skip
  have HF := Lib.hid (show tableB x = false by unfold tableB fksB; rw [decide_eq_false (p := x.fks.length ≤ 3) (by have := h5.1; omega)]; simp)
  go_enter Tryz.func55, Tryz.ntmps55
  go_wp2_with fail
  refine (specName _ _ HNM.out).mono ?_
  rintro e w1 ⟨rfl, rfl⟩
  rw [HN0.out]
  go_wp2_with fail
  refine (specIn _ _ _ _).mono ?_
  rintro e w1 ⟨rfl, rfl⟩
  rw [H8.out]
  go_wp2_with fail
  refine (specCols A2 x.key.length c2 x.key x.cols.length ok _ (h2.below IntR.stays hb0) hcp2 hl2 (by omega) (by omega)).mono ?_
  rintro e w2 ⟨rfl, hq1⟩
  rw [HK.out]
  obtain ⟨⟨a0, a1, a2, a3, a4, a5⟩, -⟩ := (r0.below hq1).all6
  go_wp2_with fail
  go_ret
  exact ⟨retB HF.out.symm, hb0.trans (hq1.mono hb0.size)⟩
 have hf' : decide (3 < (x.fks.length : Int)) = false := by simpa using hf
 go_enter Tryz.func55, Tryz.ntmps55
 go_wp2_with fail
 refine (specName _ _ HNM.out).mono ?_
 rintro e w1 ⟨rfl, rfl⟩
 rw [HN0.out]
 go_wp2_with fail
 refine (specIn _ _ _ _).mono ?_
 rintro e w1 ⟨rfl, rfl⟩
 rw [H8.out]
 go_wp2_with fail
 refine (specCols A2 x.key.length c2 x.key x.cols.length ok _ (h2.below IntR.stays hb0) hcp2 hl2 (by omega) (by omega)).mono ?_
 rintro e w2 ⟨rfl, hq1⟩
 rw [HK.out]
 have hb1 := hb0.trans (hq1.mono hb0.size)
 have r1 := r0.below hq1
 obtain ⟨⟨a0, a1, a2, a3, a4, a5⟩, -⟩ := r1.all6
 go_wp2_with fail
 clear a0 a1 a2 a3 a4 a5 r0
 go_loopw [4] (fun i wr => ∃ k : Nat, k ≤ x.cols.length ∧ i = .int .i64 k ∧ Hid ((x.cols.take k).all colB = true) ∧ Hid (uniqGo [] (x.cols.map Cl.name) = uniqGo ((x.cols.map Cl.name).take k) ((x.cols.map Cl.name).drop k)) ∧ Row wr w.heap.size 45 #[.string x.name, .slice A1 x.cols.length c1, .slice A2 x.key.length c2, .slice A3 x.uniqs.length c3, .slice A4 x.checks.length c4, .slice A5 x.fks.length c5] ∧ Below w.heap.size w wr) (fun i _ => x.cols.length - (intOf i).toNat)
 case atStart => exact ⟨0, by omega, rfl, Lib.hid (by simp), Lib.hid (by simp), r1, hb1⟩
 case round =>
  obtain ⟨k, hk, rfl, hall, huq, hr, hb⟩ := hrel
  obtain ⟨⟨a0, a1, a2, a3, a4, a5⟩, -⟩ := hr.all6
  by_cases hlt : k < x.cols.length
  ·obtain ⟨b, off, -, rfl, q0, q1, q2, q3, q4, q5⟩ := ClR.at_ (h1.below ClR.stays hb) hlt
   have HZ := Lib.hid (cl_name_le HS1.out k hlt)
   have i0 : (0 : Int) ≤ k := by omega
   have i1 : (k : Int) < x.cols.length := by omega
   have i3 : (k : Int) ≤ c1 := by omega
   have hsl := (h1.below ClR.stays hb)
   have hsl := hsl.below ClR.stays ((Below.refl wr.heap.size wr).alloc (Nat.le_refl _) (.cells #[.string x.cols[k].name, .int .i64 x.cols[k].kind, .bool x.cols[k].nn, .int .i64 x.cols[k].d.k, .int .i64 x.cols[k].d.n, .string x.cols[k].d.s] 55))
   have hug := uniqGo_at (x.cols.map Cl.name) k (by simpa using hlt)
   rw [← huq.out, List.getElem_map, ← List.map_take] at hug
   have HNO := Lib.hid (fun hf : colB x.cols[k] = false => show tableB x = false by unfold tableB colsB; rw [all_no colB x.cols k hlt hf]; simp)
   have HDU := Lib.hid (fun hf : ¬ atN ((x.cols.take k).map Cl.name) x.cols[k].name = -1 => show tableB x = false by
    unfold tableB colsB; rw [hug, decide_eq_false hf]; simp)
   have HUN := Lib.hid (fun hf : atN ((x.cols.take k).map Cl.name) x.cols[k].name = -1 => show uniqGo [] (x.cols.map Cl.name) = uniqGo ((x.cols.map Cl.name).take (k + 1)) ((x.cols.map Cl.name).drop (k + 1)) by
    rw [hug, decide_eq_true hf, Bool.true_and])
   have HCN := Lib.hid (fun hf : colB x.cols[k] = true => show (x.cols.take (k + 1)).all colB = true by rw [all_take colB x.cols k hlt, hall.out, hf]; rfl)
   clear hug hall huq
   generalize x.cols[k] = cl at *
   have hbx := (Below.refl wr.heap.size wr).alloc (Nat.le_refl _) (.cells #[.string cl.name, .int .i64 cl.kind, .bool cl.nn, .int .i64 cl.d.k, .int .i64 cl.d.n, .string cl.d.s] 55)
   have hba := hb.trans (hbx.mono hb.size)
   have rk := Row.new wr 55 #[.string cl.name, .int .i64 cl.kind, .bool cl.nn, .int .i64 cl.d.k, .int .i64 cl.d.n, .string cl.d.s]
   have hr1 := hr.below hbx
   clear hr
   cases hn : nameB cl.name
   ·skip
    have HN := Lib.hid hn
    have HF := Lib.hid (HNO.out (by unfold colB; rw [hn]; rfl))
    clear hn
    go_wp2_with fail
    generalize wr.alloc (.cells #[.string cl.name, .int .i64 cl.kind, .bool cl.nn, .int .i64 cl.d.k, .int .i64 cl.d.n, .string cl.d.s] 55) = x1 at *
    obtain ⟨⟨k0, k1, k2, k3, k4, k5⟩, -⟩ := rk.all6
    obtain ⟨⟨t0, t1, t2, t3, t4, t5⟩, -⟩ := hr1.all6
    refine wp_region_noPanic ?_
    refine wp_region_held_drew (S := fun w' => w'.cell? ⟨wr.heap.size, 0, none⟩ = some (.string cl.name) ∧ w'.cell? ⟨wr.heap.size, 1, none⟩ = some (.int .i64 cl.kind) ∧ w'.cell? ⟨wr.heap.size, 2, none⟩ = some (.bool cl.nn) ∧ w'.cell? ⟨wr.heap.size, 3, none⟩ = some (.int .i64 cl.d.k) ∧ w'.cell? ⟨wr.heap.size, 4, none⟩ = some (.int .i64 cl.d.n) ∧ w'.cell? ⟨wr.heap.size, 5, none⟩ = some (.string cl.d.s) ∧ w'.cell? ⟨w.heap.size, 1, none⟩ = some (.slice (some ⟨b, off, none⟩) x.cols.length c1)) (by kernel_rfl) ⟨k0, k1, k2, k3, k4, k5, t1⟩ (fun hHeld => ?_)
    refine tk 0 ?_
    refine tk 1 ?_
    refine wpAnyH_ready (rs := [2]) (by kernel_rfl) (by simp) ?_
    refine AllReadyH.cons rfl (fun K hK => ?_) AllReadyH.nil
    go_simp
    refine (specName _ _ HZ.out).mono ?_
    rintro e wa ⟨rfl, rfl⟩
    rw [HN.out]
    go_wp2_with fail
    refine hK.out _ _ hHeld (fun hHeld => ?_)
    clear hK K
    (try simp only [Act.put, pz0, pz1, pz2, pz3, pz4, pz5])
    refine tk 3 ?_
    refine tk 4 ?_
    refine tu 5 ?_
    refine tu 6 ?_
    refine tu 7 ?_
    refine tu 8 ?_
    refine tu 9 ?_
    refine tu 10 ?_
    refine tu 11 ?_
    refine tu 12 ?_
    refine tu 13 ?_
    refine tk 14 ?_
    refine tk 15 ?_
    refine tu 16 ?_
    refine tu 17 ?_
    refine tu 18 ?_
    refine tu 19 ?_
    refine tk 20 ?_
    refine tk 21 ?_
    refine tu 22 ?_
    refine tu 23 ?_
    refine tu 24 ?_
    refine tu 25 ?_
    refine tk 26 ?_
    refine tk 27 ?_
    refine tu 28 ?_
    refine tu 29 ?_
    refine tu 30 ?_
    refine tu 31 ?_
    refine tu 32 ?_
    refine tu 33 ?_
    refine tu 34 ?_
    refine tu 35 ?_
    refine tu 36 ?_
    refine tu 37 ?_
    refine tu 38 ?_
    refine tu 39 ?_
    refine tk 40 ?_
    refine wpAnyH_done (by kernel_rfl) ?_ _
    refine NoPanic.normal ?_
    have hz0 := hba.drew
    have rz0 := hr1.drew
    clear hHeld k0 k1 k2 k3 k4 k5 t0 t1 t2 t3 t4 t5
    go_wp2_with fail
    go_ret
    exact ⟨retB HF.out.symm, hz0⟩
   have HN := Lib.hid hn
   by_cases hat : atN ((x.cols.take k).map Cl.name) cl.name = -1
   case neg =>
    have HF := Lib.hid (HDU.out hat)
    obtain ⟨j, hj, hj0⟩ : ∃ j : Int, j = atN ((x.cols.take k).map Cl.name) cl.name ∧ 0 ≤ j := ⟨_, rfl, by rcases atN_rng ((x.cols.take k).map Cl.name) cl.name with h | h; exact absurd h hat; exact h.1⟩
    have HJ := Lib.hid hj
    clear hat hj hn
    go_wp2_with fail
    generalize wr.alloc (.cells #[.string cl.name, .int .i64 cl.kind, .bool cl.nn, .int .i64 cl.d.k, .int .i64 cl.d.n, .string cl.d.s] 55) = x1 at *
    obtain ⟨⟨k0, k1, k2, k3, k4, k5⟩, -⟩ := rk.all6
    obtain ⟨⟨t0, t1, t2, t3, t4, t5⟩, -⟩ := hr1.all6
    refine wp_region_noPanic ?_
    refine wp_region_held_drew (S := fun w' => w'.cell? ⟨wr.heap.size, 0, none⟩ = some (.string cl.name) ∧ w'.cell? ⟨wr.heap.size, 1, none⟩ = some (.int .i64 cl.kind) ∧ w'.cell? ⟨wr.heap.size, 2, none⟩ = some (.bool cl.nn) ∧ w'.cell? ⟨wr.heap.size, 3, none⟩ = some (.int .i64 cl.d.k) ∧ w'.cell? ⟨wr.heap.size, 4, none⟩ = some (.int .i64 cl.d.n) ∧ w'.cell? ⟨wr.heap.size, 5, none⟩ = some (.string cl.d.s) ∧ w'.cell? ⟨w.heap.size, 1, none⟩ = some (.slice (some ⟨b, off, none⟩) x.cols.length c1)) (by kernel_rfl) ⟨k0, k1, k2, k3, k4, k5, t1⟩ (fun hHeld => ?_)
    refine tk 0 ?_
    refine tk 1 ?_
    refine wpAnyH_ready (rs := [2]) (by kernel_rfl) (by simp) ?_
    refine AllReadyH.cons rfl (fun K hK => ?_) AllReadyH.nil
    go_simp
    refine (specName _ _ HZ.out).mono ?_
    rintro e wa ⟨rfl, rfl⟩
    rw [HN.out]
    go_wp2_with fail
    refine hK.out _ _ hHeld (fun hHeld => ?_)
    clear hK K
    (try simp only [Act.put, pz0, pz1, pz2, pz3, pz4, pz5])
    refine tk 3 ?_
    refine tk 4 ?_
    refine tk 5 ?_
    refine tk 6 ?_
    refine tk 7 ?_
    refine tk 8 ?_
    refine tk 9 ?_
    refine tk 10 ?_
    refine tk 11 ?_
    refine wpAnyH_ready (rs := [12]) (by kernel_rfl) (by simp) ?_
    refine AllReadyH.cons rfl (fun K hK => ?_) AllReadyH.nil
    go_simp
    refine (specColAt _ k c1 _ _ _ _ _ (x.cols.take k) _ ok _ ((hsl.drew ClR.stays).take (m := k) (by omega)) (by omega)).mono ?_
    rintro e wb ⟨rfl, hqb⟩
    rw [← HJ.out]
    go_wp2_with fail
    refine hK.out _ _ ⟨below_keep hqb _ _ hHeld.1, below_keep hqb _ _ hHeld.2.1, below_keep hqb _ _ hHeld.2.2.1, below_keep hqb _ _ hHeld.2.2.2.1, below_keep hqb _ _ hHeld.2.2.2.2.1, below_keep hqb _ _ hHeld.2.2.2.2.2.1, below_keep hqb _ _ hHeld.2.2.2.2.2.2⟩ (fun hHeld => ?_)
    clear hK K
    (try simp only [Act.put, pz0, pz1, pz2, pz3, pz4, pz5])
    refine tk 13 ?_
    refine tk 14 ?_
    refine tk 15 ?_
    refine tu 16 ?_
    refine tu 17 ?_
    refine tu 18 ?_
    refine tu 19 ?_
    refine tk 20 ?_
    refine tk 21 ?_
    refine tu 22 ?_
    refine tu 23 ?_
    refine tu 24 ?_
    refine tu 25 ?_
    refine tk 26 ?_
    refine tk 27 ?_
    refine tu 28 ?_
    refine tu 29 ?_
    refine tu 30 ?_
    refine tu 31 ?_
    refine tu 32 ?_
    refine tu 33 ?_
    refine tu 34 ?_
    refine tu 35 ?_
    refine tu 36 ?_
    refine tu 37 ?_
    refine tu 38 ?_
    refine tu 39 ?_
    refine tk 40 ?_
    refine wpAnyH_done (by kernel_rfl) ?_ _
    refine NoPanic.normal ?_
    have hz0 := hba.drew
    have rz0 := hr1.drew
    have hz1 := hz0.trans (hqb.mono hz0.size)
    have rz1 := rz0.below hqb
    clear hHeld k0 k1 k2 k3 k4 k5 t0 t1 t2 t3 t4 t5
    go_wp2_with fail
    go_ret
    exact ⟨retB HF.out.symm, hz1⟩
   have HA := Lib.hid hat
   have HUQ := Lib.hid (HUN.out hat)
   clear hat
   cases hkd : (decide (1 ≤ cl.kind) && decide (cl.kind ≤ 2))
   ·skip
    have HKD := Lib.hid hkd
    have HF := Lib.hid (HNO.out (by unfold colB; rw [kind_in, hkd, Bool.false_and, Bool.and_false]))
    clear hkd hn
    go_wp2_with fail
    generalize wr.alloc (.cells #[.string cl.name, .int .i64 cl.kind, .bool cl.nn, .int .i64 cl.d.k, .int .i64 cl.d.n, .string cl.d.s] 55) = x1 at *
    obtain ⟨⟨k0, k1, k2, k3, k4, k5⟩, -⟩ := rk.all6
    obtain ⟨⟨t0, t1, t2, t3, t4, t5⟩, -⟩ := hr1.all6
    refine wp_region_noPanic ?_
    refine wp_region_held_drew (S := fun w' => w'.cell? ⟨wr.heap.size, 0, none⟩ = some (.string cl.name) ∧ w'.cell? ⟨wr.heap.size, 1, none⟩ = some (.int .i64 cl.kind) ∧ w'.cell? ⟨wr.heap.size, 2, none⟩ = some (.bool cl.nn) ∧ w'.cell? ⟨wr.heap.size, 3, none⟩ = some (.int .i64 cl.d.k) ∧ w'.cell? ⟨wr.heap.size, 4, none⟩ = some (.int .i64 cl.d.n) ∧ w'.cell? ⟨wr.heap.size, 5, none⟩ = some (.string cl.d.s) ∧ w'.cell? ⟨w.heap.size, 1, none⟩ = some (.slice (some ⟨b, off, none⟩) x.cols.length c1)) (by kernel_rfl) ⟨k0, k1, k2, k3, k4, k5, t1⟩ (fun hHeld => ?_)
    refine tk 0 ?_
    refine tk 1 ?_
    refine wpAnyH_ready (rs := [2]) (by kernel_rfl) (by simp) ?_
    refine AllReadyH.cons rfl (fun K hK => ?_) AllReadyH.nil
    go_simp
    refine (specName _ _ HZ.out).mono ?_
    rintro e wa ⟨rfl, rfl⟩
    rw [HN.out]
    go_wp2_with fail
    refine hK.out _ _ hHeld (fun hHeld => ?_)
    clear hK K
    (try simp only [Act.put, pz0, pz1, pz2, pz3, pz4, pz5])
    refine tk 3 ?_
    refine tk 4 ?_
    refine tk 5 ?_
    refine tk 6 ?_
    refine tk 7 ?_
    refine tk 8 ?_
    refine tk 9 ?_
    refine tk 10 ?_
    refine tk 11 ?_
    refine wpAnyH_ready (rs := [12]) (by kernel_rfl) (by simp) ?_
    refine AllReadyH.cons rfl (fun K hK => ?_) AllReadyH.nil
    go_simp
    refine (specColAt _ k c1 _ _ _ _ _ (x.cols.take k) _ ok _ ((hsl.drew ClR.stays).take (m := k) (by omega)) (by omega)).mono ?_
    rintro e wb ⟨rfl, hqb⟩
    rw [HA.out]
    go_wp2_with fail
    refine hK.out _ _ ⟨below_keep hqb _ _ hHeld.1, below_keep hqb _ _ hHeld.2.1, below_keep hqb _ _ hHeld.2.2.1, below_keep hqb _ _ hHeld.2.2.2.1, below_keep hqb _ _ hHeld.2.2.2.2.1, below_keep hqb _ _ hHeld.2.2.2.2.2.1, below_keep hqb _ _ hHeld.2.2.2.2.2.2⟩ (fun hHeld => ?_)
    clear hK K
    (try simp only [Act.put, pz0, pz1, pz2, pz3, pz4, pz5])
    refine tk 13 ?_
    refine tk 14 ?_
    refine tk 15 ?_
    refine tk 16 ?_
    refine tk 17 ?_
    refine wpAnyH_ready (rs := [18]) (by kernel_rfl) (by simp) ?_
    refine AllReadyH.cons rfl (fun K hK => ?_) AllReadyH.nil
    go_simp
    refine (specIn _ _ _ _).mono ?_
    rintro e wc ⟨rfl, rfl⟩
    rw [HKD.out]
    go_wp2_with fail
    refine hK.out _ _ hHeld (fun hHeld => ?_)
    clear hK K
    (try simp only [Act.put, pz0, pz1, pz2, pz3, pz4, pz5])
    refine tk 19 ?_
    refine tk 20 ?_
    refine tk 21 ?_
    refine tu 22 ?_
    refine tu 23 ?_
    refine tu 24 ?_
    refine tu 25 ?_
    refine tk 26 ?_
    refine tk 27 ?_
    refine tu 28 ?_
    refine tu 29 ?_
    refine tu 30 ?_
    refine tu 31 ?_
    refine tu 32 ?_
    refine tu 33 ?_
    refine tu 34 ?_
    refine tu 35 ?_
    refine tu 36 ?_
    refine tu 37 ?_
    refine tu 38 ?_
    refine tu 39 ?_
    refine tk 40 ?_
    refine wpAnyH_done (by kernel_rfl) ?_ _
    refine NoPanic.normal ?_
    have hz0 := hba.drew
    have rz0 := hr1.drew
    have hz1 := hz0.trans (hqb.mono hz0.size)
    have rz1 := rz0.below hqb
    clear hHeld k0 k1 k2 k3 k4 k5 t0 t1 t2 t3 t4 t5
    go_wp2_with fail
    go_ret
    exact ⟨retB HF.out.symm, hz1⟩
   have HKD := Lib.hid hkd
   cases hv : valOkB cl.d.k cl.d.n cl.d.s
   ·skip
    have HV := Lib.hid hv
    have HF := Lib.hid (HNO.out (by unfold colB fitsB; rw [hv, Bool.false_and, Bool.and_false, Bool.and_false]))
    clear hkd hn hv
    go_wp2_with fail
    generalize wr.alloc (.cells #[.string cl.name, .int .i64 cl.kind, .bool cl.nn, .int .i64 cl.d.k, .int .i64 cl.d.n, .string cl.d.s] 55) = x1 at *
    obtain ⟨⟨k0, k1, k2, k3, k4, k5⟩, -⟩ := rk.all6
    obtain ⟨⟨t0, t1, t2, t3, t4, t5⟩, -⟩ := hr1.all6
    refine wp_region_noPanic ?_
    refine wp_region_held_drew (S := fun w' => w'.cell? ⟨wr.heap.size, 0, none⟩ = some (.string cl.name) ∧ w'.cell? ⟨wr.heap.size, 1, none⟩ = some (.int .i64 cl.kind) ∧ w'.cell? ⟨wr.heap.size, 2, none⟩ = some (.bool cl.nn) ∧ w'.cell? ⟨wr.heap.size, 3, none⟩ = some (.int .i64 cl.d.k) ∧ w'.cell? ⟨wr.heap.size, 4, none⟩ = some (.int .i64 cl.d.n) ∧ w'.cell? ⟨wr.heap.size, 5, none⟩ = some (.string cl.d.s) ∧ w'.cell? ⟨w.heap.size, 1, none⟩ = some (.slice (some ⟨b, off, none⟩) x.cols.length c1)) (by kernel_rfl) ⟨k0, k1, k2, k3, k4, k5, t1⟩ (fun hHeld => ?_)
    refine tk 0 ?_
    refine tk 1 ?_
    refine wpAnyH_ready (rs := [2]) (by kernel_rfl) (by simp) ?_
    refine AllReadyH.cons rfl (fun K hK => ?_) AllReadyH.nil
    go_simp
    refine (specName _ _ HZ.out).mono ?_
    rintro e wa ⟨rfl, rfl⟩
    rw [HN.out]
    go_wp2_with fail
    refine hK.out _ _ hHeld (fun hHeld => ?_)
    clear hK K
    (try simp only [Act.put, pz0, pz1, pz2, pz3, pz4, pz5])
    refine tk 3 ?_
    refine tk 4 ?_
    refine tk 5 ?_
    refine tk 6 ?_
    refine tk 7 ?_
    refine tk 8 ?_
    refine tk 9 ?_
    refine tk 10 ?_
    refine tk 11 ?_
    refine wpAnyH_ready (rs := [12]) (by kernel_rfl) (by simp) ?_
    refine AllReadyH.cons rfl (fun K hK => ?_) AllReadyH.nil
    go_simp
    refine (specColAt _ k c1 _ _ _ _ _ (x.cols.take k) _ ok _ ((hsl.drew ClR.stays).take (m := k) (by omega)) (by omega)).mono ?_
    rintro e wb ⟨rfl, hqb⟩
    rw [HA.out]
    go_wp2_with fail
    refine hK.out _ _ ⟨below_keep hqb _ _ hHeld.1, below_keep hqb _ _ hHeld.2.1, below_keep hqb _ _ hHeld.2.2.1, below_keep hqb _ _ hHeld.2.2.2.1, below_keep hqb _ _ hHeld.2.2.2.2.1, below_keep hqb _ _ hHeld.2.2.2.2.2.1, below_keep hqb _ _ hHeld.2.2.2.2.2.2⟩ (fun hHeld => ?_)
    clear hK K
    (try simp only [Act.put, pz0, pz1, pz2, pz3, pz4, pz5])
    refine tk 13 ?_
    refine tk 14 ?_
    refine tk 15 ?_
    refine tk 16 ?_
    refine tk 17 ?_
    refine wpAnyH_ready (rs := [18]) (by kernel_rfl) (by simp) ?_
    refine AllReadyH.cons rfl (fun K hK => ?_) AllReadyH.nil
    go_simp
    refine (specIn _ _ _ _).mono ?_
    rintro e wc ⟨rfl, rfl⟩
    rw [HKD.out]
    go_wp2_with fail
    refine hK.out _ _ hHeld (fun hHeld => ?_)
    clear hK K
    (try simp only [Act.put, pz0, pz1, pz2, pz3, pz4, pz5])
    refine tk 19 ?_
    refine tk 20 ?_
    refine tk 21 ?_
    refine tk 22 ?_
    refine tk 23 ?_
    refine wpAnyH_ready (rs := [24]) (by kernel_rfl) (by simp) ?_
    refine AllReadyH.cons rfl (fun K hK => ?_) AllReadyH.nil
    go_simp
    refine (specValOk _ _ _ _).mono ?_
    rintro e wd ⟨rfl, hqd⟩
    rw [HV.out]
    go_wp2_with fail
    refine hK.out _ _ ⟨below_keep hqd _ _ hHeld.1, below_keep hqd _ _ hHeld.2.1, below_keep hqd _ _ hHeld.2.2.1, below_keep hqd _ _ hHeld.2.2.2.1, below_keep hqd _ _ hHeld.2.2.2.2.1, below_keep hqd _ _ hHeld.2.2.2.2.2.1, below_keep hqd _ _ hHeld.2.2.2.2.2.2⟩ (fun hHeld => ?_)
    clear hK K
    (try simp only [Act.put, pz0, pz1, pz2, pz3, pz4, pz5])
    refine tk 25 ?_
    refine tk 26 ?_
    refine tk 27 ?_
    refine tu 28 ?_
    refine tu 29 ?_
    refine tu 30 ?_
    refine tu 31 ?_
    refine tu 32 ?_
    refine tu 33 ?_
    refine tu 34 ?_
    refine tu 35 ?_
    refine tu 36 ?_
    refine tu 37 ?_
    refine tu 38 ?_
    refine tu 39 ?_
    refine tk 40 ?_
    refine wpAnyH_done (by kernel_rfl) ?_ _
    refine NoPanic.normal ?_
    have hz0 := hba.drew
    have rz0 := hr1.drew
    have hz1 := hz0.trans (hqb.mono hz0.size)
    have rz1 := rz0.below hqb
    have hz2 := hz1.trans (hqd.mono hz1.size)
    have rz2 := rz1.below hqd
    clear hHeld k0 k1 k2 k3 k4 k5 t0 t1 t2 t3 t4 t5
    go_wp2_with fail
    go_ret
    exact ⟨retB HF.out.symm, hz2⟩
   have HV := Lib.hid hv
   by_cases hd0 : cl.d.k = 0
   ·skip
    have HCA := Lib.hid (HCN.out (by unfold colB fitsB; rw [kind_in, hn, hkd, hv, hd0]; rfl))
    have e0 : (cl.d.k == 0) = true := by simpa using hd0
    have e1 : (cl.d.k != 0) = false := by simpa using hd0
    clear hkd hn hv hd0
    go_wp2_with fail
    generalize wr.alloc (.cells #[.string cl.name, .int .i64 cl.kind, .bool cl.nn, .int .i64 cl.d.k, .int .i64 cl.d.n, .string cl.d.s] 55) = x1 at *
    obtain ⟨⟨k0, k1, k2, k3, k4, k5⟩, -⟩ := rk.all6
    obtain ⟨⟨t0, t1, t2, t3, t4, t5⟩, -⟩ := hr1.all6
    refine wp_region_noPanic ?_
    refine wp_region_held_drew (S := fun w' => w'.cell? ⟨wr.heap.size, 0, none⟩ = some (.string cl.name) ∧ w'.cell? ⟨wr.heap.size, 1, none⟩ = some (.int .i64 cl.kind) ∧ w'.cell? ⟨wr.heap.size, 2, none⟩ = some (.bool cl.nn) ∧ w'.cell? ⟨wr.heap.size, 3, none⟩ = some (.int .i64 cl.d.k) ∧ w'.cell? ⟨wr.heap.size, 4, none⟩ = some (.int .i64 cl.d.n) ∧ w'.cell? ⟨wr.heap.size, 5, none⟩ = some (.string cl.d.s) ∧ w'.cell? ⟨w.heap.size, 1, none⟩ = some (.slice (some ⟨b, off, none⟩) x.cols.length c1)) (by kernel_rfl) ⟨k0, k1, k2, k3, k4, k5, t1⟩ (fun hHeld => ?_)
    refine tk 0 ?_
    refine tk 1 ?_
    refine wpAnyH_ready (rs := [2]) (by kernel_rfl) (by simp) ?_
    refine AllReadyH.cons rfl (fun K hK => ?_) AllReadyH.nil
    go_simp
    refine (specName _ _ HZ.out).mono ?_
    rintro e wa ⟨rfl, rfl⟩
    rw [HN.out]
    go_wp2_with fail
    refine hK.out _ _ hHeld (fun hHeld => ?_)
    clear hK K
    (try simp only [Act.put, pz0, pz1, pz2, pz3, pz4, pz5])
    refine tk 3 ?_
    refine tk 4 ?_
    refine tk 5 ?_
    refine tk 6 ?_
    refine tk 7 ?_
    refine tk 8 ?_
    refine tk 9 ?_
    refine tk 10 ?_
    refine tk 11 ?_
    refine wpAnyH_ready (rs := [12]) (by kernel_rfl) (by simp) ?_
    refine AllReadyH.cons rfl (fun K hK => ?_) AllReadyH.nil
    go_simp
    refine (specColAt _ k c1 _ _ _ _ _ (x.cols.take k) _ ok _ ((hsl.drew ClR.stays).take (m := k) (by omega)) (by omega)).mono ?_
    rintro e wb ⟨rfl, hqb⟩
    rw [HA.out]
    go_wp2_with fail
    refine hK.out _ _ ⟨below_keep hqb _ _ hHeld.1, below_keep hqb _ _ hHeld.2.1, below_keep hqb _ _ hHeld.2.2.1, below_keep hqb _ _ hHeld.2.2.2.1, below_keep hqb _ _ hHeld.2.2.2.2.1, below_keep hqb _ _ hHeld.2.2.2.2.2.1, below_keep hqb _ _ hHeld.2.2.2.2.2.2⟩ (fun hHeld => ?_)
    clear hK K
    (try simp only [Act.put, pz0, pz1, pz2, pz3, pz4, pz5])
    refine tk 13 ?_
    refine tk 14 ?_
    refine tk 15 ?_
    refine tk 16 ?_
    refine tk 17 ?_
    refine wpAnyH_ready (rs := [18]) (by kernel_rfl) (by simp) ?_
    refine AllReadyH.cons rfl (fun K hK => ?_) AllReadyH.nil
    go_simp
    refine (specIn _ _ _ _).mono ?_
    rintro e wc ⟨rfl, rfl⟩
    rw [HKD.out]
    go_wp2_with fail
    refine hK.out _ _ hHeld (fun hHeld => ?_)
    clear hK K
    (try simp only [Act.put, pz0, pz1, pz2, pz3, pz4, pz5])
    refine tk 19 ?_
    refine tk 20 ?_
    refine tk 21 ?_
    refine tk 22 ?_
    refine tk 23 ?_
    refine wpAnyH_ready (rs := [24]) (by kernel_rfl) (by simp) ?_
    refine AllReadyH.cons rfl (fun K hK => ?_) AllReadyH.nil
    go_simp
    refine (specValOk _ _ _ _).mono ?_
    rintro e wd ⟨rfl, hqd⟩
    rw [HV.out]
    go_wp2_with fail
    refine hK.out _ _ ⟨below_keep hqd _ _ hHeld.1, below_keep hqd _ _ hHeld.2.1, below_keep hqd _ _ hHeld.2.2.1, below_keep hqd _ _ hHeld.2.2.2.1, below_keep hqd _ _ hHeld.2.2.2.2.1, below_keep hqd _ _ hHeld.2.2.2.2.2.1, below_keep hqd _ _ hHeld.2.2.2.2.2.2⟩ (fun hHeld => ?_)
    clear hK K
    (try simp only [Act.put, pz0, pz1, pz2, pz3, pz4, pz5])
    refine tk 25 ?_
    refine tk 26 ?_
    refine tk 27 ?_
    refine tk 28 ?_
    refine tk 29 ?_
    refine tk 30 ?_
    refine tk 31 ?_
    refine tk 32 ?_
    refine tu 33 ?_
    refine tu 34 ?_
    refine tu 35 ?_
    refine tu 36 ?_
    refine tu 37 ?_
    refine tu 38 ?_
    refine tk 39 ?_
    refine tk 40 ?_
    refine wpAnyH_done (by kernel_rfl) ?_ _
    refine NoPanic.normal ?_
    have hz0 := hba.drew
    have rz0 := hr1.drew
    have hz1 := hz0.trans (hqb.mono hz0.size)
    have rz1 := rz0.below hqb
    have hz2 := hz1.trans (hqd.mono hz1.size)
    have rz2 := rz1.below hqd
    clear hHeld k0 k1 k2 k3 k4 k5 t0 t1 t2 t3 t4 t5
    go_wp2_with fail
    go_roundw
    case rel => exact ⟨k + 1, by omega, by go_num, HCA, HUQ, rz2, hz2⟩
    case measure => simp [intOf]; omega
   have e0 : (cl.d.k == 0) = false := by simpa using hd0
   have e1 : (cl.d.k != 0) = true := by simpa using hd0
   by_cases hdk : cl.d.k = cl.kind
   ·skip
    have HCA := Lib.hid (HCN.out (by unfold colB fitsB; rw [kind_in, hn, hkd, hv, hdk]; simp))
    have e2 : (cl.d.k == cl.kind) = true := by simpa using hdk
    have e3 : (cl.d.k != cl.kind) = false := by simpa using hdk
    clear hkd hn hv hd0 hdk
    go_wp2_with fail
    generalize wr.alloc (.cells #[.string cl.name, .int .i64 cl.kind, .bool cl.nn, .int .i64 cl.d.k, .int .i64 cl.d.n, .string cl.d.s] 55) = x1 at *
    obtain ⟨⟨k0, k1, k2, k3, k4, k5⟩, -⟩ := rk.all6
    obtain ⟨⟨t0, t1, t2, t3, t4, t5⟩, -⟩ := hr1.all6
    refine wp_region_noPanic ?_
    refine wp_region_held_drew (S := fun w' => w'.cell? ⟨wr.heap.size, 0, none⟩ = some (.string cl.name) ∧ w'.cell? ⟨wr.heap.size, 1, none⟩ = some (.int .i64 cl.kind) ∧ w'.cell? ⟨wr.heap.size, 2, none⟩ = some (.bool cl.nn) ∧ w'.cell? ⟨wr.heap.size, 3, none⟩ = some (.int .i64 cl.d.k) ∧ w'.cell? ⟨wr.heap.size, 4, none⟩ = some (.int .i64 cl.d.n) ∧ w'.cell? ⟨wr.heap.size, 5, none⟩ = some (.string cl.d.s) ∧ w'.cell? ⟨w.heap.size, 1, none⟩ = some (.slice (some ⟨b, off, none⟩) x.cols.length c1)) (by kernel_rfl) ⟨k0, k1, k2, k3, k4, k5, t1⟩ (fun hHeld => ?_)
    refine tk 0 ?_
    refine tk 1 ?_
    refine wpAnyH_ready (rs := [2]) (by kernel_rfl) (by simp) ?_
    refine AllReadyH.cons rfl (fun K hK => ?_) AllReadyH.nil
    go_simp
    refine (specName _ _ HZ.out).mono ?_
    rintro e wa ⟨rfl, rfl⟩
    rw [HN.out]
    go_wp2_with fail
    refine hK.out _ _ hHeld (fun hHeld => ?_)
    clear hK K
    (try simp only [Act.put, pz0, pz1, pz2, pz3, pz4, pz5])
    refine tk 3 ?_
    refine tk 4 ?_
    refine tk 5 ?_
    refine tk 6 ?_
    refine tk 7 ?_
    refine tk 8 ?_
    refine tk 9 ?_
    refine tk 10 ?_
    refine tk 11 ?_
    refine wpAnyH_ready (rs := [12]) (by kernel_rfl) (by simp) ?_
    refine AllReadyH.cons rfl (fun K hK => ?_) AllReadyH.nil
    go_simp
    refine (specColAt _ k c1 _ _ _ _ _ (x.cols.take k) _ ok _ ((hsl.drew ClR.stays).take (m := k) (by omega)) (by omega)).mono ?_
    rintro e wb ⟨rfl, hqb⟩
    rw [HA.out]
    go_wp2_with fail
    refine hK.out _ _ ⟨below_keep hqb _ _ hHeld.1, below_keep hqb _ _ hHeld.2.1, below_keep hqb _ _ hHeld.2.2.1, below_keep hqb _ _ hHeld.2.2.2.1, below_keep hqb _ _ hHeld.2.2.2.2.1, below_keep hqb _ _ hHeld.2.2.2.2.2.1, below_keep hqb _ _ hHeld.2.2.2.2.2.2⟩ (fun hHeld => ?_)
    clear hK K
    (try simp only [Act.put, pz0, pz1, pz2, pz3, pz4, pz5])
    refine tk 13 ?_
    refine tk 14 ?_
    refine tk 15 ?_
    refine tk 16 ?_
    refine tk 17 ?_
    refine wpAnyH_ready (rs := [18]) (by kernel_rfl) (by simp) ?_
    refine AllReadyH.cons rfl (fun K hK => ?_) AllReadyH.nil
    go_simp
    refine (specIn _ _ _ _).mono ?_
    rintro e wc ⟨rfl, rfl⟩
    rw [HKD.out]
    go_wp2_with fail
    refine hK.out _ _ hHeld (fun hHeld => ?_)
    clear hK K
    (try simp only [Act.put, pz0, pz1, pz2, pz3, pz4, pz5])
    refine tk 19 ?_
    refine tk 20 ?_
    refine tk 21 ?_
    refine tk 22 ?_
    refine tk 23 ?_
    refine wpAnyH_ready (rs := [24]) (by kernel_rfl) (by simp) ?_
    refine AllReadyH.cons rfl (fun K hK => ?_) AllReadyH.nil
    go_simp
    refine (specValOk _ _ _ _).mono ?_
    rintro e wd ⟨rfl, hqd⟩
    rw [HV.out]
    go_wp2_with fail
    refine hK.out _ _ ⟨below_keep hqd _ _ hHeld.1, below_keep hqd _ _ hHeld.2.1, below_keep hqd _ _ hHeld.2.2.1, below_keep hqd _ _ hHeld.2.2.2.1, below_keep hqd _ _ hHeld.2.2.2.2.1, below_keep hqd _ _ hHeld.2.2.2.2.2.1, below_keep hqd _ _ hHeld.2.2.2.2.2.2⟩ (fun hHeld => ?_)
    clear hK K
    (try simp only [Act.put, pz0, pz1, pz2, pz3, pz4, pz5])
    refine tk 25 ?_
    refine tk 26 ?_
    refine tk 27 ?_
    refine tk 28 ?_
    refine tk 29 ?_
    refine tk 30 ?_
    refine tk 31 ?_
    refine tk 32 ?_
    refine tk 33 ?_
    refine tk 34 ?_
    refine tk 35 ?_
    refine tk 36 ?_
    refine tk 37 ?_
    refine tk 38 ?_
    refine tk 39 ?_
    refine tk 40 ?_
    refine wpAnyH_done (by kernel_rfl) ?_ _
    refine NoPanic.normal ?_
    have hz0 := hba.drew
    have rz0 := hr1.drew
    have hz1 := hz0.trans (hqb.mono hz0.size)
    have rz1 := rz0.below hqb
    have hz2 := hz1.trans (hqd.mono hz1.size)
    have rz2 := rz1.below hqd
    clear hHeld k0 k1 k2 k3 k4 k5 t0 t1 t2 t3 t4 t5
    go_wp2_with fail
    go_roundw
    case rel => exact ⟨k + 1, by omega, by go_num, HCA, HUQ, rz2, hz2⟩
    case measure => simp [intOf]; omega
   ·skip
    have HF := Lib.hid (HNO.out (by unfold colB fitsB; rw [e0, show (cl.d.k == cl.kind) = false by simpa using hdk]; simp))
    have e2 : (cl.d.k == cl.kind) = false := by simpa using hdk
    have e3 : (cl.d.k != cl.kind) = true := by simpa using hdk
    clear hkd hn hv hd0 hdk
    go_wp2_with fail
    generalize wr.alloc (.cells #[.string cl.name, .int .i64 cl.kind, .bool cl.nn, .int .i64 cl.d.k, .int .i64 cl.d.n, .string cl.d.s] 55) = x1 at *
    obtain ⟨⟨k0, k1, k2, k3, k4, k5⟩, -⟩ := rk.all6
    obtain ⟨⟨t0, t1, t2, t3, t4, t5⟩, -⟩ := hr1.all6
    refine wp_region_noPanic ?_
    refine wp_region_held_drew (S := fun w' => w'.cell? ⟨wr.heap.size, 0, none⟩ = some (.string cl.name) ∧ w'.cell? ⟨wr.heap.size, 1, none⟩ = some (.int .i64 cl.kind) ∧ w'.cell? ⟨wr.heap.size, 2, none⟩ = some (.bool cl.nn) ∧ w'.cell? ⟨wr.heap.size, 3, none⟩ = some (.int .i64 cl.d.k) ∧ w'.cell? ⟨wr.heap.size, 4, none⟩ = some (.int .i64 cl.d.n) ∧ w'.cell? ⟨wr.heap.size, 5, none⟩ = some (.string cl.d.s) ∧ w'.cell? ⟨w.heap.size, 1, none⟩ = some (.slice (some ⟨b, off, none⟩) x.cols.length c1)) (by kernel_rfl) ⟨k0, k1, k2, k3, k4, k5, t1⟩ (fun hHeld => ?_)
    refine tk 0 ?_
    refine tk 1 ?_
    refine wpAnyH_ready (rs := [2]) (by kernel_rfl) (by simp) ?_
    refine AllReadyH.cons rfl (fun K hK => ?_) AllReadyH.nil
    go_simp
    refine (specName _ _ HZ.out).mono ?_
    rintro e wa ⟨rfl, rfl⟩
    rw [HN.out]
    go_wp2_with fail
    refine hK.out _ _ hHeld (fun hHeld => ?_)
    clear hK K
    (try simp only [Act.put, pz0, pz1, pz2, pz3, pz4, pz5])
    refine tk 3 ?_
    refine tk 4 ?_
    refine tk 5 ?_
    refine tk 6 ?_
    refine tk 7 ?_
    refine tk 8 ?_
    refine tk 9 ?_
    refine tk 10 ?_
    refine tk 11 ?_
    refine wpAnyH_ready (rs := [12]) (by kernel_rfl) (by simp) ?_
    refine AllReadyH.cons rfl (fun K hK => ?_) AllReadyH.nil
    go_simp
    refine (specColAt _ k c1 _ _ _ _ _ (x.cols.take k) _ ok _ ((hsl.drew ClR.stays).take (m := k) (by omega)) (by omega)).mono ?_
    rintro e wb ⟨rfl, hqb⟩
    rw [HA.out]
    go_wp2_with fail
    refine hK.out _ _ ⟨below_keep hqb _ _ hHeld.1, below_keep hqb _ _ hHeld.2.1, below_keep hqb _ _ hHeld.2.2.1, below_keep hqb _ _ hHeld.2.2.2.1, below_keep hqb _ _ hHeld.2.2.2.2.1, below_keep hqb _ _ hHeld.2.2.2.2.2.1, below_keep hqb _ _ hHeld.2.2.2.2.2.2⟩ (fun hHeld => ?_)
    clear hK K
    (try simp only [Act.put, pz0, pz1, pz2, pz3, pz4, pz5])
    refine tk 13 ?_
    refine tk 14 ?_
    refine tk 15 ?_
    refine tk 16 ?_
    refine tk 17 ?_
    refine wpAnyH_ready (rs := [18]) (by kernel_rfl) (by simp) ?_
    refine AllReadyH.cons rfl (fun K hK => ?_) AllReadyH.nil
    go_simp
    refine (specIn _ _ _ _).mono ?_
    rintro e wc ⟨rfl, rfl⟩
    rw [HKD.out]
    go_wp2_with fail
    refine hK.out _ _ hHeld (fun hHeld => ?_)
    clear hK K
    (try simp only [Act.put, pz0, pz1, pz2, pz3, pz4, pz5])
    refine tk 19 ?_
    refine tk 20 ?_
    refine tk 21 ?_
    refine tk 22 ?_
    refine tk 23 ?_
    refine wpAnyH_ready (rs := [24]) (by kernel_rfl) (by simp) ?_
    refine AllReadyH.cons rfl (fun K hK => ?_) AllReadyH.nil
    go_simp
    refine (specValOk _ _ _ _).mono ?_
    rintro e wd ⟨rfl, hqd⟩
    rw [HV.out]
    go_wp2_with fail
    refine hK.out _ _ ⟨below_keep hqd _ _ hHeld.1, below_keep hqd _ _ hHeld.2.1, below_keep hqd _ _ hHeld.2.2.1, below_keep hqd _ _ hHeld.2.2.2.1, below_keep hqd _ _ hHeld.2.2.2.2.1, below_keep hqd _ _ hHeld.2.2.2.2.2.1, below_keep hqd _ _ hHeld.2.2.2.2.2.2⟩ (fun hHeld => ?_)
    clear hK K
    (try simp only [Act.put, pz0, pz1, pz2, pz3, pz4, pz5])
    refine tk 25 ?_
    refine tk 26 ?_
    refine tk 27 ?_
    refine tk 28 ?_
    refine tk 29 ?_
    refine tk 30 ?_
    refine tk 31 ?_
    refine tk 32 ?_
    refine tk 33 ?_
    refine tk 34 ?_
    refine tk 35 ?_
    refine tk 36 ?_
    refine tk 37 ?_
    refine tk 38 ?_
    refine tk 39 ?_
    refine tk 40 ?_
    refine wpAnyH_done (by kernel_rfl) ?_ _
    refine NoPanic.normal ?_
    have hz0 := hba.drew
    have rz0 := hr1.drew
    have hz1 := hz0.trans (hqb.mono hz0.size)
    have rz1 := rz0.below hqb
    have hz2 := hz1.trans (hqd.mono hz1.size)
    have rz2 := rz1.below hqd
    clear hHeld k0 k1 k2 k3 k4 k5 t0 t1 t2 t3 t4 t5
    go_wp2_with fail
    go_ret
    exact ⟨retB HF.out.symm, hz2⟩
  ·have e : x.cols.take k = x.cols := List.take_of_length_le (by omega)
   have e2 : (x.cols.map Cl.name).drop k = [] := List.drop_eq_nil_of_le (by simp; omega)
   have g1 := hall.out
   have g2 := huq.out
   rw [e] at g1
   rw [e2] at g2
   have HC := Lib.hid (show colsB x.cols = true by
    unfold colsB; rw [g1, g2]
    have := H8.out
    simp at this
    simp [uniqGo]; omega)
   clear e e2 g1 g2 hall huq a0 a1 a2 a3 a4 a5
   obtain ⟨⟨a0, a1, a2, a3, a4, a5⟩, -⟩ := hr.all6
   go_wp2_with fail
   clear a0 a1 a2 a3 a4 a5
   go_loopw [6] (fun i wr => ∃ k : Nat, k ≤ x.key.length ∧ i = .int .i64 k ∧ Hid ((x.key.take k).all (nnAt x.cols) = true) ∧ Row wr w.heap.size 45 #[.string x.name, .slice A1 x.cols.length c1, .slice A2 x.key.length c2, .slice A3 x.uniqs.length c3, .slice A4 x.checks.length c4, .slice A5 x.fks.length c5] ∧ Below w.heap.size w wr) (fun i _ => x.key.length - (intOf i).toNat)
   case atStart => exact ⟨0, by omega, rfl, Lib.hid (by simp), hr, hb⟩
   case round =>
    clear hr hb hlt
    obtain ⟨k, hk, rfl, hall, hr, hb⟩ := hrel
    obtain ⟨⟨a0, a1, a2, a3, a4, a5⟩, -⟩ := hr.all6
    by_cases hlt : k < x.key.length
    ·obtain ⟨bk, offk, -, ek, q0⟩ := IntR.at_ (h2.below IntR.stays hb) hlt
     rw [ek] at a2
     have hin := HIN.out _ (List.getElem_mem hlt)
     have hsn := all_take (nnAt x.cols) x.key k hlt
     rw [hall.out, Bool.true_and] at hsn
     have hno := fun hf => all_no (nnAt x.cols) x.key k hlt hf
     obtain ⟨j, hj⟩ : ∃ j : Nat, x.key[k] = (j : Int) := ⟨x.key[k].toNat, by omega⟩
     rw [hj] at q0 hsn hno hin
     have hjl : j < x.cols.length := by omega
     obtain ⟨bc, offc, -, ec, p0, p1, p2, p3, p4, p5⟩ := ClR.at_ (h1.below ClR.stays hb) hjl
     rw [ec] at a1
     have hnn : nnAt x.cols j = x.cols[j].nn := by unfold nnAt; simp [List.getElem?_eq_getElem hjl]
     have i0 : (0 : Int) ≤ j := by omega
     have i1 : (j : Int) < x.cols.length := by omega
     have i2 : (0 : Int) ≤ k := by omega
     have i3 : (k : Int) < x.key.length := by omega
     cases hnb : x.cols[j].nn
     ·rw [hnb] at p2
      have HF := Lib.hid (show tableB x = false by unfold tableB keyB; rw [hno (hnn.trans hnb)]; simp)
      clear hsn hno hnn hnb hj hall ek ec
      go_wp2_with fail
      go_quiet (fail)
      go_wp2_with fail
      go_ret
      exact ⟨retB HF.out.symm, below_drewN hb _⟩
     ·rw [hnb] at p2
      have HA := Lib.hid (hsn.trans (hnn.trans hnb))
      clear hsn hno hnn hnb hj hall ek ec
      go_wp2_with fail
      go_quiet (fail)
      go_wp2_with fail
      go_roundw
      case rel => exact ⟨k + 1, by omega, by go_num, HA, hr.drewN _, below_drewN hb _⟩
      case measure => simp [intOf]; omega
    ·have e : x.key.take k = x.key := List.take_of_length_le (by omega)
     have g1 := hall.out
     rw [e] at g1
     have HKB := Lib.hid (show keyB x.cols x.key = true by unfold keyB; rw [g1, HK.out]; rfl)
     clear e g1 hall
     go_wp2_with fail
     clear a0 a1 a2 a3 a4 a5
     go_loopw [7] (fun i wr => ∃ k : Nat, k ≤ x.uniqs.length ∧ i = .int .i64 k ∧ Hid ((x.uniqs.take k).all (fun u : Uq => colsInB u.cols x.cols.length) = true) ∧ Row wr w.heap.size 45 #[.string x.name, .slice A1 x.cols.length c1, .slice A2 x.key.length c2, .slice A3 x.uniqs.length c3, .slice A4 x.checks.length c4, .slice A5 x.fks.length c5] ∧ Below w.heap.size w wr) (fun i _ => x.uniqs.length - (intOf i).toNat)
     case atStart => exact ⟨0, by omega, rfl, Lib.hid (by simp), hr, hb⟩
     case round =>
      clear hr hb hlt
      obtain ⟨k, hk, rfl, hall, hr, hb⟩ := hrel
      obtain ⟨⟨a0, a1, a2, a3, a4, a5⟩, -⟩ := hr.all6
      by_cases hlt : k < x.uniqs.length
      ·obtain ⟨b, off, A9, n9, c9, -, ea, q0, s0, hcp9⟩ := UqR.at_ (h3.below UqR.stays hb) hlt
       rw [ea] at a3
       obtain rfl : x.uniqs[k].cols.length = n9 := s0.1
       have hsn := all_take (fun u : Uq => colsInB u.cols x.cols.length) x.uniqs k hlt
       rw [hall.out, Bool.true_and] at hsn
       have hno := fun hf => all_no (fun u : Uq => colsInB u.cols x.cols.length) x.uniqs k hlt hf
       have hk9 : x.uniqs[k].cols.length ≤ 1048576 := by have := HS3.out; have := sum_mem_le Uq.sz x.uniqs k hlt; unfold szL at *; simp only [Uq.sz] at *; (try unfold szL at *); omega
       have i2 : (0 : Int) ≤ k := by omega
       have i3 : (k : Int) < x.uniqs.length := by omega
       cases hc : colsInB x.uniqs[k].cols x.cols.length
       ·have HC9 := Lib.hid hc
        have HF := Lib.hid (show tableB x = false by unfold tableB uqsB; rw [hno hc]; simp)
        clear hsn hno hc hall ea
        go_wp2_with fail
        refine (specCols A9 x.uniqs[k].cols.length c9 x.uniqs[k].cols x.cols.length ok _ s0 hcp9 hk9 (by omega) (by omega)).mono ?_
        rintro e w1 ⟨rfl, hq⟩
        rw [HC9.out]
        go_wp2_with fail
        go_ret
        exact ⟨retB HF.out.symm, hb.trans (hq.mono hb.size)⟩
       ·have HC9 := Lib.hid hc
        have HA := Lib.hid (hsn.trans hc)
        clear hsn hno hc hall ea
        go_wp2_with fail
        refine (specCols A9 x.uniqs[k].cols.length c9 x.uniqs[k].cols x.cols.length ok _ s0 hcp9 hk9 (by omega) (by omega)).mono ?_
        rintro e w1 ⟨rfl, hq⟩
        rw [HC9.out]
        go_wp2_with fail
        go_roundw
        case rel => exact ⟨k + 1, by omega, by go_num, HA, hr.below hq, hb.trans (hq.mono hb.size)⟩
        case measure => simp [intOf]; omega
      ·have e : x.uniqs.take k = x.uniqs := List.take_of_length_le (by omega)
       have g1 := hall.out
       rw [e] at g1
       have HUB := Lib.hid (show uqsB x.cols x.uniqs = true by unfold uqsB; rw [g1, decide_eq_true (by omega)]; rfl)
       clear e g1 hall
       go_wp2_with fail
       clear a0 a1 a2 a3 a4 a5
       go_loopw [8] (fun i wr => ∃ k : Nat, k ≤ x.checks.length ∧ i = .int .i64 k ∧ Hid ((x.checks.take k).all (fun u : Ck => exprB u.expr x.cols.length) = true) ∧ Row wr w.heap.size 45 #[.string x.name, .slice A1 x.cols.length c1, .slice A2 x.key.length c2, .slice A3 x.uniqs.length c3, .slice A4 x.checks.length c4, .slice A5 x.fks.length c5] ∧ Below w.heap.size w wr) (fun i _ => x.checks.length - (intOf i).toNat)
       case atStart => exact ⟨0, by omega, rfl, Lib.hid (by simp), hr, hb⟩
       case round =>
        clear hr hb hlt
        obtain ⟨k, hk, rfl, hall, hr, hb⟩ := hrel
        obtain ⟨⟨a0, a1, a2, a3, a4, a5⟩, -⟩ := hr.all6
        by_cases hlt : k < x.checks.length
        ·obtain ⟨b, off, A9, n9, c9, -, ea, q0, s0, hcp9⟩ := CkR.at_ (h4.below CkR.stays hb) hlt
         rw [ea] at a4
         obtain rfl : x.checks[k].expr.length = n9 := s0.1
         have hsn := all_take (fun u : Ck => exprB u.expr x.cols.length) x.checks k hlt
         rw [hall.out, Bool.true_and] at hsn
         have hno := fun hf => all_no (fun u : Ck => exprB u.expr x.cols.length) x.checks k hlt hf
         have hk9 : x.checks[k].expr.length ≤ 1048576 := by have := HS4.out; have := sum_mem_le Ck.sz x.checks k hlt; unfold szL at *; simp only [Ck.sz] at *; (try unfold szL at *); omega
         have i2 : (0 : Int) ≤ k := by omega
         have i3 : (k : Int) < x.checks.length := by omega
         cases hc : l2B x.checks[k].expr x.cols.length
         ·have HC9 := Lib.hid hc
          have HF := Lib.hid (show tableB x = false by unfold tableB cksB; rw [hno ((exprB_l2n (by omega)).trans hc)]; simp)
          clear hsn hno hc hall ea
          go_wp2_with fail
          refine (specL2Expr A9 x.checks[k].expr.length c9 x.checks[k].expr x.cols.length _ (Sl.cellz (fun _ => rfl) s0) (by unfold maxLen; omega) (by omega) (by omega)).mono ?_
          rintro e w1 ⟨rfl, hq⟩
          rw [HC9.out]
          go_wp2_with fail
          go_ret
          exact ⟨retB HF.out.symm, hb.trans (hq.mono hb.size)⟩
         ·have HC9 := Lib.hid hc
          have HA := Lib.hid (hsn.trans ((exprB_l2n (by omega)).trans hc))
          clear hsn hno hc hall ea
          go_wp2_with fail
          refine (specL2Expr A9 x.checks[k].expr.length c9 x.checks[k].expr x.cols.length _ (Sl.cellz (fun _ => rfl) s0) (by unfold maxLen; omega) (by omega) (by omega)).mono ?_
          rintro e w1 ⟨rfl, hq⟩
          rw [HC9.out]
          go_wp2_with fail
          go_roundw
          case rel => exact ⟨k + 1, by omega, by go_num, HA, hr.below hq, hb.trans (hq.mono hb.size)⟩
          case measure => simp [intOf]; omega
        ·have e : x.checks.take k = x.checks := List.take_of_length_le (by omega)
         have g1 := hall.out
         rw [e] at g1
         have HEB := Lib.hid (show cksB x.cols x.checks = true by unfold cksB; rw [g1, decide_eq_true (by omega)]; rfl)
         clear e g1 hall
         go_wp2_with fail
         clear a0 a1 a2 a3 a4 a5
         go_loopw [9] (fun i wr => ∃ k : Nat, k ≤ x.fks.length ∧ i = .int .i64 k ∧ Hid ((x.fks.take k).all (fkB x.cols.length) = true) ∧ Row wr w.heap.size 45 #[.string x.name, .slice A1 x.cols.length c1, .slice A2 x.key.length c2, .slice A3 x.uniqs.length c3, .slice A4 x.checks.length c4, .slice A5 x.fks.length c5] ∧ Below w.heap.size w wr) (fun i _ => x.fks.length - (intOf i).toNat)
         case atStart => exact ⟨0, by omega, rfl, Lib.hid (by simp), hr, hb⟩
         case round =>
          clear hr hb hlt
          obtain ⟨k, hk, rfl, hall, hr, hb⟩ := hrel
          obtain ⟨⟨a0, a1, a2, a3, a4, a5⟩, -⟩ := hr.all6
          by_cases hlt : k < x.fks.length
          ·obtain ⟨b, off, A9, n9, c9, -, ea, q0, q1, q2, q3, q4, s0, hcp9⟩ := FkR.at_ (h5.below FkR.stays hb) hlt
           rw [ea] at a5
           obtain rfl : x.fks[k].cols.length = n9 := s0.1
           have hsn := all_take (fkB x.cols.length) x.fks k hlt
           rw [hall.out, Bool.true_and] at hsn
           have hno := fun hf => all_no (fkB x.cols.length) x.fks k hlt hf
           obtain ⟨hk9, hk8⟩ : x.fks[k].cols.length ≤ 1048576 ∧ x.fks[k].table.size ≤ 1048576 := by have := HS5.out; have := sum_mem_le Fk.sz x.fks k hlt; unfold szL at *; simp only [Fk.sz] at *; omega
           have HK9 := Lib.hid hk9
           have HK8 := Lib.hid (show x.fks[k].table.size ≤ maxLen by unfold maxLen; omega)
           have i2 : (0 : Int) ≤ k := by omega
           have i3 : (k : Int) < x.fks.length := by omega
           have hbx := (Below.refl wr.heap.size wr).alloc (Nat.le_refl _) (.cells #[.slice A9 x.fks[k].cols.length c9, .string x.fks[k].table, .int .i64 x.fks[k].del, .int .i64 x.fks[k].upd, .bool x.fks[k].dfr] 63)
           have hba := hb.trans (hbx.mono hb.size)
           have s1 := s0.below IntR.stays hbx
           have hr1 := hr.below hbx
           have rf := Row.new wr 63 #[.slice A9 x.fks[k].cols.length c9, .string x.fks[k].table, .int .i64 x.fks[k].del, .int .i64 x.fks[k].upd, .bool x.fks[k].dfr]
           have HNO := Lib.hid (fun hf => show tableB x = false by unfold tableB fksB; rw [hno hf]; simp)
           have HSN := Lib.hid hsn
           clear hsn hno hall ea hk9 hk8
           cases hc9 : colsInB x.fks[k].cols x.cols.length
           ·have HC9 := Lib.hid hc9
            have HF := Lib.hid (HNO.out (by unfold fkB; rw [act_in, act_in, hc9]; simp))
            clear hc9
            go_wp2_with fail
            refine (specCols A9 x.fks[k].cols.length c9 x.fks[k].cols x.cols.length ok _ s1 hcp9 HK9.out (by omega) (by omega)).mono ?_
            rintro e w1 ⟨rfl, hq⟩
            obtain ⟨⟨f0, f1, f2, f3, f4⟩, -⟩ := (rf.below hq).five
            rw [HC9.out]
            go_wp2_with fail
            go_ret
            exact ⟨retB HF.out.symm, hba.trans (hq.mono hba.size)⟩
           have HC9 := Lib.hid hc9
           clear hc9
           cases hn9 : nameB x.fks[k].table
           ·have HN9 := Lib.hid hn9
            have HF := Lib.hid (HNO.out (by unfold fkB; rw [act_in, act_in, HC9.out, hn9]; simp))
            clear hn9
            go_wp2_with fail
            refine (specCols A9 x.fks[k].cols.length c9 x.fks[k].cols x.cols.length ok _ s1 hcp9 HK9.out (by omega) (by omega)).mono ?_
            rintro e w1 ⟨rfl, hq⟩
            obtain ⟨⟨f0, f1, f2, f3, f4⟩, -⟩ := (rf.below hq).five
            rw [HC9.out]
            go_wp2_with fail
            refine (specName _ _ HK8.out).mono ?_
            rintro e w2 ⟨rfl, rfl⟩
            rw [HN9.out]
            go_wp2_with fail
            go_ret
            exact ⟨retB HF.out.symm, hba.trans (hq.mono hba.size)⟩
           have HN9 := Lib.hid hn9
           clear hn9
           cases hd9 : (decide (0 ≤ x.fks[k].del) && decide (x.fks[k].del ≤ 2))
           ·have HD9 := Lib.hid hd9
            have HF := Lib.hid (HNO.out (by unfold fkB; rw [act_in, act_in, HC9.out, HN9.out, hd9]; simp))
            clear hd9
            go_wp2_with fail
            refine (specCols A9 x.fks[k].cols.length c9 x.fks[k].cols x.cols.length ok _ s1 hcp9 HK9.out (by omega) (by omega)).mono ?_
            rintro e w1 ⟨rfl, hq⟩
            obtain ⟨⟨f0, f1, f2, f3, f4⟩, -⟩ := (rf.below hq).five
            rw [HC9.out]
            go_wp2_with fail
            refine (specName _ _ HK8.out).mono ?_
            rintro e w2 ⟨rfl, rfl⟩
            rw [HN9.out]
            go_wp2_with fail
            refine (specIn _ _ _ _).mono ?_
            rintro e w2 ⟨rfl, rfl⟩
            rw [HD9.out]
            go_wp2_with fail
            go_ret
            exact ⟨retB HF.out.symm, hba.trans (hq.mono hba.size)⟩
           have HD9 := Lib.hid hd9
           clear hd9
           cases hu9 : (decide (0 ≤ x.fks[k].upd) && decide (x.fks[k].upd ≤ 2))
           ·have HU9 := Lib.hid hu9
            have HF := Lib.hid (HNO.out (by unfold fkB; rw [act_in, act_in, HC9.out, HN9.out, HD9.out, hu9]; simp))
            clear hu9
            go_wp2_with fail
            refine (specCols A9 x.fks[k].cols.length c9 x.fks[k].cols x.cols.length ok _ s1 hcp9 HK9.out (by omega) (by omega)).mono ?_
            rintro e w1 ⟨rfl, hq⟩
            obtain ⟨⟨f0, f1, f2, f3, f4⟩, -⟩ := (rf.below hq).five
            rw [HC9.out]
            go_wp2_with fail
            refine (specName _ _ HK8.out).mono ?_
            rintro e w2 ⟨rfl, rfl⟩
            rw [HN9.out]
            go_wp2_with fail
            refine (specIn _ _ _ _).mono ?_
            rintro e w2 ⟨rfl, rfl⟩
            rw [HD9.out]
            go_wp2_with fail
            refine (specIn _ _ _ _).mono ?_
            rintro e w2 ⟨rfl, rfl⟩
            rw [HU9.out]
            go_wp2_with fail
            go_ret
            exact ⟨retB HF.out.symm, hba.trans (hq.mono hba.size)⟩
           have HU9 := Lib.hid hu9
           clear hu9
           have HA := Lib.hid (HSN.out.trans (show fkB x.cols.length x.fks[k] = true by unfold fkB; rw [act_in, act_in, HC9.out, HN9.out, HD9.out, HU9.out]; rfl))
           go_wp2_with fail
           refine (specCols A9 x.fks[k].cols.length c9 x.fks[k].cols x.cols.length ok _ s1 hcp9 HK9.out (by omega) (by omega)).mono ?_
           rintro e w1 ⟨rfl, hq⟩
           obtain ⟨⟨f0, f1, f2, f3, f4⟩, -⟩ := (rf.below hq).five
           rw [HC9.out]
           go_wp2_with fail
           refine (specName _ _ HK8.out).mono ?_
           rintro e w2 ⟨rfl, rfl⟩
           rw [HN9.out]
           go_wp2_with fail
           refine (specIn _ _ _ _).mono ?_
           rintro e w2 ⟨rfl, rfl⟩
           rw [HD9.out]
           go_wp2_with fail
           refine (specIn _ _ _ _).mono ?_
           rintro e w2 ⟨rfl, rfl⟩
           rw [HU9.out]
           go_wp2_with fail
           go_roundw
           case rel => exact ⟨k + 1, by omega, by go_num, HA, hr1.below hq, hba.trans (hq.mono hba.size)⟩
           case measure => simp [intOf]; omega
          ·have e : x.fks.take k = x.fks := List.take_of_length_le (by omega)
           have g1 := hall.out
           rw [e] at g1
           have HFB := Lib.hid (show fksB x.cols x.fks = true by unfold fksB; rw [g1, decide_eq_true (by omega)]; rfl)
           clear e g1 hall
           go_wp2_with fail
           go_ret
           exact ⟨retB (by unfold tableB; rw [HN0.out, HC.out, HKB.out, HUB.out, HEB.out, HFB.out]; rfl), hb⟩
set_option maxRecDepth 100000 in
set_option maxHeartbeats 4000000 in
theorem specSchemaOk (AS : Option Addr) (nS cS : Nat) (s : List Tb) (ok : Nat → Prop) (w : World) (hs : Sl TbR 6 ok w AS nS s) (hcp : nS ≤ cS) (hsz : szL Tb.sz s ≤ 1048576) :
  Calls Tryz.prog 60 #[.slice AS nS cS] w fun e w' => e = .returned (.bool (schemaB s)) ∧ Below w.heap.size w w' := by
 obtain rfl : s.length = nS := hs.1
 have hn : s.length ≤ 1048576 := by unfold szL at hsz; omega
 have HSZ := Lib.hid hsz
 have HT := Lib.hid (fun k (hlt : k < s.length) => show s[k].sz ≤ 1048576 by have := HSZ.out; have := sum_mem_le Tb.sz s k hlt; unfold szL at *; omega)
 clear hsz
 go_enter Tryz.func60, Tryz.ntmps60
 go_wp2_with fail
 go_loopw [3] (fun i wr => ∃ k : Nat, k ≤ s.length ∧ i = .int .i64 k ∧ Hid ((s.take k).all tableB = true) ∧ Hid (uniqGo [] (s.map Tb.name) = uniqGo ((s.map Tb.name).take k) ((s.map Tb.name).drop k)) ∧ Below w.heap.size w wr) (fun i _ => s.length - (intOf i).toNat)
 case atStart => exact ⟨0, by omega, rfl, Lib.hid (by simp), Lib.hid (by simp), Below.refl _ _⟩
 case round =>
  obtain ⟨k, hk, rfl, hall, huq, hb⟩ := hrel
  by_cases hlt : k < s.length
  ·have hsw := hs.below TbR.stays hb
   obtain ⟨b, off, A1, n1, c1, A2, n2, c2, A3, n3, c3, A4, n4, c4, A5, n5, c5, -, ea, q0, q1, q2, q3, q4, q5, s1, s2, s3, s4, s5, hcps⟩ := TbR.at_ hsw hlt
   subst ea
   have HCP := Lib.hid hcps
   clear hcps
   have hsn := all_take tableB s k hlt
   rw [hall.out, Bool.true_and] at hsn
   have hno := fun hf => all_no tableB s k hlt hf
   have hug := uniqGo_at (s.map Tb.name) k (by simpa using hlt)
   rw [← huq.out, List.getElem_map, ← List.map_take] at hug
   have HX := Lib.hid (HT.out k hlt)
   have i0 : (0 : Int) ≤ k := by omega
   have i1 : (k : Int) < s.length := by omega
   have i3 : (k : Int) ≤ cS := by omega
   cases hc : tableB s[k]
   ·skip
    have HTB := Lib.hid hc
    have HF := Lib.hid (show schemaB s = false by unfold schemaB; rw [hno hc]; simp)
    clear hc hno hsn hug hall huq
    go_wp2_with fail
    refine wp_region_noPanic ?_
    refine wp_region_held_drew (S := fun w' => w'.cell? ⟨b, off + k * 6, none⟩ = some (.string s[k].name) ∧ w'.cell? ⟨b, off + k * 6 + 1, none⟩ = some (.slice A1 n1 c1) ∧ w'.cell? ⟨b, off + k * 6 + 2, none⟩ = some (.slice A2 n2 c2) ∧ w'.cell? ⟨b, off + k * 6 + 3, none⟩ = some (.slice A3 n3 c3) ∧ w'.cell? ⟨b, off + k * 6 + 4, none⟩ = some (.slice A4 n4 c4) ∧ w'.cell? ⟨b, off + k * 6 + 5, none⟩ = some (.slice A5 n5 c5)) (by kernel_rfl) ⟨q0, q1, q2, q3, q4, q5⟩ (fun hHeld => ?_)
    refine tk 0 ?_
    refine tk 1 ?_
    refine tk 2 ?_
    refine tk 3 ?_
    refine wpAnyH_ready (rs := [4]) (by kernel_rfl) (by simp) ?_
    refine AllReadyH.cons rfl (fun K hK => ?_) AllReadyH.nil
    go_simp
    refine (specTableOk s[k] A1 n1 c1 A2 n2 c2 A3 n3 c3 A4 n4 c4 A5 n5 c5 ok _ (s1.drew ClR.stays) (s2.drew IntR.stays) (s3.drew UqR.stays) (s4.drew CkR.stays) (s5.drew FkR.stays) HCP.out HX.out).mono ?_
    rintro e wc ⟨rfl, hqc⟩
    rw [HTB.out]
    go_wp2_with fail
    refine hK.out _ _ ⟨below_keep hqc _ _ hHeld.1, below_keep hqc _ _ hHeld.2.1, below_keep hqc _ _ hHeld.2.2.1, below_keep hqc _ _ hHeld.2.2.2.1, below_keep hqc _ _ hHeld.2.2.2.2.1, below_keep hqc _ _ hHeld.2.2.2.2.2⟩ (fun hHeld => ?_)
    clear hK K
    (try simp only [Act.put, pz0, pz1, pz2, pz3, pz4, pz5])
    refine tk 5 ?_
    refine tk 6 ?_
    refine tu 7 ?_
    refine tu 8 ?_
    refine tu 9 ?_
    refine tu 10 ?_
    refine tu 11 ?_
    refine tu 12 ?_
    refine tu 13 ?_
    refine tu 14 ?_
    refine tu 15 ?_
    refine tu 16 ?_
    refine tk 17 ?_
    refine wpAnyH_done (by kernel_rfl) ?_ _
    refine NoPanic.normal ?_
    have hz := hb.drew.trans (hqc.mono hb.drew.size)
    clear hHeld q0 q1 q2 q3 q4 q5
    go_wp2_with fail
    go_ret
    exact ⟨retB HF.out.symm, hz⟩
   have HTB := Lib.hid hc
   by_cases hat : atN ((s.take k).map Tb.name) s[k].name = -1
   case neg =>
    obtain ⟨j, hj, hj0⟩ : ∃ j : Int, j = atN ((s.take k).map Tb.name) s[k].name ∧ 0 ≤ j := ⟨_, rfl, by rcases atN_rng ((s.take k).map Tb.name) s[k].name with h | h; exact absurd h hat; exact h.1⟩
    have HJ := Lib.hid hj
    have HF := Lib.hid (show schemaB s = false by unfold schemaB; rw [hug, decide_eq_false hat]; simp)
    clear hc hno hsn hug hall huq hat hj
    go_wp2_with fail
    refine wp_region_noPanic ?_
    refine wp_region_held_drew (S := fun w' => w'.cell? ⟨b, off + k * 6, none⟩ = some (.string s[k].name) ∧ w'.cell? ⟨b, off + k * 6 + 1, none⟩ = some (.slice A1 n1 c1) ∧ w'.cell? ⟨b, off + k * 6 + 2, none⟩ = some (.slice A2 n2 c2) ∧ w'.cell? ⟨b, off + k * 6 + 3, none⟩ = some (.slice A3 n3 c3) ∧ w'.cell? ⟨b, off + k * 6 + 4, none⟩ = some (.slice A4 n4 c4) ∧ w'.cell? ⟨b, off + k * 6 + 5, none⟩ = some (.slice A5 n5 c5)) (by kernel_rfl) ⟨q0, q1, q2, q3, q4, q5⟩ (fun hHeld => ?_)
    refine tk 0 ?_
    refine tk 1 ?_
    refine tk 2 ?_
    refine tk 3 ?_
    refine wpAnyH_ready (rs := [4]) (by kernel_rfl) (by simp) ?_
    refine AllReadyH.cons rfl (fun K hK => ?_) AllReadyH.nil
    go_simp
    refine (specTableOk s[k] A1 n1 c1 A2 n2 c2 A3 n3 c3 A4 n4 c4 A5 n5 c5 ok _ (s1.drew ClR.stays) (s2.drew IntR.stays) (s3.drew UqR.stays) (s4.drew CkR.stays) (s5.drew FkR.stays) HCP.out HX.out).mono ?_
    rintro e wc ⟨rfl, hqc⟩
    rw [HTB.out]
    go_wp2_with fail
    refine hK.out _ _ ⟨below_keep hqc _ _ hHeld.1, below_keep hqc _ _ hHeld.2.1, below_keep hqc _ _ hHeld.2.2.1, below_keep hqc _ _ hHeld.2.2.2.1, below_keep hqc _ _ hHeld.2.2.2.2.1, below_keep hqc _ _ hHeld.2.2.2.2.2⟩ (fun hHeld => ?_)
    clear hK K
    (try simp only [Act.put, pz0, pz1, pz2, pz3, pz4, pz5])
    refine tk 5 ?_
    refine tk 6 ?_
    refine tk 7 ?_
    refine tk 8 ?_
    refine tk 9 ?_
    refine tk 10 ?_
    refine tk 11 ?_
    refine tk 12 ?_
    refine tk 13 ?_
    refine tk 14 ?_
    refine wpAnyH_ready (rs := [15]) (by kernel_rfl) (by simp) ?_
    refine AllReadyH.cons rfl (fun K hK => ?_) AllReadyH.nil
    go_simp
    refine (specL3At _ k cS (s.take k) _ ok _ (((hsw.drew TbR.stays).below TbR.stays hqc).take (m := k) (by omega)) (by omega)).mono ?_
    rintro e wd ⟨rfl, hqd⟩
    rw [← HJ.out]
    go_wp2_with fail
    refine hK.out _ _ ⟨below_keep hqd _ _ hHeld.1, below_keep hqd _ _ hHeld.2.1, below_keep hqd _ _ hHeld.2.2.1, below_keep hqd _ _ hHeld.2.2.2.1, below_keep hqd _ _ hHeld.2.2.2.2.1, below_keep hqd _ _ hHeld.2.2.2.2.2⟩ (fun hHeld => ?_)
    clear hK K
    (try simp only [Act.put, pz0, pz1, pz2, pz3, pz4, pz5])
    refine tk 16 ?_
    refine tk 17 ?_
    refine wpAnyH_done (by kernel_rfl) ?_ _
    refine NoPanic.normal ?_
    have hz := hb.drew.trans (hqc.mono hb.drew.size)
    have hz := hz.trans (hqd.mono hz.size)
    clear hHeld q0 q1 q2 q3 q4 q5
    go_wp2_with fail
    go_ret
    exact ⟨retB HF.out.symm, hz⟩
   case pos =>
    have HA := Lib.hid hat
    have HUQ := Lib.hid (show uniqGo [] (s.map Tb.name) = uniqGo ((s.map Tb.name).take (k + 1)) ((s.map Tb.name).drop (k + 1)) by rw [hug, decide_eq_true hat, Bool.true_and])
    have HAL := Lib.hid (hsn.trans hc)
    clear hc hno hsn hug hall huq hat
    go_wp2_with fail
    refine wp_region_noPanic ?_
    refine wp_region_held_drew (S := fun w' => w'.cell? ⟨b, off + k * 6, none⟩ = some (.string s[k].name) ∧ w'.cell? ⟨b, off + k * 6 + 1, none⟩ = some (.slice A1 n1 c1) ∧ w'.cell? ⟨b, off + k * 6 + 2, none⟩ = some (.slice A2 n2 c2) ∧ w'.cell? ⟨b, off + k * 6 + 3, none⟩ = some (.slice A3 n3 c3) ∧ w'.cell? ⟨b, off + k * 6 + 4, none⟩ = some (.slice A4 n4 c4) ∧ w'.cell? ⟨b, off + k * 6 + 5, none⟩ = some (.slice A5 n5 c5)) (by kernel_rfl) ⟨q0, q1, q2, q3, q4, q5⟩ (fun hHeld => ?_)
    refine tk 0 ?_
    refine tk 1 ?_
    refine tk 2 ?_
    refine tk 3 ?_
    refine wpAnyH_ready (rs := [4]) (by kernel_rfl) (by simp) ?_
    refine AllReadyH.cons rfl (fun K hK => ?_) AllReadyH.nil
    go_simp
    refine (specTableOk s[k] A1 n1 c1 A2 n2 c2 A3 n3 c3 A4 n4 c4 A5 n5 c5 ok _ (s1.drew ClR.stays) (s2.drew IntR.stays) (s3.drew UqR.stays) (s4.drew CkR.stays) (s5.drew FkR.stays) HCP.out HX.out).mono ?_
    rintro e wc ⟨rfl, hqc⟩
    rw [HTB.out]
    go_wp2_with fail
    refine hK.out _ _ ⟨below_keep hqc _ _ hHeld.1, below_keep hqc _ _ hHeld.2.1, below_keep hqc _ _ hHeld.2.2.1, below_keep hqc _ _ hHeld.2.2.2.1, below_keep hqc _ _ hHeld.2.2.2.2.1, below_keep hqc _ _ hHeld.2.2.2.2.2⟩ (fun hHeld => ?_)
    clear hK K
    (try simp only [Act.put, pz0, pz1, pz2, pz3, pz4, pz5])
    refine tk 5 ?_
    refine tk 6 ?_
    refine tk 7 ?_
    refine tk 8 ?_
    refine tk 9 ?_
    refine tk 10 ?_
    refine tk 11 ?_
    refine tk 12 ?_
    refine tk 13 ?_
    refine tk 14 ?_
    refine wpAnyH_ready (rs := [15]) (by kernel_rfl) (by simp) ?_
    refine AllReadyH.cons rfl (fun K hK => ?_) AllReadyH.nil
    go_simp
    refine (specL3At _ k cS (s.take k) _ ok _ (((hsw.drew TbR.stays).below TbR.stays hqc).take (m := k) (by omega)) (by omega)).mono ?_
    rintro e wd ⟨rfl, hqd⟩
    rw [HA.out]
    go_wp2_with fail
    refine hK.out _ _ ⟨below_keep hqd _ _ hHeld.1, below_keep hqd _ _ hHeld.2.1, below_keep hqd _ _ hHeld.2.2.1, below_keep hqd _ _ hHeld.2.2.2.1, below_keep hqd _ _ hHeld.2.2.2.2.1, below_keep hqd _ _ hHeld.2.2.2.2.2⟩ (fun hHeld => ?_)
    clear hK K
    (try simp only [Act.put, pz0, pz1, pz2, pz3, pz4, pz5])
    refine tk 16 ?_
    refine tk 17 ?_
    refine wpAnyH_done (by kernel_rfl) ?_ _
    refine NoPanic.normal ?_
    have hz := hb.drew.trans (hqc.mono hb.drew.size)
    have hz := hz.trans (hqd.mono hz.size)
    clear hHeld q0 q1 q2 q3 q4 q5
    go_wp2_with fail
    go_roundw
    case rel => exact ⟨k + 1, by omega, by go_num, Lib.hid HAL.out, Lib.hid HUQ.out, hz⟩
    case measure => simp [intOf]; omega
  ·have e : s.take k = s := List.take_of_length_le (by omega)
   have e2 : (s.map Tb.name).drop k = [] := List.drop_eq_nil_of_le (by simp; omega)
   have g1 := hall.out
   have g2 := huq.out
   rw [e] at g1
   rw [e2] at g2
   have HALL := Lib.hid g1
   have HU := Lib.hid (show uniqGo [] (s.map Tb.name) = true by rw [g2]; simp [uniqGo])
   clear e e2 g1 g2 hall huq
   go_wp2_with fail
   clear hk hlt
   go_loopw [4] (fun i wr => ∃ k : Nat, k ≤ s.length ∧ i = .int .i64 k ∧ Hid ((s.take k).all (leadsB s) = true) ∧ Below w.heap.size w wr) (fun i _ => s.length - (intOf i).toNat)
   case atStart => exact ⟨0, by omega, rfl, Lib.hid (by simp), hb⟩
   case round =>
    clear hb
    obtain ⟨k, hk, rfl, hall, hb⟩ := hrel
    by_cases hlt : k < s.length
    case neg =>
     have e : s.take k = s := List.take_of_length_le (by omega)
     have g1 := hall.out
     rw [e] at g1
     by_cases h5 : (s.length : Int) ≤ 5
     ·have HF := Lib.hid (show schemaB s = true by unfold schemaB; rw [decide_eq_true (by omega), HALL.out, HU.out, g1]; rfl)
      have h5' : decide ((s.length : Int) ≤ 5) = true := by simpa using h5
      clear e g1 hall
      go_wp2_with fail
      go_ret
      exact ⟨retB HF.out.symm, hb⟩
     ·have HF := Lib.hid (show schemaB s = false by unfold schemaB; rw [decide_eq_false (by omega)]; rfl)
      have h5' : decide ((s.length : Int) ≤ 5) = false := by simpa using h5
      clear e g1 hall
      go_wp2_with fail
      go_ret
      exact ⟨retB HF.out.symm, hb⟩
    case pos =>
     have hsn := all_take (leadsB s) s k hlt
     rw [hall.out, Bool.true_and] at hsn
     have HNO := Lib.hid (fun hf : leadsB s s[k] = false => show schemaB s = false by unfold schemaB; rw [all_no (leadsB s) s k hlt hf]; simp)
     have HSN := Lib.hid hsn
     have HX := Lib.hid (HT.out k hlt)
     have HTK := Lib.hid (show tableB s[k] = true from List.all_eq_true.1 HALL.out _ (List.getElem_mem hlt))
     clear hsn hall
     have i0 : (0 : Int) ≤ k := by omega
     have i1 : (k : Int) < s.length := by omega
     go_wp2_with fail
     go_loopw [5] (fun i wr => ∃ m : Nat, m ≤ s[k].fks.length ∧ i = .int .i64 m ∧ Hid ((s[k].fks.take m).all (leadB s s[k]) = true) ∧ Below w.heap.size w wr) (fun i _ => s[k].fks.length - (intOf i).toNat)
     case atStart => exact ⟨0, by omega, rfl, Lib.hid (by simp), hb⟩
     case round =>
      clear hb
      obtain ⟨m, hm, rfl, hall, hb⟩ := hrel
      obtain ⟨b, off, A1, n1, c1, A2, n2, c2, A3, n3, c3, A4, n4, c4, A5, n5, c5, -, ea, q0, q1, q2, q3, q4, q5, s1, s2, -, -, s5, -⟩ := TbR.at_ (hs.below TbR.stays hb) hlt
      subst ea
      obtain rfl : s[k].fks.length = n5 := s5.1
      by_cases hlm : m < s[k].fks.length
      case neg =>
       have e : s[k].fks.take m = s[k].fks := List.take_of_length_le (by omega)
       have g1 := hall.out
       rw [e] at g1
       have HA := Lib.hid (HSN.out.trans g1)
       clear e g1 hall
       go_wp2_with fail
       go_roundw
       case rel => exact ⟨k + 1, by omega, by go_num, Lib.hid HA.out, hb⟩
       case measure => simp [intOf]; omega
      case pos =>
       have hsn := all_take (leadB s s[k]) s[k].fks m hlm
       rw [hall.out, Bool.true_and] at hsn
       have hno := fun hf : leadB s s[k] s[k].fks[m] = false => HNO.out (show leadsB s s[k] = false from all_no (leadB s s[k]) s[k].fks m hlm hf)
       have HI1 := Lib.hid (show ∀ y ∈ s[k].fks[m].cols, 0 ≤ y ∧ y < s[k].cols.length from fk_cols HTK.out hlm)
       obtain ⟨bf, offf, A9, n9, c9, -, ef, y0, y1, y2, y3, y4, hfc, -⟩ := FkR.at_ s5 hlm
       subst ef
       obtain rfl : s[k].fks[m].cols.length = n9 := hfc.1
       have HSN3 := Lib.hid hsn
       have HNO3 := Lib.hid hno
       clear hsn hno hall
       have hfin : s[k].fks[m].cols.length ≤ 1048576 := by have h1 := HX.out; have := sum_mem_le Fk.sz s[k].fks m hlm; simp only [Tb.sz, Fk.sz, szL] at *; omega
       have hfl : s[k].fks.length ≤ 1048576 := by have := HX.out; simp only [Tb.sz, szL] at this; omega
       generalize s[k].fks[m] = f at *
       have j0 : (0 : Int) ≤ m := by omega
       have j1' : (m : Int) < s[k].fks.length := by omega
       have hbx := (Below.refl wr.heap.size wr).alloc (Nat.le_refl _) (.cells #[.slice A9 f.cols.length c9, .string f.table, .int .i64 f.del, .int .i64 f.upd, .bool f.dfr] 63)
       have hba := hb.trans (hbx.mono hb.size)
       have rf := Row.new wr 63 #[.slice A9 f.cols.length c9, .string f.table, .int .i64 f.del, .int .i64 f.upd, .bool f.dfr]
       have hfc1 := hfc.below IntR.stays hbx
       obtain ⟨⟨f0, f1, f2, f3, f4⟩, -⟩ := rf.five
       clear hfc
       go_wp2_with fail
       generalize wr.alloc (.cells #[.slice A9 f.cols.length c9, .string f.table, .int .i64 f.del, .int .i64 f.upd, .bool f.dfr] 63) = z1 at *
       generalize wr.heap.size = gz at *
       refine (specL3At _ s.length cS s f.table ok _ (hs.below TbR.stays hba) hn).mono ?_
       rintro e w1 ⟨rfl, hb1⟩
       have hbc := hba.trans (hb1.mono hba.size)
       have rf1 := rf.below hb1
       have hfc2 := hfc1.below IntR.stays hb1
       clear f0 f1 f2 f3 f4 q0 q1 q2 q3 q4 q5 y0 y1 y2 y3 y4 s1 s2 hbx hb rf hfc1 hba hb1 s5
       obtain ⟨⟨f0, f1, f2, f3, f4⟩, -⟩ := rf1.five
       by_cases hat : atN (s.map Tb.name) f.table = -1
       ·have HA := Lib.hid hat
        have HF := Lib.hid (HNO3.out (by unfold leadB; rw [decide_eq_false (by simp [hat])]; rfl))
        rw [hat]
        clear hat
        go_wp2_with fail
        go_quiet (fail)
        go_wp2_with fail
        go_ret
        exact ⟨retB HF.out.symm, below_drewN hbc _⟩
       obtain ⟨j, hj, hjl⟩ : ∃ j : Nat, atN (s.map Tb.name) f.table = (j : Int) ∧ j < s.length := by
        rcases atN_rng (s.map Tb.name) f.table with h | h
        ·exact absurd h hat
        ·rw [List.length_map] at h; exact ⟨(atN (s.map Tb.name) f.table).toNat, by omega, by omega⟩
       have hld : leadB s s[k] f = sameB s[k].cols f.cols s[j].cols s[j].key := by
        unfold leadB; rw [decide_eq_true hat, hj]; simp [List.getElem?_eq_getElem hjl]
       have HSN4 := Lib.hid (HSN3.out.trans hld)
       have HLD := Lib.hid hld
       have HTJ := Lib.hid (show tableB s[j] = true from List.all_eq_true.1 HALL.out _ (List.getElem_mem hjl))
       rw [hj]
       clear hat hj hld
       have k0 : (0 : Int) ≤ j := by omega
       have k1 : (j : Int) < s.length := by omega
       have k2 : ¬ ((j : Int) < 0) := by omega
       have k3 : decide ((j : Int) < 0) = false := decide_eq_false k2
       obtain ⟨bj, offj, B1, m1, d1, B2, m2, d2, B3, m3, d3, B4, m4, d4, B5, m5, d5, -, ej, z0, z1', z2, z3, z4, z5, t1, t2, -, -, -, -⟩ := TbR.at_ (hs.below TbR.stays hbc) hjl
       cases ej
       obtain rfl : s[j].key.length = m2 := t2.1
       cases hl : (s[j].key.length == f.cols.length)
       ·have hne := beq_eq_false_iff_ne.1 hl
        have hl' : ¬ ((s[j].key.length : Int) = f.cols.length) := by omega
        have HF := Lib.hid (HNO3.out (by rw [HLD.out]; unfold sameB; rw [decide_eq_false (fun h => hne h.symm)]; rfl))
        clear hl hne
        go_wp2_with fail
        go_quiet (fail)
        go_wp2_with fail
        go_ret
        exact ⟨retB HF.out.symm, below_drewN hbc _⟩
       have hlen : s[j].key.length = f.cols.length := by simpa using hl
       have hl' : ((s[j].key.length : Int) = f.cols.length) := by omega
       have hz : (f.cols.zip s[j].key).length = f.cols.length := by simp [hlen]
       have HZ := Lib.hid hz
       have HL := Lib.hid hlen
       have HE := Lib.hid (show sameB s[k].cols f.cols s[j].cols s[j].key = (f.cols.zip s[j].key).all (kindV s[k].cols s[j].cols) by unfold sameB; rw [decide_eq_true hlen.symm]; rfl)
       clear hl hz hlen
       go_wp2_with fail
       go_quiet (fail)
       go_wp2_with fail
       clear f0 f1 f2 f3 f4 z0 z1' z2 z3 z4 z5 t1 t2 hl'
       have hbd := fun n => below_drewN hbc n
       go_loopw [8] (fun i wr => ∃ r : Nat, r ≤ f.cols.length ∧ i = .int .i64 r ∧ Hid (((f.cols.zip s[j].key).take r).all (kindV s[k].cols s[j].cols) = true) ∧ Row wr gz 63 #[.slice A9 f.cols.length c9, .string f.table, .int .i64 f.del, .int .i64 f.upd, .bool f.dfr] ∧ Sl IntR 1 ok wr A9 f.cols.length f.cols ∧ Below w.heap.size w wr) (fun i _ => f.cols.length - (intOf i).toNat)
       case atStart => exact ⟨0, by omega, rfl, Lib.hid (by simp), rf1.drewN _, hfc2.drewN IntR.stays _, hbd _⟩
       case round =>
        clear hbd hbc rf1 hfc2
        obtain ⟨r, hr', rfl, hall, hrf, hfc, hb⟩ := hrel
        obtain ⟨⟨f0, f1, f2, f3, f4⟩, -⟩ := hrf.five
        by_cases hlr : r < f.cols.length
        case neg =>
         have e : (f.cols.zip s[j].key).take r = f.cols.zip s[j].key := List.take_of_length_le (by rw [HZ.out]; omega)
         have g1 := hall.out
         rw [e] at g1
         have HA := Lib.hid (HSN4.out.trans (HE.out.trans g1))
         clear e g1 hall
         go_wp2_with fail
         go_roundw
         case rel => exact ⟨m + 1, by omega, by go_num, Lib.hid HA.out, hb⟩
         case measure => simp [intOf]; omega
        case pos =>
         have hlr2 : r < s[j].key.length := by have := HL.out; omega
         obtain ⟨bq, offq, C1, e1, g1, C2, e2, g2, C3, e3, g3, C4, e4, g4, C5, e5, g5, -, eq, q0, q1, q2, q3, q4, q5, s1, -, -, -, -, -⟩ := TbR.at_ (hs.below TbR.stays hb) hlt
         cases eq
         obtain ⟨bj, offj, D1, m1, d1, D2, m2, d2, D3, m3, d3, D4, m4, d4, D5, m5, d5, -, ej, z0, z1', z2, z3, z4, z5, t1, t2, -, -, -, -⟩ := TbR.at_ (hs.below TbR.stays hb) hjl
         cases ej
         obtain rfl : s[j].key.length = m2 := t2.1
         obtain rfl : s[k].cols.length = e1 := s1.1
         obtain rfl : s[j].cols.length = m1 := t1.1
         obtain ⟨bk, offk, -, ek, p0⟩ := IntR.at_ hfc hlr
         subst ek
         obtain ⟨bl, offl, -, el, p1⟩ := IntR.at_ t2 hlr2
         subst el
         have hi1 := HI1.out _ (List.getElem_mem hlr)
         have hi2 := key_cols HTJ.out _ (List.getElem_mem hlr2)
         have hsn := all_take (kindV s[k].cols s[j].cols) (f.cols.zip s[j].key) r (by rw [HZ.out]; exact hlr)
         have hno := fun hf : kindV s[k].cols s[j].cols ((f.cols.zip s[j].key)[r]'(by rw [HZ.out]; exact hlr)) = false => all_no (kindV s[k].cols s[j].cols) (f.cols.zip s[j].key) r (by rw [HZ.out]; exact hlr) hf
         obtain ⟨u1, hu1⟩ : ∃ j : Nat, f.cols[r] = (j : Int) := ⟨f.cols[r].toNat, by omega⟩
         obtain ⟨u2, hu2⟩ : ∃ i : Nat, s[j].key[r] = (i : Int) := ⟨s[j].key[r].toNat, by omega⟩
         rw [hu1] at p0 hi1
         rw [hu2] at p1 hi2
         have hjl1 : u1 < s[k].cols.length := by omega
         have hjl2 : u2 < s[j].cols.length := by omega
         have eg : kindV s[k].cols s[j].cols ((f.cols.zip s[j].key)[r]'(by rw [HZ.out]; exact hlr)) = (s[k].cols[u1].kind == s[j].cols[u2].kind) := by
          rw [List.getElem_zip]; unfold kindV; simp only [hu1, hu2, kindAt_nat hjl1, kindAt_nat hjl2]
         rw [hall.out, Bool.true_and, eg] at hsn
         rw [eg] at hno
         obtain ⟨bv, offv, -, ev, v0, v1, v2, v3, v4, v5⟩ := ClR.at_ s1 hjl1
         subst ev
         obtain ⟨bx, offx, -, ex, x0, x1, x2, x3, x4, x5⟩ := ClR.at_ t1 hjl2
         subst ex
         have r0 : (0 : Int) ≤ r := by omega
         have r1 : (r : Int) < f.cols.length := by omega
         have r2 : (r : Int) < s[j].key.length := by omega
         have r3 : (0 : Int) ≤ u1 := by omega
         have r4 : (u1 : Int) < s[k].cols.length := by omega
         have r5 : (0 : Int) ≤ u2 := by omega
         have r6 : (u2 : Int) < s[j].cols.length := by omega
         clear eg hu1 hu2 hi1 hi2
         cases hc : (s[k].cols[u1].kind == s[j].cols[u2].kind)
         ·have HF := Lib.hid (HNO3.out (by rw [HLD.out, HE.out]; exact hno hc))
          have hc2 : (s[k].cols[u1].kind != s[j].cols[u2].kind) = true := by rw [bne, hc]; rfl
          clear hsn hno hall
          go_wp2_with fail
          go_quiet (fail)
          go_wp2_with fail
          go_ret
          exact ⟨retB HF.out.symm, below_drewN hb _⟩
         ·have HA := Lib.hid (hsn.trans hc)
          have hc2 : (s[k].cols[u1].kind != s[j].cols[u2].kind) = false := by rw [bne, hc]; rfl
          clear hsn hno hall
          go_wp2_with fail
          go_quiet (fail)
          go_wp2_with fail
          go_roundw
          case rel => exact ⟨r + 1, by omega, by go_num, Lib.hid HA.out, hrf.drewN _, hfc.drewN IntR.stays _, below_drewN hb _⟩
          case measure => simp [intOf]; omega
def EmR : Rd Unit := FlatR fun _ => [.slice none 0 0]
theorem EmR.stays : Stays EmR := FlatR.stays _
def ems (b : Bool) (n : Nat) : List Unit := if b then List.replicate n () else []
def dts (l : List Unit) : List Dt := l.map fun _ => ⟨[]⟩
theorem Em.toDt {ok : Nat → Prop} {w : World} {A : Option Addr} {n : Nat} {l : List Unit} (h : Sl EmR 1 ok w A n l) : Sl DtR 1 ok w A n (dts l) := by
 refine ⟨by simpa [dts] using h.1, fun hn => ?_⟩
 obtain ⟨b, off, e, hb, hi⟩ := h.2 hn
 refine ⟨b, off, e, hb, fun i hlt => ?_⟩
 obtain ⟨cs, h1, h2, h3⟩ := hi i (by simpa [dts] using hlt)
 have e2 : cs = _ := h2
 subst e2
 refine ⟨_, h1, ⟨none, 0, 0, rfl, ?_, Nat.le_refl _⟩, h3⟩
 simp only [dts, List.getElem_map]
 exact ⟨rfl, fun h => by omega⟩
theorem em_made (w : World) (n : Nat) (T : TypeId) : Sl EmR 1 (okF w.heap.size (w.alloc (.cells (madeCells #[.slice none 0 0] n) T))) (w.alloc (.cells (madeCells #[.slice none 0 0] n) T)) (some ⟨w.heap.size, 0, none⟩) n (List.replicate n ()) := by
 have row := Row.new w T (madeCells #[.slice none 0 0] n)
 refine ⟨by simp, fun hn => ⟨w.heap.size, 0, rfl, ⟨Nat.le_refl _, by simp, fun off => row.free off⟩, fun i hi => ⟨_, rfl, rfl, fun j v hv => ?_⟩⟩⟩
 have hj : j = 0 := by have := (List.getElem?_eq_some_iff.1 hv).1; simpa using this
 subst hj
 obtain rfl := Option.some.inj hv
 have hi' : i < n := by simpa using hi
 rw [row.cell]
 simp [madeCells, hi', Nat.mod_one]
def MadeT {α : Type} (R : Rd α) (sz : Nat) (xs : List α) (b : Bool) (w : World) (e : Ending) (w' : World) : Prop := ∃ A c, e = .returned (.tuple #[.slice A xs.length c, .bool b]) ∧ xs.length ≤ c ∧ Sl R sz (okF w.heap.size w') w' A xs.length xs ∧ Below w.heap.size w w'
theorem infoDataT' : (Tryz.prog.info? 33).map (fun i => (i.zero, i.size, i.bytes)) = some (some (.agg #[.slice none 0 0]), 1, 24) := by kernel_rfl
set_option maxRecDepth 100000 in
set_option maxHeartbeats 1000000 in
theorem specDbNew (A : Option Addr) (n c : Nat) (s : List Tb) (ok : Nat → Prop) (w : World) (h : Sl TbR 6 ok w A n s) (hcp : n ≤ c) (hs : szL Tb.sz s ≤ 1048576) :
  Calls Tryz.prog 73 #[.slice A n c] w (MadeT EmR 1 (ems (schemaB s) s.length) (schemaB s) w) := by
 obtain rfl : s.length = n := h.1
 have hn : s.length ≤ 1048576 := by unfold szL at hs; omega
 have HS := Lib.hid hs
 have HCP := Lib.hid hcp
 clear hs hcp
 cases hB : schemaB s
 ·have HB := Lib.hid hB
  clear hB
  go_enter Tryz.func73, Tryz.ntmps73
  go_wp2_with fail
  refine (specSchemaOk A s.length c s ok _ h HCP.out HS.out).mono ?_
  rintro e w1 ⟨rfl, hb1⟩
  rw [HB.out]
  go_wp2_with fail
  go_ret2
  exact ⟨none, 0, rfl, Nat.le_refl _, ⟨rfl, fun h => by simp [ems] at h⟩, hb1⟩
 have HB := Lib.hid hB
 clear hB
 have hmk := fun w => mk_rows (P := Tryz.prog) Tryz.underlying25 infoDataT' (by omega) s.length hn w
 simp only [Nat.mul_one] at hmk
 go_enter Tryz.func73, Tryz.ntmps73
 go_wp2_with fail
 refine (specSchemaOk A s.length c s ok _ h HCP.out HS.out).mono ?_
 rintro e w1 ⟨rfl, hb1⟩
 rw [HB.out]
 have hem := em_made w1 s.length 33
 have hbz := hb1.alloc hb1.size (.cells (madeCells #[.slice none 0 0] s.length) 33)
 have HEM := Lib.hid (hem.stays EmR.stays (ok' := okF w.heap.size _) (fun b hb => hb.mono hb1.size) (fun _ _ _ h => h))
 clear hem
 go_wp2_with fail
 go_ret2
 exact ⟨some ⟨w1.heap.size, 0, none⟩, s.length, by simp [ems], by simp [ems], by simpa [ems] using HEM.out, hbz⟩
theorem ids_out {v last : Int} (hin : (decide (1 ≤ v) && decide (v ≤ 1000000000)) = false) (h0 : 0 ≤ last) (b : Bool) : (decide (last < v) && (decide (v ≤ 1000000000) && b)) = false := by
 rw [Bool.eq_false_iff]
 intro h
 simp only [Bool.and_eq_true, decide_eq_true_eq] at h
 rw [decide_eq_true (by omega), decide_eq_true h.2.1] at hin
 cases hin
set_option maxRecDepth 100000 in
set_option maxHeartbeats 4000000 in
theorem specL4Db (AS AD : Option Addr) (nS cS nD cD : Nat) (s : List Tb) (db : List Dt) (ok : Nat → Prop) (w : World) (hs : Sl TbR 6 ok w AS nS s) (hd : Sl DtR 1 ok w AD nD db) (hsz : szL Tb.sz s ≤ 1048576) (hdz : szL Dt.sz db ≤ 1048576) (hvs : ∀ d ∈ db, ∀ r ∈ d.rows, r.vals.length ≤ 1048576) (hS : schemaB s = true) :
  Calls Tryz.prog 61 #[.slice AS nS cS, .slice AD nD cD] w fun e w' => e = .returned (.bool (dbB s db)) ∧ Below w.heap.size w w' := by
 obtain rfl : s.length = nS := hs.1
 obtain rfl : db.length = nD := hd.1
 have hn1 : s.length ≤ 1048576 := by unfold szL at hsz; omega
 have hn2 : db.length ≤ 1048576 := by unfold szL at hdz; omega
 have HSZ := Lib.hid hsz
 have HDZ := Lib.hid hdz
 have HVS := Lib.hid hvs
 have HS := Lib.hid hS
 clear hsz hdz hvs hS
 cases hl : (db.length == s.length)
 ·have hl' : ¬ ((db.length : Int) = s.length) := by have := beq_eq_false_iff_ne.1 hl; omega
  have HF := Lib.hid (show dbB s db = false by unfold dbB; rw [decide_eq_false (beq_eq_false_iff_ne.1 hl)]; simp)
  clear hl
  go_enter Tryz.func61, Tryz.ntmps61
  go_wp2_with fail
  go_ret
  exact ⟨retB HF.out.symm, Below.refl _ _⟩
 have hlen : db.length = s.length := by simpa using hl
 have hl' : (db.length : Int) = s.length := by omega
 have hz : (s.zip db).length = db.length := by simp [hlen]
 have HZ := Lib.hid hz
 have HL := Lib.hid hlen
 have HE := Lib.hid (show dbB s db = (s.zip db).all dbV by unfold dbB; rw [HS.out, decide_eq_true hlen]; rfl)
 clear hl hz hlen
 go_enter Tryz.func61, Tryz.ntmps61
 go_wp2_with fail
 clear hl'
 go_loopw [5] (fun i wr => ∃ k : Nat, k ≤ db.length ∧ i = .int .i64 k ∧ Hid (((s.zip db).take k).all dbV = true) ∧ Below w.heap.size w wr) (fun i _ => db.length - (intOf i).toNat)
 case atStart => exact ⟨0, by omega, rfl, Lib.hid (by simp), Below.refl _ _⟩
 case round =>
  obtain ⟨i, hk, rfl, hall, hb⟩ := hrel
  by_cases hlt : i < db.length
  case neg =>
   have e : (s.zip db).take i = s.zip db := List.take_of_length_le (by rw [HZ.out]; omega)
   have g1 := hall.out
   rw [e] at g1
   have HF := Lib.hid (show dbB s db = true by rw [HE.out]; exact g1)
   have i3 : ¬ (i : Int) < s.length := by have := HL.out; omega
   clear e g1 hall
   go_wp2_with fail
   go_ret
   exact ⟨retB HF.out.symm, hb⟩
  case pos =>
   have hlt2 : i < s.length := by have := HL.out; omega
   obtain ⟨bd, offd, AL, nL, cL, -, ed, y0, hrs, -⟩ := DtR.at_ (hd.below DtR.stays hb) hlt
   subst ed
   obtain rfl : db[i].rows.length = nL := hrs.1
   have hrn : db[i].rows.length ≤ 1048576 := by have h1 := HDZ.out; have := sum_mem_le Dt.sz db i hlt; simp only [szL, Dt.sz] at *; omega
   have HV := Lib.hid (HVS.out _ (List.getElem_mem hlt))
   have hsn := all_take dbV (s.zip db) i (by rw [HZ.out]; exact hlt)
   have hno := fun hf => all_no dbV (s.zip db) i (by rw [HZ.out]; exact hlt) hf
   have eg : dbV ((s.zip db)[i]'(by rw [HZ.out]; exact hlt)) = dataB s[i].cols db[i].rows := by rw [List.getElem_zip]; rfl
   rw [hall.out, Bool.true_and, eg] at hsn
   rw [eg] at hno
   have i0 : (0 : Int) ≤ i := by omega
   have i1 : (i : Int) < db.length := by omega
   have i2 : (i : Int) < s.length := by omega
   have HSN := Lib.hid hsn
   have HNO := Lib.hid (fun hf : dataB s[i].cols db[i].rows = false => show dbB s db = false by rw [HE.out]; exact hno hf)
   clear eg hsn hno hall
   go_wp2_with fail
   clear y0
   go_loopw [7] (fun m wr => ∃ (k : Nat) (last : Int), k ≤ db[i].rows.length ∧ m = .int .i64 k ∧ Hid (idsGo s[i].cols 0 db[i].rows = idsGo s[i].cols last (db[i].rows.drop k)) ∧ Hid (0 ≤ last ∧ (k = 0 → last = 0) ∧ (∀ q (hq : q + 1 = k) (h2 : q < db[i].rows.length), db[i].rows[q].id = last)) ∧ Sl RwR 2 ok wr AL db[i].rows.length db[i].rows ∧ Below w.heap.size w wr) (fun m _ => db[i].rows.length - (intOf m).toNat)
   case atStart => exact ⟨0, 0, by omega, rfl, Lib.hid (by simp), Lib.hid ⟨by omega, fun _ => rfl, fun q hq => by omega⟩, hrs, hb⟩
   case round =>
    clear hb hrs
    obtain ⟨k, last, hk, rfl, HGO, HLA, hrs, hb⟩ := hrel
    by_cases hlk : k < db[i].rows.length
    case neg =>
     have e : db[i].rows.drop k = [] := List.drop_eq_nil_of_le (by omega)
     have g1 := HGO.out
     rw [e] at g1
     by_cases h60 : 60 < (db[i].rows.length : Int)
     ·have HF := Lib.hid (HNO.out (by unfold dataB; rw [decide_eq_false (by omega)]; rfl))
      clear e g1
      go_wp2_with fail
      go_ret
      exact ⟨retB HF.out.symm, hb⟩
     ·have HA := Lib.hid (show ((s.zip db).take (i + 1)).all dbV = true by rw [HSN.out]; unfold dataB; rw [decide_eq_true (by omega), g1]; rfl)
      have h60' : decide (60 < (db[i].rows.length : Int)) = false := by simpa using h60
      clear e g1
      go_wp2_with fail
      go_roundw
      case rel => exact ⟨i + 1, by omega, by go_num, Lib.hid HA.out, hb⟩
      case measure => simp [intOf]; omega
    case pos =>
     obtain ⟨b, off, A1, n1, c1, A2, n2, c2, A3, n3, c3, A4, n4, c4, A5, n5, c5, -, ea, q0, q1, q2, q3, q4, q5, s1, -, -, -, -, -⟩ := TbR.at_ (hs.below TbR.stays hb) hlt2
     subst ea
     obtain rfl : s[i].cols.length = n1 := s1.1
     have HCN := Lib.hid (show s[i].cols.length ≤ 1048576 by have h1 := HSZ.out; have := sum_mem_le Tb.sz s i hlt2; simp only [szL, Tb.sz] at *; omega)
     obtain ⟨bl, offl, A9, n9, c9, -, el, r0, r1, hvl, -⟩ := RwR.at_ hrs hlk
     obtain rfl : db[i].rows[k].vals.length = n9 := hvl.1
     have hvv : Vals wr.drew A9 db[i].rows[k].vals.length db[i].rows[k].vals := Sl.cellz (fun _ => rfl) (hvl.drew VlR.stays)
     have HN9 := Lib.hid (HV.out _ (List.getElem_mem hlk))
     have hst := idsGo_at s[i].cols last db[i].rows k hlk
     have hbad := fun hf : idsGo s[i].cols last (db[i].rows.drop k) = false => HNO.out (by unfold dataB; rw [HGO.out, hf]; simp)
     have hla := HLA.out
     have HVK := Lib.hid (rfl : db[i].rows[k].id = db[i].rows[k].id)
     have j0 : (0 : Int) ≤ k := by omega
     have j1 : (k : Int) < db[i].rows.length := by omega
     have hpre : ∀ p, p + 1 = k → ∃ hp : p < db[i].rows.length, wr.cell? ⟨bl, offl + p * 2, none⟩ = some (.int .i64 db[i].rows[p].id) := by
      intro p hp
      obtain ⟨b2, off2, _, _, _, -, e2, z0, -⟩ := RwR.at_ hrs (i := p) (by omega)
      rw [el] at e2
      cases e2
      exact ⟨by omega, z0⟩
     subst el
     revert HVK
     generalize hvd : db[i].rows[k] = v at *
     intro HVK
     have HVK := Lib.hid (show db[i].rows[k].id = v.id by rw [hvd])
     cases hin : (decide (1 ≤ v.id) && decide (v.id ≤ 1000000000))
     ·skip
      have HIN := Lib.hid hin
      have HF := Lib.hid (hbad (by rw [hst]; exact ids_out hin hla.1 _))
      clear hin hst hbad
      go_wp2_with fail
      refine wp_region_noPanic ?_
      refine wp_region_held_drew (S := fun w' => w'.cell? ⟨bl, offl + k * 2, none⟩ = some (.int .i64 v.id) ∧ w'.cell? ⟨bl, offl + k * 2 + 1, none⟩ = some (.slice A9 v.vals.length c9) ∧ w'.cell? ⟨b, off + i * 6, none⟩ = some (.string s[i].name) ∧ w'.cell? ⟨b, off + i * 6 + 1, none⟩ = some (.slice A1 s[i].cols.length c1) ∧ w'.cell? ⟨b, off + i * 6 + 2, none⟩ = some (.slice A2 n2 c2) ∧ w'.cell? ⟨b, off + i * 6 + 3, none⟩ = some (.slice A3 n3 c3) ∧ w'.cell? ⟨b, off + i * 6 + 4, none⟩ = some (.slice A4 n4 c4) ∧ w'.cell? ⟨b, off + i * 6 + 5, none⟩ = some (.slice A5 n5 c5)) (by kernel_rfl) ⟨r0, r1, q0, q1, q2, q3, q4, q5⟩ (fun hHeld => ?_)
      refine tk 0 ?_
      refine tk 1 ?_
      refine tk 2 ?_
      refine tk 3 ?_
      refine tk 4 ?_
      refine wpAnyH_ready (rs := [5]) (by kernel_rfl) (by simp) ?_
      refine AllReadyH.cons rfl (fun K hK => ?_) AllReadyH.nil
      go_simp
      refine (specIn _ _ _ _).mono ?_
      rintro e wc ⟨rfl, rfl⟩
      rw [HIN.out]
      go_wp2_with fail
      refine hK.out _ _ hHeld (fun hHeld => ?_)
      clear hK K
      (try simp only [Act.put, pz0, pz1, pz2, pz3, pz4, pz5])
      refine tk 6 ?_
      refine tk 7 ?_
      refine tu 8 ?_
      refine tu 9 ?_
      refine tu 10 ?_
      refine tu 11 ?_
      refine tu 12 ?_
      refine tu 13 ?_
      refine tu 14 ?_
      refine tu 15 ?_
      refine tu 16 ?_
      refine tu 17 ?_
      refine tu 18 ?_
      refine tu 19 ?_
      refine tu 20 ?_
      refine tu 21 ?_
      refine tu 22 ?_
      refine tu 23 ?_
      refine tk 24 ?_
      refine tk 25 ?_
      refine tu 26 ?_
      refine tu 27 ?_
      refine tu 28 ?_
      refine tu 29 ?_
      refine tu 30 ?_
      refine tu 31 ?_
      refine tu 32 ?_
      refine tu 33 ?_
      refine tu 34 ?_
      refine tu 35 ?_
      refine tu 36 ?_
      refine tk 37 ?_
      refine wpAnyH_done (by kernel_rfl) ?_ _
      refine NoPanic.normal ?_
      have hz := hb.drew
      clear hHeld
      go_wp2_with fail
      go_ret
      exact ⟨retB HF.out.symm, hz⟩
     have HIN := Lib.hid hin
     simp only [Bool.and_eq_true, decide_eq_true_eq] at hin
     by_cases hk0 : k = 0
     case pos =>
      have hl0 := hla.2.1 hk0
      have e0 : decide ((0 : Int) < (k : Int)) = false := decide_eq_false (by omega)
      have e0n : decide (0 < k) = false := decide_eq_false (by omega)
      clear hk0 hpre
      cases hkd : kindsB s[i].cols v.vals
      ·skip
       have HK := Lib.hid hkd
       have HF := Lib.hid (hbad (by rw [hst, hkd]; simp))
       clear hkd hst hbad
       go_wp2_with fail
       refine wp_region_noPanic ?_
       refine wp_region_held_drew (S := fun w' => w'.cell? ⟨bl, offl + k * 2, none⟩ = some (.int .i64 v.id) ∧ w'.cell? ⟨bl, offl + k * 2 + 1, none⟩ = some (.slice A9 v.vals.length c9) ∧ w'.cell? ⟨b, off + i * 6, none⟩ = some (.string s[i].name) ∧ w'.cell? ⟨b, off + i * 6 + 1, none⟩ = some (.slice A1 s[i].cols.length c1) ∧ w'.cell? ⟨b, off + i * 6 + 2, none⟩ = some (.slice A2 n2 c2) ∧ w'.cell? ⟨b, off + i * 6 + 3, none⟩ = some (.slice A3 n3 c3) ∧ w'.cell? ⟨b, off + i * 6 + 4, none⟩ = some (.slice A4 n4 c4) ∧ w'.cell? ⟨b, off + i * 6 + 5, none⟩ = some (.slice A5 n5 c5)) (by kernel_rfl) ⟨r0, r1, q0, q1, q2, q3, q4, q5⟩ (fun hHeld => ?_)
       refine tk 0 ?_
       refine tk 1 ?_
       refine tk 2 ?_
       refine tk 3 ?_
       refine tk 4 ?_
       refine wpAnyH_ready (rs := [5]) (by kernel_rfl) (by simp) ?_
       refine AllReadyH.cons rfl (fun K hK => ?_) AllReadyH.nil
       go_simp
       refine (specIn _ _ _ _).mono ?_
       rintro e wc ⟨rfl, rfl⟩
       rw [HIN.out]
       go_wp2_with fail
       refine hK.out _ _ hHeld (fun hHeld => ?_)
       clear hK K
       (try simp only [Act.put, pz0, pz1, pz2, pz3, pz4, pz5])
       refine tk 6 ?_
       refine tk 7 ?_
       refine tk 8 ?_
       refine tk 9 ?_
       refine tk 10 ?_
       refine tu 11 ?_
       refine tu 12 ?_
       refine tu 13 ?_
       refine tu 14 ?_
       refine tu 15 ?_
       refine tu 16 ?_
       refine tu 17 ?_
       refine tu 18 ?_
       refine tu 19 ?_
       refine tu 20 ?_
       refine tu 21 ?_
       refine tu 22 ?_
       refine tk 23 ?_
       refine tk 24 ?_
       refine tk 25 ?_
       refine tk 26 ?_
       refine tk 27 ?_
       refine tk 28 ?_
       refine tk 29 ?_
       refine tk 30 ?_
       refine tk 31 ?_
       refine tk 32 ?_
       refine tk 33 ?_
       refine tk 34 ?_
       refine wpAnyH_ready (rs := [35]) (by kernel_rfl) (by simp) ?_
       refine AllReadyH.cons rfl (fun K hK => ?_) AllReadyH.nil
       go_simp
       refine (specKinds A1 A9 s[i].cols.length c1 v.vals.length c9 _ _ _ _ _ s[i].cols v.vals ok _ (s1.drew ClR.stays) hvv HCN.out HN9.out).mono ?_
       rintro e wd ⟨rfl, hqd⟩
       rw [HK.out]
       go_wp2_with fail
       refine hK.out _ _ ⟨below_keep hqd _ _ hHeld.1, below_keep hqd _ _ hHeld.2.1, below_keep hqd _ _ hHeld.2.2.1, below_keep hqd _ _ hHeld.2.2.2.1, below_keep hqd _ _ hHeld.2.2.2.2.1, below_keep hqd _ _ hHeld.2.2.2.2.2.1, below_keep hqd _ _ hHeld.2.2.2.2.2.2.1, below_keep hqd _ _ hHeld.2.2.2.2.2.2.2⟩ (fun hHeld => ?_)
       clear hK K
       (try simp only [Act.put, pz0, pz1, pz2, pz3, pz4, pz5])
       refine tk 36 ?_
       refine tk 37 ?_
       refine wpAnyH_done (by kernel_rfl) ?_ _
       refine NoPanic.normal ?_
       have hz := hb.drew.trans (hqd.mono hb.drew.size)
       have hrz := (hrs.drew RwR.stays).below RwR.stays hqd
       clear hHeld
       go_wp2_with fail
       go_ret
       exact ⟨retB HF.out.symm, hz⟩
      ·skip
       have HK := Lib.hid hkd
       have HG := Lib.hid (show idsGo s[i].cols 0 db[i].rows = idsGo s[i].cols v.id (db[i].rows.drop (k + 1)) by rw [HGO.out, hst, decide_eq_true (p := last < v.id) (by omega), decide_eq_true (p := v.id ≤ 1000000000) (by omega), hkd]; rfl)
       have HL2 := Lib.hid (show 0 ≤ v.id ∧ (k + 1 = 0 → v.id = 0) ∧ (∀ q (hq : q + 1 = k + 1) (h2 : q < db[i].rows.length), db[i].rows[q].id = v.id) from ⟨by omega, by omega, fun q hq h2 => by (obtain rfl : q = k := (by omega)); exact HVK.out⟩)
       clear hkd hst hbad
       go_wp2_with fail
       refine wp_region_noPanic ?_
       refine wp_region_held_drew (S := fun w' => w'.cell? ⟨bl, offl + k * 2, none⟩ = some (.int .i64 v.id) ∧ w'.cell? ⟨bl, offl + k * 2 + 1, none⟩ = some (.slice A9 v.vals.length c9) ∧ w'.cell? ⟨b, off + i * 6, none⟩ = some (.string s[i].name) ∧ w'.cell? ⟨b, off + i * 6 + 1, none⟩ = some (.slice A1 s[i].cols.length c1) ∧ w'.cell? ⟨b, off + i * 6 + 2, none⟩ = some (.slice A2 n2 c2) ∧ w'.cell? ⟨b, off + i * 6 + 3, none⟩ = some (.slice A3 n3 c3) ∧ w'.cell? ⟨b, off + i * 6 + 4, none⟩ = some (.slice A4 n4 c4) ∧ w'.cell? ⟨b, off + i * 6 + 5, none⟩ = some (.slice A5 n5 c5)) (by kernel_rfl) ⟨r0, r1, q0, q1, q2, q3, q4, q5⟩ (fun hHeld => ?_)
       refine tk 0 ?_
       refine tk 1 ?_
       refine tk 2 ?_
       refine tk 3 ?_
       refine tk 4 ?_
       refine wpAnyH_ready (rs := [5]) (by kernel_rfl) (by simp) ?_
       refine AllReadyH.cons rfl (fun K hK => ?_) AllReadyH.nil
       go_simp
       refine (specIn _ _ _ _).mono ?_
       rintro e wc ⟨rfl, rfl⟩
       rw [HIN.out]
       go_wp2_with fail
       refine hK.out _ _ hHeld (fun hHeld => ?_)
       clear hK K
       (try simp only [Act.put, pz0, pz1, pz2, pz3, pz4, pz5])
       refine tk 6 ?_
       refine tk 7 ?_
       refine tk 8 ?_
       refine tk 9 ?_
       refine tk 10 ?_
       refine tu 11 ?_
       refine tu 12 ?_
       refine tu 13 ?_
       refine tu 14 ?_
       refine tu 15 ?_
       refine tu 16 ?_
       refine tu 17 ?_
       refine tu 18 ?_
       refine tu 19 ?_
       refine tu 20 ?_
       refine tu 21 ?_
       refine tu 22 ?_
       refine tk 23 ?_
       refine tk 24 ?_
       refine tk 25 ?_
       refine tk 26 ?_
       refine tk 27 ?_
       refine tk 28 ?_
       refine tk 29 ?_
       refine tk 30 ?_
       refine tk 31 ?_
       refine tk 32 ?_
       refine tk 33 ?_
       refine tk 34 ?_
       refine wpAnyH_ready (rs := [35]) (by kernel_rfl) (by simp) ?_
       refine AllReadyH.cons rfl (fun K hK => ?_) AllReadyH.nil
       go_simp
       refine (specKinds A1 A9 s[i].cols.length c1 v.vals.length c9 _ _ _ _ _ s[i].cols v.vals ok _ (s1.drew ClR.stays) hvv HCN.out HN9.out).mono ?_
       rintro e wd ⟨rfl, hqd⟩
       rw [HK.out]
       go_wp2_with fail
       refine hK.out _ _ ⟨below_keep hqd _ _ hHeld.1, below_keep hqd _ _ hHeld.2.1, below_keep hqd _ _ hHeld.2.2.1, below_keep hqd _ _ hHeld.2.2.2.1, below_keep hqd _ _ hHeld.2.2.2.2.1, below_keep hqd _ _ hHeld.2.2.2.2.2.1, below_keep hqd _ _ hHeld.2.2.2.2.2.2.1, below_keep hqd _ _ hHeld.2.2.2.2.2.2.2⟩ (fun hHeld => ?_)
       clear hK K
       (try simp only [Act.put, pz0, pz1, pz2, pz3, pz4, pz5])
       refine tk 36 ?_
       refine tk 37 ?_
       refine wpAnyH_done (by kernel_rfl) ?_ _
       refine NoPanic.normal ?_
       have hz := hb.drew.trans (hqd.mono hb.drew.size)
       have hrz := (hrs.drew RwR.stays).below RwR.stays hqd
       clear hHeld
       go_wp2_with fail
       go_roundw
       case rel => exact ⟨k + 1, v.id, by omega, by go_num, Lib.hid HG.out, Lib.hid HL2.out, hrz, hz⟩
       case measure => simp [intOf]; omega
     case neg =>
      obtain ⟨p, hp⟩ : ∃ p, p + 1 = k := ⟨k - 1, by omega⟩
      obtain ⟨hpl, p0⟩ := hpre p hp
      have hlp := hla.2.2 p hp hpl
      generalize db[i].rows[p] = u at *
      have e0 : decide ((0 : Int) < (k : Int)) = true := decide_eq_true (by omega)
      have e0n : decide (0 < k) = true := decide_eq_true (by omega)
      have e1 : (k : Int) - 1 = (p : Int) := by omega
      have k0 : (0 : Int) ≤ p := by omega
      have k1 : (p : Int) < db[i].rows.length := by omega
      have e2 : IntKind.i64.wrap (p : Int) = (p : Int) := IntWalk.i64_in _ (by omega)
      clear hk0 hpre hp
      by_cases hpv : v.id ≤ u.id
      ·skip
       have hge : decide (v.id ≤ u.id) = true := decide_eq_true hpv
       have hgf : decide (u.id < v.id) = false := decide_eq_false (by omega)
       have hgl : decide (v.id ≤ last) = true := decide_eq_true (by omega)
       have HF := Lib.hid (hbad (by rw [hst, decide_eq_false (p := last < v.id) (by omega)]; rfl))
       clear hst hbad
       go_wp2_with fail
       refine wp_region_noPanic ?_
       refine wp_region_held_drew (S := fun w' => w'.cell? ⟨bl, offl + k * 2, none⟩ = some (.int .i64 v.id) ∧ w'.cell? ⟨bl, offl + k * 2 + 1, none⟩ = some (.slice A9 v.vals.length c9) ∧ w'.cell? ⟨b, off + i * 6, none⟩ = some (.string s[i].name) ∧ w'.cell? ⟨b, off + i * 6 + 1, none⟩ = some (.slice A1 s[i].cols.length c1) ∧ w'.cell? ⟨b, off + i * 6 + 2, none⟩ = some (.slice A2 n2 c2) ∧ w'.cell? ⟨b, off + i * 6 + 3, none⟩ = some (.slice A3 n3 c3) ∧ w'.cell? ⟨b, off + i * 6 + 4, none⟩ = some (.slice A4 n4 c4) ∧ w'.cell? ⟨b, off + i * 6 + 5, none⟩ = some (.slice A5 n5 c5) ∧ w'.cell? ⟨bl, offl + p * 2, none⟩ = some (.int .i64 u.id)) (by kernel_rfl) ⟨r0, r1, q0, q1, q2, q3, q4, q5, p0⟩ (fun hHeld => ?_)
       refine tk 0 ?_
       refine tk 1 ?_
       refine tk 2 ?_
       refine tk 3 ?_
       refine tk 4 ?_
       refine wpAnyH_ready (rs := [5]) (by kernel_rfl) (by simp) ?_
       refine AllReadyH.cons rfl (fun K hK => ?_) AllReadyH.nil
       go_simp
       refine (specIn _ _ _ _).mono ?_
       rintro e wc ⟨rfl, rfl⟩
       rw [HIN.out]
       go_wp2_with fail
       refine hK.out _ _ hHeld (fun hHeld => ?_)
       clear hK K
       (try simp only [Act.put, pz0, pz1, pz2, pz3, pz4, pz5])
       refine tk 6 ?_
       refine tk 7 ?_
       refine tk 8 ?_
       refine tk 9 ?_
       refine tk 10 ?_
       refine tk 11 ?_
       refine tk 12 ?_
       refine tk 13 ?_
       refine tk 14 ?_
       refine tk 15 ?_
       refine tk 16 ?_
       refine tk 17 ?_
       refine tk 18 ?_
       refine tk 19 ?_
       refine tk 20 ?_
       refine tk 21 ?_
       refine tk 22 ?_
       refine tk 23 ?_
       refine tk 24 ?_
       refine tk 25 ?_
       refine tu 26 ?_
       refine tu 27 ?_
       refine tu 28 ?_
       refine tu 29 ?_
       refine tu 30 ?_
       refine tu 31 ?_
       refine tu 32 ?_
       refine tu 33 ?_
       refine tu 34 ?_
       refine tu 35 ?_
       refine tu 36 ?_
       refine tk 37 ?_
       refine wpAnyH_done (by kernel_rfl) ?_ _
       refine NoPanic.normal ?_
       have hz := hb.drew
       clear hHeld
       go_wp2_with fail
       go_ret
       exact ⟨retB HF.out.symm, hz⟩
      have hge : decide (v.id ≤ u.id) = false := decide_eq_false hpv
      have hgf : decide (u.id < v.id) = true := decide_eq_true (by omega)
      have hgl : decide (v.id ≤ last) = false := decide_eq_false (by omega)
      cases hkd : kindsB s[i].cols v.vals
      ·skip
       have HK := Lib.hid hkd
       have HF := Lib.hid (hbad (by rw [hst, hkd]; simp))
       clear hkd hst hbad
       go_wp2_with fail
       refine wp_region_noPanic ?_
       refine wp_region_held_drew (S := fun w' => w'.cell? ⟨bl, offl + k * 2, none⟩ = some (.int .i64 v.id) ∧ w'.cell? ⟨bl, offl + k * 2 + 1, none⟩ = some (.slice A9 v.vals.length c9) ∧ w'.cell? ⟨b, off + i * 6, none⟩ = some (.string s[i].name) ∧ w'.cell? ⟨b, off + i * 6 + 1, none⟩ = some (.slice A1 s[i].cols.length c1) ∧ w'.cell? ⟨b, off + i * 6 + 2, none⟩ = some (.slice A2 n2 c2) ∧ w'.cell? ⟨b, off + i * 6 + 3, none⟩ = some (.slice A3 n3 c3) ∧ w'.cell? ⟨b, off + i * 6 + 4, none⟩ = some (.slice A4 n4 c4) ∧ w'.cell? ⟨b, off + i * 6 + 5, none⟩ = some (.slice A5 n5 c5) ∧ w'.cell? ⟨bl, offl + p * 2, none⟩ = some (.int .i64 u.id)) (by kernel_rfl) ⟨r0, r1, q0, q1, q2, q3, q4, q5, p0⟩ (fun hHeld => ?_)
       refine tk 0 ?_
       refine tk 1 ?_
       refine tk 2 ?_
       refine tk 3 ?_
       refine tk 4 ?_
       refine wpAnyH_ready (rs := [5]) (by kernel_rfl) (by simp) ?_
       refine AllReadyH.cons rfl (fun K hK => ?_) AllReadyH.nil
       go_simp
       refine (specIn _ _ _ _).mono ?_
       rintro e wc ⟨rfl, rfl⟩
       rw [HIN.out]
       go_wp2_with fail
       refine hK.out _ _ hHeld (fun hHeld => ?_)
       clear hK K
       (try simp only [Act.put, pz0, pz1, pz2, pz3, pz4, pz5])
       refine tk 6 ?_
       refine tk 7 ?_
       refine tk 8 ?_
       refine tk 9 ?_
       refine tk 10 ?_
       refine tk 11 ?_
       refine tk 12 ?_
       refine tk 13 ?_
       refine tk 14 ?_
       refine tk 15 ?_
       refine tk 16 ?_
       refine tk 17 ?_
       refine tk 18 ?_
       refine tk 19 ?_
       refine tk 20 ?_
       refine tk 21 ?_
       refine tk 22 ?_
       refine tk 23 ?_
       refine tk 24 ?_
       refine tk 25 ?_
       refine tk 26 ?_
       refine tk 27 ?_
       refine tk 28 ?_
       refine tk 29 ?_
       refine tk 30 ?_
       refine tk 31 ?_
       refine tk 32 ?_
       refine tk 33 ?_
       refine tk 34 ?_
       refine wpAnyH_ready (rs := [35]) (by kernel_rfl) (by simp) ?_
       refine AllReadyH.cons rfl (fun K hK => ?_) AllReadyH.nil
       go_simp
       refine (specKinds A1 A9 s[i].cols.length c1 v.vals.length c9 _ _ _ _ _ s[i].cols v.vals ok _ (s1.drew ClR.stays) hvv HCN.out HN9.out).mono ?_
       rintro e wd ⟨rfl, hqd⟩
       rw [HK.out]
       go_wp2_with fail
       refine hK.out _ _ ⟨below_keep hqd _ _ hHeld.1, below_keep hqd _ _ hHeld.2.1, below_keep hqd _ _ hHeld.2.2.1, below_keep hqd _ _ hHeld.2.2.2.1, below_keep hqd _ _ hHeld.2.2.2.2.1, below_keep hqd _ _ hHeld.2.2.2.2.2.1, below_keep hqd _ _ hHeld.2.2.2.2.2.2.1, below_keep hqd _ _ hHeld.2.2.2.2.2.2.2.1, below_keep hqd _ _ hHeld.2.2.2.2.2.2.2.2⟩ (fun hHeld => ?_)
       clear hK K
       (try simp only [Act.put, pz0, pz1, pz2, pz3, pz4, pz5])
       refine tk 36 ?_
       refine tk 37 ?_
       refine wpAnyH_done (by kernel_rfl) ?_ _
       refine NoPanic.normal ?_
       have hz := hb.drew.trans (hqd.mono hb.drew.size)
       have hrz := (hrs.drew RwR.stays).below RwR.stays hqd
       clear hHeld
       go_wp2_with fail
       go_ret
       exact ⟨retB HF.out.symm, hz⟩
      ·skip
       have HK := Lib.hid hkd
       have HG := Lib.hid (show idsGo s[i].cols 0 db[i].rows = idsGo s[i].cols v.id (db[i].rows.drop (k + 1)) by rw [HGO.out, hst, decide_eq_true (p := last < v.id) (by omega), decide_eq_true (p := v.id ≤ 1000000000) (by omega), hkd]; rfl)
       have HL2 := Lib.hid (show 0 ≤ v.id ∧ (k + 1 = 0 → v.id = 0) ∧ (∀ q (hq : q + 1 = k + 1) (h2 : q < db[i].rows.length), db[i].rows[q].id = v.id) from ⟨by omega, by omega, fun q hq h2 => by (obtain rfl : q = k := (by omega)); exact HVK.out⟩)
       clear hkd hst hbad
       go_wp2_with fail
       refine wp_region_noPanic ?_
       refine wp_region_held_drew (S := fun w' => w'.cell? ⟨bl, offl + k * 2, none⟩ = some (.int .i64 v.id) ∧ w'.cell? ⟨bl, offl + k * 2 + 1, none⟩ = some (.slice A9 v.vals.length c9) ∧ w'.cell? ⟨b, off + i * 6, none⟩ = some (.string s[i].name) ∧ w'.cell? ⟨b, off + i * 6 + 1, none⟩ = some (.slice A1 s[i].cols.length c1) ∧ w'.cell? ⟨b, off + i * 6 + 2, none⟩ = some (.slice A2 n2 c2) ∧ w'.cell? ⟨b, off + i * 6 + 3, none⟩ = some (.slice A3 n3 c3) ∧ w'.cell? ⟨b, off + i * 6 + 4, none⟩ = some (.slice A4 n4 c4) ∧ w'.cell? ⟨b, off + i * 6 + 5, none⟩ = some (.slice A5 n5 c5) ∧ w'.cell? ⟨bl, offl + p * 2, none⟩ = some (.int .i64 u.id)) (by kernel_rfl) ⟨r0, r1, q0, q1, q2, q3, q4, q5, p0⟩ (fun hHeld => ?_)
       refine tk 0 ?_
       refine tk 1 ?_
       refine tk 2 ?_
       refine tk 3 ?_
       refine tk 4 ?_
       refine wpAnyH_ready (rs := [5]) (by kernel_rfl) (by simp) ?_
       refine AllReadyH.cons rfl (fun K hK => ?_) AllReadyH.nil
       go_simp
       refine (specIn _ _ _ _).mono ?_
       rintro e wc ⟨rfl, rfl⟩
       rw [HIN.out]
       go_wp2_with fail
       refine hK.out _ _ hHeld (fun hHeld => ?_)
       clear hK K
       (try simp only [Act.put, pz0, pz1, pz2, pz3, pz4, pz5])
       refine tk 6 ?_
       refine tk 7 ?_
       refine tk 8 ?_
       refine tk 9 ?_
       refine tk 10 ?_
       refine tk 11 ?_
       refine tk 12 ?_
       refine tk 13 ?_
       refine tk 14 ?_
       refine tk 15 ?_
       refine tk 16 ?_
       refine tk 17 ?_
       refine tk 18 ?_
       refine tk 19 ?_
       refine tk 20 ?_
       refine tk 21 ?_
       refine tk 22 ?_
       refine tk 23 ?_
       refine tk 24 ?_
       refine tk 25 ?_
       refine tk 26 ?_
       refine tk 27 ?_
       refine tk 28 ?_
       refine tk 29 ?_
       refine tk 30 ?_
       refine tk 31 ?_
       refine tk 32 ?_
       refine tk 33 ?_
       refine tk 34 ?_
       refine wpAnyH_ready (rs := [35]) (by kernel_rfl) (by simp) ?_
       refine AllReadyH.cons rfl (fun K hK => ?_) AllReadyH.nil
       go_simp
       refine (specKinds A1 A9 s[i].cols.length c1 v.vals.length c9 _ _ _ _ _ s[i].cols v.vals ok _ (s1.drew ClR.stays) hvv HCN.out HN9.out).mono ?_
       rintro e wd ⟨rfl, hqd⟩
       rw [HK.out]
       go_wp2_with fail
       refine hK.out _ _ ⟨below_keep hqd _ _ hHeld.1, below_keep hqd _ _ hHeld.2.1, below_keep hqd _ _ hHeld.2.2.1, below_keep hqd _ _ hHeld.2.2.2.1, below_keep hqd _ _ hHeld.2.2.2.2.1, below_keep hqd _ _ hHeld.2.2.2.2.2.1, below_keep hqd _ _ hHeld.2.2.2.2.2.2.1, below_keep hqd _ _ hHeld.2.2.2.2.2.2.2.1, below_keep hqd _ _ hHeld.2.2.2.2.2.2.2.2⟩ (fun hHeld => ?_)
       clear hK K
       (try simp only [Act.put, pz0, pz1, pz2, pz3, pz4, pz5])
       refine tk 36 ?_
       refine tk 37 ?_
       refine wpAnyH_done (by kernel_rfl) ?_ _
       refine NoPanic.normal ?_
       have hz := hb.drew.trans (hqd.mono hb.drew.size)
       have hrz := (hrs.drew RwR.stays).below RwR.stays hqd
       clear hHeld
       go_wp2_with fail
       go_roundw
       case rel => exact ⟨k + 1, v.id, by omega, by go_num, Lib.hid HG.out, Lib.hid HL2.out, hrz, hz⟩
       case measure => simp [intOf]; omega
set_option maxRecDepth 100000 in
set_option maxHeartbeats 1000000 in
theorem specDbOk (AS AD : Option Addr) (nS cS nD cD : Nat) (s : List Tb) (db : List Dt) (ok ok' : Nat → Prop) (w : World) (hs : Sl TbR 6 ok w AS nS s) (hd : Sl DtR 1 ok' w AD nD db) (hcp : nS ≤ cS) (hsz : szL Tb.sz s ≤ 1048576) (hdz : szL Dt.sz db ≤ 1048576) :
  Calls Tryz.prog 28 #[.slice AS nS cS, .slice AD nD cD] w fun e w' => e = .returned (.bool (dbB s db)) ∧ Below w.heap.size w w' := by
 have hs1 := hs.stays TbR.stays (ok' := fun _ => True) (fun _ _ => trivial) (fun _ _ _ h => h)
 have hd1 := hd.stays DtR.stays (ok' := fun _ => True) (fun _ _ => trivial) (fun _ _ _ h => h)
 have HVS := Lib.hid (rows_le hdz)
 have HSZ := Lib.hid hsz
 have HDZ := Lib.hid hdz
 have HCP := Lib.hid hcp
 clear hsz hdz hcp hs hd
 cases hB : schemaB s
 ·have HB := Lib.hid hB
  have HF := Lib.hid (show dbB s db = false by unfold dbB; rw [hB]; rfl)
  clear hB
  go_enter Tryz.func28, Tryz.ntmps28
  go_wp2_with fail
  refine (specSchemaOk AS nS cS s _ _ hs1 HCP.out HSZ.out).mono ?_
  rintro e w1 ⟨rfl, hb1⟩
  rw [HB.out]
  go_wp2_with fail
  go_ret
  exact ⟨retB HF.out.symm, hb1⟩
 ·have HB := Lib.hid hB
  clear hB
  go_enter Tryz.func28, Tryz.ntmps28
  go_wp2_with fail
  refine (specSchemaOk AS nS cS s _ _ hs1 HCP.out HSZ.out).mono ?_
  rintro e w1 ⟨rfl, hb1⟩
  rw [HB.out]
  go_wp2_with fail
  refine (specL4Db AS AD nS cS nD cD s db _ _ (hs1.below TbR.stays hb1) (hd1.below DtR.stays hb1) HSZ.out HDZ.out HVS.out HB.out).mono ?_
  rintro e w2 ⟨rfl, hb2⟩
  go_wp2_with fail
  go_ret
  exact ⟨rfl, hb1.trans (hb2.mono hb1.size)⟩
theorem infoPtrRow : (Tryz.prog.info? 79).map (fun i => (i.zero, i.size, i.bytes)) = some (some (.pointer none), 1, 8) := by kernel_rfl
def ptrC (A : Option Addr) (i : Nat) : List Value := [.pointer (A.map fun a => ⟨a.block, a.off + i * 2, none⟩)]
def MadeG {α : Type} (R : Rd α) (sz : Nat) (xs : List α) (w : World) (e : Ending) (w' : World) : Prop := ∃ A c, e = .returned (.slice A xs.length c) ∧ xs.length ≤ c ∧ Sl R sz (okF w.heap.size w') w' A xs.length xs ∧ Below w.heap.size w w'
def OwnP (A : Option Addr) (w : World) (base : Nat) (v : Value) (xs : List Nat) : Prop := OwnG 79 1 (ptrC A) w base v xs
set_option maxRecDepth 100000 in
set_option maxHeartbeats 2000000 in
theorem implRowsWith (bd od : Nat) (AL AC AK : Option Addr) (nL cL nC cC nK cK : Nat) (rows : List Rw) (cols : List Int) (key : List Vl) (ok ok' ok'' : Nat → Prop) (w : World)
  (p0 : w.cell? ⟨bd, od, none⟩ = some (.slice AL nL cL)) (hr : Sl RwR 2 ok w AL nL rows) (hc : Sl IntR 1 ok' w AC nC cols) (hk : Sl VlR 3 ok'' w AK nK key) (hrn : nL ≤ 1048576) (hcn : nC ≤ 1048576) (hkn : nK ≤ 1048576) (hvn : ∀ r ∈ rows, r.vals.length ≤ 1048576) (hall : ∀ r ∈ rows, cols.all (inV r.vals) = true) :
  Calls Tryz.prog 35 #[.pointer (some ⟨bd, od, none⟩), .slice AC nC cC, .slice AK nK cK] w (MadeG (FlatR (ptrC AL)) 1 (idxK cols key rows rows.length) w) := by
 obtain rfl : rows.length = nL := hr.1
 have HALL := Lib.hid hall
 have HVN := Lib.hid hvn
 have P0 := Lib.hid p0
 obtain ⟨i0, hi, hz0, hz1, hz2⟩ := info_parts infoPtrRow
 have H1 := Lib.hid hi
 have H2 := Lib.hid hz0
 have H3 := Lib.hid hz1
 have H4 := Lib.hid hz2
 clear hall hvn hi hz0 hz1 hz2
 go_enter Tryz.func35, Tryz.ntmps35
 go_wp2_with fail
 clear p0
 go_loopw [7, 15] (fun v i wr => ∃ k : Nat, k ≤ rows.length ∧ i = .int .i64 k ∧ Hid (OwnP AL wr w.heap.size v (idxK cols key rows k)) ∧ Below w.heap.size w wr) (fun _ i _ => rows.length - (intOf i).toNat)
 case atStart => exact ⟨0, by omega, rfl, Lib.hid (OwnG.nil _ _), Below.refl _ _⟩
 case round =>
  obtain ⟨k, hk', rfl, hown, hb⟩ := hrel
  by_cases hlt : k < rows.length
  ·obtain ⟨bl, ol, A1, n1, c1, -, ea, q0, q1, hv, -⟩ := RwR.at_ (hr.below RwR.stays hb) hlt
   obtain rfl : rows[k].vals.length = n1 := hv.1
   have p0 := below_keep hb _ _ P0.out
   have i0' : (0 : Int) ≤ k := by omega
   have i1 : (k : Int) < rows.length := by omega
   have HEA := Lib.hid ea
   have HLEN := Lib.hid (idxK_len cols key rows k)
   have HC := Lib.hid (implHasKey bl (ol + k * 2) AC AK A1 nC cC nK cK _ c1 (.int .i64 rows[k].id) cols key rows[k].vals _ _ _ wr q1 (hc.below IntR.stays hb) (hk.below VlR.stays hb) hv hcn hkn (HVN.out _ (List.getElem_mem hlt)) (HALL.out _ (List.getElem_mem hlt)))
   rw [ea] at p0
   clear ea hv q0 q1
   cases hr' : hitB cols key rows[k].vals
   ·have HRF := Lib.hid hr'
    have HRK := Lib.hid (idxK_no hlt hr')
    clear hr'
    go_wp2_with fail
    refine HC.out.mono ?_
    rintro e w2 ⟨rfl, hb2⟩
    rw [HRF.out]
    have hown' := Lib.hid (OwnG.below hown.out hb2)
    clear hown p0
    go_wp2_with fail
    go_roundw
    case rel => exact ⟨k + 1, by omega, by go_num, Lib.hid (by rw [HRK.out]; exact hown'.out), hb.trans (hb2.mono hb.size)⟩
    case measure => simp [intOf]; omega
   ·have HRF := Lib.hid hr'
    have HRK := Lib.hid (idxK_yes hlt hr')
    clear hr'
    go_wp2_with fail
    refine HC.out.mono ?_
    rintro e w2 ⟨rfl, hb2⟩
    rw [HRF.out]
    have hbz := hb.trans (hb2.mono hb.size)
    have hoz := Lib.hid (OwnG.below hown.out hb2)
    clear hown p0 hb hb2 HC
    generalize hgv : idxK cols key rows k = xs at *
    have HGV := Lib.hid hgv
    clear hgv
    go_wp2_with (at_builtin; refine wpList_append_own _ rfl _ _ 76 rfl w.heap.size 79 i0 (.pointer none) 1 8 Tryz.underlying76 H1.out H2.out H3.out H4.out rfl (by decide) _ _ _ rfl (World.ownsRow.alloc hoz.out _) ⟨_, 0, none⟩ 1 1 [.pointer (some ⟨bl, ol + k * 2, none⟩)] rfl rfl ?c1 ?c2 ?c3 ?c4 ?c5 ?_)
    case c1 => exact cell_one_new _ _ _
    case c2 => intro u hu; simp at hu; subst hu; rfl
    case c3 => have := HLEN.out; unfold maxLen; omega
    case c4 => have := HLEN.out; omega
    case c5 => have := hbz.size; simp; omega
    intro v' w3 hown3 hgrow _
    have R := Lib.hid (OwnG.app (f := ptrC AL) (x := k) hoz.out hbz.size (by rw [show ptrC AL k = [.pointer (some ⟨bl, ol + k * 2, none⟩)] by rw [HEA.out]; rfl]; exact hown3) hgrow)
    clear hown3 hgrow hoz
    go_wp2_with fail
    go_roundw
    case rel => exact ⟨k + 1, by omega, by go_num, Lib.hid (by rw [HRK.out]; exact R.out.1), hbz.trans R.out.2⟩
    case measure => simp [intOf]; omega
  ·obtain rfl : k = rows.length := by omega
   obtain ⟨AO, cO, rfl, hcO, hcm, hsl⟩ := OwnG.sl (f := ptrC AL) (sz := 1) (fun _ => rfl) hown.out
   have HSL := Lib.hid hsl
   clear hown hsl
   go_wp2_with fail
   go_ret
   exact ⟨AO, cO, rfl, hcO, HSL.out, hb⟩
theorem ptr_at {A P : Option Addr} {bl ol n : Nat} {xs : List Nat} {ok : Nat → Prop} {w : World} (h : Sl (FlatR (ptrC A)) 1 ok w P n xs) (hA : A = some ⟨bl, ol, none⟩) {j : Nat} (hj : j < xs.length) :
  ∃ b off, P = some ⟨b, off, none⟩ ∧ w.cell? ⟨b, off + j, none⟩ = some (.pointer (some ⟨bl, ol + xs[j] * 2, none⟩)) := by
 have hl := h.1
 obtain ⟨b, off, rfl, hb, hc⟩ := h.2 (by omega)
 obtain ⟨cs, -, hR, g⟩ := hc j hj
 have e : cs = _ := hR
 subst e hA
 exact ⟨b, off, rfl, by have := g 0 _ rfl; rwa [Nat.mul_one] at this⟩
theorem idxK_take {cols : List Int} {key : List Vl} {rows : List Rw} {k : Nat} (h : k < rows.length) : idL rows (idxK cols key rows (k + 1)) = if hitB cols key rows[k].vals then idL rows (idxK cols key rows k) ++ [rows[k].id] else idL rows (idxK cols key rows k) := by
 cases hr : hitB cols key rows[k].vals
 ·rw [idxK_no h hr]; rfl
 ·rw [idxK_yes h hr, idL_app _ _ _ h]; rfl
set_option maxRecDepth 100000 in
set_option maxHeartbeats 2000000 in
theorem specL4Find (AL AC AK : Option Addr) (nL cL nC cC nK cK : Nat) (rows : List Rw) (cols : List Int) (key : List Vl) (ok ok' ok'' : Nat → Prop) (w : World)
  (hr : Sl RwR 2 ok w AL nL rows) (hc : Sl IntR 1 ok' w AC nC cols) (hk : Sl VlR 3 ok'' w AK nK key) (hrn : nL ≤ 1048576) (hcn : nC ≤ 1048576) (hkn : nK ≤ 1048576) (hvn : ∀ r ∈ rows, r.vals.length ≤ 1048576) (hall : ∀ r ∈ rows, cols.all (inV r.vals) = true) :
  Calls Tryz.prog 132 #[.agg #[.slice AL nL cL], .slice AC nC cC, .slice AK nK cK] w (MadeI (findL cols key rows) w) := by
 obtain rfl : rows.length = nL := hr.1
 have HALL := Lib.hid hall
 have HVN := Lib.hid hvn
 obtain ⟨i0, hi, hz0, hz1, hz2⟩ := info_parts infoIntI
 have H1 := Lib.hid hi
 have H2 := Lib.hid hz0
 have H3 := Lib.hid hz1
 have H4 := Lib.hid hz2
 clear hall hvn hi hz0 hz1 hz2
 have rb := (Row.new w 33 #[.slice AL rows.length cL]).alloc (.cells #[] 2)
 have hb0 := (((Below.refl w.heap.size w).alloc (Nat.le_refl _) (.cells #[.slice AL rows.length cL] 33)).alloc (by simp) (.cells #[] 2))
 have ho0 : Hid (OwnI ((w.alloc (.cells #[.slice AL rows.length cL] 33)).alloc (.cells #[] 2)) (w.heap.size + 1) (.slice (some ⟨w.heap.size + 1, 0, none⟩) 0 0) []) := by
  have h := OwnI.lit (w.alloc (.cells #[.slice AL rows.length cL] 33)) (base := w.heap.size + 1) (by simp)
  have e : (w.alloc (.cells #[.slice AL rows.length cL] 33)).heap.size = w.heap.size + 1 := by simp
  rw [e] at h
  exact Lib.hid h
 go_enter Tryz.func132, Tryz.ntmps132
 go_wp2_with fail
 have hsz0 : w.heap.size + 1 ≤ ((w.alloc (.cells #[.slice AL rows.length cL] 33)).alloc (.cells #[] 2)).heap.size := by simp
 have HSZ0 := Lib.hid hsz0
 clear hsz0
 generalize (w.alloc (.cells #[.slice AL rows.length cL] 33)).alloc (.cells #[] 2) = z0 at *
 go_loopw [7, 8] (fun v i wr => ∃ k : Nat, k ≤ rows.length ∧ i = .int .i64 k ∧ Hid (OwnI wr (w.heap.size + 1) v (idL rows (idxK cols key rows k))) ∧ Row wr w.heap.size 33 #[.slice AL rows.length cL] ∧ Hid (w.heap.size + 1 ≤ wr.heap.size) ∧ Below w.heap.size w wr) (fun _ i _ => rows.length - (intOf i).toNat)
 case atStart => exact ⟨0, by omega, rfl, by exact ho0, rb, HSZ0, hb0⟩
 case round =>
  clear hb0 ho0 rb
  obtain ⟨k, hk', rfl, hown, rb, hsz, hb⟩ := hrel
  obtain ⟨c0, -⟩ := rb.all1
  by_cases hlt : k < rows.length
  ·obtain ⟨bl, ol, A1, n1, c1, -, rfl, q0, q1, hv, -⟩ := RwR.at_ (hr.below RwR.stays hb) hlt
   obtain rfl : rows[k].vals.length = n1 := hv.1
   have i0' : (0 : Int) ≤ k := by omega
   have i1 : (k : Int) < rows.length := by omega
   have HLEN := Lib.hid (show (idL rows (idxK cols key rows k)).length ≤ k by unfold idL; rw [List.length_map]; exact idxK_len cols key rows k)
   have HC := Lib.hid (specL4Key AC A1 nC cC rows[k].vals.length c1 cols rows[k].vals _ _ wr (hc.below IntR.stays hb) hv hcn (HVN.out _ (List.getElem_mem hlt)) (HALL.out _ (List.getElem_mem hlt)))
   have HKL := Lib.hid (show (keyL cols rows[k].vals).length ≤ 1048576 by rw [show (keyL cols rows[k].vals).length = cols.length by simp [keyL], hc.1]; exact hcn)
   have HT := Lib.hid (idxK_take (cols := cols) (key := key) hlt)
   have HE := Lib.hid (hitB_eq cols key rows[k].vals)
   have Q0 := Lib.hid q0
   clear hv
   go_wp2_with fail
   refine HC.out.mono ?_
   rintro e w2 ⟨AO, cO, rfl, hcO, hsl, hb2⟩
   have hown' := Lib.hid (hown.out.below hb2)
   have rb := rb.below hb2
   have hbz := hb.trans (hb2.mono hb.size)
   have hsz2 := Lib.hid (Nat.le_trans hsz.out hb2.size)
   clear q0 q1
   have q0 := below_keep hb2 _ _ Q0.out
   have hkey := (hk.below VlR.stays hb).below VlR.stays hb2
   have HS := Lib.hid (specSameVals AO AK _ cO nK cK (keyL cols rows[k].vals) key _ _ w2 hsl hkey HKL.out hkn)
   clear hown hb hb2 HC hsl hkey Q0 c0 hsz
   cases ha : knownL (keyL cols rows[k].vals)
   ·have HN := Lib.hid (show idL rows (idxK cols key rows (k + 1)) = idL rows (idxK cols key rows k) by rw [HT.out, HE.out, ha]; rfl)
    clear ha q0
    go_wp2_with fail
    go_roundw
    case rel => exact ⟨k + 1, by omega, by go_num, Lib.hid (by rw [HN.out]; exact hown'.out), rb, hsz2, hbz⟩
    case measure => simp [intOf]; omega
   ·cases hsm : eqlL (keyL cols rows[k].vals) key
    ·have HN := Lib.hid (show idL rows (idxK cols key rows (k + 1)) = idL rows (idxK cols key rows k) by rw [HT.out, HE.out, ha, hsm]; rfl)
     have HSM := Lib.hid hsm
     clear ha hsm q0
     go_wp2_with fail
     refine HS.out.mono ?_
     rintro e w3 ⟨rfl, hb3⟩
     rw [HSM.out]
     have hown'' := Lib.hid (hown'.out.below hb3)
     go_wp2_with fail
     go_roundw
     case rel => exact ⟨k + 1, by omega, by go_num, Lib.hid (by rw [HN.out]; exact hown''.out), rb.below hb3, Lib.hid (Nat.le_trans hsz2.out hb3.size), hbz.trans (hb3.mono hbz.size)⟩
     case measure => simp [intOf]; omega
    ·have HN := Lib.hid (show idL rows (idxK cols key rows (k + 1)) = idL rows (idxK cols key rows k) ++ [rows[k].id] by rw [HT.out, HE.out, ha, hsm]; rfl)
     have HSM := Lib.hid hsm
     clear ha hsm
     go_wp2_with fail
     refine HS.out.mono ?_
     rintro e w3 ⟨rfl, hb3⟩
     rw [HSM.out]
     have hoz := Lib.hid (hown'.out.below hb3)
     have rb := rb.below hb3
     have hbw := hbz.trans (hb3.mono hbz.size)
     have q0 := below_keep hb3 _ _ q0
     have hsz3 : w.heap.size + 1 ≤ w3.heap.size := Nat.le_trans hsz2.out hb3.size
     obtain ⟨c0, -⟩ := rb.all1
     have hRB := Lib.hid rb
     have hne := Lib.hid (fun j hj => Nat.ne_of_gt (show w.heap.size < j from (OwnI.block_lt hoz.out j hj).1))
     clear hown' hbz hb3 rb hsz2 HS
     generalize hgv : idL rows (idxK cols key rows k) = ys at *
     have HGV := Lib.hid hgv
     clear hgv
     go_wp2_with (at_builtin; refine wpList_append_own _ rfl _ _ 40 rfl (w.heap.size + 1) 2 i0 (.int .i64 0) 1 8 Tryz.underlying40 H1.out H2.out H3.out H4.out rfl (by decide) _ _ _ rfl (World.ownsRow.alloc hoz.out _) ⟨_, 0, none⟩ 1 1 [.int .i64 rows[k].id] rfl rfl ?c1 ?c2 ?c3 ?c4 ?c5 ?_)
     case c1 => exact cell_one_new _ _ _
     case c2 => intro u hu; simp at hu; subst hu; rfl
     case c3 => have := HLEN.out; unfold maxLen; omega
     case c4 => have := HLEN.out; omega
     case c5 => simp; omega
     intro v' w4 hown4 hgrow _
     have R := Lib.hid (OwnI.app hoz.out hsz3 hown4 hgrow)
     have rb4 := grown_rowK hgrow (hRB.out.alloc _) hne.out
     have HSZ4 := Lib.hid (Nat.le_trans hsz3 R.out.2.size)
     clear hown4 hgrow hoz hRB c0 q0
     go_wp2_with fail
     go_roundw
     case rel => exact ⟨k + 1, by omega, by go_num, Lib.hid (by rw [HN.out]; exact R.out.1), rb4, HSZ4, hbw.trans (R.out.2.mono (Nat.le_succ _))⟩
     case measure => simp [intOf]; omega
  ·obtain rfl : k = rows.length := by omega
   obtain ⟨AO, cO, rfl, hcO, hcm, hsl⟩ := hown.out.sl
   have HSL := Lib.hid hsl
   clear hown hsl
   go_wp2_with fail
   go_ret
   exact ⟨AO, cO, rfl, hcO, HSL.out.stays IntR.stays (fun b hb => hb.mono (Nat.le_succ _)) (fun _ _ _ h => h), hb⟩
def twiceB (cols : List Int) (rows : List Rw) (x : Rw) : Bool := knownL (keyL cols x.vals) && (findL cols (keyL cols x.vals) rows).any (fun i => i != x.id)
def uniqueB (t : Tb) (rows : List Rw) (x : Rw) : Bool := !(twiceB t.key rows x) && t.uniqs.all (fun u => !(twiceB u.cols rows x))
theorem any_take_ne (l : List Int) (v : Int) (k : Nat) (h : k < l.length) : (l.take (k + 1)).any (fun i => i != v) = ((l.take k).any (fun i => i != v) || (l[k] != v)) := by
 rw [List.take_succ_eq_append_getElem h, List.any_append]; simp
theorem any_at_ne {l : List Int} {v : Int} {k : Nat} (h : k < l.length) (he : (l[k] != v) = true) : l.any (fun i => i != v) = true := by
 rw [List.any_eq_true]
 exact ⟨l[k], List.getElem_mem h, he⟩
set_option maxRecDepth 100000 in
set_option maxHeartbeats 2000000 in
theorem specL5Twice (AL AC AX : Option Addr) (nL cL nC cC nX cX : Nat) (rows : List Rw) (cols : List Int) (x : Rw) (ok okc okx : Nat → Prop) (w : World)
  (hr : Sl RwR 2 ok w AL nL rows) (hc : Sl IntR 1 okc w AC nC cols) (hx : Sl VlR 3 okx w AX nX x.vals) (hrn : nL ≤ 1048576) (hcn : nC ≤ 1048576) (hxn : nX ≤ 1048576) (hvn : ∀ r ∈ rows, r.vals.length ≤ 1048576) (hall : ∀ r ∈ rows, cols.all (inV r.vals) = true) (hxa : cols.all (inV x.vals) = true) :
  Calls Tryz.prog 103 #[.agg #[.slice AL nL cL], .slice AC nC cC, .agg #[.int .i64 x.id, .slice AX nX cX]] w fun e w' => e = .returned (.bool (twiceB cols rows x)) ∧ Below w.heap.size w w' := by
 obtain rfl : rows.length = nL := hr.1
 have HVN := Lib.hid hvn
 have HALL := Lib.hid hall
 have HXA := Lib.hid hxa
 have HRL := Lib.hid hrn
 clear hvn hall hxa
 have hb0 := (((Below.refl w.heap.size w).alloc (Nat.le_refl _) (.cells #[.slice AL rows.length cL] 33)).alloc (by simp) (.cells #[.int .i64 x.id, .slice AX nX cX] 36))
 have rd := (Row.new w 33 #[.slice AL rows.length cL]).alloc (.cells #[.int .i64 x.id, .slice AX nX cX] 36)
 have rx := Row.newAt (w.alloc (.cells #[.slice AL rows.length cL] 33)) 36 #[.int .i64 x.id, .slice AX nX cX] (w.heap.size + 1) (by simp)
 obtain ⟨c0, -⟩ := rd.all1
 obtain ⟨⟨d0, d1⟩, -⟩ := rx.all2
 have RD := Lib.hid rd
 have RX := Lib.hid rx
 clear rd rx
 go_enter Tryz.func103, Tryz.ntmps103
 go_wp2_with fail
 generalize (w.alloc (.cells #[.slice AL rows.length cL] 33)).alloc (.cells #[.int .i64 x.id, .slice AX nX cX] 36) = z0 at *
 refine (specL4Key AC AX nC cC nX cX cols x.vals _ _ _ (hc.below IntR.stays hb0) (hx.below VlR.stays hb0) hcn hxn HXA.out).mono ?_
 rintro e w2 ⟨AO, cO, rfl, hcO, hsl, hb2⟩
 have hbz := hb0.trans (hb2.mono hb0.size)
 clear c0 d0 d1
 obtain ⟨c0, -⟩ := (RD.out.below hb2).all1
 have RX2 := Lib.hid (RX.out.below hb2)
 have HKL := Lib.hid (show (keyL cols x.vals).length ≤ 1048576 by rw [show (keyL cols x.vals).length = cols.length by simp [keyL], hc.1]; exact hcn)
 have HSL := Lib.hid hsl
 clear hsl
 cases hk : knownL (keyL cols x.vals)
 ·have HR := Lib.hid (show twiceB cols rows x = false by unfold twiceB; rw [hk]; rfl)
  clear hk
  go_wp2_with fail
  go_ret
  exact ⟨retB HR.out.symm, hbz⟩
 have HR := Lib.hid (show twiceB cols rows x = (findL cols (keyL cols x.vals) rows).any (fun i => i != x.id) by unfold twiceB; rw [hk]; rfl)
 clear hk
 go_wp2_with fail
 refine (specL4Find AL AC AO rows.length cL nC cC (keyL cols x.vals).length cO rows cols (keyL cols x.vals) _ _ _ _ (hr.below RwR.stays hbz) (hc.below IntR.stays hbz) HSL.out hrn hcn HKL.out HVN.out HALL.out).mono ?_
 rintro e w3 ⟨AF, cF, rfl, hcF, hfl, hb3⟩
 have hby := hbz.trans (hb3.mono hbz.size)
 have HFL := Lib.hid (findL_len cols (keyL cols x.vals) rows)
 have RX3 := Lib.hid (RX2.out.below hb3)
 clear c0
 generalize hgv : findL cols (keyL cols x.vals) rows = ids at *
 have HGV := Lib.hid hgv
 clear hgv
 have hin : ids.length ≤ 1048576 := by have h1 := HFL.out; have h2 := HRL.out; omega
 go_wp2_with fail
 go_loopw [10] (fun i wr => ∃ k : Nat, k ≤ ids.length ∧ i = .int .i64 k ∧ Hid ((ids.take k).any (fun i => i != x.id) = false) ∧ Below w3.heap.size w3 wr) (fun i _ => ids.length - (intOf i).toNat)
 case atStart => exact ⟨0, by omega, rfl, Lib.hid (by simp), Below.refl _ _⟩
 case round =>
  obtain ⟨k, hk', rfl, hno, hb⟩ := hrel
  obtain ⟨⟨d0, d1⟩, -⟩ := (RX3.out.below hb).all2
  by_cases hlt : k < ids.length
  ·obtain ⟨bf, of, -, rfl, q0⟩ := IntR.at_ (hfl.below IntR.stays hb) hlt
   have i0 : (0 : Int) ≤ k := by omega
   have i1 : (k : Int) < ids.length := by omega
   have hst := any_take_ne ids x.id k hlt
   rw [hno.out, Bool.false_or] at hst
   cases he : (ids[k] != x.id)
   ·have HA := Lib.hid (hst.trans he)
    clear hst
    go_wp2_with fail
    go_quiet (fail)
    go_wp2_with fail
    go_roundw
    case rel => exact ⟨k + 1, by omega, by go_num, HA, below_dN hb _⟩
    case measure => simp [intOf]; omega
   ·have HF := Lib.hid (HR.out.trans (any_at_ne hlt he))
    clear hst
    go_wp2_with fail
    go_quiet (fail)
    go_wp2_with fail
    go_ret
    exact ⟨retB HF.out.symm, hby.trans ((below_dN hb _).mono hby.size)⟩
  ·obtain rfl : k = ids.length := by omega
   have h1 := hno.out
   rw [List.take_of_length_le (Nat.le_refl _)] at h1
   have HF := Lib.hid (HR.out.trans h1)
   clear hno h1
   go_wp2_with fail
   go_ret
   exact ⟨retB HF.out.symm, hby.trans (hb.mono hby.size)⟩
theorem uniq_take (t : Tb) (rows : List Rw) (x : Rw) (k : Nat) (h : k < t.uniqs.length) : (t.uniqs.take (k + 1)).all (fun u => !(twiceB u.cols rows x)) = ((t.uniqs.take k).all (fun u => !(twiceB u.cols rows x)) && !(twiceB t.uniqs[k].cols rows x)) := by
 rw [List.take_succ_eq_append_getElem h, List.all_append]; simp
theorem uniq_no {t : Tb} {rows : List Rw} {x : Rw} {k : Nat} (h : k < t.uniqs.length) (hf : twiceB t.uniqs[k].cols rows x = true) : uniqueB t rows x = false := by
 unfold uniqueB
 rw [Bool.and_eq_false_iff]
 refine Or.inr ?_
 rw [List.all_eq_false]
 exact ⟨t.uniqs[k], List.getElem_mem h, by simp [hf]⟩
set_option maxRecDepth 100000 in
set_option maxHeartbeats 4000000 in
theorem specL5Unique (A1 A2 A3 A4 A5 AL AX : Option Addr) (n1 c1 n2 c2 n3 c3 n4 c4 n5 c5 nL cL nX cX : Nat) (t : Tb) (rows : List Rw) (x : Rw) (ok2 ok3 ok okx : Nat → Prop) (w : World)
  (h2 : Sl IntR 1 ok2 w A2 n2 t.key) (h3 : Sl UqR 1 ok3 w A3 n3 t.uniqs) (hr : Sl RwR 2 ok w AL nL rows) (hx : Sl VlR 3 okx w AX nX x.vals) (hrn : nL ≤ 1048576) (hkn : n2 ≤ 1048576) (hun : n3 ≤ 1048576) (hum : ∀ u ∈ t.uniqs, u.cols.length ≤ 1048576) (hxn : nX ≤ 1048576) (hvn : ∀ r ∈ rows, r.vals.length ≤ 1048576)
  (hkey : ∀ r ∈ rows, t.key.all (inV r.vals) = true) (hkx : t.key.all (inV x.vals) = true) (huq : ∀ u ∈ t.uniqs, (∀ r ∈ rows, u.cols.all (inV r.vals) = true) ∧ u.cols.all (inV x.vals) = true) :
  Calls Tryz.prog 64 #[.agg #[.string t.name, .slice A1 n1 c1, .slice A2 n2 c2, .slice A3 n3 c3, .slice A4 n4 c4, .slice A5 n5 c5], .agg #[.slice AL nL cL], .agg #[.int .i64 x.id, .slice AX nX cX]] w fun e w' => e = .returned (.bool (uniqueB t rows x)) ∧ Below w.heap.size w w' := by
 obtain rfl : t.uniqs.length = n3 := h3.1
 have HVN := Lib.hid hvn
 have HKEY := Lib.hid hkey
 have HKX := Lib.hid hkx
 have HUQ := Lib.hid huq
 have HUM := Lib.hid hum
 clear hvn hkey hkx huq hum
 have hb0 := ((((Below.refl w.heap.size w).alloc (Nat.le_refl _) (.cells #[.string t.name, .slice A1 n1 c1, .slice A2 n2 c2, .slice A3 t.uniqs.length c3, .slice A4 n4 c4, .slice A5 n5 c5] 45)).alloc (by simp) (.cells #[.slice AL nL cL] 33)).alloc (by simp; omega) (.cells #[.int .i64 x.id, .slice AX nX cX] 36))
 have RT := Lib.hid (((Row.new w 45 #[.string t.name, .slice A1 n1 c1, .slice A2 n2 c2, .slice A3 t.uniqs.length c3, .slice A4 n4 c4, .slice A5 n5 c5]).alloc (.cells #[.slice AL nL cL] 33)).alloc (.cells #[.int .i64 x.id, .slice AX nX cX] 36))
 have RD := Lib.hid ((Row.newAt (w.alloc (.cells #[.string t.name, .slice A1 n1 c1, .slice A2 n2 c2, .slice A3 t.uniqs.length c3, .slice A4 n4 c4, .slice A5 n5 c5] 45)) 33 #[.slice AL nL cL] (w.heap.size + 1) (by simp)).alloc (.cells #[.int .i64 x.id, .slice AX nX cX] 36))
 have RX := Lib.hid (Row.newAt ((w.alloc (.cells #[.string t.name, .slice A1 n1 c1, .slice A2 n2 c2, .slice A3 t.uniqs.length c3, .slice A4 n4 c4, .slice A5 n5 c5] 45)).alloc (.cells #[.slice AL nL cL] 33)) 36 #[.int .i64 x.id, .slice AX nX cX] (w.heap.size + 1 + 1) (by simp))
 obtain ⟨⟨t0, t1, t2, t3, t4, t5⟩, -⟩ := RT.out.all6
 obtain ⟨c0, -⟩ := RD.out.all1
 obtain ⟨⟨d0, d1⟩, -⟩ := RX.out.all2
 go_enter Tryz.func64, Tryz.ntmps64
 go_wp2_with fail
 generalize ((w.alloc (.cells #[.string t.name, .slice A1 n1 c1, .slice A2 n2 c2, .slice A3 t.uniqs.length c3, .slice A4 n4 c4, .slice A5 n5 c5] 45)).alloc (.cells #[.slice AL nL cL] 33)).alloc (.cells #[.int .i64 x.id, .slice AX nX cX] 36) = z0 at *
 refine (specL5Twice AL A2 AX nL cL n2 c2 nX cX rows t.key x _ _ _ _ (hr.below RwR.stays hb0) (h2.below IntR.stays hb0) (hx.below VlR.stays hb0) hrn hkn hxn HVN.out HKEY.out HKX.out).mono ?_
 rintro e w1 ⟨rfl, hb1⟩
 have hbz := hb0.trans (hb1.mono hb0.size)
 have RT1 := RT.out.below hb1
 have RD1 := RD.out.below hb1
 have RX1 := RX.out.below hb1
 clear t0 t1 t2 t3 t4 t5 c0 d0 d1
 cases hk : twiceB t.key rows x
 case true =>
  have HR := Lib.hid (show uniqueB t rows x = false by unfold uniqueB; rw [hk]; rfl)
  clear hk
  go_wp2_with fail
  go_ret
  exact ⟨retB HR.out.symm, hbz⟩
 have HR := Lib.hid (show uniqueB t rows x = t.uniqs.all (fun u => !(twiceB u.cols rows x)) by unfold uniqueB; rw [hk]; rfl)
 clear hk
 go_wp2_with fail
 go_loopw [7] (fun i wr => ∃ k : Nat, k ≤ t.uniqs.length ∧ i = .int .i64 k ∧ Hid ((t.uniqs.take k).all (fun u => !(twiceB u.cols rows x)) = true) ∧ Row wr w.heap.size 45 #[.string t.name, .slice A1 n1 c1, .slice A2 n2 c2, .slice A3 t.uniqs.length c3, .slice A4 n4 c4, .slice A5 n5 c5] ∧ Row wr (w.heap.size + 1) 33 #[.slice AL nL cL] ∧ Row wr (w.heap.size + 1 + 1) 36 #[.int .i64 x.id, .slice AX nX cX] ∧ Below w.heap.size w wr) (fun i _ => t.uniqs.length - (intOf i).toNat)
 case atStart => exact ⟨0, by omega, rfl, Lib.hid (by simp), RT1, RD1, RX1, hbz⟩
 case round =>
  clear RT1 RD1 RX1 hbz hb1 hb0 RT RD RX
  obtain ⟨k, hk', rfl, hall, rt, rd, rx, hb⟩ := hrel
  obtain ⟨⟨t0, t1, t2, t3, t4, t5⟩, -⟩ := rt.all6
  obtain ⟨c0, -⟩ := rd.all1
  obtain ⟨⟨d0, d1⟩, -⟩ := rx.all2
  have RT := Lib.hid rt
  have RD := Lib.hid rd
  have RX := Lib.hid rx
  clear rt rd rx
  by_cases hlt : k < t.uniqs.length
  ·obtain ⟨bu, ou, AU, nU, cU, -, rfl, q0, hu, -⟩ := UqR.at_ (h3.below UqR.stays hb) hlt
   obtain rfl : t.uniqs[k].cols.length = nU := hu.1
   have i0 : (0 : Int) ≤ k := by omega
   have i1 : (k : Int) < t.uniqs.length := by omega
   have hst := uniq_take t rows x k hlt
   rw [hall.out, Bool.true_and] at hst
   have hno := fun hf => uniq_no (t := t) (rows := rows) (x := x) hlt hf
   have HU := Lib.hid (HUQ.out _ (List.getElem_mem hlt))
   have HC := Lib.hid (specL5Twice AL AU AX nL cL t.uniqs[k].cols.length cU nX cX rows t.uniqs[k].cols x _ _ _ wr.drew ((hr.below RwR.stays hb).drew RwR.stays) (hu.drew IntR.stays) ((hx.below VlR.stays hb).drew VlR.stays) hrn (HUM.out _ (List.getElem_mem hlt)) hxn HVN.out HU.out.1 HU.out.2)
   have hbd := hb.drew
   clear hu
   cases he : twiceB t.uniqs[k].cols rows x
   ·have HA := Lib.hid (show (t.uniqs.take (k + 1)).all (fun u => !(twiceB u.cols rows x)) = true by rw [hst, he]; rfl)
    have HE := Lib.hid he
    clear hst hno he
    go_wp2_with fail
    go_region_held3 (fun w' => w'.cell? ⟨w.heap.size + 1, 0, none⟩ = some (.slice AL nL cL) ∧ w'.cell? ⟨w.heap.size, 3, none⟩ = some (.slice (some ⟨bu, ou, none⟩) t.uniqs.length c3) ∧ w'.cell? ⟨bu, ou + k, none⟩ = some (.slice AU t.uniqs[k].cols.length cU) ∧ w'.cell? ⟨w.heap.size + 1 + 1, 0, none⟩ = some (.int .i64 x.id) ∧ w'.cell? ⟨w.heap.size + 1 + 1, 1, none⟩ = some (.slice AX nX cX))
     (first | go_keep | exact ⟨below_keep hb9 _ _ c0, below_keep hb9 _ _ t3, below_keep hb9 _ _ q0, below_keep hb9 _ _ d0, below_keep hb9 _ _ d1⟩)
     (first | (go_at_call 103; refine HC.out.mono ?_; rintro e w9 ⟨rfl, hb9⟩; rw [HE.out]))
    go_wp2_with fail
    go_roundw
    case rel => exact ⟨k + 1, by omega, by go_num, HA, (RT.out.drew).below hb9, (RD.out.drew).below hb9, (RX.out.drew).below hb9, hbd.trans (hb9.mono hbd.size)⟩
    case measure => simp [intOf]; omega
   ·have HF := Lib.hid (hno he)
    have HE := Lib.hid he
    clear hst hno he
    go_wp2_with fail
    go_region_held3 (fun w' => w'.cell? ⟨w.heap.size + 1, 0, none⟩ = some (.slice AL nL cL) ∧ w'.cell? ⟨w.heap.size, 3, none⟩ = some (.slice (some ⟨bu, ou, none⟩) t.uniqs.length c3) ∧ w'.cell? ⟨bu, ou + k, none⟩ = some (.slice AU t.uniqs[k].cols.length cU) ∧ w'.cell? ⟨w.heap.size + 1 + 1, 0, none⟩ = some (.int .i64 x.id) ∧ w'.cell? ⟨w.heap.size + 1 + 1, 1, none⟩ = some (.slice AX nX cX))
     (first | go_keep | exact ⟨below_keep hb9 _ _ c0, below_keep hb9 _ _ t3, below_keep hb9 _ _ q0, below_keep hb9 _ _ d0, below_keep hb9 _ _ d1⟩)
     (first | (go_at_call 103; refine HC.out.mono ?_; rintro e w9 ⟨rfl, hb9⟩; rw [HE.out]))
    go_wp2_with fail
    go_ret
    exact ⟨retB HF.out.symm, hbd.trans (hb9.mono hbd.size)⟩
  ·obtain rfl : k = t.uniqs.length := by omega
   have h1 := hall.out
   rw [List.take_of_length_le (Nat.le_refl _)] at h1
   have HF := Lib.hid (HR.out.trans h1)
   clear hall h1
   go_wp2_with fail
   go_ret
   exact ⟨retB HF.out.symm, hb⟩
def parentR (tk : List Int) (rows : List Rw) (fc : List Int) (vals : List Vl) : Bool := !(knownL (keyL fc vals)) || decide (0 < (findL tk (keyL fc vals) rows).length)
set_option maxRecDepth 100000 in
set_option maxHeartbeats 4000000 in
theorem specL5Parent (AS AD AC AV : Option Addr) (nS cS nD cD nC cC nV cV : Nat) (s : List Tb) (db : List Dt) (f : Fk) (vals : List Vl) (m : Nat) (ok okd okc okv : Nat → Prop) (w : World)
  (hs : Sl TbR 6 ok w AS nS s) (hd : Sl DtR 1 okd w AD nD db) (hc : Sl IntR 1 okc w AC nC f.cols) (hv : Sl VlR 3 okv w AV nV vals) (hsn : nS ≤ 1048576) (hdn : nD ≤ 1048576) (hcn : nC ≤ 1048576) (hvn : nV ≤ 1048576) (hca : f.cols.all (inV vals) = true)
  (hat : atN (s.map Tb.name) f.table = m) (hm : m < s.length) (hmd : m < db.length) (hkn : s[m].key.length ≤ 1048576) (hrn : db[m].rows.length ≤ 1048576) (hrv : ∀ r ∈ db[m].rows, r.vals.length ≤ 1048576) (hall : ∀ r ∈ db[m].rows, s[m].key.all (inV r.vals) = true) :
  Calls Tryz.prog 104 #[.slice AS nS cS, .slice AD nD cD, .agg #[.slice AC nC cC, .string f.table, .int .i64 f.del, .int .i64 f.upd, .bool f.dfr], .slice AV nV cV] w fun e w' => e = .returned (.bool (parentR s[m].key db[m].rows f.cols vals)) ∧ Below w.heap.size w w' := by
 obtain rfl : s.length = nS := hs.1
 obtain rfl : db.length = nD := hd.1
 have HVN := Lib.hid hrv
 have HALL := Lib.hid hall
 have HCA := Lib.hid hca
 have HAT := Lib.hid hat
 have HKN := Lib.hid hkn
 have HRN := Lib.hid hrn
 have HKL := Lib.hid (show (keyL f.cols vals).length ≤ 1048576 by rw [show (keyL f.cols vals).length = f.cols.length by simp [keyL], hc.1]; exact hcn)
 clear hrv hall hca hat hkn hrn
 have i0 : (0 : Int) ≤ m := by omega
 have i1 : (m : Int) < s.length := by omega
 have i2 : (m : Int) < db.length := by omega
 have hb0 := (Below.refl w.heap.size w).alloc (Nat.le_refl _) (.cells #[.slice AC nC cC, .string f.table, .int .i64 f.del, .int .i64 f.upd, .bool f.dfr] 63)
 have RF := Lib.hid (Row.new w 63 #[.slice AC nC cC, .string f.table, .int .i64 f.del, .int .i64 f.upd, .bool f.dfr])
 obtain ⟨c0, c1, c2, c3, c4⟩ := RF.out.five
 go_enter Tryz.func104, Tryz.ntmps104
 go_wp2_with fail
 generalize w.alloc (.cells #[.slice AC nC cC, .string f.table, .int .i64 f.del, .int .i64 f.upd, .bool f.dfr] 63) = z0 at *
 refine (specL4Key AC AV nC cC nV cV f.cols vals _ _ _ (hc.below IntR.stays hb0) (hv.below VlR.stays hb0) hcn hvn HCA.out).mono ?_
 rintro e w1 ⟨AO, cO, rfl, hcO, hsl, hb1⟩
 have hbz1 := hb0.trans (hb1.mono hb0.size)
 have HSL := Lib.hid hsl
 clear hsl c0 c1 c2 c3 c4
 obtain ⟨c0, c1, c2, c3, c4⟩ := (RF.out.below hb1).five
 go_wp2_with fail
 refine (specL3At AS s.length cS s f.table _ _ (hs.below TbR.stays hbz1) hsn).mono ?_
 rintro e w2 ⟨rfl, hb2⟩
 rw [HAT.out]
 have hbz2 := hbz1.trans (hb2.mono hbz1.size)
 have HSL2 := Lib.hid (HSL.out.below VlR.stays hb2)
 clear c0 c1 c2 c3 c4
 obtain ⟨bt, ot, A1, n1, d1, A2, n2, d2, A3, n3, d3, A4, n4, d4, A5, n5, d5, -, rfl, q0, q1, q2, q3, q4, q5, s1, s2, -⟩ := TbR.at_ (hs.below TbR.stays hbz2) hm
 obtain rfl : s[m].key.length = n2 := s2.1
 obtain ⟨bd, od, AL, nL, cL, -, rfl, p0, hrw, -⟩ := DtR.at_ (hd.below DtR.stays hbz2) hmd
 obtain rfl : db[m].rows.length = nL := hrw.1
 have HRW := Lib.hid (hrw.drew RwR.stays)
 have HKC := Lib.hid (s2.drew IntR.stays)
 have HSL3 := Lib.hid (HSL2.out.drew VlR.stays)
 have hbd := hbz2.drew
 clear hrw s1 s2 q0 q1 q3 q4 q5 HSL
 cases hk : knownL (keyL f.cols vals)
 ·have HR := Lib.hid (show parentR s[m].key db[m].rows f.cols vals = true by unfold parentR; rw [hk]; rfl)
  clear hk
  go_wp2_with fail
  refine wp_region_noPanic ?_
  refine wp_region_held_drew (S := fun w' => w'.cell? ⟨bd, od + m, none⟩ = some (.slice AL db[m].rows.length cL) ∧ w'.cell? ⟨bt, ot + m * 6 + 2, none⟩ = some (.slice A2 s[m].key.length d2)) (by kernel_rfl) ⟨p0, q2⟩ (fun hHeld => ?_)
  refine tk 0 ?_
  refine tk 1 ?_
  refine tk 2 ?_
  refine tu 3 ?_
  refine tu 4 ?_
  refine tu 5 ?_
  refine tu 6 ?_
  refine tu 7 ?_
  refine tu 8 ?_
  refine tu 9 ?_
  refine tu 10 ?_
  refine tu 11 ?_
  refine tu 12 ?_
  refine tu 13 ?_
  refine tu 14 ?_
  refine tu 15 ?_
  refine tk 16 ?_
  refine tk 17 ?_
  refine wpAnyH_done (by kernel_rfl) ?_ _
  refine NoPanic.normal ?_
  clear hHeld
  go_wp2_with fail
  go_ret
  exact ⟨retB HR.out.symm, hbd⟩
 ·have HR := Lib.hid (show parentR s[m].key db[m].rows f.cols vals = decide (0 < (findL s[m].key (keyL f.cols vals) db[m].rows).length) by unfold parentR; rw [hk]; rfl)
  clear hk
  go_wp2_with fail
  refine wp_region_noPanic ?_
  refine wp_region_held_drew (S := fun w' => w'.cell? ⟨bd, od + m, none⟩ = some (.slice AL db[m].rows.length cL) ∧ w'.cell? ⟨bt, ot + m * 6 + 2, none⟩ = some (.slice A2 s[m].key.length d2)) (by kernel_rfl) ⟨p0, q2⟩ (fun hHeld => ?_)
  refine tk 0 ?_
  refine tk 1 ?_
  refine tk 2 ?_
  refine tk 3 ?_
  refine tk 4 ?_
  refine tk 5 ?_
  refine tk 6 ?_
  refine tk 7 ?_
  refine tk 8 ?_
  refine tk 9 ?_
  refine tk 10 ?_
  refine tk 11 ?_
  refine tk 12 ?_
  refine wpAnyH_ready (rs := [13]) (by kernel_rfl) (by simp) ?_
  refine AllReadyH.cons rfl (fun K hK => ?_) AllReadyH.nil
  go_simp
  refine (specL4Find AL A2 AO db[m].rows.length cL s[m].key.length d2 (keyL f.cols vals).length cO db[m].rows s[m].key (keyL f.cols vals) _ _ _ _ (HRW.out) (HKC.out) HSL3.out HRN.out HKN.out HKL.out HVN.out HALL.out).mono ?_
  rintro e w9 ⟨AF, cF, rfl, hcF, hfl, hb9⟩
  go_wp2_with fail
  refine hK.out _ _ ⟨below_keep hb9 _ _ hHeld.1, below_keep hb9 _ _ hHeld.2⟩ (fun hHeld => ?_)
  clear hK K
  (try simp only [Act.put, pz0, pz1, pz2, pz3, pz4, pz5])
  refine tk 14 ?_
  refine tk 15 ?_
  refine tk 16 ?_
  refine tk 17 ?_
  refine wpAnyH_done (by kernel_rfl) ?_ _
  refine NoPanic.normal ?_
  clear hHeld
  go_wp2_with fail
  go_ret
  exact ⟨retB HR.out.symm, hbd.trans (hb9.mono hbd.size)⟩
def FkIn (s : List Tb) (db : List Dt) (vals : List Vl) (f : Fk) : Prop := f.cols.all (inV vals) = true ∧ f.cols.length ≤ 1048576 ∧ ∃ m : Nat, atN (s.map Tb.name) f.table = m ∧ ∃ (hm : m < s.length) (hmd : m < db.length), s[m].key.length ≤ 1048576 ∧ db[m].rows.length ≤ 1048576 ∧ (∀ r ∈ db[m].rows, r.vals.length ≤ 1048576) ∧ ∀ r ∈ db[m].rows, s[m].key.all (inV r.vals) = true
def parentB (s : List Tb) (db : List Dt) (f : Fk) (vals : List Vl) : Bool :=
 parentR ((s[(atN (s.map Tb.name) f.table).toNat]?.map Tb.key).getD []) ((db[(atN (s.map Tb.name) f.table).toNat]?.map Dt.rows).getD []) f.cols vals
theorem parentB_at {s : List Tb} {db : List Dt} {f : Fk} {vals : List Vl} {m : Nat} (h : atN (s.map Tb.name) f.table = m) (hm : m < s.length) (hmd : m < db.length) : parentB s db f vals = parentR s[m].key db[m].rows f.cols vals := by
 unfold parentB; rw [h]; simp [hm, hmd]
theorem specL5ParentB (AS AD AC AV : Option Addr) (nS cS nD cD nC cC nV cV : Nat) (s : List Tb) (db : List Dt) (f : Fk) (vals : List Vl) (ok okd okc okv : Nat → Prop) (w : World)
  (hs : Sl TbR 6 ok w AS nS s) (hd : Sl DtR 1 okd w AD nD db) (hc : Sl IntR 1 okc w AC nC f.cols) (hv : Sl VlR 3 okv w AV nV vals) (hsn : nS ≤ 1048576) (hdn : nD ≤ 1048576) (hvn : nV ≤ 1048576) (hF : FkIn s db vals f) :
  Calls Tryz.prog 104 #[.slice AS nS cS, .slice AD nD cD, .agg #[.slice AC nC cC, .string f.table, .int .i64 f.del, .int .i64 f.upd, .bool f.dfr], .slice AV nV cV] w fun e w' => e = .returned (.bool (parentB s db f vals)) ∧ Below w.heap.size w w' := by
 obtain ⟨h1, h2, m, h3, hm, hmd, h4, h5, h6, h7⟩ := hF
 rw [parentB_at h3 hm hmd]
 exact specL5Parent AS AD AC AV nS cS nD cD nC cC nV cV s db f vals m ok okd okc okv w hs hd hc hv hsn hdn (by have := hc.1; omega) hvn h1 h3 hm hmd h4 h5 h6 h7
theorem all_take_one {α : Type} (f : α → Bool) (l : List α) (k : Nat) (h : k < l.length) : (l.take (k + 1)).all f = ((l.take k).all f && f l[k]) := by
 rw [List.take_succ_eq_append_getElem h, List.all_append]; simp
def okFkB (s : List Tb) (db : List Dt) (vals : List Vl) (wait : Bool) (f : Fk) : Bool := (wait && f.dfr) || parentB s db f vals
def refersB (s : List Tb) (db : List Dt) (t : Tb) (vals : List Vl) (wait : Bool) : Bool := t.fks.all (okFkB s db vals wait)
set_option maxRecDepth 100000 in
set_option maxHeartbeats 4000000 in
theorem specL5Refers (AS AD AV : Option Addr) (nS cS nD cD nV cV : Nat) (s : List Tb) (db : List Dt) (i : Nat) (vals : List Vl) (wait : Bool) (ok okd okv : Nat → Prop) (w : World)
  (hs : Sl TbR 6 ok w AS nS s) (hd : Sl DtR 1 okd w AD nD db) (hv : Sl VlR 3 okv w AV nV vals) (hsn : nS ≤ 1048576) (hdn : nD ≤ 1048576) (hvn : nV ≤ 1048576) (hi : i < s.length) (hfn : s[i].fks.length ≤ 1048576) (hF : ∀ f ∈ s[i].fks, FkIn s db vals f) :
  Calls Tryz.prog 65 #[.slice AS nS cS, .slice AD nD cD, .int .i64 i, .slice AV nV cV, .bool wait] w fun e w' => e = .returned (.bool (refersB s db s[i] vals wait)) ∧ Below w.heap.size w w' := by
 obtain rfl : s.length = nS := hs.1
 have HF := Lib.hid hF
 clear hF
 have i0 : (0 : Int) ≤ i := by omega
 have i1 : (i : Int) < s.length := by omega
 have hb0 := Below.refl w.heap.size w
 obtain ⟨bt, ot, A1, n1, d1, A2, n2, d2, A3, n3, d3, A4, n4, d4, A5, n5, d5, -, rfl, q0, q1, q2, q3, q4, q5, s1, s2, s3, s4, s5, -⟩ := TbR.at_ hs hi
 obtain rfl : s[i].fks.length = n5 := s5.1
 go_enter Tryz.func65, Tryz.ntmps65
 go_wp2_with fail
 go_loopw [11] (fun j wr => ∃ k : Nat, k ≤ s[i].fks.length ∧ j = .int .i64 k ∧ Hid ((s[i].fks.take k).all (okFkB s db vals wait) = true) ∧ Below w.heap.size w wr) (fun j _ => s[i].fks.length - (intOf j).toNat)
 case atStart => exact ⟨0, by omega, rfl, Lib.hid (by simp), hb0⟩
 case round =>
  clear hb0
  obtain ⟨k, hk', rfl, hall, hb⟩ := hrel
  have t5 := below_keep hb _ _ q5
  clear q0 q1 q2 q3 q4 q5
  by_cases hlt : k < s[i].fks.length
  ·obtain ⟨bf, of, AC, nC, cC, -, rfl, g0, g1, g2, g3, g4, hc, -⟩ := FkR.at_ (s5.below FkR.stays hb) hlt
   have j0 : (0 : Int) ≤ k := by omega
   have j1 : (k : Int) < s[i].fks.length := by omega
   have hst := all_take_one (okFkB s db vals wait) s[i].fks k hlt
   rw [hall.out, Bool.true_and] at hst
   have hno : okFkB s db vals wait s[i].fks[k] = false → refersB s db s[i] vals wait = false := fun hf => by
    unfold refersB; rw [List.all_eq_false]; exact ⟨s[i].fks[k], List.getElem_mem hlt, by simp [hf]⟩
   have hbl := (Below.refl wr.heap.size wr).alloc (Nat.le_refl _) (.cells #[.slice AC nC cC, .string s[i].fks[k].table, .int .i64 s[i].fks[k].del, .int .i64 s[i].fks[k].upd, .bool s[i].fks[k].dfr] 63)
   have hba := hb.alloc hb.size (.cells #[.slice AC nC cC, .string s[i].fks[k].table, .int .i64 s[i].fks[k].del, .int .i64 s[i].fks[k].upd, .bool s[i].fks[k].dfr] 63)
   have HC := Lib.hid (specL5ParentB (some ⟨bt, ot, none⟩) AD AC AV s.length cS nD cD nC cC nV cV s db s[i].fks[k] vals _ _ _ _ (wr.alloc (.cells #[.slice AC nC cC, .string s[i].fks[k].table, .int .i64 s[i].fks[k].del, .int .i64 s[i].fks[k].upd, .bool s[i].fks[k].dfr] 63)) (hs.below TbR.stays hba) (hd.below DtR.stays hba) (hc.below IntR.stays hbl) (hv.below VlR.stays hba) hsn hdn hvn (HF.out _ (List.getElem_mem hlt)))
   have RF := Lib.hid (Row.new wr 63 #[.slice AC nC cC, .string s[i].fks[k].table, .int .i64 s[i].fks[k].del, .int .i64 s[i].fks[k].upd, .bool s[i].fks[k].dfr])
   obtain ⟨c0, c1, c2, c3, c4⟩ := RF.out.five
   generalize hdv : s[i].fks[k].dfr = dv at *
   cases hwt : wait
   ·subst hwt
    cases hp : parentB s db s[i].fks[k] vals
    ·have HP := Lib.hid hp
     have HN := Lib.hid (hno (by unfold okFkB; rw [hp]; rfl))
     clear hst hno hp hdv
     go_wp2_with fail
     refine HC.out.mono ?_
     rintro e w5 ⟨rfl, hb5⟩
     rw [HP.out]
     go_wp2_with fail
     go_ret
     exact ⟨retB HN.out.symm, hba.trans (hb5.mono hba.size)⟩
    ·have HP := Lib.hid hp
     have HA := Lib.hid (show (s[i].fks.take (k + 1)).all (okFkB s db vals false) = true by rw [hst]; unfold okFkB; rw [hp]; rfl)
     clear hst hno hp hdv
     go_wp2_with fail
     refine HC.out.mono ?_
     rintro e w5 ⟨rfl, hb5⟩
     rw [HP.out]
     go_wp2_with fail
     go_roundw
     case rel => exact ⟨k + 1, by omega, by go_num, HA, hba.trans (hb5.mono hba.size)⟩
     case measure => simp [intOf]; omega
   ·subst hwt
    cases dv
    ·have HD := Lib.hid hdv
     clear hdv
     cases hp : parentB s db s[i].fks[k] vals
     ·have HP := Lib.hid hp
      have HN := Lib.hid (hno (by unfold okFkB; rw [hp, HD.out]; rfl))
      clear hst hno hp
      go_wp2_with fail
      refine HC.out.mono ?_
      rintro e w5 ⟨rfl, hb5⟩
      rw [HP.out]
      go_wp2_with fail
      go_ret
      exact ⟨retB HN.out.symm, hba.trans (hb5.mono hba.size)⟩
     ·have HP := Lib.hid hp
      have HA := Lib.hid (show (s[i].fks.take (k + 1)).all (okFkB s db vals true) = true by rw [hst]; unfold okFkB; rw [hp, HD.out]; rfl)
      clear hst hno hp
      go_wp2_with fail
      refine HC.out.mono ?_
      rintro e w5 ⟨rfl, hb5⟩
      rw [HP.out]
      go_wp2_with fail
      go_roundw
      case rel => exact ⟨k + 1, by omega, by go_num, HA, hba.trans (hb5.mono hba.size)⟩
      case measure => simp [intOf]; omega
    ·have HA := Lib.hid (show (s[i].fks.take (k + 1)).all (okFkB s db vals true) = true by rw [hst]; unfold okFkB; rw [hdv]; rfl)
     clear hst hno hdv
     go_wp2_with fail
     go_roundw
     case rel => exact ⟨k + 1, by omega, by go_num, HA, hba⟩
     case measure => simp [intOf]; omega
  ·obtain rfl : k = s[i].fks.length := by omega
   have h1 := hall.out
   rw [List.take_of_length_le (Nat.le_refl _)] at h1
   have HR := Lib.hid (show refersB s db s[i] vals wait = true from h1)
   clear hall h1
   go_wp2_with fail
   go_ret
   exact ⟨retB HR.out.symm, hb⟩
end Go.Proofs.YtjhhamlnlalkoaaGreat
namespace Go.Proofs.YtjhhamlnlalkoaaGreat
open Go.RowKit
theorem schemaB_at {s : List Tb} (h : schemaB s = true) {i : Nat} (hi : i < s.length) : tableB s[i] = true ∧ leadsB s s[i] = true := by
 simp only [schemaB, Bool.and_eq_true] at h
 exact ⟨List.all_eq_true.1 h.2.1 _ (List.getElem_mem hi), List.all_eq_true.1 h.2.2.2 _ (List.getElem_mem hi)⟩
theorem schemaB_le {s : List Tb} (h : schemaB s = true) : s.length ≤ 5 := by
 simp only [schemaB, Bool.and_eq_true, decide_eq_true_eq] at h
 exact h.1
theorem tableB_cols {t : Tb} (h : tableB t = true) : t.cols.length ≤ 8 := by
 simp only [tableB, colsB, Bool.and_eq_true, decide_eq_true_eq] at h
 exact h.2.1.2.1
theorem tableB_key {t : Tb} (h : tableB t = true) : colsInB t.key t.cols.length = true := by
 simp only [tableB, keyB, Bool.and_eq_true] at h
 exact h.2.2.1.1
theorem tableB_uniq {t : Tb} (h : tableB t = true) : ∀ u ∈ t.uniqs, colsInB u.cols t.cols.length = true := fun u hu => by
 simp only [tableB, uqsB, Bool.and_eq_true] at h
 exact List.all_eq_true.1 h.2.2.2.1.2 u hu
theorem tableB_fk {t : Tb} (h : tableB t = true) : ∀ f ∈ t.fks, colsInB f.cols t.cols.length = true := fun f hf => by
 simp only [tableB, fksB, Bool.and_eq_true] at h
 have := List.all_eq_true.1 h.2.2.2.2.2.2 f hf
 simp only [fkB, Bool.and_eq_true] at this
 exact this.1
theorem leadB_at {s : List Tb} {x : Tb} {f : Fk} (h : leadB s x f = true) : ∃ m : Nat, atN (s.map Tb.name) f.table = m ∧ m < s.length := by
 simp only [leadB, Bool.and_eq_true, decide_eq_true_eq] at h
 rcases atN_rng (s.map Tb.name) f.table with h1 | ⟨h1, h2⟩
 ·exact absurd h1 h.1
 ·exact ⟨(atN (s.map Tb.name) f.table).toNat, by omega, by rw [List.length_map] at h2; omega⟩
theorem dbB_schema {s : List Tb} {db : List Dt} (h : dbB s db = true) : schemaB s = true := by
 simp only [dbB, Bool.and_eq_true] at h
 exact h.1
theorem dbB_data {s : List Tb} {db : List Dt} (h : dbB s db = true) {m : Nat} (h1 : m < s.length) (h2 : m < db.length) : dataB s[m].cols db[m].rows = true := by
 simp only [dbB, Bool.and_eq_true, decide_eq_true_eq] at h
 have h3 := List.all_eq_true.1 h.2.2 (s[m], db[m]) (by rw [List.mem_iff_getElem]; exact ⟨m, by rw [List.length_zip]; omega, by simp⟩)
 exact h3
theorem dbB_rows {s : List Tb} {db : List Dt} (h : dbB s db = true) {m : Nat} (h1 : m < s.length) (h2 : m < db.length) : db[m].rows.length ≤ 60 := by
 have h3 := dbB_data h h1 h2
 simp only [dataB, Bool.and_eq_true, decide_eq_true_eq] at h3
 exact h3.1
theorem dbB_kinds {s : List Tb} {db : List Dt} (h : dbB s db = true) {m : Nat} (h1 : m < s.length) (h2 : m < db.length) : ∀ r ∈ db[m].rows, kindsB s[m].cols r.vals = true := by
 have h3 := dbB_data h h1 h2
 simp only [dataB, Bool.and_eq_true, decide_eq_true_eq] at h3
 exact idsGo_mem h3.2
theorem fkIn_of {s : List Tb} {db : List Dt} (h : dbB s db = true) {i : Nat} (hi : i < s.length) {vals : List Vl} (hv : vals.length = s[i].cols.length) : ∀ f ∈ s[i].fks, FkIn s db vals f := fun f hf => by
 have hS := dbB_schema h
 have hT := schemaB_at hS hi
 have hl := dbB_len h
 have hc := tableB_fk hT.1 f hf
 have h8 := tableB_cols hT.1
 obtain ⟨m, e, hm⟩ := leadB_at (List.all_eq_true.1 hT.2 f hf)
 have hmd : m < db.length := by omega
 have hM := schemaB_at hS hm
 have hk := colsInB_len (tableB_key hM.1)
 have hm8 := tableB_cols hM.1
 have hr := dbB_row h hm hmd
 refine ⟨all_inV hc hv, by have := (colsInB_len hc).1; omega, m, e, hm, hmd, by omega, by have := dbB_rows h hm hmd; omega, fun r hr' => by rw [hr r hr']; omega, fun r hr' => all_inV (tableB_key hM.1) (hr r hr')⟩
end Go.Proofs.YtjhhamlnlalkoaaGreat
