/-
  Several texts in one: what the proof leans on, part 4.
-/
import Derived.Test.YtciaidjmehelpaaGreatMb
import Derived.Test.YtciaidjmehelpaaGreatMc
import Derived.Test.YtciaidjmehelpaaGreatMa
import Derived.Deep.RegionHeld3
import Derived.Deep.DeepCutAuto
import Derived.Deep.CutRange
import Derived.IntWalk
import Derived.Deep.Cut
import Derived.Laws.OwnMore
set_option linter.unusedVariables false
set_option linter.unusedSimpArgs false
namespace Go.Proofs.YtciaidjmehelpaaGreat
open Go.RowKit Go.Maps
theorem act_in (a : Int) : actB a = (decide (0 ≤ a) && decide (a ≤ 2)) := by
 unfold actB; rw [Bool.eq_iff_iff]; simp; omega
theorem exprB_l2n {ts : List Tk} {n : Nat} (hn : n ≤ 16) : exprB ts n = l2B ts n := by
 have h0 : (0 : Int) ≤ n := by omega
 have h1 : (n : Int) ≤ 16 := by omega
 simp only [exprB, l2B, h0, h1, decide_true, Bool.true_and]
 exact Bool.and_comm _ _
theorem kind_in (k : Int) : (k == 1 || k == 2) = (decide (1 ≤ k) && decide (k ≤ 2)) := by
 rw [Bool.eq_iff_iff]; simp; omega
theorem uniqGo_at (l : List ByteArray) (k : Nat) (h : k < l.length) : uniqGo (l.take k) (l.drop k) = (decide (atN (l.take k) l[k] = -1) && uniqGo (l.take (k + 1)) (l.drop (k + 1))) := by
 rw [List.drop_eq_getElem_cons h, List.take_succ_eq_append_getElem h]; rfl
set_option maxRecDepth 100000 in
set_option maxHeartbeats 4000000 in
theorem specTableOk (x : Tb) (A1 : Option Addr) (n1 c1 : Nat) (A2 : Option Addr) (n2 c2 : Nat) (A3 : Option Addr) (n3 c3 : Nat) (A4 : Option Addr) (n4 c4 : Nat) (A5 : Option Addr) (n5 c5 : Nat) (ok : Nat → Prop) (w : World)
  (h1 : Sl ClR 6 ok w A1 n1 x.cols) (h2 : Sl IntR 1 ok w A2 n2 x.key) (h3 : Sl UqR 1 ok w A3 n3 x.uniqs) (h4 : Sl CkR 1 ok w A4 n4 x.checks) (h5 : Sl FkR 5 ok w A5 n5 x.fks) (hcp : n1 ≤ c1 ∧ n2 ≤ c2 ∧ n3 ≤ c3 ∧ n4 ≤ c4 ∧ n5 ≤ c5) (hs : x.sz ≤ 1048576) :
  Calls Tryz.prog 136 #[.agg #[.string x.name, .slice A1 n1 c1, .slice A2 n2 c2, .slice A3 n3 c3, .slice A4 n4 c4, .slice A5 n5 c5]] w fun e w' => e = .returned (.bool (tableB x)) ∧ Below w.heap.size w w' := by
 obtain rfl : x.cols.length = n1 := h1.1
 obtain rfl : x.key.length = n2 := h2.1
 have HNM := Lib.hid (show x.name.size ≤ maxLen by unfold Tb.sz at hs; unfold maxLen; omega)
 have HS1 := Lib.hid (show szL Cl.sz x.cols ≤ 1048576 by unfold Tb.sz at hs; omega)
 have HS3 := Lib.hid (show szL Uq.sz x.uniqs ≤ 1048576 by unfold Tb.sz at hs; omega)
 have HS4 := Lib.hid (show szL Ck.sz x.checks ≤ 1048576 by unfold Tb.sz at hs; omega)
 have HS5 := Lib.hid (show szL Fk.sz x.fks ≤ 1048576 by unfold Tb.sz at hs; omega)
 have hl1 : x.cols.length ≤ 1048576 := by unfold Tb.sz szL at hs; omega
 have hl2 : x.key.length ≤ 1048576 := by unfold Tb.sz at hs; omega
 obtain rfl : x.uniqs.length = n3 := h3.1
 obtain rfl : x.checks.length = n4 := h4.1
 obtain rfl : x.fks.length = n5 := h5.1
 have hl3 : x.uniqs.length ≤ 1048576 := by unfold Tb.sz szL at hs; omega
 have hl4 : x.checks.length ≤ 1048576 := by unfold Tb.sz szL at hs; omega
 have hl5 : x.fks.length ≤ 1048576 := by unfold Tb.sz szL at hs; omega
 have hcp2 := hcp.2.1
 have hcp1 := hcp.1
 clear hs hcp
 have hb0 := (Below.refl w.heap.size w).alloc (Nat.le_refl _) (.cells #[.string x.name, .slice A1 x.cols.length c1, .slice A2 x.key.length c2, .slice A3 x.uniqs.length c3, .slice A4 x.checks.length c4, .slice A5 x.fks.length c5] 82)
 have r0 := Row.new w 82 #[.string x.name, .slice A1 x.cols.length c1, .slice A2 x.key.length c2, .slice A3 x.uniqs.length c3, .slice A4 x.checks.length c4, .slice A5 x.fks.length c5]
 cases hN : nameB x.name
 ·skip
  have HN0 := Lib.hid hN
  have HF := Lib.hid (show tableB x = false by unfold tableB; rw [hN]; rfl)
  clear hN
  go_enter Tryz.func136, Tryz.ntmps136
  go_wp2_with fail
  refine (specName _ _ HNM.out).mono ?_
  rintro e w1 ⟨rfl, rfl⟩
  rw [HN0.out]
  go_wp2_with fail
  go_ret
  exact ⟨retB HF.out.symm, hb0⟩
 have HN0 := Lib.hid hN
 clear hN
 cases h8 : (decide (1 ≤ (x.cols.length : Int)) && decide ((x.cols.length : Int) ≤ 8))
 ·skip
  have H8 := Lib.hid h8
  have HF := Lib.hid (show tableB x = false by
   have : colsB x.cols = false := by
    unfold colsB
    by_cases e : 1 ≤ x.cols.length
    ·have e2 : ¬ x.cols.length ≤ 8 := by intro e3; simp [e3] at h8; omega
     rw [decide_eq_false e2]; simp
    ·rw [decide_eq_false e]; rfl
   unfold tableB; rw [this]; simp)
  clear h8
  go_enter Tryz.func136, Tryz.ntmps136
  go_wp2_with fail
  refine (specName _ _ HNM.out).mono ?_
  rintro e w1 ⟨rfl, rfl⟩
  rw [HN0.out]
  go_wp2_with fail
  refine (specIn _ _ _ _).mono ?_
  rintro e w1 ⟨rfl, rfl⟩
  rw [H8.out]
  go_wp2_with fail
  go_ret
  exact ⟨retB HF.out.symm, hb0⟩
 have H8 := Lib.hid h8
 have hlen8 : x.cols.length ≤ 8 := by simp at h8; omega
 clear h8
 cases hK : colsInB x.key x.cols.length
 ·skip
  have HK := Lib.hid hK
  have HF := Lib.hid (show tableB x = false by unfold tableB keyB; rw [hK]; simp)
  clear hK
  go_enter Tryz.func136, Tryz.ntmps136
  go_wp2_with fail
  refine (specName _ _ HNM.out).mono ?_
  rintro e w1 ⟨rfl, rfl⟩
  rw [HN0.out]
  go_wp2_with fail
  refine (specIn _ _ _ _).mono ?_
  rintro e w1 ⟨rfl, rfl⟩
  rw [H8.out]
  go_wp2_with fail
  refine (specCols A2 x.key.length c2 x.key x.cols.length ok _ (h2.below IntR.stays hb0) hcp2 hl2 (by omega) (by omega)).mono ?_
  rintro e w2 ⟨rfl, hq1⟩
  rw [HK.out]
  go_wp2_with fail
  go_ret
  exact ⟨retB HF.out.symm, hb0.trans (hq1.mono hb0.size)⟩
 have HK := Lib.hid hK
 have HIN := Lib.hid (colsInB_len hK).2
 clear hK
 by_cases hu : 3 < (x.uniqs.length : Int)
 ·skip
  have HF := Lib.hid (show tableB x = false by unfold tableB uqsB; rw [decide_eq_false (p := x.uniqs.length ≤ 3) (by have := h3.1; omega)]; simp)
  go_enter Tryz.func136, Tryz.ntmps136
  go_wp2_with fail
  refine (specName _ _ HNM.out).mono ?_
  rintro e w1 ⟨rfl, rfl⟩
  rw [HN0.out]
  go_wp2_with fail
  refine (specIn _ _ _ _).mono ?_
  rintro e w1 ⟨rfl, rfl⟩
  rw [H8.out]
  go_wp2_with fail
  refine (specCols A2 x.key.length c2 x.key x.cols.length ok _ (h2.below IntR.stays hb0) hcp2 hl2 (by omega) (by omega)).mono ?_
  rintro e w2 ⟨rfl, hq1⟩
  rw [HK.out]
  obtain ⟨⟨a0, a1, a2, a3, a4, a5⟩, -⟩ := (r0.below hq1).all6
  go_wp2_with fail
  go_ret
  exact ⟨retB HF.out.symm, hb0.trans (hq1.mono hb0.size)⟩
 have hu' : decide (3 < (x.uniqs.length : Int)) = false := by simpa using hu
 by_cases hc : 3 < (x.checks.length : Int)
 ·skip
  have HF := Lib.hid (show tableB x = false by unfold tableB cksB; rw [decide_eq_false (p := x.checks.length ≤ 3) (by have := h4.1; omega)]; simp)
  go_enter Tryz.func136, Tryz.ntmps136
  go_wp2_with fail
  refine (specName _ _ HNM.out).mono ?_
  rintro e w1 ⟨rfl, rfl⟩
  rw [HN0.out]
  go_wp2_with fail
  refine (specIn _ _ _ _).mono ?_
  rintro e w1 ⟨rfl, rfl⟩
  rw [H8.out]
  go_wp2_with fail
  refine (specCols A2 x.key.length c2 x.key x.cols.length ok _ (h2.below IntR.stays hb0) hcp2 hl2 (by omega) (by omega)).mono ?_
  rintro e w2 ⟨rfl, hq1⟩
  rw [HK.out]
  obtain ⟨⟨a0, a1, a2, a3, a4, a5⟩, -⟩ := (r0.below hq1).all6
  go_wp2_with fail
  go_ret
  exact ⟨retB HF.out.symm, hb0.trans (hq1.mono hb0.size)⟩
 have hc' : decide (3 < (x.checks.length : Int)) = false := by simpa using hc
 by_cases hf : 3 < (x.fks.length : Int)
 ·skip
  have HF := Lib.hid (show tableB x = false by unfold tableB fksB; rw [decide_eq_false (p := x.fks.length ≤ 3) (by have := h5.1; omega)]; simp)
  go_enter Tryz.func136, Tryz.ntmps136
  go_wp2_with fail
  refine (specName _ _ HNM.out).mono ?_
  rintro e w1 ⟨rfl, rfl⟩
  rw [HN0.out]
  go_wp2_with fail
  refine (specIn _ _ _ _).mono ?_
  rintro e w1 ⟨rfl, rfl⟩
  rw [H8.out]
  go_wp2_with fail
  refine (specCols A2 x.key.length c2 x.key x.cols.length ok _ (h2.below IntR.stays hb0) hcp2 hl2 (by omega) (by omega)).mono ?_
  rintro e w2 ⟨rfl, hq1⟩
  rw [HK.out]
  obtain ⟨⟨a0, a1, a2, a3, a4, a5⟩, -⟩ := (r0.below hq1).all6
  go_wp2_with fail
  go_ret
  exact ⟨retB HF.out.symm, hb0.trans (hq1.mono hb0.size)⟩
 have hf' : decide (3 < (x.fks.length : Int)) = false := by simpa using hf
 go_enter Tryz.func136, Tryz.ntmps136
 go_wp2_with fail
 refine (specName _ _ HNM.out).mono ?_
 rintro e w1 ⟨rfl, rfl⟩
 rw [HN0.out]
 go_wp2_with fail
 refine (specIn _ _ _ _).mono ?_
 rintro e w1 ⟨rfl, rfl⟩
 rw [H8.out]
 go_wp2_with fail
 refine (specCols A2 x.key.length c2 x.key x.cols.length ok _ (h2.below IntR.stays hb0) hcp2 hl2 (by omega) (by omega)).mono ?_
 rintro e w2 ⟨rfl, hq1⟩
 rw [HK.out]
 have hb1 := hb0.trans (hq1.mono hb0.size)
 have r1 := r0.below hq1
 obtain ⟨⟨a0, a1, a2, a3, a4, a5⟩, -⟩ := r1.all6
 go_wp2_with fail
 clear a0 a1 a2 a3 a4 a5 r0
 go_loopw [4] (fun i wr => ∃ k : Nat, k ≤ x.cols.length ∧ i = .int .i64 k ∧ Hid ((x.cols.take k).all colB = true) ∧ Hid (uniqGo [] (x.cols.map Cl.name) = uniqGo ((x.cols.map Cl.name).take k) ((x.cols.map Cl.name).drop k)) ∧ Row wr w.heap.size 82 #[.string x.name, .slice A1 x.cols.length c1, .slice A2 x.key.length c2, .slice A3 x.uniqs.length c3, .slice A4 x.checks.length c4, .slice A5 x.fks.length c5] ∧ Below w.heap.size w wr) (fun i _ => x.cols.length - (intOf i).toNat)
 case atStart => exact ⟨0, by omega, rfl, Lib.hid (by simp), Lib.hid (by simp), r1, hb1⟩
 case round =>
  obtain ⟨k, hk, rfl, hall, huq, hr, hb⟩ := hrel
  obtain ⟨⟨a0, a1, a2, a3, a4, a5⟩, -⟩ := hr.all6
  by_cases hlt : k < x.cols.length
  ·obtain ⟨b, off, -, rfl, q0, q1, q2, q3, q4, q5⟩ := ClR.at_ (h1.below ClR.stays hb) hlt
   have HZ := Lib.hid (cl_name_le HS1.out k hlt)
   have i0 : (0 : Int) ≤ k := by omega
   have i1 : (k : Int) < x.cols.length := by omega
   have i3 : (k : Int) ≤ c1 := by omega
   have hsl := (h1.below ClR.stays hb)
   have hsl := hsl.below ClR.stays ((Below.refl wr.heap.size wr).alloc (Nat.le_refl _) (.cells #[.string x.cols[k].name, .int .i64 x.cols[k].kind, .bool x.cols[k].nn, .int .i64 x.cols[k].d.k, .int .i64 x.cols[k].d.n, .string x.cols[k].d.s] 118))
   have hug := uniqGo_at (x.cols.map Cl.name) k (by simpa using hlt)
   rw [← huq.out, List.getElem_map, ← List.map_take] at hug
   have HNO := Lib.hid (fun hf : colB x.cols[k] = false => show tableB x = false by unfold tableB colsB; rw [all_no colB x.cols k hlt hf]; simp)
   have HDU := Lib.hid (fun hf : ¬ atN ((x.cols.take k).map Cl.name) x.cols[k].name = -1 => show tableB x = false by
    unfold tableB colsB; rw [hug, decide_eq_false hf]; simp)
   have HUN := Lib.hid (fun hf : atN ((x.cols.take k).map Cl.name) x.cols[k].name = -1 => show uniqGo [] (x.cols.map Cl.name) = uniqGo ((x.cols.map Cl.name).take (k + 1)) ((x.cols.map Cl.name).drop (k + 1)) by
    rw [hug, decide_eq_true hf, Bool.true_and])
   have HCN := Lib.hid (fun hf : colB x.cols[k] = true => show (x.cols.take (k + 1)).all colB = true by rw [all_take colB x.cols k hlt, hall.out, hf]; rfl)
   clear hug hall huq
   generalize x.cols[k] = cl at *
   have hbx := (Below.refl wr.heap.size wr).alloc (Nat.le_refl _) (.cells #[.string cl.name, .int .i64 cl.kind, .bool cl.nn, .int .i64 cl.d.k, .int .i64 cl.d.n, .string cl.d.s] 118)
   have hba := hb.trans (hbx.mono hb.size)
   have rk := Row.new wr 118 #[.string cl.name, .int .i64 cl.kind, .bool cl.nn, .int .i64 cl.d.k, .int .i64 cl.d.n, .string cl.d.s]
   have hr1 := hr.below hbx
   clear hr
   cases hn : nameB cl.name
   ·skip
    have HN := Lib.hid hn
    have HF := Lib.hid (HNO.out (by unfold colB; rw [hn]; rfl))
    clear hn
    go_wp2_with fail
    generalize wr.alloc (.cells #[.string cl.name, .int .i64 cl.kind, .bool cl.nn, .int .i64 cl.d.k, .int .i64 cl.d.n, .string cl.d.s] 118) = x1 at *
    obtain ⟨⟨k0, k1, k2, k3, k4, k5⟩, -⟩ := rk.all6
    obtain ⟨⟨t0, t1, t2, t3, t4, t5⟩, -⟩ := hr1.all6
    refine wp_region_noPanic ?_
    refine wp_region_held_drew (S := fun w' => w'.cell? ⟨wr.heap.size, 0, none⟩ = some (.string cl.name) ∧ w'.cell? ⟨wr.heap.size, 1, none⟩ = some (.int .i64 cl.kind) ∧ w'.cell? ⟨wr.heap.size, 2, none⟩ = some (.bool cl.nn) ∧ w'.cell? ⟨wr.heap.size, 3, none⟩ = some (.int .i64 cl.d.k) ∧ w'.cell? ⟨wr.heap.size, 4, none⟩ = some (.int .i64 cl.d.n) ∧ w'.cell? ⟨wr.heap.size, 5, none⟩ = some (.string cl.d.s) ∧ w'.cell? ⟨w.heap.size, 1, none⟩ = some (.slice (some ⟨b, off, none⟩) x.cols.length c1)) (by kernel_rfl) ⟨k0, k1, k2, k3, k4, k5, t1⟩ (fun hHeld => ?_)
    refine tk 0 ?_
    refine tk 1 ?_
    refine wpAnyH_ready (rs := [2]) (by kernel_rfl) (by simp) ?_
    refine AllReadyH.cons rfl (fun K hK => ?_) AllReadyH.nil
    go_simp
    refine (specName _ _ HZ.out).mono ?_
    rintro e wa ⟨rfl, rfl⟩
    rw [HN.out]
    go_wp2_with fail
    refine hK.out _ _ hHeld (fun hHeld => ?_)
    clear hK K
    (try simp only [Act.put, pz0, pz1, pz2, pz3, pz4, pz5])
    refine tk 3 ?_
    refine tk 4 ?_
    refine tu 5 ?_
    refine tu 6 ?_
    refine tu 7 ?_
    refine tu 8 ?_
    refine tu 9 ?_
    refine tu 10 ?_
    refine tu 11 ?_
    refine tu 12 ?_
    refine tu 13 ?_
    refine tk 14 ?_
    refine tk 15 ?_
    refine tu 16 ?_
    refine tu 17 ?_
    refine tu 18 ?_
    refine tu 19 ?_
    refine tk 20 ?_
    refine tk 21 ?_
    refine tu 22 ?_
    refine tu 23 ?_
    refine tu 24 ?_
    refine tu 25 ?_
    refine tk 26 ?_
    refine tk 27 ?_
    refine tu 28 ?_
    refine tu 29 ?_
    refine tu 30 ?_
    refine tu 31 ?_
    refine tu 32 ?_
    refine tu 33 ?_
    refine tu 34 ?_
    refine tu 35 ?_
    refine tu 36 ?_
    refine tu 37 ?_
    refine tu 38 ?_
    refine tu 39 ?_
    refine tk 40 ?_
    refine wpAnyH_done (by kernel_rfl) ?_ _
    refine NoPanic.normal ?_
    have hz0 := hba.drew
    have rz0 := hr1.drew
    clear hHeld k0 k1 k2 k3 k4 k5 t0 t1 t2 t3 t4 t5
    go_wp2_with fail
    go_ret
    exact ⟨retB HF.out.symm, hz0⟩
   have HN := Lib.hid hn
   by_cases hat : atN ((x.cols.take k).map Cl.name) cl.name = -1
   case neg =>
    have HF := Lib.hid (HDU.out hat)
    obtain ⟨j, hj, hj0⟩ : ∃ j : Int, j = atN ((x.cols.take k).map Cl.name) cl.name ∧ 0 ≤ j := ⟨_, rfl, by rcases atN_rng ((x.cols.take k).map Cl.name) cl.name with h | h; exact absurd h hat; exact h.1⟩
    have HJ := Lib.hid hj
    clear hat hj hn
    go_wp2_with fail
    generalize wr.alloc (.cells #[.string cl.name, .int .i64 cl.kind, .bool cl.nn, .int .i64 cl.d.k, .int .i64 cl.d.n, .string cl.d.s] 118) = x1 at *
    obtain ⟨⟨k0, k1, k2, k3, k4, k5⟩, -⟩ := rk.all6
    obtain ⟨⟨t0, t1, t2, t3, t4, t5⟩, -⟩ := hr1.all6
    refine wp_region_noPanic ?_
    refine wp_region_held_drew (S := fun w' => w'.cell? ⟨wr.heap.size, 0, none⟩ = some (.string cl.name) ∧ w'.cell? ⟨wr.heap.size, 1, none⟩ = some (.int .i64 cl.kind) ∧ w'.cell? ⟨wr.heap.size, 2, none⟩ = some (.bool cl.nn) ∧ w'.cell? ⟨wr.heap.size, 3, none⟩ = some (.int .i64 cl.d.k) ∧ w'.cell? ⟨wr.heap.size, 4, none⟩ = some (.int .i64 cl.d.n) ∧ w'.cell? ⟨wr.heap.size, 5, none⟩ = some (.string cl.d.s) ∧ w'.cell? ⟨w.heap.size, 1, none⟩ = some (.slice (some ⟨b, off, none⟩) x.cols.length c1)) (by kernel_rfl) ⟨k0, k1, k2, k3, k4, k5, t1⟩ (fun hHeld => ?_)
    refine tk 0 ?_
    refine tk 1 ?_
    refine wpAnyH_ready (rs := [2]) (by kernel_rfl) (by simp) ?_
    refine AllReadyH.cons rfl (fun K hK => ?_) AllReadyH.nil
    go_simp
    refine (specName _ _ HZ.out).mono ?_
    rintro e wa ⟨rfl, rfl⟩
    rw [HN.out]
    go_wp2_with fail
    refine hK.out _ _ hHeld (fun hHeld => ?_)
    clear hK K
    (try simp only [Act.put, pz0, pz1, pz2, pz3, pz4, pz5])
    refine tk 3 ?_
    refine tk 4 ?_
    refine tk 5 ?_
    refine tk 6 ?_
    refine tk 7 ?_
    refine tk 8 ?_
    refine tk 9 ?_
    refine tk 10 ?_
    refine tk 11 ?_
    refine wpAnyH_ready (rs := [12]) (by kernel_rfl) (by simp) ?_
    refine AllReadyH.cons rfl (fun K hK => ?_) AllReadyH.nil
    go_simp
    refine (specColAt _ k c1 _ _ _ _ _ (x.cols.take k) _ ok _ ((hsl.drew ClR.stays).take (m := k) (by omega)) (by omega)).mono ?_
    rintro e wb ⟨rfl, hqb⟩
    rw [← HJ.out]
    go_wp2_with fail
    refine hK.out _ _ ⟨below_keep hqb _ _ hHeld.1, below_keep hqb _ _ hHeld.2.1, below_keep hqb _ _ hHeld.2.2.1, below_keep hqb _ _ hHeld.2.2.2.1, below_keep hqb _ _ hHeld.2.2.2.2.1, below_keep hqb _ _ hHeld.2.2.2.2.2.1, below_keep hqb _ _ hHeld.2.2.2.2.2.2⟩ (fun hHeld => ?_)
    clear hK K
    (try simp only [Act.put, pz0, pz1, pz2, pz3, pz4, pz5])
    refine tk 13 ?_
    refine tk 14 ?_
    refine tk 15 ?_
    refine tu 16 ?_
    refine tu 17 ?_
    refine tu 18 ?_
    refine tu 19 ?_
    refine tk 20 ?_
    refine tk 21 ?_
    refine tu 22 ?_
    refine tu 23 ?_
    refine tu 24 ?_
    refine tu 25 ?_
    refine tk 26 ?_
    refine tk 27 ?_
    refine tu 28 ?_
    refine tu 29 ?_
    refine tu 30 ?_
    refine tu 31 ?_
    refine tu 32 ?_
    refine tu 33 ?_
    refine tu 34 ?_
    refine tu 35 ?_
    refine tu 36 ?_
    refine tu 37 ?_
    refine tu 38 ?_
    refine tu 39 ?_
    refine tk 40 ?_
    refine wpAnyH_done (by kernel_rfl) ?_ _
    refine NoPanic.normal ?_
    have hz0 := hba.drew
    have rz0 := hr1.drew
    have hz1 := hz0.trans (hqb.mono hz0.size)
    have rz1 := rz0.below hqb
    clear hHeld k0 k1 k2 k3 k4 k5 t0 t1 t2 t3 t4 t5
    go_wp2_with fail
    go_ret
    exact ⟨retB HF.out.symm, hz1⟩
   have HA := Lib.hid hat
   have HUQ := Lib.hid (HUN.out hat)
   clear hat
   cases hkd : (decide (1 ≤ cl.kind) && decide (cl.kind ≤ 2))
   ·skip
    have HKD := Lib.hid hkd
    have HF := Lib.hid (HNO.out (by unfold colB; rw [kind_in, hkd, Bool.false_and, Bool.and_false]))
    clear hkd hn
    go_wp2_with fail
    generalize wr.alloc (.cells #[.string cl.name, .int .i64 cl.kind, .bool cl.nn, .int .i64 cl.d.k, .int .i64 cl.d.n, .string cl.d.s] 118) = x1 at *
    obtain ⟨⟨k0, k1, k2, k3, k4, k5⟩, -⟩ := rk.all6
    obtain ⟨⟨t0, t1, t2, t3, t4, t5⟩, -⟩ := hr1.all6
    refine wp_region_noPanic ?_
    refine wp_region_held_drew (S := fun w' => w'.cell? ⟨wr.heap.size, 0, none⟩ = some (.string cl.name) ∧ w'.cell? ⟨wr.heap.size, 1, none⟩ = some (.int .i64 cl.kind) ∧ w'.cell? ⟨wr.heap.size, 2, none⟩ = some (.bool cl.nn) ∧ w'.cell? ⟨wr.heap.size, 3, none⟩ = some (.int .i64 cl.d.k) ∧ w'.cell? ⟨wr.heap.size, 4, none⟩ = some (.int .i64 cl.d.n) ∧ w'.cell? ⟨wr.heap.size, 5, none⟩ = some (.string cl.d.s) ∧ w'.cell? ⟨w.heap.size, 1, none⟩ = some (.slice (some ⟨b, off, none⟩) x.cols.length c1)) (by kernel_rfl) ⟨k0, k1, k2, k3, k4, k5, t1⟩ (fun hHeld => ?_)
    refine tk 0 ?_
    refine tk 1 ?_
    refine wpAnyH_ready (rs := [2]) (by kernel_rfl) (by simp) ?_
    refine AllReadyH.cons rfl (fun K hK => ?_) AllReadyH.nil
    go_simp
    refine (specName _ _ HZ.out).mono ?_
    rintro e wa ⟨rfl, rfl⟩
    rw [HN.out]
    go_wp2_with fail
    refine hK.out _ _ hHeld (fun hHeld => ?_)
    clear hK K
    (try simp only [Act.put, pz0, pz1, pz2, pz3, pz4, pz5])
    refine tk 3 ?_
    refine tk 4 ?_
    refine tk 5 ?_
    refine tk 6 ?_
    refine tk 7 ?_
    refine tk 8 ?_
    refine tk 9 ?_
    refine tk 10 ?_
    refine tk 11 ?_
    refine wpAnyH_ready (rs := [12]) (by kernel_rfl) (by simp) ?_
    refine AllReadyH.cons rfl (fun K hK => ?_) AllReadyH.nil
    go_simp
    refine (specColAt _ k c1 _ _ _ _ _ (x.cols.take k) _ ok _ ((hsl.drew ClR.stays).take (m := k) (by omega)) (by omega)).mono ?_
    rintro e wb ⟨rfl, hqb⟩
    rw [HA.out]
    go_wp2_with fail
    refine hK.out _ _ ⟨below_keep hqb _ _ hHeld.1, below_keep hqb _ _ hHeld.2.1, below_keep hqb _ _ hHeld.2.2.1, below_keep hqb _ _ hHeld.2.2.2.1, below_keep hqb _ _ hHeld.2.2.2.2.1, below_keep hqb _ _ hHeld.2.2.2.2.2.1, below_keep hqb _ _ hHeld.2.2.2.2.2.2⟩ (fun hHeld => ?_)
    clear hK K
    (try simp only [Act.put, pz0, pz1, pz2, pz3, pz4, pz5])
    refine tk 13 ?_
    refine tk 14 ?_
    refine tk 15 ?_
    refine tk 16 ?_
    refine tk 17 ?_
    refine wpAnyH_ready (rs := [18]) (by kernel_rfl) (by simp) ?_
    refine AllReadyH.cons rfl (fun K hK => ?_) AllReadyH.nil
    go_simp
    refine (specIn _ _ _ _).mono ?_
    rintro e wc ⟨rfl, rfl⟩
    rw [HKD.out]
    go_wp2_with fail
    refine hK.out _ _ hHeld (fun hHeld => ?_)
    clear hK K
    (try simp only [Act.put, pz0, pz1, pz2, pz3, pz4, pz5])
    refine tk 19 ?_
    refine tk 20 ?_
    refine tk 21 ?_
    refine tu 22 ?_
    refine tu 23 ?_
    refine tu 24 ?_
    refine tu 25 ?_
    refine tk 26 ?_
    refine tk 27 ?_
    refine tu 28 ?_
    refine tu 29 ?_
    refine tu 30 ?_
    refine tu 31 ?_
    refine tu 32 ?_
    refine tu 33 ?_
    refine tu 34 ?_
    refine tu 35 ?_
    refine tu 36 ?_
    refine tu 37 ?_
    refine tu 38 ?_
    refine tu 39 ?_
    refine tk 40 ?_
    refine wpAnyH_done (by kernel_rfl) ?_ _
    refine NoPanic.normal ?_
    have hz0 := hba.drew
    have rz0 := hr1.drew
    have hz1 := hz0.trans (hqb.mono hz0.size)
    have rz1 := rz0.below hqb
    clear hHeld k0 k1 k2 k3 k4 k5 t0 t1 t2 t3 t4 t5
    go_wp2_with fail
    go_ret
    exact ⟨retB HF.out.symm, hz1⟩
   have HKD := Lib.hid hkd
   cases hv : valOkB cl.d.k cl.d.n cl.d.s
   ·skip
    have HV := Lib.hid hv
    have HF := Lib.hid (HNO.out (by unfold colB fitsB; rw [hv, Bool.false_and, Bool.and_false, Bool.and_false]))
    clear hkd hn hv
    go_wp2_with fail
    generalize wr.alloc (.cells #[.string cl.name, .int .i64 cl.kind, .bool cl.nn, .int .i64 cl.d.k, .int .i64 cl.d.n, .string cl.d.s] 118) = x1 at *
    obtain ⟨⟨k0, k1, k2, k3, k4, k5⟩, -⟩ := rk.all6
    obtain ⟨⟨t0, t1, t2, t3, t4, t5⟩, -⟩ := hr1.all6
    refine wp_region_noPanic ?_
    refine wp_region_held_drew (S := fun w' => w'.cell? ⟨wr.heap.size, 0, none⟩ = some (.string cl.name) ∧ w'.cell? ⟨wr.heap.size, 1, none⟩ = some (.int .i64 cl.kind) ∧ w'.cell? ⟨wr.heap.size, 2, none⟩ = some (.bool cl.nn) ∧ w'.cell? ⟨wr.heap.size, 3, none⟩ = some (.int .i64 cl.d.k) ∧ w'.cell? ⟨wr.heap.size, 4, none⟩ = some (.int .i64 cl.d.n) ∧ w'.cell? ⟨wr.heap.size, 5, none⟩ = some (.string cl.d.s) ∧ w'.cell? ⟨w.heap.size, 1, none⟩ = some (.slice (some ⟨b, off, none⟩) x.cols.length c1)) (by kernel_rfl) ⟨k0, k1, k2, k3, k4, k5, t1⟩ (fun hHeld => ?_)
    refine tk 0 ?_
    refine tk 1 ?_
    refine wpAnyH_ready (rs := [2]) (by kernel_rfl) (by simp) ?_
    refine AllReadyH.cons rfl (fun K hK => ?_) AllReadyH.nil
    go_simp
    refine (specName _ _ HZ.out).mono ?_
    rintro e wa ⟨rfl, rfl⟩
    rw [HN.out]
    go_wp2_with fail
    refine hK.out _ _ hHeld (fun hHeld => ?_)
    clear hK K
    (try simp only [Act.put, pz0, pz1, pz2, pz3, pz4, pz5])
    refine tk 3 ?_
    refine tk 4 ?_
    refine tk 5 ?_
    refine tk 6 ?_
    refine tk 7 ?_
    refine tk 8 ?_
    refine tk 9 ?_
    refine tk 10 ?_
    refine tk 11 ?_
    refine wpAnyH_ready (rs := [12]) (by kernel_rfl) (by simp) ?_
    refine AllReadyH.cons rfl (fun K hK => ?_) AllReadyH.nil
    go_simp
    refine (specColAt _ k c1 _ _ _ _ _ (x.cols.take k) _ ok _ ((hsl.drew ClR.stays).take (m := k) (by omega)) (by omega)).mono ?_
    rintro e wb ⟨rfl, hqb⟩
    rw [HA.out]
    go_wp2_with fail
    refine hK.out _ _ ⟨below_keep hqb _ _ hHeld.1, below_keep hqb _ _ hHeld.2.1, below_keep hqb _ _ hHeld.2.2.1, below_keep hqb _ _ hHeld.2.2.2.1, below_keep hqb _ _ hHeld.2.2.2.2.1, below_keep hqb _ _ hHeld.2.2.2.2.2.1, below_keep hqb _ _ hHeld.2.2.2.2.2.2⟩ (fun hHeld => ?_)
    clear hK K
    (try simp only [Act.put, pz0, pz1, pz2, pz3, pz4, pz5])
    refine tk 13 ?_
    refine tk 14 ?_
    refine tk 15 ?_
    refine tk 16 ?_
    refine tk 17 ?_
    refine wpAnyH_ready (rs := [18]) (by kernel_rfl) (by simp) ?_
    refine AllReadyH.cons rfl (fun K hK => ?_) AllReadyH.nil
    go_simp
    refine (specIn _ _ _ _).mono ?_
    rintro e wc ⟨rfl, rfl⟩
    rw [HKD.out]
    go_wp2_with fail
    refine hK.out _ _ hHeld (fun hHeld => ?_)
    clear hK K
    (try simp only [Act.put, pz0, pz1, pz2, pz3, pz4, pz5])
    refine tk 19 ?_
    refine tk 20 ?_
    refine tk 21 ?_
    refine tk 22 ?_
    refine tk 23 ?_
    refine wpAnyH_ready (rs := [24]) (by kernel_rfl) (by simp) ?_
    refine AllReadyH.cons rfl (fun K hK => ?_) AllReadyH.nil
    go_simp
    refine (specValOk _ _ _ _).mono ?_
    rintro e wd ⟨rfl, hqd⟩
    rw [HV.out]
    go_wp2_with fail
    refine hK.out _ _ ⟨below_keep hqd _ _ hHeld.1, below_keep hqd _ _ hHeld.2.1, below_keep hqd _ _ hHeld.2.2.1, below_keep hqd _ _ hHeld.2.2.2.1, below_keep hqd _ _ hHeld.2.2.2.2.1, below_keep hqd _ _ hHeld.2.2.2.2.2.1, below_keep hqd _ _ hHeld.2.2.2.2.2.2⟩ (fun hHeld => ?_)
    clear hK K
    (try simp only [Act.put, pz0, pz1, pz2, pz3, pz4, pz5])
    refine tk 25 ?_
    refine tk 26 ?_
    refine tk 27 ?_
    refine tu 28 ?_
    refine tu 29 ?_
    refine tu 30 ?_
    refine tu 31 ?_
    refine tu 32 ?_
    refine tu 33 ?_
    refine tu 34 ?_
    refine tu 35 ?_
    refine tu 36 ?_
    refine tu 37 ?_
    refine tu 38 ?_
    refine tu 39 ?_
    refine tk 40 ?_
    refine wpAnyH_done (by kernel_rfl) ?_ _
    refine NoPanic.normal ?_
    have hz0 := hba.drew
    have rz0 := hr1.drew
    have hz1 := hz0.trans (hqb.mono hz0.size)
    have rz1 := rz0.below hqb
    have hz2 := hz1.trans (hqd.mono hz1.size)
    have rz2 := rz1.below hqd
    clear hHeld k0 k1 k2 k3 k4 k5 t0 t1 t2 t3 t4 t5
    go_wp2_with fail
    go_ret
    exact ⟨retB HF.out.symm, hz2⟩
   have HV := Lib.hid hv
   by_cases hd0 : cl.d.k = 0
   ·skip
    have HCA := Lib.hid (HCN.out (by unfold colB fitsB; rw [kind_in, hn, hkd, hv, hd0]; rfl))
    have e0 : (cl.d.k == 0) = true := by simpa using hd0
    have e1 : (cl.d.k != 0) = false := by simpa using hd0
    clear hkd hn hv hd0
    go_wp2_with fail
    generalize wr.alloc (.cells #[.string cl.name, .int .i64 cl.kind, .bool cl.nn, .int .i64 cl.d.k, .int .i64 cl.d.n, .string cl.d.s] 118) = x1 at *
    obtain ⟨⟨k0, k1, k2, k3, k4, k5⟩, -⟩ := rk.all6
    obtain ⟨⟨t0, t1, t2, t3, t4, t5⟩, -⟩ := hr1.all6
    refine wp_region_noPanic ?_
    refine wp_region_held_drew (S := fun w' => w'.cell? ⟨wr.heap.size, 0, none⟩ = some (.string cl.name) ∧ w'.cell? ⟨wr.heap.size, 1, none⟩ = some (.int .i64 cl.kind) ∧ w'.cell? ⟨wr.heap.size, 2, none⟩ = some (.bool cl.nn) ∧ w'.cell? ⟨wr.heap.size, 3, none⟩ = some (.int .i64 cl.d.k) ∧ w'.cell? ⟨wr.heap.size, 4, none⟩ = some (.int .i64 cl.d.n) ∧ w'.cell? ⟨wr.heap.size, 5, none⟩ = some (.string cl.d.s) ∧ w'.cell? ⟨w.heap.size, 1, none⟩ = some (.slice (some ⟨b, off, none⟩) x.cols.length c1)) (by kernel_rfl) ⟨k0, k1, k2, k3, k4, k5, t1⟩ (fun hHeld => ?_)
    refine tk 0 ?_
    refine tk 1 ?_
    refine wpAnyH_ready (rs := [2]) (by kernel_rfl) (by simp) ?_
    refine AllReadyH.cons rfl (fun K hK => ?_) AllReadyH.nil
    go_simp
    refine (specName _ _ HZ.out).mono ?_
    rintro e wa ⟨rfl, rfl⟩
    rw [HN.out]
    go_wp2_with fail
    refine hK.out _ _ hHeld (fun hHeld => ?_)
    clear hK K
    (try simp only [Act.put, pz0, pz1, pz2, pz3, pz4, pz5])
    refine tk 3 ?_
    refine tk 4 ?_
    refine tk 5 ?_
    refine tk 6 ?_
    refine tk 7 ?_
    refine tk 8 ?_
    refine tk 9 ?_
    refine tk 10 ?_
    refine tk 11 ?_
    refine wpAnyH_ready (rs := [12]) (by kernel_rfl) (by simp) ?_
    refine AllReadyH.cons rfl (fun K hK => ?_) AllReadyH.nil
    go_simp
    refine (specColAt _ k c1 _ _ _ _ _ (x.cols.take k) _ ok _ ((hsl.drew ClR.stays).take (m := k) (by omega)) (by omega)).mono ?_
    rintro e wb ⟨rfl, hqb⟩
    rw [HA.out]
    go_wp2_with fail
    refine hK.out _ _ ⟨below_keep hqb _ _ hHeld.1, below_keep hqb _ _ hHeld.2.1, below_keep hqb _ _ hHeld.2.2.1, below_keep hqb _ _ hHeld.2.2.2.1, below_keep hqb _ _ hHeld.2.2.2.2.1, below_keep hqb _ _ hHeld.2.2.2.2.2.1, below_keep hqb _ _ hHeld.2.2.2.2.2.2⟩ (fun hHeld => ?_)
    clear hK K
    (try simp only [Act.put, pz0, pz1, pz2, pz3, pz4, pz5])
    refine tk 13 ?_
    refine tk 14 ?_
    refine tk 15 ?_
    refine tk 16 ?_
    refine tk 17 ?_
    refine wpAnyH_ready (rs := [18]) (by kernel_rfl) (by simp) ?_
    refine AllReadyH.cons rfl (fun K hK => ?_) AllReadyH.nil
    go_simp
    refine (specIn _ _ _ _).mono ?_
    rintro e wc ⟨rfl, rfl⟩
    rw [HKD.out]
    go_wp2_with fail
    refine hK.out _ _ hHeld (fun hHeld => ?_)
    clear hK K
    (try simp only [Act.put, pz0, pz1, pz2, pz3, pz4, pz5])
    refine tk 19 ?_
    refine tk 20 ?_
    refine tk 21 ?_
    refine tk 22 ?_
    refine tk 23 ?_
    refine wpAnyH_ready (rs := [24]) (by kernel_rfl) (by simp) ?_
    refine AllReadyH.cons rfl (fun K hK => ?_) AllReadyH.nil
    go_simp
    refine (specValOk _ _ _ _).mono ?_
    rintro e wd ⟨rfl, hqd⟩
    rw [HV.out]
    go_wp2_with fail
    refine hK.out _ _ ⟨below_keep hqd _ _ hHeld.1, below_keep hqd _ _ hHeld.2.1, below_keep hqd _ _ hHeld.2.2.1, below_keep hqd _ _ hHeld.2.2.2.1, below_keep hqd _ _ hHeld.2.2.2.2.1, below_keep hqd _ _ hHeld.2.2.2.2.2.1, below_keep hqd _ _ hHeld.2.2.2.2.2.2⟩ (fun hHeld => ?_)
    clear hK K
    (try simp only [Act.put, pz0, pz1, pz2, pz3, pz4, pz5])
    refine tk 25 ?_
    refine tk 26 ?_
    refine tk 27 ?_
    refine tk 28 ?_
    refine tk 29 ?_
    refine tk 30 ?_
    refine tk 31 ?_
    refine tk 32 ?_
    refine tu 33 ?_
    refine tu 34 ?_
    refine tu 35 ?_
    refine tu 36 ?_
    refine tu 37 ?_
    refine tu 38 ?_
    refine tk 39 ?_
    refine tk 40 ?_
    refine wpAnyH_done (by kernel_rfl) ?_ _
    refine NoPanic.normal ?_
    have hz0 := hba.drew
    have rz0 := hr1.drew
    have hz1 := hz0.trans (hqb.mono hz0.size)
    have rz1 := rz0.below hqb
    have hz2 := hz1.trans (hqd.mono hz1.size)
    have rz2 := rz1.below hqd
    clear hHeld k0 k1 k2 k3 k4 k5 t0 t1 t2 t3 t4 t5
    go_wp2_with fail
    go_roundw
    case rel => exact ⟨k + 1, by omega, by go_num, HCA, HUQ, rz2, hz2⟩
    case measure => simp [intOf]; omega
   have e0 : (cl.d.k == 0) = false := by simpa using hd0
   have e1 : (cl.d.k != 0) = true := by simpa using hd0
   by_cases hdk : cl.d.k = cl.kind
   ·skip
    have HCA := Lib.hid (HCN.out (by unfold colB fitsB; rw [kind_in, hn, hkd, hv, hdk]; simp))
    have e2 : (cl.d.k == cl.kind) = true := by simpa using hdk
    have e3 : (cl.d.k != cl.kind) = false := by simpa using hdk
    clear hkd hn hv hd0 hdk
    go_wp2_with fail
    generalize wr.alloc (.cells #[.string cl.name, .int .i64 cl.kind, .bool cl.nn, .int .i64 cl.d.k, .int .i64 cl.d.n, .string cl.d.s] 118) = x1 at *
    obtain ⟨⟨k0, k1, k2, k3, k4, k5⟩, -⟩ := rk.all6
    obtain ⟨⟨t0, t1, t2, t3, t4, t5⟩, -⟩ := hr1.all6
    refine wp_region_noPanic ?_
    refine wp_region_held_drew (S := fun w' => w'.cell? ⟨wr.heap.size, 0, none⟩ = some (.string cl.name) ∧ w'.cell? ⟨wr.heap.size, 1, none⟩ = some (.int .i64 cl.kind) ∧ w'.cell? ⟨wr.heap.size, 2, none⟩ = some (.bool cl.nn) ∧ w'.cell? ⟨wr.heap.size, 3, none⟩ = some (.int .i64 cl.d.k) ∧ w'.cell? ⟨wr.heap.size, 4, none⟩ = some (.int .i64 cl.d.n) ∧ w'.cell? ⟨wr.heap.size, 5, none⟩ = some (.string cl.d.s) ∧ w'.cell? ⟨w.heap.size, 1, none⟩ = some (.slice (some ⟨b, off, none⟩) x.cols.length c1)) (by kernel_rfl) ⟨k0, k1, k2, k3, k4, k5, t1⟩ (fun hHeld => ?_)
    refine tk 0 ?_
    refine tk 1 ?_
    refine wpAnyH_ready (rs := [2]) (by kernel_rfl) (by simp) ?_
    refine AllReadyH.cons rfl (fun K hK => ?_) AllReadyH.nil
    go_simp
    refine (specName _ _ HZ.out).mono ?_
    rintro e wa ⟨rfl, rfl⟩
    rw [HN.out]
    go_wp2_with fail
    refine hK.out _ _ hHeld (fun hHeld => ?_)
    clear hK K
    (try simp only [Act.put, pz0, pz1, pz2, pz3, pz4, pz5])
    refine tk 3 ?_
    refine tk 4 ?_
    refine tk 5 ?_
    refine tk 6 ?_
    refine tk 7 ?_
    refine tk 8 ?_
    refine tk 9 ?_
    refine tk 10 ?_
    refine tk 11 ?_
    refine wpAnyH_ready (rs := [12]) (by kernel_rfl) (by simp) ?_
    refine AllReadyH.cons rfl (fun K hK => ?_) AllReadyH.nil
    go_simp
    refine (specColAt _ k c1 _ _ _ _ _ (x.cols.take k) _ ok _ ((hsl.drew ClR.stays).take (m := k) (by omega)) (by omega)).mono ?_
    rintro e wb ⟨rfl, hqb⟩
    rw [HA.out]
    go_wp2_with fail
    refine hK.out _ _ ⟨below_keep hqb _ _ hHeld.1, below_keep hqb _ _ hHeld.2.1, below_keep hqb _ _ hHeld.2.2.1, below_keep hqb _ _ hHeld.2.2.2.1, below_keep hqb _ _ hHeld.2.2.2.2.1, below_keep hqb _ _ hHeld.2.2.2.2.2.1, below_keep hqb _ _ hHeld.2.2.2.2.2.2⟩ (fun hHeld => ?_)
    clear hK K
    (try simp only [Act.put, pz0, pz1, pz2, pz3, pz4, pz5])
    refine tk 13 ?_
    refine tk 14 ?_
    refine tk 15 ?_
    refine tk 16 ?_
    refine tk 17 ?_
    refine wpAnyH_ready (rs := [18]) (by kernel_rfl) (by simp) ?_
    refine AllReadyH.cons rfl (fun K hK => ?_) AllReadyH.nil
    go_simp
    refine (specIn _ _ _ _).mono ?_
    rintro e wc ⟨rfl, rfl⟩
    rw [HKD.out]
    go_wp2_with fail
    refine hK.out _ _ hHeld (fun hHeld => ?_)
    clear hK K
    (try simp only [Act.put, pz0, pz1, pz2, pz3, pz4, pz5])
    refine tk 19 ?_
    refine tk 20 ?_
    refine tk 21 ?_
    refine tk 22 ?_
    refine tk 23 ?_
    refine wpAnyH_ready (rs := [24]) (by kernel_rfl) (by simp) ?_
    refine AllReadyH.cons rfl (fun K hK => ?_) AllReadyH.nil
    go_simp
    refine (specValOk _ _ _ _).mono ?_
    rintro e wd ⟨rfl, hqd⟩
    rw [HV.out]
    go_wp2_with fail
    refine hK.out _ _ ⟨below_keep hqd _ _ hHeld.1, below_keep hqd _ _ hHeld.2.1, below_keep hqd _ _ hHeld.2.2.1, below_keep hqd _ _ hHeld.2.2.2.1, below_keep hqd _ _ hHeld.2.2.2.2.1, below_keep hqd _ _ hHeld.2.2.2.2.2.1, below_keep hqd _ _ hHeld.2.2.2.2.2.2⟩ (fun hHeld => ?_)
    clear hK K
    (try simp only [Act.put, pz0, pz1, pz2, pz3, pz4, pz5])
    refine tk 25 ?_
    refine tk 26 ?_
    refine tk 27 ?_
    refine tk 28 ?_
    refine tk 29 ?_
    refine tk 30 ?_
    refine tk 31 ?_
    refine tk 32 ?_
    refine tk 33 ?_
    refine tk 34 ?_
    refine tk 35 ?_
    refine tk 36 ?_
    refine tk 37 ?_
    refine tk 38 ?_
    refine tk 39 ?_
    refine tk 40 ?_
    refine wpAnyH_done (by kernel_rfl) ?_ _
    refine NoPanic.normal ?_
    have hz0 := hba.drew
    have rz0 := hr1.drew
    have hz1 := hz0.trans (hqb.mono hz0.size)
    have rz1 := rz0.below hqb
    have hz2 := hz1.trans (hqd.mono hz1.size)
    have rz2 := rz1.below hqd
    clear hHeld k0 k1 k2 k3 k4 k5 t0 t1 t2 t3 t4 t5
    go_wp2_with fail
    go_roundw
    case rel => exact ⟨k + 1, by omega, by go_num, HCA, HUQ, rz2, hz2⟩
    case measure => simp [intOf]; omega
   ·skip
    have HF := Lib.hid (HNO.out (by unfold colB fitsB; rw [e0, show (cl.d.k == cl.kind) = false by simpa using hdk]; simp))
    have e2 : (cl.d.k == cl.kind) = false := by simpa using hdk
    have e3 : (cl.d.k != cl.kind) = true := by simpa using hdk
    clear hkd hn hv hd0 hdk
    go_wp2_with fail
    generalize wr.alloc (.cells #[.string cl.name, .int .i64 cl.kind, .bool cl.nn, .int .i64 cl.d.k, .int .i64 cl.d.n, .string cl.d.s] 118) = x1 at *
    obtain ⟨⟨k0, k1, k2, k3, k4, k5⟩, -⟩ := rk.all6
    obtain ⟨⟨t0, t1, t2, t3, t4, t5⟩, -⟩ := hr1.all6
    refine wp_region_noPanic ?_
    refine wp_region_held_drew (S := fun w' => w'.cell? ⟨wr.heap.size, 0, none⟩ = some (.string cl.name) ∧ w'.cell? ⟨wr.heap.size, 1, none⟩ = some (.int .i64 cl.kind) ∧ w'.cell? ⟨wr.heap.size, 2, none⟩ = some (.bool cl.nn) ∧ w'.cell? ⟨wr.heap.size, 3, none⟩ = some (.int .i64 cl.d.k) ∧ w'.cell? ⟨wr.heap.size, 4, none⟩ = some (.int .i64 cl.d.n) ∧ w'.cell? ⟨wr.heap.size, 5, none⟩ = some (.string cl.d.s) ∧ w'.cell? ⟨w.heap.size, 1, none⟩ = some (.slice (some ⟨b, off, none⟩) x.cols.length c1)) (by kernel_rfl) ⟨k0, k1, k2, k3, k4, k5, t1⟩ (fun hHeld => ?_)
    refine tk 0 ?_
    refine tk 1 ?_
    refine wpAnyH_ready (rs := [2]) (by kernel_rfl) (by simp) ?_
    refine AllReadyH.cons rfl (fun K hK => ?_) AllReadyH.nil
    go_simp
    refine (specName _ _ HZ.out).mono ?_
    rintro e wa ⟨rfl, rfl⟩
    rw [HN.out]
    go_wp2_with fail
    refine hK.out _ _ hHeld (fun hHeld => ?_)
    clear hK K
    (try simp only [Act.put, pz0, pz1, pz2, pz3, pz4, pz5])
    refine tk 3 ?_
    refine tk 4 ?_
    refine tk 5 ?_
    refine tk 6 ?_
    refine tk 7 ?_
    refine tk 8 ?_
    refine tk 9 ?_
    refine tk 10 ?_
    refine tk 11 ?_
    refine wpAnyH_ready (rs := [12]) (by kernel_rfl) (by simp) ?_
    refine AllReadyH.cons rfl (fun K hK => ?_) AllReadyH.nil
    go_simp
    refine (specColAt _ k c1 _ _ _ _ _ (x.cols.take k) _ ok _ ((hsl.drew ClR.stays).take (m := k) (by omega)) (by omega)).mono ?_
    rintro e wb ⟨rfl, hqb⟩
    rw [HA.out]
    go_wp2_with fail
    refine hK.out _ _ ⟨below_keep hqb _ _ hHeld.1, below_keep hqb _ _ hHeld.2.1, below_keep hqb _ _ hHeld.2.2.1, below_keep hqb _ _ hHeld.2.2.2.1, below_keep hqb _ _ hHeld.2.2.2.2.1, below_keep hqb _ _ hHeld.2.2.2.2.2.1, below_keep hqb _ _ hHeld.2.2.2.2.2.2⟩ (fun hHeld => ?_)
    clear hK K
    (try simp only [Act.put, pz0, pz1, pz2, pz3, pz4, pz5])
    refine tk 13 ?_
    refine tk 14 ?_
    refine tk 15 ?_
    refine tk 16 ?_
    refine tk 17 ?_
    refine wpAnyH_ready (rs := [18]) (by kernel_rfl) (by simp) ?_
    refine AllReadyH.cons rfl (fun K hK => ?_) AllReadyH.nil
    go_simp
    refine (specIn _ _ _ _).mono ?_
    rintro e wc ⟨rfl, rfl⟩
    rw [HKD.out]
    go_wp2_with fail
    refine hK.out _ _ hHeld (fun hHeld => ?_)
    clear hK K
    (try simp only [Act.put, pz0, pz1, pz2, pz3, pz4, pz5])
    refine tk 19 ?_
    refine tk 20 ?_
    refine tk 21 ?_
    refine tk 22 ?_
    refine tk 23 ?_
    refine wpAnyH_ready (rs := [24]) (by kernel_rfl) (by simp) ?_
    refine AllReadyH.cons rfl (fun K hK => ?_) AllReadyH.nil
    go_simp
    refine (specValOk _ _ _ _).mono ?_
    rintro e wd ⟨rfl, hqd⟩
    rw [HV.out]
    go_wp2_with fail
    refine hK.out _ _ ⟨below_keep hqd _ _ hHeld.1, below_keep hqd _ _ hHeld.2.1, below_keep hqd _ _ hHeld.2.2.1, below_keep hqd _ _ hHeld.2.2.2.1, below_keep hqd _ _ hHeld.2.2.2.2.1, below_keep hqd _ _ hHeld.2.2.2.2.2.1, below_keep hqd _ _ hHeld.2.2.2.2.2.2⟩ (fun hHeld => ?_)
    clear hK K
    (try simp only [Act.put, pz0, pz1, pz2, pz3, pz4, pz5])
    refine tk 25 ?_
    refine tk 26 ?_
    refine tk 27 ?_
    refine tk 28 ?_
    refine tk 29 ?_
    refine tk 30 ?_
    refine tk 31 ?_
    refine tk 32 ?_
    refine tk 33 ?_
    refine tk 34 ?_
    refine tk 35 ?_
    refine tk 36 ?_
    refine tk 37 ?_
    refine tk 38 ?_
    refine tk 39 ?_
    refine tk 40 ?_
    refine wpAnyH_done (by kernel_rfl) ?_ _
    refine NoPanic.normal ?_
    have hz0 := hba.drew
    have rz0 := hr1.drew
    have hz1 := hz0.trans (hqb.mono hz0.size)
    have rz1 := rz0.below hqb
    have hz2 := hz1.trans (hqd.mono hz1.size)
    have rz2 := rz1.below hqd
    clear hHeld k0 k1 k2 k3 k4 k5 t0 t1 t2 t3 t4 t5
    go_wp2_with fail
    go_ret
    exact ⟨retB HF.out.symm, hz2⟩
  ·have e : x.cols.take k = x.cols := List.take_of_length_le (by omega)
   have e2 : (x.cols.map Cl.name).drop k = [] := List.drop_eq_nil_of_le (by simp; omega)
   have g1 := hall.out
   have g2 := huq.out
   rw [e] at g1
   rw [e2] at g2
   have HC := Lib.hid (show colsB x.cols = true by
    unfold colsB; rw [g1, g2]
    have := H8.out
    simp at this
    simp [uniqGo]; omega)
   clear e e2 g1 g2 hall huq a0 a1 a2 a3 a4 a5
   obtain ⟨⟨a0, a1, a2, a3, a4, a5⟩, -⟩ := hr.all6
   go_wp2_with fail
   clear a0 a1 a2 a3 a4 a5
   go_loopw [6] (fun i wr => ∃ k : Nat, k ≤ x.key.length ∧ i = .int .i64 k ∧ Hid ((x.key.take k).all (nnAt x.cols) = true) ∧ Row wr w.heap.size 82 #[.string x.name, .slice A1 x.cols.length c1, .slice A2 x.key.length c2, .slice A3 x.uniqs.length c3, .slice A4 x.checks.length c4, .slice A5 x.fks.length c5] ∧ Below w.heap.size w wr) (fun i _ => x.key.length - (intOf i).toNat)
   case atStart => exact ⟨0, by omega, rfl, Lib.hid (by simp), hr, hb⟩
   case round =>
    clear hr hb hlt
    obtain ⟨k, hk, rfl, hall, hr, hb⟩ := hrel
    obtain ⟨⟨a0, a1, a2, a3, a4, a5⟩, -⟩ := hr.all6
    by_cases hlt : k < x.key.length
    ·obtain ⟨bk, offk, -, ek, q0⟩ := IntR.at_ (h2.below IntR.stays hb) hlt
     rw [ek] at a2
     have hin := HIN.out _ (List.getElem_mem hlt)
     have hsn := all_take (nnAt x.cols) x.key k hlt
     rw [hall.out, Bool.true_and] at hsn
     have hno := fun hf => all_no (nnAt x.cols) x.key k hlt hf
     obtain ⟨j, hj⟩ : ∃ j : Nat, x.key[k] = (j : Int) := ⟨x.key[k].toNat, by omega⟩
     rw [hj] at q0 hsn hno hin
     have hjl : j < x.cols.length := by omega
     obtain ⟨bc, offc, -, ec, p0, p1, p2, p3, p4, p5⟩ := ClR.at_ (h1.below ClR.stays hb) hjl
     rw [ec] at a1
     have hnn : nnAt x.cols j = x.cols[j].nn := by unfold nnAt; simp [List.getElem?_eq_getElem hjl]
     have i0 : (0 : Int) ≤ j := by omega
     have i1 : (j : Int) < x.cols.length := by omega
     have i2 : (0 : Int) ≤ k := by omega
     have i3 : (k : Int) < x.key.length := by omega
     cases hnb : x.cols[j].nn
     ·rw [hnb] at p2
      have HF := Lib.hid (show tableB x = false by unfold tableB keyB; rw [hno (hnn.trans hnb)]; simp)
      clear hsn hno hnn hnb hj hall ek ec
      go_wp2_with fail
      go_quiet (fail)
      go_wp2_with fail
      go_ret
      exact ⟨retB HF.out.symm, below_drewN hb _⟩
     ·rw [hnb] at p2
      have HA := Lib.hid (hsn.trans (hnn.trans hnb))
      clear hsn hno hnn hnb hj hall ek ec
      go_wp2_with fail
      go_quiet (fail)
      go_wp2_with fail
      go_roundw
      case rel => exact ⟨k + 1, by omega, by go_num, HA, hr.drewN _, below_drewN hb _⟩
      case measure => simp [intOf]; omega
    ·have e : x.key.take k = x.key := List.take_of_length_le (by omega)
     have g1 := hall.out
     rw [e] at g1
     have HKB := Lib.hid (show keyB x.cols x.key = true by unfold keyB; rw [g1, HK.out]; rfl)
     clear e g1 hall
     go_wp2_with fail
     clear a0 a1 a2 a3 a4 a5
     go_loopw [7] (fun i wr => ∃ k : Nat, k ≤ x.uniqs.length ∧ i = .int .i64 k ∧ Hid ((x.uniqs.take k).all (fun u : Uq => colsInB u.cols x.cols.length) = true) ∧ Row wr w.heap.size 82 #[.string x.name, .slice A1 x.cols.length c1, .slice A2 x.key.length c2, .slice A3 x.uniqs.length c3, .slice A4 x.checks.length c4, .slice A5 x.fks.length c5] ∧ Below w.heap.size w wr) (fun i _ => x.uniqs.length - (intOf i).toNat)
     case atStart => exact ⟨0, by omega, rfl, Lib.hid (by simp), hr, hb⟩
     case round =>
      clear hr hb hlt
      obtain ⟨k, hk, rfl, hall, hr, hb⟩ := hrel
      obtain ⟨⟨a0, a1, a2, a3, a4, a5⟩, -⟩ := hr.all6
      by_cases hlt : k < x.uniqs.length
      ·obtain ⟨b, off, A9, n9, c9, -, ea, q0, s0, hcp9⟩ := UqR.at_ (h3.below UqR.stays hb) hlt
       rw [ea] at a3
       obtain rfl : x.uniqs[k].cols.length = n9 := s0.1
       have hsn := all_take (fun u : Uq => colsInB u.cols x.cols.length) x.uniqs k hlt
       rw [hall.out, Bool.true_and] at hsn
       have hno := fun hf => all_no (fun u : Uq => colsInB u.cols x.cols.length) x.uniqs k hlt hf
       have hk9 : x.uniqs[k].cols.length ≤ 1048576 := by have := HS3.out; have := sum_mem_le Uq.sz x.uniqs k hlt; unfold szL at *; simp only [Uq.sz] at *; (try unfold szL at *); omega
       have i2 : (0 : Int) ≤ k := by omega
       have i3 : (k : Int) < x.uniqs.length := by omega
       cases hc : colsInB x.uniqs[k].cols x.cols.length
       ·have HC9 := Lib.hid hc
        have HF := Lib.hid (show tableB x = false by unfold tableB uqsB; rw [hno hc]; simp)
        clear hsn hno hc hall ea
        go_wp2_with fail
        refine (specCols A9 x.uniqs[k].cols.length c9 x.uniqs[k].cols x.cols.length ok _ s0 hcp9 hk9 (by omega) (by omega)).mono ?_
        rintro e w1 ⟨rfl, hq⟩
        rw [HC9.out]
        go_wp2_with fail
        go_ret
        exact ⟨retB HF.out.symm, hb.trans (hq.mono hb.size)⟩
       ·have HC9 := Lib.hid hc
        have HA := Lib.hid (hsn.trans hc)
        clear hsn hno hc hall ea
        go_wp2_with fail
        refine (specCols A9 x.uniqs[k].cols.length c9 x.uniqs[k].cols x.cols.length ok _ s0 hcp9 hk9 (by omega) (by omega)).mono ?_
        rintro e w1 ⟨rfl, hq⟩
        rw [HC9.out]
        go_wp2_with fail
        go_roundw
        case rel => exact ⟨k + 1, by omega, by go_num, HA, hr.below hq, hb.trans (hq.mono hb.size)⟩
        case measure => simp [intOf]; omega
      ·have e : x.uniqs.take k = x.uniqs := List.take_of_length_le (by omega)
       have g1 := hall.out
       rw [e] at g1
       have HUB := Lib.hid (show uqsB x.cols x.uniqs = true by unfold uqsB; rw [g1, decide_eq_true (by omega)]; rfl)
       clear e g1 hall
       go_wp2_with fail
       clear a0 a1 a2 a3 a4 a5
       go_loopw [8] (fun i wr => ∃ k : Nat, k ≤ x.checks.length ∧ i = .int .i64 k ∧ Hid ((x.checks.take k).all (fun u : Ck => exprB u.expr x.cols.length) = true) ∧ Row wr w.heap.size 82 #[.string x.name, .slice A1 x.cols.length c1, .slice A2 x.key.length c2, .slice A3 x.uniqs.length c3, .slice A4 x.checks.length c4, .slice A5 x.fks.length c5] ∧ Below w.heap.size w wr) (fun i _ => x.checks.length - (intOf i).toNat)
       case atStart => exact ⟨0, by omega, rfl, Lib.hid (by simp), hr, hb⟩
       case round =>
        clear hr hb hlt
        obtain ⟨k, hk, rfl, hall, hr, hb⟩ := hrel
        obtain ⟨⟨a0, a1, a2, a3, a4, a5⟩, -⟩ := hr.all6
        by_cases hlt : k < x.checks.length
        ·obtain ⟨b, off, A9, n9, c9, -, ea, q0, s0, hcp9⟩ := CkR.at_ (h4.below CkR.stays hb) hlt
         rw [ea] at a4
         obtain rfl : x.checks[k].expr.length = n9 := s0.1
         have hsn := all_take (fun u : Ck => exprB u.expr x.cols.length) x.checks k hlt
         rw [hall.out, Bool.true_and] at hsn
         have hno := fun hf => all_no (fun u : Ck => exprB u.expr x.cols.length) x.checks k hlt hf
         have hk9 : x.checks[k].expr.length ≤ 1048576 := by have := HS4.out; have := sum_mem_le Ck.sz x.checks k hlt; unfold szL at *; simp only [Ck.sz] at *; (try unfold szL at *); omega
         have i2 : (0 : Int) ≤ k := by omega
         have i3 : (k : Int) < x.checks.length := by omega
         cases hc : l2B x.checks[k].expr x.cols.length
         ·have HC9 := Lib.hid hc
          have HF := Lib.hid (show tableB x = false by unfold tableB cksB; rw [hno ((exprB_l2n (by omega)).trans hc)]; simp)
          clear hsn hno hc hall ea
          go_wp2_with fail
          refine (specL2Expr A9 x.checks[k].expr.length c9 x.checks[k].expr x.cols.length _ (Sl.cellz (fun _ => rfl) s0) (by unfold maxLen; omega) (by omega) (by omega)).mono ?_
          rintro e w1 ⟨rfl, hq⟩
          rw [HC9.out]
          go_wp2_with fail
          go_ret
          exact ⟨retB HF.out.symm, hb.trans (hq.mono hb.size)⟩
         ·have HC9 := Lib.hid hc
          have HA := Lib.hid (hsn.trans ((exprB_l2n (by omega)).trans hc))
          clear hsn hno hc hall ea
          go_wp2_with fail
          refine (specL2Expr A9 x.checks[k].expr.length c9 x.checks[k].expr x.cols.length _ (Sl.cellz (fun _ => rfl) s0) (by unfold maxLen; omega) (by omega) (by omega)).mono ?_
          rintro e w1 ⟨rfl, hq⟩
          rw [HC9.out]
          go_wp2_with fail
          go_roundw
          case rel => exact ⟨k + 1, by omega, by go_num, HA, hr.below hq, hb.trans (hq.mono hb.size)⟩
          case measure => simp [intOf]; omega
        ·have e : x.checks.take k = x.checks := List.take_of_length_le (by omega)
         have g1 := hall.out
         rw [e] at g1
         have HEB := Lib.hid (show cksB x.cols x.checks = true by unfold cksB; rw [g1, decide_eq_true (by omega)]; rfl)
         clear e g1 hall
         go_wp2_with fail
         clear a0 a1 a2 a3 a4 a5
         go_loopw [9] (fun i wr => ∃ k : Nat, k ≤ x.fks.length ∧ i = .int .i64 k ∧ Hid ((x.fks.take k).all (fkB x.cols.length) = true) ∧ Row wr w.heap.size 82 #[.string x.name, .slice A1 x.cols.length c1, .slice A2 x.key.length c2, .slice A3 x.uniqs.length c3, .slice A4 x.checks.length c4, .slice A5 x.fks.length c5] ∧ Below w.heap.size w wr) (fun i _ => x.fks.length - (intOf i).toNat)
         case atStart => exact ⟨0, by omega, rfl, Lib.hid (by simp), hr, hb⟩
         case round =>
          clear hr hb hlt
          obtain ⟨k, hk, rfl, hall, hr, hb⟩ := hrel
          obtain ⟨⟨a0, a1, a2, a3, a4, a5⟩, -⟩ := hr.all6
          by_cases hlt : k < x.fks.length
          ·obtain ⟨b, off, A9, n9, c9, -, ea, q0, q1, q2, q3, q4, s0, hcp9⟩ := FkR.at_ (h5.below FkR.stays hb) hlt
           rw [ea] at a5
           obtain rfl : x.fks[k].cols.length = n9 := s0.1
           have hsn := all_take (fkB x.cols.length) x.fks k hlt
           rw [hall.out, Bool.true_and] at hsn
           have hno := fun hf => all_no (fkB x.cols.length) x.fks k hlt hf
           obtain ⟨hk9, hk8⟩ : x.fks[k].cols.length ≤ 1048576 ∧ x.fks[k].table.size ≤ 1048576 := by have := HS5.out; have := sum_mem_le Fk.sz x.fks k hlt; unfold szL at *; simp only [Fk.sz] at *; omega
           have HK9 := Lib.hid hk9
           have HK8 := Lib.hid (show x.fks[k].table.size ≤ maxLen by unfold maxLen; omega)
           have i2 : (0 : Int) ≤ k := by omega
           have i3 : (k : Int) < x.fks.length := by omega
           have hbx := (Below.refl wr.heap.size wr).alloc (Nat.le_refl _) (.cells #[.slice A9 x.fks[k].cols.length c9, .string x.fks[k].table, .int .i64 x.fks[k].del, .int .i64 x.fks[k].upd, .bool x.fks[k].dfr] 128)
           have hba := hb.trans (hbx.mono hb.size)
           have s1 := s0.below IntR.stays hbx
           have hr1 := hr.below hbx
           have rf := Row.new wr 128 #[.slice A9 x.fks[k].cols.length c9, .string x.fks[k].table, .int .i64 x.fks[k].del, .int .i64 x.fks[k].upd, .bool x.fks[k].dfr]
           have HNO := Lib.hid (fun hf => show tableB x = false by unfold tableB fksB; rw [hno hf]; simp)
           have HSN := Lib.hid hsn
           clear hsn hno hall ea hk9 hk8
           cases hc9 : colsInB x.fks[k].cols x.cols.length
           ·have HC9 := Lib.hid hc9
            have HF := Lib.hid (HNO.out (by unfold fkB; rw [act_in, act_in, hc9]; simp))
            clear hc9
            go_wp2_with fail
            refine (specCols A9 x.fks[k].cols.length c9 x.fks[k].cols x.cols.length ok _ s1 hcp9 HK9.out (by omega) (by omega)).mono ?_
            rintro e w1 ⟨rfl, hq⟩
            obtain ⟨⟨f0, f1, f2, f3, f4⟩, -⟩ := (rf.below hq).five
            rw [HC9.out]
            go_wp2_with fail
            go_ret
            exact ⟨retB HF.out.symm, hba.trans (hq.mono hba.size)⟩
           have HC9 := Lib.hid hc9
           clear hc9
           cases hn9 : nameB x.fks[k].table
           ·have HN9 := Lib.hid hn9
            have HF := Lib.hid (HNO.out (by unfold fkB; rw [act_in, act_in, HC9.out, hn9]; simp))
            clear hn9
            go_wp2_with fail
            refine (specCols A9 x.fks[k].cols.length c9 x.fks[k].cols x.cols.length ok _ s1 hcp9 HK9.out (by omega) (by omega)).mono ?_
            rintro e w1 ⟨rfl, hq⟩
            obtain ⟨⟨f0, f1, f2, f3, f4⟩, -⟩ := (rf.below hq).five
            rw [HC9.out]
            go_wp2_with fail
            refine (specName _ _ HK8.out).mono ?_
            rintro e w2 ⟨rfl, rfl⟩
            rw [HN9.out]
            go_wp2_with fail
            go_ret
            exact ⟨retB HF.out.symm, hba.trans (hq.mono hba.size)⟩
           have HN9 := Lib.hid hn9
           clear hn9
           cases hd9 : (decide (0 ≤ x.fks[k].del) && decide (x.fks[k].del ≤ 2))
           ·have HD9 := Lib.hid hd9
            have HF := Lib.hid (HNO.out (by unfold fkB; rw [act_in, act_in, HC9.out, HN9.out, hd9]; simp))
            clear hd9
            go_wp2_with fail
            refine (specCols A9 x.fks[k].cols.length c9 x.fks[k].cols x.cols.length ok _ s1 hcp9 HK9.out (by omega) (by omega)).mono ?_
            rintro e w1 ⟨rfl, hq⟩
            obtain ⟨⟨f0, f1, f2, f3, f4⟩, -⟩ := (rf.below hq).five
            rw [HC9.out]
            go_wp2_with fail
            refine (specName _ _ HK8.out).mono ?_
            rintro e w2 ⟨rfl, rfl⟩
            rw [HN9.out]
            go_wp2_with fail
            refine (specIn _ _ _ _).mono ?_
            rintro e w2 ⟨rfl, rfl⟩
            rw [HD9.out]
            go_wp2_with fail
            go_ret
            exact ⟨retB HF.out.symm, hba.trans (hq.mono hba.size)⟩
           have HD9 := Lib.hid hd9
           clear hd9
           cases hu9 : (decide (0 ≤ x.fks[k].upd) && decide (x.fks[k].upd ≤ 2))
           ·have HU9 := Lib.hid hu9
            have HF := Lib.hid (HNO.out (by unfold fkB; rw [act_in, act_in, HC9.out, HN9.out, HD9.out, hu9]; simp))
            clear hu9
            go_wp2_with fail
            refine (specCols A9 x.fks[k].cols.length c9 x.fks[k].cols x.cols.length ok _ s1 hcp9 HK9.out (by omega) (by omega)).mono ?_
            rintro e w1 ⟨rfl, hq⟩
            obtain ⟨⟨f0, f1, f2, f3, f4⟩, -⟩ := (rf.below hq).five
            rw [HC9.out]
            go_wp2_with fail
            refine (specName _ _ HK8.out).mono ?_
            rintro e w2 ⟨rfl, rfl⟩
            rw [HN9.out]
            go_wp2_with fail
            refine (specIn _ _ _ _).mono ?_
            rintro e w2 ⟨rfl, rfl⟩
            rw [HD9.out]
            go_wp2_with fail
            refine (specIn _ _ _ _).mono ?_
            rintro e w2 ⟨rfl, rfl⟩
            rw [HU9.out]
            go_wp2_with fail
            go_ret
            exact ⟨retB HF.out.symm, hba.trans (hq.mono hba.size)⟩
           have HU9 := Lib.hid hu9
           clear hu9
           have HA := Lib.hid (HSN.out.trans (show fkB x.cols.length x.fks[k] = true by unfold fkB; rw [act_in, act_in, HC9.out, HN9.out, HD9.out, HU9.out]; rfl))
           go_wp2_with fail
           refine (specCols A9 x.fks[k].cols.length c9 x.fks[k].cols x.cols.length ok _ s1 hcp9 HK9.out (by omega) (by omega)).mono ?_
           rintro e w1 ⟨rfl, hq⟩
           obtain ⟨⟨f0, f1, f2, f3, f4⟩, -⟩ := (rf.below hq).five
           rw [HC9.out]
           go_wp2_with fail
           refine (specName _ _ HK8.out).mono ?_
           rintro e w2 ⟨rfl, rfl⟩
           rw [HN9.out]
           go_wp2_with fail
           refine (specIn _ _ _ _).mono ?_
           rintro e w2 ⟨rfl, rfl⟩
           rw [HD9.out]
           go_wp2_with fail
           refine (specIn _ _ _ _).mono ?_
           rintro e w2 ⟨rfl, rfl⟩
           rw [HU9.out]
           go_wp2_with fail
           go_roundw
           case rel => exact ⟨k + 1, by omega, by go_num, HA, hr1.below hq, hba.trans (hq.mono hba.size)⟩
           case measure => simp [intOf]; omega
          ·have e : x.fks.take k = x.fks := List.take_of_length_le (by omega)
           have g1 := hall.out
           rw [e] at g1
           have HFB := Lib.hid (show fksB x.cols x.fks = true by unfold fksB; rw [g1, decide_eq_true (by omega)]; rfl)
           clear e g1 hall
           go_wp2_with fail
           go_ret
           exact ⟨retB (by unfold tableB; rw [HN0.out, HC.out, HKB.out, HUB.out, HEB.out, HFB.out]; rfl), hb⟩
set_option maxRecDepth 100000 in
set_option maxHeartbeats 4000000 in
theorem specSchemaOk (AS : Option Addr) (nS cS : Nat) (s : List Tb) (ok : Nat → Prop) (w : World) (hs : Sl TbR 6 ok w AS nS s) (hcp : nS ≤ cS) (hsz : szL Tb.sz s ≤ 1048576) :
  Calls Tryz.prog 116 #[.slice AS nS cS] w fun e w' => e = .returned (.bool (schemaB s)) ∧ Below w.heap.size w w' := by
 obtain rfl : s.length = nS := hs.1
 have hn : s.length ≤ 1048576 := by unfold szL at hsz; omega
 have HSZ := Lib.hid hsz
 have HT := Lib.hid (fun k (hlt : k < s.length) => show s[k].sz ≤ 1048576 by have := HSZ.out; have := sum_mem_le Tb.sz s k hlt; unfold szL at *; omega)
 clear hsz
 go_enter Tryz.func116, Tryz.ntmps116
 go_wp2_with fail
 go_loopw [3] (fun i wr => ∃ k : Nat, k ≤ s.length ∧ i = .int .i64 k ∧ Hid ((s.take k).all tableB = true) ∧ Hid (uniqGo [] (s.map Tb.name) = uniqGo ((s.map Tb.name).take k) ((s.map Tb.name).drop k)) ∧ Below w.heap.size w wr) (fun i _ => s.length - (intOf i).toNat)
 case atStart => exact ⟨0, by omega, rfl, Lib.hid (by simp), Lib.hid (by simp), Below.refl _ _⟩
 case round =>
  obtain ⟨k, hk, rfl, hall, huq, hb⟩ := hrel
  by_cases hlt : k < s.length
  ·have hsw := hs.below TbR.stays hb
   obtain ⟨b, off, A1, n1, c1, A2, n2, c2, A3, n3, c3, A4, n4, c4, A5, n5, c5, -, ea, q0, q1, q2, q3, q4, q5, s1, s2, s3, s4, s5, hcps⟩ := TbR.at_ hsw hlt
   subst ea
   have HCP := Lib.hid hcps
   clear hcps
   have hsn := all_take tableB s k hlt
   rw [hall.out, Bool.true_and] at hsn
   have hno := fun hf => all_no tableB s k hlt hf
   have hug := uniqGo_at (s.map Tb.name) k (by simpa using hlt)
   rw [← huq.out, List.getElem_map, ← List.map_take] at hug
   have HX := Lib.hid (HT.out k hlt)
   have i0 : (0 : Int) ≤ k := by omega
   have i1 : (k : Int) < s.length := by omega
   have i3 : (k : Int) ≤ cS := by omega
   cases hc : tableB s[k]
   ·skip
    have HTB := Lib.hid hc
    have HF := Lib.hid (show schemaB s = false by unfold schemaB; rw [hno hc]; simp)
    clear hc hno hsn hug hall huq
    go_wp2_with fail
    refine wp_region_noPanic ?_
    refine wp_region_held_drew (S := fun w' => w'.cell? ⟨b, off + k * 6, none⟩ = some (.string s[k].name) ∧ w'.cell? ⟨b, off + k * 6 + 1, none⟩ = some (.slice A1 n1 c1) ∧ w'.cell? ⟨b, off + k * 6 + 2, none⟩ = some (.slice A2 n2 c2) ∧ w'.cell? ⟨b, off + k * 6 + 3, none⟩ = some (.slice A3 n3 c3) ∧ w'.cell? ⟨b, off + k * 6 + 4, none⟩ = some (.slice A4 n4 c4) ∧ w'.cell? ⟨b, off + k * 6 + 5, none⟩ = some (.slice A5 n5 c5)) (by kernel_rfl) ⟨q0, q1, q2, q3, q4, q5⟩ (fun hHeld => ?_)
    refine tk 0 ?_
    refine tk 1 ?_
    refine tk 2 ?_
    refine tk 3 ?_
    refine wpAnyH_ready (rs := [4]) (by kernel_rfl) (by simp) ?_
    refine AllReadyH.cons rfl (fun K hK => ?_) AllReadyH.nil
    go_simp
    refine (specTableOk s[k] A1 n1 c1 A2 n2 c2 A3 n3 c3 A4 n4 c4 A5 n5 c5 ok _ (s1.drew ClR.stays) (s2.drew IntR.stays) (s3.drew UqR.stays) (s4.drew CkR.stays) (s5.drew FkR.stays) HCP.out HX.out).mono ?_
    rintro e wc ⟨rfl, hqc⟩
    rw [HTB.out]
    go_wp2_with fail
    refine hK.out _ _ ⟨below_keep hqc _ _ hHeld.1, below_keep hqc _ _ hHeld.2.1, below_keep hqc _ _ hHeld.2.2.1, below_keep hqc _ _ hHeld.2.2.2.1, below_keep hqc _ _ hHeld.2.2.2.2.1, below_keep hqc _ _ hHeld.2.2.2.2.2⟩ (fun hHeld => ?_)
    clear hK K
    (try simp only [Act.put, pz0, pz1, pz2, pz3, pz4, pz5])
    refine tk 5 ?_
    refine tk 6 ?_
    refine tu 7 ?_
    refine tu 8 ?_
    refine tu 9 ?_
    refine tu 10 ?_
    refine tu 11 ?_
    refine tu 12 ?_
    refine tu 13 ?_
    refine tu 14 ?_
    refine tu 15 ?_
    refine tu 16 ?_
    refine tk 17 ?_
    refine wpAnyH_done (by kernel_rfl) ?_ _
    refine NoPanic.normal ?_
    have hz := hb.drew.trans (hqc.mono hb.drew.size)
    clear hHeld q0 q1 q2 q3 q4 q5
    go_wp2_with fail
    go_ret
    exact ⟨retB HF.out.symm, hz⟩
   have HTB := Lib.hid hc
   by_cases hat : atN ((s.take k).map Tb.name) s[k].name = -1
   case neg =>
    obtain ⟨j, hj, hj0⟩ : ∃ j : Int, j = atN ((s.take k).map Tb.name) s[k].name ∧ 0 ≤ j := ⟨_, rfl, by rcases atN_rng ((s.take k).map Tb.name) s[k].name with h | h; exact absurd h hat; exact h.1⟩
    have HJ := Lib.hid hj
    have HF := Lib.hid (show schemaB s = false by unfold schemaB; rw [hug, decide_eq_false hat]; simp)
    clear hc hno hsn hug hall huq hat hj
    go_wp2_with fail
    refine wp_region_noPanic ?_
    refine wp_region_held_drew (S := fun w' => w'.cell? ⟨b, off + k * 6, none⟩ = some (.string s[k].name) ∧ w'.cell? ⟨b, off + k * 6 + 1, none⟩ = some (.slice A1 n1 c1) ∧ w'.cell? ⟨b, off + k * 6 + 2, none⟩ = some (.slice A2 n2 c2) ∧ w'.cell? ⟨b, off + k * 6 + 3, none⟩ = some (.slice A3 n3 c3) ∧ w'.cell? ⟨b, off + k * 6 + 4, none⟩ = some (.slice A4 n4 c4) ∧ w'.cell? ⟨b, off + k * 6 + 5, none⟩ = some (.slice A5 n5 c5)) (by kernel_rfl) ⟨q0, q1, q2, q3, q4, q5⟩ (fun hHeld => ?_)
    refine tk 0 ?_
    refine tk 1 ?_
    refine tk 2 ?_
    refine tk 3 ?_
    refine wpAnyH_ready (rs := [4]) (by kernel_rfl) (by simp) ?_
    refine AllReadyH.cons rfl (fun K hK => ?_) AllReadyH.nil
    go_simp
    refine (specTableOk s[k] A1 n1 c1 A2 n2 c2 A3 n3 c3 A4 n4 c4 A5 n5 c5 ok _ (s1.drew ClR.stays) (s2.drew IntR.stays) (s3.drew UqR.stays) (s4.drew CkR.stays) (s5.drew FkR.stays) HCP.out HX.out).mono ?_
    rintro e wc ⟨rfl, hqc⟩
    rw [HTB.out]
    go_wp2_with fail
    refine hK.out _ _ ⟨below_keep hqc _ _ hHeld.1, below_keep hqc _ _ hHeld.2.1, below_keep hqc _ _ hHeld.2.2.1, below_keep hqc _ _ hHeld.2.2.2.1, below_keep hqc _ _ hHeld.2.2.2.2.1, below_keep hqc _ _ hHeld.2.2.2.2.2⟩ (fun hHeld => ?_)
    clear hK K
    (try simp only [Act.put, pz0, pz1, pz2, pz3, pz4, pz5])
    refine tk 5 ?_
    refine tk 6 ?_
    refine tk 7 ?_
    refine tk 8 ?_
    refine tk 9 ?_
    refine tk 10 ?_
    refine tk 11 ?_
    refine tk 12 ?_
    refine tk 13 ?_
    refine tk 14 ?_
    refine wpAnyH_ready (rs := [15]) (by kernel_rfl) (by simp) ?_
    refine AllReadyH.cons rfl (fun K hK => ?_) AllReadyH.nil
    go_simp
    refine (specL3At _ k cS (s.take k) _ ok _ (((hsw.drew TbR.stays).below TbR.stays hqc).take (m := k) (by omega)) (by omega)).mono ?_
    rintro e wd ⟨rfl, hqd⟩
    rw [← HJ.out]
    go_wp2_with fail
    refine hK.out _ _ ⟨below_keep hqd _ _ hHeld.1, below_keep hqd _ _ hHeld.2.1, below_keep hqd _ _ hHeld.2.2.1, below_keep hqd _ _ hHeld.2.2.2.1, below_keep hqd _ _ hHeld.2.2.2.2.1, below_keep hqd _ _ hHeld.2.2.2.2.2⟩ (fun hHeld => ?_)
    clear hK K
    (try simp only [Act.put, pz0, pz1, pz2, pz3, pz4, pz5])
    refine tk 16 ?_
    refine tk 17 ?_
    refine wpAnyH_done (by kernel_rfl) ?_ _
    refine NoPanic.normal ?_
    have hz := hb.drew.trans (hqc.mono hb.drew.size)
    have hz := hz.trans (hqd.mono hz.size)
    clear hHeld q0 q1 q2 q3 q4 q5
    go_wp2_with fail
    go_ret
    exact ⟨retB HF.out.symm, hz⟩
   case pos =>
    have HA := Lib.hid hat
    have HUQ := Lib.hid (show uniqGo [] (s.map Tb.name) = uniqGo ((s.map Tb.name).take (k + 1)) ((s.map Tb.name).drop (k + 1)) by rw [hug, decide_eq_true hat, Bool.true_and])
    have HAL := Lib.hid (hsn.trans hc)
    clear hc hno hsn hug hall huq hat
    go_wp2_with fail
    refine wp_region_noPanic ?_
    refine wp_region_held_drew (S := fun w' => w'.cell? ⟨b, off + k * 6, none⟩ = some (.string s[k].name) ∧ w'.cell? ⟨b, off + k * 6 + 1, none⟩ = some (.slice A1 n1 c1) ∧ w'.cell? ⟨b, off + k * 6 + 2, none⟩ = some (.slice A2 n2 c2) ∧ w'.cell? ⟨b, off + k * 6 + 3, none⟩ = some (.slice A3 n3 c3) ∧ w'.cell? ⟨b, off + k * 6 + 4, none⟩ = some (.slice A4 n4 c4) ∧ w'.cell? ⟨b, off + k * 6 + 5, none⟩ = some (.slice A5 n5 c5)) (by kernel_rfl) ⟨q0, q1, q2, q3, q4, q5⟩ (fun hHeld => ?_)
    refine tk 0 ?_
    refine tk 1 ?_
    refine tk 2 ?_
    refine tk 3 ?_
    refine wpAnyH_ready (rs := [4]) (by kernel_rfl) (by simp) ?_
    refine AllReadyH.cons rfl (fun K hK => ?_) AllReadyH.nil
    go_simp
    refine (specTableOk s[k] A1 n1 c1 A2 n2 c2 A3 n3 c3 A4 n4 c4 A5 n5 c5 ok _ (s1.drew ClR.stays) (s2.drew IntR.stays) (s3.drew UqR.stays) (s4.drew CkR.stays) (s5.drew FkR.stays) HCP.out HX.out).mono ?_
    rintro e wc ⟨rfl, hqc⟩
    rw [HTB.out]
    go_wp2_with fail
    refine hK.out _ _ ⟨below_keep hqc _ _ hHeld.1, below_keep hqc _ _ hHeld.2.1, below_keep hqc _ _ hHeld.2.2.1, below_keep hqc _ _ hHeld.2.2.2.1, below_keep hqc _ _ hHeld.2.2.2.2.1, below_keep hqc _ _ hHeld.2.2.2.2.2⟩ (fun hHeld => ?_)
    clear hK K
    (try simp only [Act.put, pz0, pz1, pz2, pz3, pz4, pz5])
    refine tk 5 ?_
    refine tk 6 ?_
    refine tk 7 ?_
    refine tk 8 ?_
    refine tk 9 ?_
    refine tk 10 ?_
    refine tk 11 ?_
    refine tk 12 ?_
    refine tk 13 ?_
    refine tk 14 ?_
    refine wpAnyH_ready (rs := [15]) (by kernel_rfl) (by simp) ?_
    refine AllReadyH.cons rfl (fun K hK => ?_) AllReadyH.nil
    go_simp
    refine (specL3At _ k cS (s.take k) _ ok _ (((hsw.drew TbR.stays).below TbR.stays hqc).take (m := k) (by omega)) (by omega)).mono ?_
    rintro e wd ⟨rfl, hqd⟩
    rw [HA.out]
    go_wp2_with fail
    refine hK.out _ _ ⟨below_keep hqd _ _ hHeld.1, below_keep hqd _ _ hHeld.2.1, below_keep hqd _ _ hHeld.2.2.1, below_keep hqd _ _ hHeld.2.2.2.1, below_keep hqd _ _ hHeld.2.2.2.2.1, below_keep hqd _ _ hHeld.2.2.2.2.2⟩ (fun hHeld => ?_)
    clear hK K
    (try simp only [Act.put, pz0, pz1, pz2, pz3, pz4, pz5])
    refine tk 16 ?_
    refine tk 17 ?_
    refine wpAnyH_done (by kernel_rfl) ?_ _
    refine NoPanic.normal ?_
    have hz := hb.drew.trans (hqc.mono hb.drew.size)
    have hz := hz.trans (hqd.mono hz.size)
    clear hHeld q0 q1 q2 q3 q4 q5
    go_wp2_with fail
    go_roundw
    case rel => exact ⟨k + 1, by omega, by go_num, Lib.hid HAL.out, Lib.hid HUQ.out, hz⟩
    case measure => simp [intOf]; omega
  ·have e : s.take k = s := List.take_of_length_le (by omega)
   have e2 : (s.map Tb.name).drop k = [] := List.drop_eq_nil_of_le (by simp; omega)
   have g1 := hall.out
   have g2 := huq.out
   rw [e] at g1
   rw [e2] at g2
   have HALL := Lib.hid g1
   have HU := Lib.hid (show uniqGo [] (s.map Tb.name) = true by rw [g2]; simp [uniqGo])
   clear e e2 g1 g2 hall huq
   go_wp2_with fail
   clear hk hlt
   go_loopw [4] (fun i wr => ∃ k : Nat, k ≤ s.length ∧ i = .int .i64 k ∧ Hid ((s.take k).all (leadsB s) = true) ∧ Below w.heap.size w wr) (fun i _ => s.length - (intOf i).toNat)
   case atStart => exact ⟨0, by omega, rfl, Lib.hid (by simp), hb⟩
   case round =>
    clear hb
    obtain ⟨k, hk, rfl, hall, hb⟩ := hrel
    by_cases hlt : k < s.length
    case neg =>
     have e : s.take k = s := List.take_of_length_le (by omega)
     have g1 := hall.out
     rw [e] at g1
     by_cases h5 : (s.length : Int) ≤ 5
     ·have HF := Lib.hid (show schemaB s = true by unfold schemaB; rw [decide_eq_true (by omega), HALL.out, HU.out, g1]; rfl)
      have h5' : decide ((s.length : Int) ≤ 5) = true := by simpa using h5
      clear e g1 hall
      go_wp2_with fail
      go_ret
      exact ⟨retB HF.out.symm, hb⟩
     ·have HF := Lib.hid (show schemaB s = false by unfold schemaB; rw [decide_eq_false (by omega)]; rfl)
      have h5' : decide ((s.length : Int) ≤ 5) = false := by simpa using h5
      clear e g1 hall
      go_wp2_with fail
      go_ret
      exact ⟨retB HF.out.symm, hb⟩
    case pos =>
     have hsn := all_take (leadsB s) s k hlt
     rw [hall.out, Bool.true_and] at hsn
     have HNO := Lib.hid (fun hf : leadsB s s[k] = false => show schemaB s = false by unfold schemaB; rw [all_no (leadsB s) s k hlt hf]; simp)
     have HSN := Lib.hid hsn
     have HX := Lib.hid (HT.out k hlt)
     have HTK := Lib.hid (show tableB s[k] = true from List.all_eq_true.1 HALL.out _ (List.getElem_mem hlt))
     clear hsn hall
     have i0 : (0 : Int) ≤ k := by omega
     have i1 : (k : Int) < s.length := by omega
     go_wp2_with fail
     go_loopw [5] (fun i wr => ∃ m : Nat, m ≤ s[k].fks.length ∧ i = .int .i64 m ∧ Hid ((s[k].fks.take m).all (leadB s s[k]) = true) ∧ Below w.heap.size w wr) (fun i _ => s[k].fks.length - (intOf i).toNat)
     case atStart => exact ⟨0, by omega, rfl, Lib.hid (by simp), hb⟩
     case round =>
      clear hb
      obtain ⟨m, hm, rfl, hall, hb⟩ := hrel
      obtain ⟨b, off, A1, n1, c1, A2, n2, c2, A3, n3, c3, A4, n4, c4, A5, n5, c5, -, ea, q0, q1, q2, q3, q4, q5, s1, s2, -, -, s5, -⟩ := TbR.at_ (hs.below TbR.stays hb) hlt
      subst ea
      obtain rfl : s[k].fks.length = n5 := s5.1
      by_cases hlm : m < s[k].fks.length
      case neg =>
       have e : s[k].fks.take m = s[k].fks := List.take_of_length_le (by omega)
       have g1 := hall.out
       rw [e] at g1
       have HA := Lib.hid (HSN.out.trans g1)
       clear e g1 hall
       go_wp2_with fail
       go_roundw
       case rel => exact ⟨k + 1, by omega, by go_num, Lib.hid HA.out, hb⟩
       case measure => simp [intOf]; omega
      case pos =>
       have hsn := all_take (leadB s s[k]) s[k].fks m hlm
       rw [hall.out, Bool.true_and] at hsn
       have hno := fun hf : leadB s s[k] s[k].fks[m] = false => HNO.out (show leadsB s s[k] = false from all_no (leadB s s[k]) s[k].fks m hlm hf)
       have HI1 := Lib.hid (show ∀ y ∈ s[k].fks[m].cols, 0 ≤ y ∧ y < s[k].cols.length from fk_cols HTK.out hlm)
       obtain ⟨bf, offf, A9, n9, c9, -, ef, y0, y1, y2, y3, y4, hfc, -⟩ := FkR.at_ s5 hlm
       subst ef
       obtain rfl : s[k].fks[m].cols.length = n9 := hfc.1
       have HSN3 := Lib.hid hsn
       have HNO3 := Lib.hid hno
       clear hsn hno hall
       have hfin : s[k].fks[m].cols.length ≤ 1048576 := by have h1 := HX.out; have := sum_mem_le Fk.sz s[k].fks m hlm; simp only [Tb.sz, Fk.sz, szL] at *; omega
       have hfl : s[k].fks.length ≤ 1048576 := by have := HX.out; simp only [Tb.sz, szL] at this; omega
       generalize s[k].fks[m] = f at *
       have j0 : (0 : Int) ≤ m := by omega
       have j1' : (m : Int) < s[k].fks.length := by omega
       have hbx := (Below.refl wr.heap.size wr).alloc (Nat.le_refl _) (.cells #[.slice A9 f.cols.length c9, .string f.table, .int .i64 f.del, .int .i64 f.upd, .bool f.dfr] 128)
       have hba := hb.trans (hbx.mono hb.size)
       have rf := Row.new wr 128 #[.slice A9 f.cols.length c9, .string f.table, .int .i64 f.del, .int .i64 f.upd, .bool f.dfr]
       have hfc1 := hfc.below IntR.stays hbx
       obtain ⟨⟨f0, f1, f2, f3, f4⟩, -⟩ := rf.five
       clear hfc
       go_wp2_with fail
       generalize wr.alloc (.cells #[.slice A9 f.cols.length c9, .string f.table, .int .i64 f.del, .int .i64 f.upd, .bool f.dfr] 128) = z1 at *
       generalize wr.heap.size = gz at *
       refine (specL3At _ s.length cS s f.table ok _ (hs.below TbR.stays hba) hn).mono ?_
       rintro e w1 ⟨rfl, hb1⟩
       have hbc := hba.trans (hb1.mono hba.size)
       have rf1 := rf.below hb1
       have hfc2 := hfc1.below IntR.stays hb1
       clear f0 f1 f2 f3 f4 q0 q1 q2 q3 q4 q5 y0 y1 y2 y3 y4 s1 s2 hbx hb rf hfc1 hba hb1 s5
       obtain ⟨⟨f0, f1, f2, f3, f4⟩, -⟩ := rf1.five
       by_cases hat : atN (s.map Tb.name) f.table = -1
       ·have HA := Lib.hid hat
        have HF := Lib.hid (HNO3.out (by unfold leadB; rw [decide_eq_false (by simp [hat])]; rfl))
        rw [hat]
        clear hat
        go_wp2_with fail
        go_quiet (fail)
        go_wp2_with fail
        go_ret
        exact ⟨retB HF.out.symm, below_drewN hbc _⟩
       obtain ⟨j, hj, hjl⟩ : ∃ j : Nat, atN (s.map Tb.name) f.table = (j : Int) ∧ j < s.length := by
        rcases atN_rng (s.map Tb.name) f.table with h | h
        ·exact absurd h hat
        ·rw [List.length_map] at h; exact ⟨(atN (s.map Tb.name) f.table).toNat, by omega, by omega⟩
       have hld : leadB s s[k] f = sameB s[k].cols f.cols s[j].cols s[j].key := by
        unfold leadB; rw [decide_eq_true hat, hj]; simp [List.getElem?_eq_getElem hjl]
       have HSN4 := Lib.hid (HSN3.out.trans hld)
       have HLD := Lib.hid hld
       have HTJ := Lib.hid (show tableB s[j] = true from List.all_eq_true.1 HALL.out _ (List.getElem_mem hjl))
       rw [hj]
       clear hat hj hld
       have k0 : (0 : Int) ≤ j := by omega
       have k1 : (j : Int) < s.length := by omega
       have k2 : ¬ ((j : Int) < 0) := by omega
       have k3 : decide ((j : Int) < 0) = false := decide_eq_false k2
       obtain ⟨bj, offj, B1, m1, d1, B2, m2, d2, B3, m3, d3, B4, m4, d4, B5, m5, d5, -, ej, z0, z1', z2, z3, z4, z5, t1, t2, -, -, -, -⟩ := TbR.at_ (hs.below TbR.stays hbc) hjl
       cases ej
       obtain rfl : s[j].key.length = m2 := t2.1
       cases hl : (s[j].key.length == f.cols.length)
       ·have hne := beq_eq_false_iff_ne.1 hl
        have hl' : ¬ ((s[j].key.length : Int) = f.cols.length) := by omega
        have HF := Lib.hid (HNO3.out (by rw [HLD.out]; unfold sameB; rw [decide_eq_false (fun h => hne h.symm)]; rfl))
        clear hl hne
        go_wp2_with fail
        go_quiet (fail)
        go_wp2_with fail
        go_ret
        exact ⟨retB HF.out.symm, below_drewN hbc _⟩
       have hlen : s[j].key.length = f.cols.length := by simpa using hl
       have hl' : ((s[j].key.length : Int) = f.cols.length) := by omega
       have hz : (f.cols.zip s[j].key).length = f.cols.length := by simp [hlen]
       have HZ := Lib.hid hz
       have HL := Lib.hid hlen
       have HE := Lib.hid (show sameB s[k].cols f.cols s[j].cols s[j].key = (f.cols.zip s[j].key).all (kindV s[k].cols s[j].cols) by unfold sameB; rw [decide_eq_true hlen.symm]; rfl)
       clear hl hz hlen
       go_wp2_with fail
       go_quiet (fail)
       go_wp2_with fail
       clear f0 f1 f2 f3 f4 z0 z1' z2 z3 z4 z5 t1 t2 hl'
       have hbd := fun n => below_drewN hbc n
       go_loopw [8] (fun i wr => ∃ r : Nat, r ≤ f.cols.length ∧ i = .int .i64 r ∧ Hid (((f.cols.zip s[j].key).take r).all (kindV s[k].cols s[j].cols) = true) ∧ Row wr gz 128 #[.slice A9 f.cols.length c9, .string f.table, .int .i64 f.del, .int .i64 f.upd, .bool f.dfr] ∧ Sl IntR 1 ok wr A9 f.cols.length f.cols ∧ Below w.heap.size w wr) (fun i _ => f.cols.length - (intOf i).toNat)
       case atStart => exact ⟨0, by omega, rfl, Lib.hid (by simp), rf1.drewN _, hfc2.drewN IntR.stays _, hbd _⟩
       case round =>
        clear hbd hbc rf1 hfc2
        obtain ⟨r, hr', rfl, hall, hrf, hfc, hb⟩ := hrel
        obtain ⟨⟨f0, f1, f2, f3, f4⟩, -⟩ := hrf.five
        by_cases hlr : r < f.cols.length
        case neg =>
         have e : (f.cols.zip s[j].key).take r = f.cols.zip s[j].key := List.take_of_length_le (by rw [HZ.out]; omega)
         have g1 := hall.out
         rw [e] at g1
         have HA := Lib.hid (HSN4.out.trans (HE.out.trans g1))
         clear e g1 hall
         go_wp2_with fail
         go_roundw
         case rel => exact ⟨m + 1, by omega, by go_num, Lib.hid HA.out, hb⟩
         case measure => simp [intOf]; omega
        case pos =>
         have hlr2 : r < s[j].key.length := by have := HL.out; omega
         obtain ⟨bq, offq, C1, e1, g1, C2, e2, g2, C3, e3, g3, C4, e4, g4, C5, e5, g5, -, eq, q0, q1, q2, q3, q4, q5, s1, -, -, -, -, -⟩ := TbR.at_ (hs.below TbR.stays hb) hlt
         cases eq
         obtain ⟨bj, offj, D1, m1, d1, D2, m2, d2, D3, m3, d3, D4, m4, d4, D5, m5, d5, -, ej, z0, z1', z2, z3, z4, z5, t1, t2, -, -, -, -⟩ := TbR.at_ (hs.below TbR.stays hb) hjl
         cases ej
         obtain rfl : s[j].key.length = m2 := t2.1
         obtain rfl : s[k].cols.length = e1 := s1.1
         obtain rfl : s[j].cols.length = m1 := t1.1
         obtain ⟨bk, offk, -, ek, p0⟩ := IntR.at_ hfc hlr
         subst ek
         obtain ⟨bl, offl, -, el, p1⟩ := IntR.at_ t2 hlr2
         subst el
         have hi1 := HI1.out _ (List.getElem_mem hlr)
         have hi2 := key_cols HTJ.out _ (List.getElem_mem hlr2)
         have hsn := all_take (kindV s[k].cols s[j].cols) (f.cols.zip s[j].key) r (by rw [HZ.out]; exact hlr)
         have hno := fun hf : kindV s[k].cols s[j].cols ((f.cols.zip s[j].key)[r]'(by rw [HZ.out]; exact hlr)) = false => all_no (kindV s[k].cols s[j].cols) (f.cols.zip s[j].key) r (by rw [HZ.out]; exact hlr) hf
         obtain ⟨u1, hu1⟩ : ∃ j : Nat, f.cols[r] = (j : Int) := ⟨f.cols[r].toNat, by omega⟩
         obtain ⟨u2, hu2⟩ : ∃ i : Nat, s[j].key[r] = (i : Int) := ⟨s[j].key[r].toNat, by omega⟩
         rw [hu1] at p0 hi1
         rw [hu2] at p1 hi2
         have hjl1 : u1 < s[k].cols.length := by omega
         have hjl2 : u2 < s[j].cols.length := by omega
         have eg : kindV s[k].cols s[j].cols ((f.cols.zip s[j].key)[r]'(by rw [HZ.out]; exact hlr)) = (s[k].cols[u1].kind == s[j].cols[u2].kind) := by
          rw [List.getElem_zip]; unfold kindV; simp only [hu1, hu2, kindAt_nat hjl1, kindAt_nat hjl2]
         rw [hall.out, Bool.true_and, eg] at hsn
         rw [eg] at hno
         obtain ⟨bv, offv, -, ev, v0, v1, v2, v3, v4, v5⟩ := ClR.at_ s1 hjl1
         subst ev
         obtain ⟨bx, offx, -, ex, x0, x1, x2, x3, x4, x5⟩ := ClR.at_ t1 hjl2
         subst ex
         have r0 : (0 : Int) ≤ r := by omega
         have r1 : (r : Int) < f.cols.length := by omega
         have r2 : (r : Int) < s[j].key.length := by omega
         have r3 : (0 : Int) ≤ u1 := by omega
         have r4 : (u1 : Int) < s[k].cols.length := by omega
         have r5 : (0 : Int) ≤ u2 := by omega
         have r6 : (u2 : Int) < s[j].cols.length := by omega
         clear eg hu1 hu2 hi1 hi2
         cases hc : (s[k].cols[u1].kind == s[j].cols[u2].kind)
         ·have HF := Lib.hid (HNO3.out (by rw [HLD.out, HE.out]; exact hno hc))
          have hc2 : (s[k].cols[u1].kind != s[j].cols[u2].kind) = true := by rw [bne, hc]; rfl
          clear hsn hno hall
          go_wp2_with fail
          go_quiet (fail)
          go_wp2_with fail
          go_ret
          exact ⟨retB HF.out.symm, below_drewN hb _⟩
         ·have HA := Lib.hid (hsn.trans hc)
          have hc2 : (s[k].cols[u1].kind != s[j].cols[u2].kind) = false := by rw [bne, hc]; rfl
          clear hsn hno hall
          go_wp2_with fail
          go_quiet (fail)
          go_wp2_with fail
          go_roundw
          case rel => exact ⟨r + 1, by omega, by go_num, Lib.hid HA.out, hrf.drewN _, hfc.drewN IntR.stays _, below_drewN hb _⟩
          case measure => simp [intOf]; omega
def EmR : Rd Unit := FlatR fun _ => [.slice none 0 0]
theorem EmR.stays : Stays EmR := FlatR.stays _
def ems (b : Bool) (n : Nat) : List Unit := if b then List.replicate n () else []
def dts (l : List Unit) : List Dt := l.map fun _ => ⟨[]⟩
theorem Em.toDt {ok : Nat → Prop} {w : World} {A : Option Addr} {n : Nat} {l : List Unit} (h : Sl EmR 1 ok w A n l) : Sl DtR 1 ok w A n (dts l) := by
 refine ⟨by simpa [dts] using h.1, fun hn => ?_⟩
 obtain ⟨b, off, e, hb, hi⟩ := h.2 hn
 refine ⟨b, off, e, hb, fun i hlt => ?_⟩
 obtain ⟨cs, h1, h2, h3⟩ := hi i (by simpa [dts] using hlt)
 have e2 : cs = _ := h2
 subst e2
 refine ⟨_, h1, ⟨none, 0, 0, rfl, ?_, Nat.le_refl _⟩, h3⟩
 simp only [dts, List.getElem_map]
 exact ⟨rfl, fun h => by omega⟩
theorem em_made (w : World) (n : Nat) (T : TypeId) : Sl EmR 1 (okF w.heap.size (w.alloc (.cells (madeCells #[.slice none 0 0] n) T))) (w.alloc (.cells (madeCells #[.slice none 0 0] n) T)) (some ⟨w.heap.size, 0, none⟩) n (List.replicate n ()) := by
 have row := Row.new w T (madeCells #[.slice none 0 0] n)
 refine ⟨by simp, fun hn => ⟨w.heap.size, 0, rfl, ⟨Nat.le_refl _, by simp, fun off => row.free off⟩, fun i hi => ⟨_, rfl, rfl, fun j v hv => ?_⟩⟩⟩
 have hj : j = 0 := by have := (List.getElem?_eq_some_iff.1 hv).1; simpa using this
 subst hj
 obtain rfl := Option.some.inj hv
 have hi' : i < n := by simpa using hi
 rw [row.cell]
 simp [madeCells, hi', Nat.mod_one]
def MadeT {α : Type} (R : Rd α) (sz : Nat) (xs : List α) (b : Bool) (w : World) (e : Ending) (w' : World) : Prop := ∃ A c, e = .returned (.tuple #[.slice A xs.length c, .bool b]) ∧ xs.length ≤ c ∧ Sl R sz (okF w.heap.size w') w' A xs.length xs ∧ Below w.heap.size w w'
theorem infoDataT' : (Tryz.prog.info? 55).map (fun i => (i.zero, i.size, i.bytes)) = some (some (.agg #[.slice none 0 0]), 1, 24) := by kernel_rfl
set_option maxRecDepth 100000 in
set_option maxHeartbeats 1000000 in
theorem specDbNew (A : Option Addr) (n c : Nat) (s : List Tb) (ok : Nat → Prop) (w : World) (h : Sl TbR 6 ok w A n s) (hcp : n ≤ c) (hs : szL Tb.sz s ≤ 1048576) :
  Calls Tryz.prog 82 #[.slice A n c] w (MadeT EmR 1 (ems (schemaB s) s.length) (schemaB s) w) := by
 obtain rfl : s.length = n := h.1
 have hn : s.length ≤ 1048576 := by unfold szL at hs; omega
 have HS := Lib.hid hs
 have HCP := Lib.hid hcp
 clear hs hcp
 cases hB : schemaB s
 ·have HB := Lib.hid hB
  clear hB
  go_enter Tryz.func82, Tryz.ntmps82
  go_wp2_with fail
  refine (specSchemaOk A s.length c s ok _ h HCP.out HS.out).mono ?_
  rintro e w1 ⟨rfl, hb1⟩
  rw [HB.out]
  go_wp2_with fail
  go_ret2
  exact ⟨none, 0, rfl, Nat.le_refl _, ⟨rfl, fun h => by simp [ems] at h⟩, hb1⟩
 have HB := Lib.hid hB
 clear hB
 have hmk := fun w => mk_rows (P := Tryz.prog) Tryz.underlying25 infoDataT' (by omega) s.length hn w
 simp only [Nat.mul_one] at hmk
 go_enter Tryz.func82, Tryz.ntmps82
 go_wp2_with fail
 refine (specSchemaOk A s.length c s ok _ h HCP.out HS.out).mono ?_
 rintro e w1 ⟨rfl, hb1⟩
 rw [HB.out]
 have hem := em_made w1 s.length 55
 have hbz := hb1.alloc hb1.size (.cells (madeCells #[.slice none 0 0] s.length) 55)
 have HEM := Lib.hid (hem.stays EmR.stays (ok' := okF w.heap.size _) (fun b hb => hb.mono hb1.size) (fun _ _ _ h => h))
 clear hem
 go_wp2_with fail
 go_ret2
 exact ⟨some ⟨w1.heap.size, 0, none⟩, s.length, by simp [ems], by simp [ems], by simpa [ems] using HEM.out, hbz⟩
theorem ids_out {v last : Int} (hin : (decide (1 ≤ v) && decide (v ≤ 1000000000)) = false) (h0 : 0 ≤ last) (b : Bool) : (decide (last < v) && (decide (v ≤ 1000000000) && b)) = false := by
 rw [Bool.eq_false_iff]
 intro h
 simp only [Bool.and_eq_true, decide_eq_true_eq] at h
 rw [decide_eq_true (by omega), decide_eq_true h.2.1] at hin
 cases hin
set_option maxRecDepth 100000 in
set_option maxHeartbeats 4000000 in
theorem specL4Db (AS AD : Option Addr) (nS cS nD cD : Nat) (s : List Tb) (db : List Dt) (ok : Nat → Prop) (w : World) (hs : Sl TbR 6 ok w AS nS s) (hd : Sl DtR 1 ok w AD nD db) (hsz : szL Tb.sz s ≤ 1048576) (hdz : szL Dt.sz db ≤ 1048576) (hvs : ∀ d ∈ db, ∀ r ∈ d.rows, r.vals.length ≤ 1048576) (hS : schemaB s = true) :
  Calls Tryz.prog 128 #[.slice AS nS cS, .slice AD nD cD] w fun e w' => e = .returned (.bool (dbB s db)) ∧ Below w.heap.size w w' := by
 obtain rfl : s.length = nS := hs.1
 obtain rfl : db.length = nD := hd.1
 have hn1 : s.length ≤ 1048576 := by unfold szL at hsz; omega
 have hn2 : db.length ≤ 1048576 := by unfold szL at hdz; omega
 have HSZ := Lib.hid hsz
 have HDZ := Lib.hid hdz
 have HVS := Lib.hid hvs
 have HS := Lib.hid hS
 clear hsz hdz hvs hS
 cases hl : (db.length == s.length)
 ·have hl' : ¬ ((db.length : Int) = s.length) := by have := beq_eq_false_iff_ne.1 hl; omega
  have HF := Lib.hid (show dbB s db = false by unfold dbB; rw [decide_eq_false (beq_eq_false_iff_ne.1 hl)]; simp)
  clear hl
  go_enter Tryz.func128, Tryz.ntmps128
  go_wp2_with fail
  go_ret
  exact ⟨retB HF.out.symm, Below.refl _ _⟩
 have hlen : db.length = s.length := by simpa using hl
 have hl' : (db.length : Int) = s.length := by omega
 have hz : (s.zip db).length = db.length := by simp [hlen]
 have HZ := Lib.hid hz
 have HL := Lib.hid hlen
 have HE := Lib.hid (show dbB s db = (s.zip db).all dbV by unfold dbB; rw [HS.out, decide_eq_true hlen]; rfl)
 clear hl hz hlen
 go_enter Tryz.func128, Tryz.ntmps128
 go_wp2_with fail
 clear hl'
 go_loopw [5] (fun i wr => ∃ k : Nat, k ≤ db.length ∧ i = .int .i64 k ∧ Hid (((s.zip db).take k).all dbV = true) ∧ Below w.heap.size w wr) (fun i _ => db.length - (intOf i).toNat)
 case atStart => exact ⟨0, by omega, rfl, Lib.hid (by simp), Below.refl _ _⟩
 case round =>
  obtain ⟨i, hk, rfl, hall, hb⟩ := hrel
  by_cases hlt : i < db.length
  case neg =>
   have e : (s.zip db).take i = s.zip db := List.take_of_length_le (by rw [HZ.out]; omega)
   have g1 := hall.out
   rw [e] at g1
   have HF := Lib.hid (show dbB s db = true by rw [HE.out]; exact g1)
   have i3 : ¬ (i : Int) < s.length := by have := HL.out; omega
   clear e g1 hall
   go_wp2_with fail
   go_ret
   exact ⟨retB HF.out.symm, hb⟩
  case pos =>
   have hlt2 : i < s.length := by have := HL.out; omega
   obtain ⟨bd, offd, AL, nL, cL, -, ed, y0, hrs, -⟩ := DtR.at_ (hd.below DtR.stays hb) hlt
   subst ed
   obtain rfl : db[i].rows.length = nL := hrs.1
   have hrn : db[i].rows.length ≤ 1048576 := by have h1 := HDZ.out; have := sum_mem_le Dt.sz db i hlt; simp only [szL, Dt.sz] at *; omega
   have HV := Lib.hid (HVS.out _ (List.getElem_mem hlt))
   have hsn := all_take dbV (s.zip db) i (by rw [HZ.out]; exact hlt)
   have hno := fun hf => all_no dbV (s.zip db) i (by rw [HZ.out]; exact hlt) hf
   have eg : dbV ((s.zip db)[i]'(by rw [HZ.out]; exact hlt)) = dataB s[i].cols db[i].rows := by rw [List.getElem_zip]; rfl
   rw [hall.out, Bool.true_and, eg] at hsn
   rw [eg] at hno
   have i0 : (0 : Int) ≤ i := by omega
   have i1 : (i : Int) < db.length := by omega
   have i2 : (i : Int) < s.length := by omega
   have HSN := Lib.hid hsn
   have HNO := Lib.hid (fun hf : dataB s[i].cols db[i].rows = false => show dbB s db = false by rw [HE.out]; exact hno hf)
   clear eg hsn hno hall
   go_wp2_with fail
   clear y0
   go_loopw [7] (fun m wr => ∃ (k : Nat) (last : Int), k ≤ db[i].rows.length ∧ m = .int .i64 k ∧ Hid (idsGo s[i].cols 0 db[i].rows = idsGo s[i].cols last (db[i].rows.drop k)) ∧ Hid (0 ≤ last ∧ (k = 0 → last = 0) ∧ (∀ q (hq : q + 1 = k) (h2 : q < db[i].rows.length), db[i].rows[q].id = last)) ∧ Sl RwR 2 ok wr AL db[i].rows.length db[i].rows ∧ Below w.heap.size w wr) (fun m _ => db[i].rows.length - (intOf m).toNat)
   case atStart => exact ⟨0, 0, by omega, rfl, Lib.hid (by simp), Lib.hid ⟨by omega, fun _ => rfl, fun q hq => by omega⟩, hrs, hb⟩
   case round =>
    clear hb hrs
    obtain ⟨k, last, hk, rfl, HGO, HLA, hrs, hb⟩ := hrel
    by_cases hlk : k < db[i].rows.length
    case neg =>
     have e : db[i].rows.drop k = [] := List.drop_eq_nil_of_le (by omega)
     have g1 := HGO.out
     rw [e] at g1
     by_cases h60 : 60 < (db[i].rows.length : Int)
     ·have HF := Lib.hid (HNO.out (by unfold dataB; rw [decide_eq_false (by omega)]; rfl))
      clear e g1
      go_wp2_with fail
      go_ret
      exact ⟨retB HF.out.symm, hb⟩
     ·have HA := Lib.hid (show ((s.zip db).take (i + 1)).all dbV = true by rw [HSN.out]; unfold dataB; rw [decide_eq_true (by omega), g1]; rfl)
      have h60' : decide (60 < (db[i].rows.length : Int)) = false := by simpa using h60
      clear e g1
      go_wp2_with fail
      go_roundw
      case rel => exact ⟨i + 1, by omega, by go_num, Lib.hid HA.out, hb⟩
      case measure => simp [intOf]; omega
    case pos =>
     obtain ⟨b, off, A1, n1, c1, A2, n2, c2, A3, n3, c3, A4, n4, c4, A5, n5, c5, -, ea, q0, q1, q2, q3, q4, q5, s1, -, -, -, -, -⟩ := TbR.at_ (hs.below TbR.stays hb) hlt2
     subst ea
     obtain rfl : s[i].cols.length = n1 := s1.1
     have HCN := Lib.hid (show s[i].cols.length ≤ 1048576 by have h1 := HSZ.out; have := sum_mem_le Tb.sz s i hlt2; simp only [szL, Tb.sz] at *; omega)
     obtain ⟨bl, offl, A9, n9, c9, -, el, r0, r1, hvl, -⟩ := RwR.at_ hrs hlk
     obtain rfl : db[i].rows[k].vals.length = n9 := hvl.1
     have hvv : Vals wr.drew A9 db[i].rows[k].vals.length db[i].rows[k].vals := Sl.cellz (fun _ => rfl) (hvl.drew VlR.stays)
     have HN9 := Lib.hid (HV.out _ (List.getElem_mem hlk))
     have hst := idsGo_at s[i].cols last db[i].rows k hlk
     have hbad := fun hf : idsGo s[i].cols last (db[i].rows.drop k) = false => HNO.out (by unfold dataB; rw [HGO.out, hf]; simp)
     have hla := HLA.out
     have HVK := Lib.hid (rfl : db[i].rows[k].id = db[i].rows[k].id)
     have j0 : (0 : Int) ≤ k := by omega
     have j1 : (k : Int) < db[i].rows.length := by omega
     have hpre : ∀ p, p + 1 = k → ∃ hp : p < db[i].rows.length, wr.cell? ⟨bl, offl + p * 2, none⟩ = some (.int .i64 db[i].rows[p].id) := by
      intro p hp
      obtain ⟨b2, off2, _, _, _, -, e2, z0, -⟩ := RwR.at_ hrs (i := p) (by omega)
      rw [el] at e2
      cases e2
      exact ⟨by omega, z0⟩
     subst el
     revert HVK
     generalize hvd : db[i].rows[k] = v at *
     intro HVK
     have HVK := Lib.hid (show db[i].rows[k].id = v.id by rw [hvd])
     cases hin : (decide (1 ≤ v.id) && decide (v.id ≤ 1000000000))
     ·skip
      have HIN := Lib.hid hin
      have HF := Lib.hid (hbad (by rw [hst]; exact ids_out hin hla.1 _))
      clear hin hst hbad
      go_wp2_with fail
      refine wp_region_noPanic ?_
      refine wp_region_held_drew (S := fun w' => w'.cell? ⟨bl, offl + k * 2, none⟩ = some (.int .i64 v.id) ∧ w'.cell? ⟨bl, offl + k * 2 + 1, none⟩ = some (.slice A9 v.vals.length c9) ∧ w'.cell? ⟨b, off + i * 6, none⟩ = some (.string s[i].name) ∧ w'.cell? ⟨b, off + i * 6 + 1, none⟩ = some (.slice A1 s[i].cols.length c1) ∧ w'.cell? ⟨b, off + i * 6 + 2, none⟩ = some (.slice A2 n2 c2) ∧ w'.cell? ⟨b, off + i * 6 + 3, none⟩ = some (.slice A3 n3 c3) ∧ w'.cell? ⟨b, off + i * 6 + 4, none⟩ = some (.slice A4 n4 c4) ∧ w'.cell? ⟨b, off + i * 6 + 5, none⟩ = some (.slice A5 n5 c5)) (by kernel_rfl) ⟨r0, r1, q0, q1, q2, q3, q4, q5⟩ (fun hHeld => ?_)
      refine tk 0 ?_
      refine tk 1 ?_
      refine tk 2 ?_
      refine tk 3 ?_
      refine tk 4 ?_
      refine wpAnyH_ready (rs := [5]) (by kernel_rfl) (by simp) ?_
      refine AllReadyH.cons rfl (fun K hK => ?_) AllReadyH.nil
      go_simp
      refine (specIn _ _ _ _).mono ?_
      rintro e wc ⟨rfl, rfl⟩
      rw [HIN.out]
      go_wp2_with fail
      refine hK.out _ _ hHeld (fun hHeld => ?_)
      clear hK K
      (try simp only [Act.put, pz0, pz1, pz2, pz3, pz4, pz5])
      refine tk 6 ?_
      refine tk 7 ?_
      refine tu 8 ?_
      refine tu 9 ?_
      refine tu 10 ?_
      refine tu 11 ?_
      refine tu 12 ?_
      refine tu 13 ?_
      refine tu 14 ?_
      refine tu 15 ?_
      refine tu 16 ?_
      refine tu 17 ?_
      refine tu 18 ?_
      refine tu 19 ?_
      refine tu 20 ?_
      refine tu 21 ?_
      refine tu 22 ?_
      refine tu 23 ?_
      refine tk 24 ?_
      refine tk 25 ?_
      refine tu 26 ?_
      refine tu 27 ?_
      refine tu 28 ?_
      refine tu 29 ?_
      refine tu 30 ?_
      refine tu 31 ?_
      refine tu 32 ?_
      refine tu 33 ?_
      refine tu 34 ?_
      refine tu 35 ?_
      refine tu 36 ?_
      refine tk 37 ?_
      refine wpAnyH_done (by kernel_rfl) ?_ _
      refine NoPanic.normal ?_
      have hz := hb.drew
      clear hHeld
      go_wp2_with fail
      go_ret
      exact ⟨retB HF.out.symm, hz⟩
     have HIN := Lib.hid hin
     simp only [Bool.and_eq_true, decide_eq_true_eq] at hin
     by_cases hk0 : k = 0
     case pos =>
      have hl0 := hla.2.1 hk0
      have e0 : decide ((0 : Int) < (k : Int)) = false := decide_eq_false (by omega)
      have e0n : decide (0 < k) = false := decide_eq_false (by omega)
      clear hk0 hpre
      cases hkd : kindsB s[i].cols v.vals
      ·skip
       have HK := Lib.hid hkd
       have HF := Lib.hid (hbad (by rw [hst, hkd]; simp))
       clear hkd hst hbad
       go_wp2_with fail
       refine wp_region_noPanic ?_
       refine wp_region_held_drew (S := fun w' => w'.cell? ⟨bl, offl + k * 2, none⟩ = some (.int .i64 v.id) ∧ w'.cell? ⟨bl, offl + k * 2 + 1, none⟩ = some (.slice A9 v.vals.length c9) ∧ w'.cell? ⟨b, off + i * 6, none⟩ = some (.string s[i].name) ∧ w'.cell? ⟨b, off + i * 6 + 1, none⟩ = some (.slice A1 s[i].cols.length c1) ∧ w'.cell? ⟨b, off + i * 6 + 2, none⟩ = some (.slice A2 n2 c2) ∧ w'.cell? ⟨b, off + i * 6 + 3, none⟩ = some (.slice A3 n3 c3) ∧ w'.cell? ⟨b, off + i * 6 + 4, none⟩ = some (.slice A4 n4 c4) ∧ w'.cell? ⟨b, off + i * 6 + 5, none⟩ = some (.slice A5 n5 c5)) (by kernel_rfl) ⟨r0, r1, q0, q1, q2, q3, q4, q5⟩ (fun hHeld => ?_)
       refine tk 0 ?_
       refine tk 1 ?_
       refine tk 2 ?_
       refine tk 3 ?_
       refine tk 4 ?_
       refine wpAnyH_ready (rs := [5]) (by kernel_rfl) (by simp) ?_
       refine AllReadyH.cons rfl (fun K hK => ?_) AllReadyH.nil
       go_simp
       refine (specIn _ _ _ _).mono ?_
       rintro e wc ⟨rfl, rfl⟩
       rw [HIN.out]
       go_wp2_with fail
       refine hK.out _ _ hHeld (fun hHeld => ?_)
       clear hK K
       (try simp only [Act.put, pz0, pz1, pz2, pz3, pz4, pz5])
       refine tk 6 ?_
       refine tk 7 ?_
       refine tk 8 ?_
       refine tk 9 ?_
       refine tk 10 ?_
       refine tu 11 ?_
       refine tu 12 ?_
       refine tu 13 ?_
       refine tu 14 ?_
       refine tu 15 ?_
       refine tu 16 ?_
       refine tu 17 ?_
       refine tu 18 ?_
       refine tu 19 ?_
       refine tu 20 ?_
       refine tu 21 ?_
       refine tu 22 ?_
       refine tk 23 ?_
       refine tk 24 ?_
       refine tk 25 ?_
       refine tk 26 ?_
       refine tk 27 ?_
       refine tk 28 ?_
       refine tk 29 ?_
       refine tk 30 ?_
       refine tk 31 ?_
       refine tk 32 ?_
       refine tk 33 ?_
       refine tk 34 ?_
       refine wpAnyH_ready (rs := [35]) (by kernel_rfl) (by simp) ?_
       refine AllReadyH.cons rfl (fun K hK => ?_) AllReadyH.nil
       go_simp
       refine (specKinds A1 A9 s[i].cols.length c1 v.vals.length c9 _ _ _ _ _ s[i].cols v.vals ok _ (s1.drew ClR.stays) hvv HCN.out HN9.out).mono ?_
       rintro e wd ⟨rfl, hqd⟩
       rw [HK.out]
       go_wp2_with fail
       refine hK.out _ _ ⟨below_keep hqd _ _ hHeld.1, below_keep hqd _ _ hHeld.2.1, below_keep hqd _ _ hHeld.2.2.1, below_keep hqd _ _ hHeld.2.2.2.1, below_keep hqd _ _ hHeld.2.2.2.2.1, below_keep hqd _ _ hHeld.2.2.2.2.2.1, below_keep hqd _ _ hHeld.2.2.2.2.2.2.1, below_keep hqd _ _ hHeld.2.2.2.2.2.2.2⟩ (fun hHeld => ?_)
       clear hK K
       (try simp only [Act.put, pz0, pz1, pz2, pz3, pz4, pz5])
       refine tk 36 ?_
       refine tk 37 ?_
       refine wpAnyH_done (by kernel_rfl) ?_ _
       refine NoPanic.normal ?_
       have hz := hb.drew.trans (hqd.mono hb.drew.size)
       have hrz := (hrs.drew RwR.stays).below RwR.stays hqd
       clear hHeld
       go_wp2_with fail
       go_ret
       exact ⟨retB HF.out.symm, hz⟩
      ·skip
       have HK := Lib.hid hkd
       have HG := Lib.hid (show idsGo s[i].cols 0 db[i].rows = idsGo s[i].cols v.id (db[i].rows.drop (k + 1)) by rw [HGO.out, hst, decide_eq_true (p := last < v.id) (by omega), decide_eq_true (p := v.id ≤ 1000000000) (by omega), hkd]; rfl)
       have HL2 := Lib.hid (show 0 ≤ v.id ∧ (k + 1 = 0 → v.id = 0) ∧ (∀ q (hq : q + 1 = k + 1) (h2 : q < db[i].rows.length), db[i].rows[q].id = v.id) from ⟨by omega, by omega, fun q hq h2 => by (obtain rfl : q = k := (by omega)); exact HVK.out⟩)
       clear hkd hst hbad
       go_wp2_with fail
       refine wp_region_noPanic ?_
       refine wp_region_held_drew (S := fun w' => w'.cell? ⟨bl, offl + k * 2, none⟩ = some (.int .i64 v.id) ∧ w'.cell? ⟨bl, offl + k * 2 + 1, none⟩ = some (.slice A9 v.vals.length c9) ∧ w'.cell? ⟨b, off + i * 6, none⟩ = some (.string s[i].name) ∧ w'.cell? ⟨b, off + i * 6 + 1, none⟩ = some (.slice A1 s[i].cols.length c1) ∧ w'.cell? ⟨b, off + i * 6 + 2, none⟩ = some (.slice A2 n2 c2) ∧ w'.cell? ⟨b, off + i * 6 + 3, none⟩ = some (.slice A3 n3 c3) ∧ w'.cell? ⟨b, off + i * 6 + 4, none⟩ = some (.slice A4 n4 c4) ∧ w'.cell? ⟨b, off + i * 6 + 5, none⟩ = some (.slice A5 n5 c5)) (by kernel_rfl) ⟨r0, r1, q0, q1, q2, q3, q4, q5⟩ (fun hHeld => ?_)
       refine tk 0 ?_
       refine tk 1 ?_
       refine tk 2 ?_
       refine tk 3 ?_
       refine tk 4 ?_
       refine wpAnyH_ready (rs := [5]) (by kernel_rfl) (by simp) ?_
       refine AllReadyH.cons rfl (fun K hK => ?_) AllReadyH.nil
       go_simp
       refine (specIn _ _ _ _).mono ?_
       rintro e wc ⟨rfl, rfl⟩
       rw [HIN.out]
       go_wp2_with fail
       refine hK.out _ _ hHeld (fun hHeld => ?_)
       clear hK K
       (try simp only [Act.put, pz0, pz1, pz2, pz3, pz4, pz5])
       refine tk 6 ?_
       refine tk 7 ?_
       refine tk 8 ?_
       refine tk 9 ?_
       refine tk 10 ?_
       refine tu 11 ?_
       refine tu 12 ?_
       refine tu 13 ?_
       refine tu 14 ?_
       refine tu 15 ?_
       refine tu 16 ?_
       refine tu 17 ?_
       refine tu 18 ?_
       refine tu 19 ?_
       refine tu 20 ?_
       refine tu 21 ?_
       refine tu 22 ?_
       refine tk 23 ?_
       refine tk 24 ?_
       refine tk 25 ?_
       refine tk 26 ?_
       refine tk 27 ?_
       refine tk 28 ?_
       refine tk 29 ?_
       refine tk 30 ?_
       refine tk 31 ?_
       refine tk 32 ?_
       refine tk 33 ?_
       refine tk 34 ?_
       refine wpAnyH_ready (rs := [35]) (by kernel_rfl) (by simp) ?_
       refine AllReadyH.cons rfl (fun K hK => ?_) AllReadyH.nil
       go_simp
       refine (specKinds A1 A9 s[i].cols.length c1 v.vals.length c9 _ _ _ _ _ s[i].cols v.vals ok _ (s1.drew ClR.stays) hvv HCN.out HN9.out).mono ?_
       rintro e wd ⟨rfl, hqd⟩
       rw [HK.out]
       go_wp2_with fail
       refine hK.out _ _ ⟨below_keep hqd _ _ hHeld.1, below_keep hqd _ _ hHeld.2.1, below_keep hqd _ _ hHeld.2.2.1, below_keep hqd _ _ hHeld.2.2.2.1, below_keep hqd _ _ hHeld.2.2.2.2.1, below_keep hqd _ _ hHeld.2.2.2.2.2.1, below_keep hqd _ _ hHeld.2.2.2.2.2.2.1, below_keep hqd _ _ hHeld.2.2.2.2.2.2.2⟩ (fun hHeld => ?_)
       clear hK K
       (try simp only [Act.put, pz0, pz1, pz2, pz3, pz4, pz5])
       refine tk 36 ?_
       refine tk 37 ?_
       refine wpAnyH_done (by kernel_rfl) ?_ _
       refine NoPanic.normal ?_
       have hz := hb.drew.trans (hqd.mono hb.drew.size)
       have hrz := (hrs.drew RwR.stays).below RwR.stays hqd
       clear hHeld
       go_wp2_with fail
       go_roundw
       case rel => exact ⟨k + 1, v.id, by omega, by go_num, Lib.hid HG.out, Lib.hid HL2.out, hrz, hz⟩
       case measure => simp [intOf]; omega
     case neg =>
      obtain ⟨p, hp⟩ : ∃ p, p + 1 = k := ⟨k - 1, by omega⟩
      obtain ⟨hpl, p0⟩ := hpre p hp
      have hlp := hla.2.2 p hp hpl
      generalize db[i].rows[p] = u at *
      have e0 : decide ((0 : Int) < (k : Int)) = true := decide_eq_true (by omega)
      have e0n : decide (0 < k) = true := decide_eq_true (by omega)
      have e1 : (k : Int) - 1 = (p : Int) := by omega
      have k0 : (0 : Int) ≤ p := by omega
      have k1 : (p : Int) < db[i].rows.length := by omega
      have e2 : IntKind.i64.wrap (p : Int) = (p : Int) := IntWalk.i64_in _ (by omega)
      clear hk0 hpre hp
      by_cases hpv : v.id ≤ u.id
      ·skip
       have hge : decide (v.id ≤ u.id) = true := decide_eq_true hpv
       have hgf : decide (u.id < v.id) = false := decide_eq_false (by omega)
       have hgl : decide (v.id ≤ last) = true := decide_eq_true (by omega)
       have HF := Lib.hid (hbad (by rw [hst, decide_eq_false (p := last < v.id) (by omega)]; rfl))
       clear hst hbad
       go_wp2_with fail
       refine wp_region_noPanic ?_
       refine wp_region_held_drew (S := fun w' => w'.cell? ⟨bl, offl + k * 2, none⟩ = some (.int .i64 v.id) ∧ w'.cell? ⟨bl, offl + k * 2 + 1, none⟩ = some (.slice A9 v.vals.length c9) ∧ w'.cell? ⟨b, off + i * 6, none⟩ = some (.string s[i].name) ∧ w'.cell? ⟨b, off + i * 6 + 1, none⟩ = some (.slice A1 s[i].cols.length c1) ∧ w'.cell? ⟨b, off + i * 6 + 2, none⟩ = some (.slice A2 n2 c2) ∧ w'.cell? ⟨b, off + i * 6 + 3, none⟩ = some (.slice A3 n3 c3) ∧ w'.cell? ⟨b, off + i * 6 + 4, none⟩ = some (.slice A4 n4 c4) ∧ w'.cell? ⟨b, off + i * 6 + 5, none⟩ = some (.slice A5 n5 c5) ∧ w'.cell? ⟨bl, offl + p * 2, none⟩ = some (.int .i64 u.id)) (by kernel_rfl) ⟨r0, r1, q0, q1, q2, q3, q4, q5, p0⟩ (fun hHeld => ?_)
       refine tk 0 ?_
       refine tk 1 ?_
       refine tk 2 ?_
       refine tk 3 ?_
       refine tk 4 ?_
       refine wpAnyH_ready (rs := [5]) (by kernel_rfl) (by simp) ?_
       refine AllReadyH.cons rfl (fun K hK => ?_) AllReadyH.nil
       go_simp
       refine (specIn _ _ _ _).mono ?_
       rintro e wc ⟨rfl, rfl⟩
       rw [HIN.out]
       go_wp2_with fail
       refine hK.out _ _ hHeld (fun hHeld => ?_)
       clear hK K
       (try simp only [Act.put, pz0, pz1, pz2, pz3, pz4, pz5])
       refine tk 6 ?_
       refine tk 7 ?_
       refine tk 8 ?_
       refine tk 9 ?_
       refine tk 10 ?_
       refine tk 11 ?_
       refine tk 12 ?_
       refine tk 13 ?_
       refine tk 14 ?_
       refine tk 15 ?_
       refine tk 16 ?_
       refine tk 17 ?_
       refine tk 18 ?_
       refine tk 19 ?_
       refine tk 20 ?_
       refine tk 21 ?_
       refine tk 22 ?_
       refine tk 23 ?_
       refine tk 24 ?_
       refine tk 25 ?_
       refine tu 26 ?_
       refine tu 27 ?_
       refine tu 28 ?_
       refine tu 29 ?_
       refine tu 30 ?_
       refine tu 31 ?_
       refine tu 32 ?_
       refine tu 33 ?_
       refine tu 34 ?_
       refine tu 35 ?_
       refine tu 36 ?_
       refine tk 37 ?_
       refine wpAnyH_done (by kernel_rfl) ?_ _
       refine NoPanic.normal ?_
       have hz := hb.drew
       clear hHeld
       go_wp2_with fail
       go_ret
       exact ⟨retB HF.out.symm, hz⟩
      have hge : decide (v.id ≤ u.id) = false := decide_eq_false hpv
      have hgf : decide (u.id < v.id) = true := decide_eq_true (by omega)
      have hgl : decide (v.id ≤ last) = false := decide_eq_false (by omega)
      cases hkd : kindsB s[i].cols v.vals
      ·skip
       have HK := Lib.hid hkd
       have HF := Lib.hid (hbad (by rw [hst, hkd]; simp))
       clear hkd hst hbad
       go_wp2_with fail
       refine wp_region_noPanic ?_
       refine wp_region_held_drew (S := fun w' => w'.cell? ⟨bl, offl + k * 2, none⟩ = some (.int .i64 v.id) ∧ w'.cell? ⟨bl, offl + k * 2 + 1, none⟩ = some (.slice A9 v.vals.length c9) ∧ w'.cell? ⟨b, off + i * 6, none⟩ = some (.string s[i].name) ∧ w'.cell? ⟨b, off + i * 6 + 1, none⟩ = some (.slice A1 s[i].cols.length c1) ∧ w'.cell? ⟨b, off + i * 6 + 2, none⟩ = some (.slice A2 n2 c2) ∧ w'.cell? ⟨b, off + i * 6 + 3, none⟩ = some (.slice A3 n3 c3) ∧ w'.cell? ⟨b, off + i * 6 + 4, none⟩ = some (.slice A4 n4 c4) ∧ w'.cell? ⟨b, off + i * 6 + 5, none⟩ = some (.slice A5 n5 c5) ∧ w'.cell? ⟨bl, offl + p * 2, none⟩ = some (.int .i64 u.id)) (by kernel_rfl) ⟨r0, r1, q0, q1, q2, q3, q4, q5, p0⟩ (fun hHeld => ?_)
       refine tk 0 ?_
       refine tk 1 ?_
       refine tk 2 ?_
       refine tk 3 ?_
       refine tk 4 ?_
       refine wpAnyH_ready (rs := [5]) (by kernel_rfl) (by simp) ?_
       refine AllReadyH.cons rfl (fun K hK => ?_) AllReadyH.nil
       go_simp
       refine (specIn _ _ _ _).mono ?_
       rintro e wc ⟨rfl, rfl⟩
       rw [HIN.out]
       go_wp2_with fail
       refine hK.out _ _ hHeld (fun hHeld => ?_)
       clear hK K
       (try simp only [Act.put, pz0, pz1, pz2, pz3, pz4, pz5])
       refine tk 6 ?_
       refine tk 7 ?_
       refine tk 8 ?_
       refine tk 9 ?_
       refine tk 10 ?_
       refine tk 11 ?_
       refine tk 12 ?_
       refine tk 13 ?_
       refine tk 14 ?_
       refine tk 15 ?_
       refine tk 16 ?_
       refine tk 17 ?_
       refine tk 18 ?_
       refine tk 19 ?_
       refine tk 20 ?_
       refine tk 21 ?_
       refine tk 22 ?_
       refine tk 23 ?_
       refine tk 24 ?_
       refine tk 25 ?_
       refine tk 26 ?_
       refine tk 27 ?_
       refine tk 28 ?_
       refine tk 29 ?_
       refine tk 30 ?_
       refine tk 31 ?_
       refine tk 32 ?_
       refine tk 33 ?_
       refine tk 34 ?_
       refine wpAnyH_ready (rs := [35]) (by kernel_rfl) (by simp) ?_
       refine AllReadyH.cons rfl (fun K hK => ?_) AllReadyH.nil
       go_simp
       refine (specKinds A1 A9 s[i].cols.length c1 v.vals.length c9 _ _ _ _ _ s[i].cols v.vals ok _ (s1.drew ClR.stays) hvv HCN.out HN9.out).mono ?_
       rintro e wd ⟨rfl, hqd⟩
       rw [HK.out]
       go_wp2_with fail
       refine hK.out _ _ ⟨below_keep hqd _ _ hHeld.1, below_keep hqd _ _ hHeld.2.1, below_keep hqd _ _ hHeld.2.2.1, below_keep hqd _ _ hHeld.2.2.2.1, below_keep hqd _ _ hHeld.2.2.2.2.1, below_keep hqd _ _ hHeld.2.2.2.2.2.1, below_keep hqd _ _ hHeld.2.2.2.2.2.2.1, below_keep hqd _ _ hHeld.2.2.2.2.2.2.2.1, below_keep hqd _ _ hHeld.2.2.2.2.2.2.2.2⟩ (fun hHeld => ?_)
       clear hK K
       (try simp only [Act.put, pz0, pz1, pz2, pz3, pz4, pz5])
       refine tk 36 ?_
       refine tk 37 ?_
       refine wpAnyH_done (by kernel_rfl) ?_ _
       refine NoPanic.normal ?_
       have hz := hb.drew.trans (hqd.mono hb.drew.size)
       have hrz := (hrs.drew RwR.stays).below RwR.stays hqd
       clear hHeld
       go_wp2_with fail
       go_ret
       exact ⟨retB HF.out.symm, hz⟩
      ·skip
       have HK := Lib.hid hkd
       have HG := Lib.hid (show idsGo s[i].cols 0 db[i].rows = idsGo s[i].cols v.id (db[i].rows.drop (k + 1)) by rw [HGO.out, hst, decide_eq_true (p := last < v.id) (by omega), decide_eq_true (p := v.id ≤ 1000000000) (by omega), hkd]; rfl)
       have HL2 := Lib.hid (show 0 ≤ v.id ∧ (k + 1 = 0 → v.id = 0) ∧ (∀ q (hq : q + 1 = k + 1) (h2 : q < db[i].rows.length), db[i].rows[q].id = v.id) from ⟨by omega, by omega, fun q hq h2 => by (obtain rfl : q = k := (by omega)); exact HVK.out⟩)
       clear hkd hst hbad
       go_wp2_with fail
       refine wp_region_noPanic ?_
       refine wp_region_held_drew (S := fun w' => w'.cell? ⟨bl, offl + k * 2, none⟩ = some (.int .i64 v.id) ∧ w'.cell? ⟨bl, offl + k * 2 + 1, none⟩ = some (.slice A9 v.vals.length c9) ∧ w'.cell? ⟨b, off + i * 6, none⟩ = some (.string s[i].name) ∧ w'.cell? ⟨b, off + i * 6 + 1, none⟩ = some (.slice A1 s[i].cols.length c1) ∧ w'.cell? ⟨b, off + i * 6 + 2, none⟩ = some (.slice A2 n2 c2) ∧ w'.cell? ⟨b, off + i * 6 + 3, none⟩ = some (.slice A3 n3 c3) ∧ w'.cell? ⟨b, off + i * 6 + 4, none⟩ = some (.slice A4 n4 c4) ∧ w'.cell? ⟨b, off + i * 6 + 5, none⟩ = some (.slice A5 n5 c5) ∧ w'.cell? ⟨bl, offl + p * 2, none⟩ = some (.int .i64 u.id)) (by kernel_rfl) ⟨r0, r1, q0, q1, q2, q3, q4, q5, p0⟩ (fun hHeld => ?_)
       refine tk 0 ?_
       refine tk 1 ?_
       refine tk 2 ?_
       refine tk 3 ?_
       refine tk 4 ?_
       refine wpAnyH_ready (rs := [5]) (by kernel_rfl) (by simp) ?_
       refine AllReadyH.cons rfl (fun K hK => ?_) AllReadyH.nil
       go_simp
       refine (specIn _ _ _ _).mono ?_
       rintro e wc ⟨rfl, rfl⟩
       rw [HIN.out]
       go_wp2_with fail
       refine hK.out _ _ hHeld (fun hHeld => ?_)
       clear hK K
       (try simp only [Act.put, pz0, pz1, pz2, pz3, pz4, pz5])
       refine tk 6 ?_
       refine tk 7 ?_
       refine tk 8 ?_
       refine tk 9 ?_
       refine tk 10 ?_
       refine tk 11 ?_
       refine tk 12 ?_
       refine tk 13 ?_
       refine tk 14 ?_
       refine tk 15 ?_
       refine tk 16 ?_
       refine tk 17 ?_
       refine tk 18 ?_
       refine tk 19 ?_
       refine tk 20 ?_
       refine tk 21 ?_
       refine tk 22 ?_
       refine tk 23 ?_
       refine tk 24 ?_
       refine tk 25 ?_
       refine tk 26 ?_
       refine tk 27 ?_
       refine tk 28 ?_
       refine tk 29 ?_
       refine tk 30 ?_
       refine tk 31 ?_
       refine tk 32 ?_
       refine tk 33 ?_
       refine tk 34 ?_
       refine wpAnyH_ready (rs := [35]) (by kernel_rfl) (by simp) ?_
       refine AllReadyH.cons rfl (fun K hK => ?_) AllReadyH.nil
       go_simp
       refine (specKinds A1 A9 s[i].cols.length c1 v.vals.length c9 _ _ _ _ _ s[i].cols v.vals ok _ (s1.drew ClR.stays) hvv HCN.out HN9.out).mono ?_
       rintro e wd ⟨rfl, hqd⟩
       rw [HK.out]
       go_wp2_with fail
       refine hK.out _ _ ⟨below_keep hqd _ _ hHeld.1, below_keep hqd _ _ hHeld.2.1, below_keep hqd _ _ hHeld.2.2.1, below_keep hqd _ _ hHeld.2.2.2.1, below_keep hqd _ _ hHeld.2.2.2.2.1, below_keep hqd _ _ hHeld.2.2.2.2.2.1, below_keep hqd _ _ hHeld.2.2.2.2.2.2.1, below_keep hqd _ _ hHeld.2.2.2.2.2.2.2.1, below_keep hqd _ _ hHeld.2.2.2.2.2.2.2.2⟩ (fun hHeld => ?_)
       clear hK K
       (try simp only [Act.put, pz0, pz1, pz2, pz3, pz4, pz5])
       refine tk 36 ?_
       refine tk 37 ?_
       refine wpAnyH_done (by kernel_rfl) ?_ _
       refine NoPanic.normal ?_
       have hz := hb.drew.trans (hqd.mono hb.drew.size)
       have hrz := (hrs.drew RwR.stays).below RwR.stays hqd
       clear hHeld
       go_wp2_with fail
       go_roundw
       case rel => exact ⟨k + 1, v.id, by omega, by go_num, Lib.hid HG.out, Lib.hid HL2.out, hrz, hz⟩
       case measure => simp [intOf]; omega
set_option maxRecDepth 100000 in
set_option maxHeartbeats 1000000 in
theorem specDbOk (AS AD : Option Addr) (nS cS nD cD : Nat) (s : List Tb) (db : List Dt) (ok ok' : Nat → Prop) (w : World) (hs : Sl TbR 6 ok w AS nS s) (hd : Sl DtR 1 ok' w AD nD db) (hcp : nS ≤ cS) (hsz : szL Tb.sz s ≤ 1048576) (hdz : szL Dt.sz db ≤ 1048576) :
  Calls Tryz.prog 91 #[.slice AS nS cS, .slice AD nD cD] w fun e w' => e = .returned (.bool (dbB s db)) ∧ Below w.heap.size w w' := by
 have hs1 := hs.stays TbR.stays (ok' := fun _ => True) (fun _ _ => trivial) (fun _ _ _ h => h)
 have hd1 := hd.stays DtR.stays (ok' := fun _ => True) (fun _ _ => trivial) (fun _ _ _ h => h)
 have HVS := Lib.hid (rows_le hdz)
 have HSZ := Lib.hid hsz
 have HDZ := Lib.hid hdz
 have HCP := Lib.hid hcp
 clear hsz hdz hcp hs hd
 cases hB : schemaB s
 ·have HB := Lib.hid hB
  have HF := Lib.hid (show dbB s db = false by unfold dbB; rw [hB]; rfl)
  clear hB
  go_enter Tryz.func91, Tryz.ntmps91
  go_wp2_with fail
  refine (specSchemaOk AS nS cS s _ _ hs1 HCP.out HSZ.out).mono ?_
  rintro e w1 ⟨rfl, hb1⟩
  rw [HB.out]
  go_wp2_with fail
  go_ret
  exact ⟨retB HF.out.symm, hb1⟩
 ·have HB := Lib.hid hB
  clear hB
  go_enter Tryz.func91, Tryz.ntmps91
  go_wp2_with fail
  refine (specSchemaOk AS nS cS s _ _ hs1 HCP.out HSZ.out).mono ?_
  rintro e w1 ⟨rfl, hb1⟩
  rw [HB.out]
  go_wp2_with fail
  refine (specL4Db AS AD nS cS nD cD s db _ _ (hs1.below TbR.stays hb1) (hd1.below DtR.stays hb1) HSZ.out HDZ.out HVS.out HB.out).mono ?_
  rintro e w2 ⟨rfl, hb2⟩
  go_wp2_with fail
  go_ret
  exact ⟨rfl, hb1.trans (hb2.mono hb1.size)⟩
end Go.Proofs.YtciaidjmehelpaaGreat
namespace Go.Proofs.YtciaidjmehelpaaGreat
open Go.RowKit Go.Maps
theorem idxK_take {cols : List Int} {key : List Vl} {rows : List Rw} {k : Nat} (h : k < rows.length) : idL rows (idxK cols key rows (k + 1)) = if hitB cols key rows[k].vals then idL rows (idxK cols key rows k) ++ [rows[k].id] else idL rows (idxK cols key rows k) := by
 cases hr : hitB cols key rows[k].vals
 ·rw [idxK_no h hr]; rfl
 ·rw [idxK_yes h hr, idL_app _ _ _ h]; rfl
set_option maxRecDepth 100000 in
set_option maxHeartbeats 2000000 in
theorem specL4Find (AL AC AK : Option Addr) (nL cL nC cC nK cK : Nat) (rows : List Rw) (cols : List Int) (key : List Vl) (ok ok' ok'' : Nat → Prop) (w : World)
  (hr : Sl RwR 2 ok w AL nL rows) (hc : Sl IntR 1 ok' w AC nC cols) (hk : Sl VlR 3 ok'' w AK nK key) (hrn : nL ≤ 1048576) (hcn : nC ≤ 1048576) (hkn : nK ≤ 1048576) (hvn : ∀ r ∈ rows, r.vals.length ≤ 1048576) (hall : ∀ r ∈ rows, cols.all (inV r.vals) = true) :
  Calls Tryz.prog 195 #[.agg #[.slice AL nL cL], .slice AC nC cC, .slice AK nK cK] w (MadeI (findL cols key rows) w) := by
 obtain rfl : rows.length = nL := hr.1
 have HALL := Lib.hid hall
 have HVN := Lib.hid hvn
 obtain ⟨i0, hi, hz0, hz1, hz2⟩ := info_parts infoIntI
 have H1 := Lib.hid hi
 have H2 := Lib.hid hz0
 have H3 := Lib.hid hz1
 have H4 := Lib.hid hz2
 clear hall hvn hi hz0 hz1 hz2
 have rb := (Row.new w 55 #[.slice AL rows.length cL]).alloc (.cells #[] 2)
 have hb0 := (((Below.refl w.heap.size w).alloc (Nat.le_refl _) (.cells #[.slice AL rows.length cL] 55)).alloc (by simp) (.cells #[] 2))
 have ho0 : Hid (OwnI ((w.alloc (.cells #[.slice AL rows.length cL] 55)).alloc (.cells #[] 2)) (w.heap.size + 1) (.slice (some ⟨w.heap.size + 1, 0, none⟩) 0 0) []) := by
  have h := OwnI.lit (w.alloc (.cells #[.slice AL rows.length cL] 55)) (base := w.heap.size + 1) (by simp)
  have e : (w.alloc (.cells #[.slice AL rows.length cL] 55)).heap.size = w.heap.size + 1 := by simp
  rw [e] at h
  exact Lib.hid h
 go_enter Tryz.func195, Tryz.ntmps195
 go_wp2_with fail
 have hsz0 : w.heap.size + 1 ≤ ((w.alloc (.cells #[.slice AL rows.length cL] 55)).alloc (.cells #[] 2)).heap.size := by simp
 have HSZ0 := Lib.hid hsz0
 clear hsz0
 generalize (w.alloc (.cells #[.slice AL rows.length cL] 55)).alloc (.cells #[] 2) = z0 at *
 go_loopw [7, 8] (fun v i wr => ∃ k : Nat, k ≤ rows.length ∧ i = .int .i64 k ∧ Hid (OwnI wr (w.heap.size + 1) v (idL rows (idxK cols key rows k))) ∧ Row wr w.heap.size 55 #[.slice AL rows.length cL] ∧ Hid (w.heap.size + 1 ≤ wr.heap.size) ∧ Below w.heap.size w wr) (fun _ i _ => rows.length - (intOf i).toNat)
 case atStart => exact ⟨0, by omega, rfl, by exact ho0, rb, HSZ0, hb0⟩
 case round =>
  clear hb0 ho0 rb
  obtain ⟨k, hk', rfl, hown, rb, hsz, hb⟩ := hrel
  obtain ⟨c0, -⟩ := rb.all1
  by_cases hlt : k < rows.length
  ·obtain ⟨bl, ol, A1, n1, c1, -, rfl, q0, q1, hv, -⟩ := RwR.at_ (hr.below RwR.stays hb) hlt
   obtain rfl : rows[k].vals.length = n1 := hv.1
   have i0' : (0 : Int) ≤ k := by omega
   have i1 : (k : Int) < rows.length := by omega
   have HLEN := Lib.hid (show (idL rows (idxK cols key rows k)).length ≤ k by unfold idL; rw [List.length_map]; exact idxK_len cols key rows k)
   have HC := Lib.hid (specL4Key AC A1 nC cC rows[k].vals.length c1 cols rows[k].vals _ _ wr (hc.below IntR.stays hb) hv hcn (HVN.out _ (List.getElem_mem hlt)) (HALL.out _ (List.getElem_mem hlt)))
   have HKL := Lib.hid (show (keyL cols rows[k].vals).length ≤ 1048576 by rw [show (keyL cols rows[k].vals).length = cols.length by simp [keyL], hc.1]; exact hcn)
   have HT := Lib.hid (idxK_take (cols := cols) (key := key) hlt)
   have HE := Lib.hid (hitB_eq cols key rows[k].vals)
   have Q0 := Lib.hid q0
   clear hv
   go_wp2_with fail
   refine HC.out.mono ?_
   rintro e w2 ⟨AO, cO, rfl, hcO, hsl, hb2⟩
   have hown' := Lib.hid (hown.out.below hb2)
   have rb := rb.below hb2
   have hbz := hb.trans (hb2.mono hb.size)
   have hsz2 := Lib.hid (Nat.le_trans hsz.out hb2.size)
   clear q0 q1
   have q0 := below_keep hb2 _ _ Q0.out
   have hkey := (hk.below VlR.stays hb).below VlR.stays hb2
   have HS := Lib.hid (specSameVals AO AK _ cO nK cK (keyL cols rows[k].vals) key _ _ w2 hsl hkey HKL.out hkn)
   clear hown hb hb2 HC hsl hkey Q0 c0 hsz
   cases ha : knownL (keyL cols rows[k].vals)
   ·have HN := Lib.hid (show idL rows (idxK cols key rows (k + 1)) = idL rows (idxK cols key rows k) by rw [HT.out, HE.out, ha]; rfl)
    clear ha q0
    go_wp2_with fail
    go_roundw
    case rel => exact ⟨k + 1, by omega, by go_num, Lib.hid (by rw [HN.out]; exact hown'.out), rb, hsz2, hbz⟩
    case measure => simp [intOf]; omega
   ·cases hsm : eqlL (keyL cols rows[k].vals) key
    ·have HN := Lib.hid (show idL rows (idxK cols key rows (k + 1)) = idL rows (idxK cols key rows k) by rw [HT.out, HE.out, ha, hsm]; rfl)
     have HSM := Lib.hid hsm
     clear ha hsm q0
     go_wp2_with fail
     refine HS.out.mono ?_
     rintro e w3 ⟨rfl, hb3⟩
     rw [HSM.out]
     have hown'' := Lib.hid (hown'.out.below hb3)
     go_wp2_with fail
     go_roundw
     case rel => exact ⟨k + 1, by omega, by go_num, Lib.hid (by rw [HN.out]; exact hown''.out), rb.below hb3, Lib.hid (Nat.le_trans hsz2.out hb3.size), hbz.trans (hb3.mono hbz.size)⟩
     case measure => simp [intOf]; omega
    ·have HN := Lib.hid (show idL rows (idxK cols key rows (k + 1)) = idL rows (idxK cols key rows k) ++ [rows[k].id] by rw [HT.out, HE.out, ha, hsm]; rfl)
     have HSM := Lib.hid hsm
     clear ha hsm
     go_wp2_with fail
     refine HS.out.mono ?_
     rintro e w3 ⟨rfl, hb3⟩
     rw [HSM.out]
     have hoz := Lib.hid (hown'.out.below hb3)
     have rb := rb.below hb3
     have hbw := hbz.trans (hb3.mono hbz.size)
     have q0 := below_keep hb3 _ _ q0
     have hsz3 : w.heap.size + 1 ≤ w3.heap.size := Nat.le_trans hsz2.out hb3.size
     obtain ⟨c0, -⟩ := rb.all1
     have hRB := Lib.hid rb
     have hne := Lib.hid (fun j hj => Nat.ne_of_gt (show w.heap.size < j from (OwnI.block_lt hoz.out j hj).1))
     clear hown' hbz hb3 rb hsz2 HS
     generalize hgv : idL rows (idxK cols key rows k) = ys at *
     have HGV := Lib.hid hgv
     clear hgv
     go_wp2_with (at_builtin; refine wpList_append_own _ rfl _ _ 29 rfl (w.heap.size + 1) 2 i0 (.int .i64 0) 1 8 Tryz.underlying29 H1.out H2.out H3.out H4.out rfl (by decide) _ _ _ rfl (World.ownsRow.alloc hoz.out _) ⟨_, 0, none⟩ 1 1 [.int .i64 rows[k].id] rfl rfl ?c1 ?c2 ?c3 ?c4 ?c5 ?_)
     case c1 => exact cell_one_new _ _ _
     case c2 => intro u hu; simp at hu; subst hu; rfl
     case c3 => have := HLEN.out; unfold maxLen; omega
     case c4 => have := HLEN.out; omega
     case c5 => simp; omega
     intro v' w4 hown4 hgrow _
     have R := Lib.hid (OwnI.app hoz.out hsz3 hown4 hgrow)
     have rb4 := grown_rowK hgrow (hRB.out.alloc _) hne.out
     have HSZ4 := Lib.hid (Nat.le_trans hsz3 R.out.2.size)
     clear hown4 hgrow hoz hRB c0 q0
     go_wp2_with fail
     go_roundw
     case rel => exact ⟨k + 1, by omega, by go_num, Lib.hid (by rw [HN.out]; exact R.out.1), rb4, HSZ4, hbw.trans (R.out.2.mono (Nat.le_succ _))⟩
     case measure => simp [intOf]; omega
  ·obtain rfl : k = rows.length := by omega
   obtain ⟨AO, cO, rfl, hcO, hcm, hsl⟩ := hown.out.sl
   have HSL := Lib.hid hsl
   clear hown hsl
   go_wp2_with fail
   go_ret
   exact ⟨AO, cO, rfl, hcO, HSL.out.stays IntR.stays (fun b hb => hb.mono (Nat.le_succ _)) (fun _ _ _ h => h), hb⟩
def twiceB (cols : List Int) (rows : List Rw) (x : Rw) : Bool := knownL (keyL cols x.vals) && (findL cols (keyL cols x.vals) rows).any (fun i => i != x.id)
def uniqueB (t : Tb) (rows : List Rw) (x : Rw) : Bool := !(twiceB t.key rows x) && t.uniqs.all (fun u => !(twiceB u.cols rows x))
theorem any_take_ne (l : List Int) (v : Int) (k : Nat) (h : k < l.length) : (l.take (k + 1)).any (fun i => i != v) = ((l.take k).any (fun i => i != v) || (l[k] != v)) := by
 rw [List.take_succ_eq_append_getElem h, List.any_append]; simp
theorem any_at_ne {l : List Int} {v : Int} {k : Nat} (h : k < l.length) (he : (l[k] != v) = true) : l.any (fun i => i != v) = true := by
 rw [List.any_eq_true]
 exact ⟨l[k], List.getElem_mem h, he⟩
set_option maxRecDepth 100000 in
set_option maxHeartbeats 2000000 in
theorem specL5Twice (AL AC AX : Option Addr) (nL cL nC cC nX cX : Nat) (rows : List Rw) (cols : List Int) (x : Rw) (ok okc okx : Nat → Prop) (w : World)
  (hr : Sl RwR 2 ok w AL nL rows) (hc : Sl IntR 1 okc w AC nC cols) (hx : Sl VlR 3 okx w AX nX x.vals) (hrn : nL ≤ 1048576) (hcn : nC ≤ 1048576) (hxn : nX ≤ 1048576) (hvn : ∀ r ∈ rows, r.vals.length ≤ 1048576) (hall : ∀ r ∈ rows, cols.all (inV r.vals) = true) (hxa : cols.all (inV x.vals) = true) :
  Calls Tryz.prog 200 #[.agg #[.slice AL nL cL], .slice AC nC cC, .agg #[.int .i64 x.id, .slice AX nX cX]] w fun e w' => e = .returned (.bool (twiceB cols rows x)) ∧ Below w.heap.size w w' := by
 obtain rfl : rows.length = nL := hr.1
 have HVN := Lib.hid hvn
 have HALL := Lib.hid hall
 have HXA := Lib.hid hxa
 have HRL := Lib.hid hrn
 clear hvn hall hxa
 have hb0 := (((Below.refl w.heap.size w).alloc (Nat.le_refl _) (.cells #[.slice AL rows.length cL] 55)).alloc (by simp) (.cells #[.int .i64 x.id, .slice AX nX cX] 57))
 have rd := (Row.new w 55 #[.slice AL rows.length cL]).alloc (.cells #[.int .i64 x.id, .slice AX nX cX] 57)
 have rx := Row.newAt (w.alloc (.cells #[.slice AL rows.length cL] 55)) 57 #[.int .i64 x.id, .slice AX nX cX] (w.heap.size + 1) (by simp)
 obtain ⟨c0, -⟩ := rd.all1
 obtain ⟨⟨d0, d1⟩, -⟩ := rx.all2
 have RD := Lib.hid rd
 have RX := Lib.hid rx
 clear rd rx
 go_enter Tryz.func200, Tryz.ntmps200
 go_wp2_with fail
 generalize (w.alloc (.cells #[.slice AL rows.length cL] 55)).alloc (.cells #[.int .i64 x.id, .slice AX nX cX] 57) = z0 at *
 refine (specL4Key AC AX nC cC nX cX cols x.vals _ _ _ (hc.below IntR.stays hb0) (hx.below VlR.stays hb0) hcn hxn HXA.out).mono ?_
 rintro e w2 ⟨AO, cO, rfl, hcO, hsl, hb2⟩
 have hbz := hb0.trans (hb2.mono hb0.size)
 clear c0 d0 d1
 obtain ⟨c0, -⟩ := (RD.out.below hb2).all1
 have RX2 := Lib.hid (RX.out.below hb2)
 have HKL := Lib.hid (show (keyL cols x.vals).length ≤ 1048576 by rw [show (keyL cols x.vals).length = cols.length by simp [keyL], hc.1]; exact hcn)
 have HSL := Lib.hid hsl
 clear hsl
 cases hk : knownL (keyL cols x.vals)
 ·have HR := Lib.hid (show twiceB cols rows x = false by unfold twiceB; rw [hk]; rfl)
  clear hk
  go_wp2_with fail
  go_ret
  exact ⟨retB HR.out.symm, hbz⟩
 have HR := Lib.hid (show twiceB cols rows x = (findL cols (keyL cols x.vals) rows).any (fun i => i != x.id) by unfold twiceB; rw [hk]; rfl)
 clear hk
 go_wp2_with fail
 refine (specL4Find AL AC AO rows.length cL nC cC (keyL cols x.vals).length cO rows cols (keyL cols x.vals) _ _ _ _ (hr.below RwR.stays hbz) (hc.below IntR.stays hbz) HSL.out hrn hcn HKL.out HVN.out HALL.out).mono ?_
 rintro e w3 ⟨AF, cF, rfl, hcF, hfl, hb3⟩
 have hby := hbz.trans (hb3.mono hbz.size)
 have HFL := Lib.hid (findL_len cols (keyL cols x.vals) rows)
 have RX3 := Lib.hid (RX2.out.below hb3)
 clear c0
 generalize hgv : findL cols (keyL cols x.vals) rows = ids at *
 have HGV := Lib.hid hgv
 clear hgv
 have hin : ids.length ≤ 1048576 := by have h1 := HFL.out; have h2 := HRL.out; omega
 go_wp2_with fail
 go_loopw [10] (fun i wr => ∃ k : Nat, k ≤ ids.length ∧ i = .int .i64 k ∧ Hid ((ids.take k).any (fun i => i != x.id) = false) ∧ Below w3.heap.size w3 wr) (fun i _ => ids.length - (intOf i).toNat)
 case atStart => exact ⟨0, by omega, rfl, Lib.hid (by simp), Below.refl _ _⟩
 case round =>
  obtain ⟨k, hk', rfl, hno, hb⟩ := hrel
  obtain ⟨⟨d0, d1⟩, -⟩ := (RX3.out.below hb).all2
  by_cases hlt : k < ids.length
  ·obtain ⟨bf, of, -, rfl, q0⟩ := IntR.at_ (hfl.below IntR.stays hb) hlt
   have i0 : (0 : Int) ≤ k := by omega
   have i1 : (k : Int) < ids.length := by omega
   have hst := any_take_ne ids x.id k hlt
   rw [hno.out, Bool.false_or] at hst
   cases he : (ids[k] != x.id)
   ·have HA := Lib.hid (hst.trans he)
    clear hst
    go_wp2_with fail
    go_quiet (fail)
    go_wp2_with fail
    go_roundw
    case rel => exact ⟨k + 1, by omega, by go_num, HA, below_dN hb _⟩
    case measure => simp [intOf]; omega
   ·have HF := Lib.hid (HR.out.trans (any_at_ne hlt he))
    clear hst
    go_wp2_with fail
    go_quiet (fail)
    go_wp2_with fail
    go_ret
    exact ⟨retB HF.out.symm, hby.trans ((below_dN hb _).mono hby.size)⟩
  ·obtain rfl : k = ids.length := by omega
   have h1 := hno.out
   rw [List.take_of_length_le (Nat.le_refl _)] at h1
   have HF := Lib.hid (HR.out.trans h1)
   clear hno h1
   go_wp2_with fail
   go_ret
   exact ⟨retB HF.out.symm, hby.trans (hb.mono hby.size)⟩
theorem uniq_take (t : Tb) (rows : List Rw) (x : Rw) (k : Nat) (h : k < t.uniqs.length) : (t.uniqs.take (k + 1)).all (fun u => !(twiceB u.cols rows x)) = ((t.uniqs.take k).all (fun u => !(twiceB u.cols rows x)) && !(twiceB t.uniqs[k].cols rows x)) := by
 rw [List.take_succ_eq_append_getElem h, List.all_append]; simp
theorem uniq_no {t : Tb} {rows : List Rw} {x : Rw} {k : Nat} (h : k < t.uniqs.length) (hf : twiceB t.uniqs[k].cols rows x = true) : uniqueB t rows x = false := by
 unfold uniqueB
 rw [Bool.and_eq_false_iff]
 refine Or.inr ?_
 rw [List.all_eq_false]
 exact ⟨t.uniqs[k], List.getElem_mem h, by simp [hf]⟩
set_option maxRecDepth 100000 in
set_option maxHeartbeats 4000000 in
theorem specL5Unique (A1 A2 A3 A4 A5 AL AX : Option Addr) (n1 c1 n2 c2 n3 c3 n4 c4 n5 c5 nL cL nX cX : Nat) (t : Tb) (rows : List Rw) (x : Rw) (ok2 ok3 ok okx : Nat → Prop) (w : World)
  (h2 : Sl IntR 1 ok2 w A2 n2 t.key) (h3 : Sl UqR 1 ok3 w A3 n3 t.uniqs) (hr : Sl RwR 2 ok w AL nL rows) (hx : Sl VlR 3 okx w AX nX x.vals) (hrn : nL ≤ 1048576) (hkn : n2 ≤ 1048576) (hun : n3 ≤ 1048576) (hum : ∀ u ∈ t.uniqs, u.cols.length ≤ 1048576) (hxn : nX ≤ 1048576) (hvn : ∀ r ∈ rows, r.vals.length ≤ 1048576)
  (hkey : ∀ r ∈ rows, t.key.all (inV r.vals) = true) (hkx : t.key.all (inV x.vals) = true) (huq : ∀ u ∈ t.uniqs, (∀ r ∈ rows, u.cols.all (inV r.vals) = true) ∧ u.cols.all (inV x.vals) = true) :
  Calls Tryz.prog 192 #[.agg #[.string t.name, .slice A1 n1 c1, .slice A2 n2 c2, .slice A3 n3 c3, .slice A4 n4 c4, .slice A5 n5 c5], .agg #[.slice AL nL cL], .agg #[.int .i64 x.id, .slice AX nX cX]] w fun e w' => e = .returned (.bool (uniqueB t rows x)) ∧ Below w.heap.size w w' := by
 obtain rfl : t.uniqs.length = n3 := h3.1
 have HVN := Lib.hid hvn
 have HKEY := Lib.hid hkey
 have HKX := Lib.hid hkx
 have HUQ := Lib.hid huq
 have HUM := Lib.hid hum
 clear hvn hkey hkx huq hum
 have hb0 := ((((Below.refl w.heap.size w).alloc (Nat.le_refl _) (.cells #[.string t.name, .slice A1 n1 c1, .slice A2 n2 c2, .slice A3 t.uniqs.length c3, .slice A4 n4 c4, .slice A5 n5 c5] 82)).alloc (by simp) (.cells #[.slice AL nL cL] 55)).alloc (by simp; omega) (.cells #[.int .i64 x.id, .slice AX nX cX] 57))
 have RT := Lib.hid (((Row.new w 82 #[.string t.name, .slice A1 n1 c1, .slice A2 n2 c2, .slice A3 t.uniqs.length c3, .slice A4 n4 c4, .slice A5 n5 c5]).alloc (.cells #[.slice AL nL cL] 55)).alloc (.cells #[.int .i64 x.id, .slice AX nX cX] 57))
 have RD := Lib.hid ((Row.newAt (w.alloc (.cells #[.string t.name, .slice A1 n1 c1, .slice A2 n2 c2, .slice A3 t.uniqs.length c3, .slice A4 n4 c4, .slice A5 n5 c5] 82)) 55 #[.slice AL nL cL] (w.heap.size + 1) (by simp)).alloc (.cells #[.int .i64 x.id, .slice AX nX cX] 57))
 have RX := Lib.hid (Row.newAt ((w.alloc (.cells #[.string t.name, .slice A1 n1 c1, .slice A2 n2 c2, .slice A3 t.uniqs.length c3, .slice A4 n4 c4, .slice A5 n5 c5] 82)).alloc (.cells #[.slice AL nL cL] 55)) 57 #[.int .i64 x.id, .slice AX nX cX] (w.heap.size + 1 + 1) (by simp))
 obtain ⟨⟨t0, t1, t2, t3, t4, t5⟩, -⟩ := RT.out.all6
 obtain ⟨c0, -⟩ := RD.out.all1
 obtain ⟨⟨d0, d1⟩, -⟩ := RX.out.all2
 go_enter Tryz.func192, Tryz.ntmps192
 go_wp2_with fail
 generalize ((w.alloc (.cells #[.string t.name, .slice A1 n1 c1, .slice A2 n2 c2, .slice A3 t.uniqs.length c3, .slice A4 n4 c4, .slice A5 n5 c5] 82)).alloc (.cells #[.slice AL nL cL] 55)).alloc (.cells #[.int .i64 x.id, .slice AX nX cX] 57) = z0 at *
 refine (specL5Twice AL A2 AX nL cL n2 c2 nX cX rows t.key x _ _ _ _ (hr.below RwR.stays hb0) (h2.below IntR.stays hb0) (hx.below VlR.stays hb0) hrn hkn hxn HVN.out HKEY.out HKX.out).mono ?_
 rintro e w1 ⟨rfl, hb1⟩
 have hbz := hb0.trans (hb1.mono hb0.size)
 have RT1 := RT.out.below hb1
 have RD1 := RD.out.below hb1
 have RX1 := RX.out.below hb1
 clear t0 t1 t2 t3 t4 t5 c0 d0 d1
 cases hk : twiceB t.key rows x
 case true =>
  have HR := Lib.hid (show uniqueB t rows x = false by unfold uniqueB; rw [hk]; rfl)
  clear hk
  go_wp2_with fail
  go_ret
  exact ⟨retB HR.out.symm, hbz⟩
 have HR := Lib.hid (show uniqueB t rows x = t.uniqs.all (fun u => !(twiceB u.cols rows x)) by unfold uniqueB; rw [hk]; rfl)
 clear hk
 go_wp2_with fail
 go_loopw [7] (fun i wr => ∃ k : Nat, k ≤ t.uniqs.length ∧ i = .int .i64 k ∧ Hid ((t.uniqs.take k).all (fun u => !(twiceB u.cols rows x)) = true) ∧ Row wr w.heap.size 82 #[.string t.name, .slice A1 n1 c1, .slice A2 n2 c2, .slice A3 t.uniqs.length c3, .slice A4 n4 c4, .slice A5 n5 c5] ∧ Row wr (w.heap.size + 1) 55 #[.slice AL nL cL] ∧ Row wr (w.heap.size + 1 + 1) 57 #[.int .i64 x.id, .slice AX nX cX] ∧ Below w.heap.size w wr) (fun i _ => t.uniqs.length - (intOf i).toNat)
 case atStart => exact ⟨0, by omega, rfl, Lib.hid (by simp), RT1, RD1, RX1, hbz⟩
 case round =>
  clear RT1 RD1 RX1 hbz hb1 hb0 RT RD RX
  obtain ⟨k, hk', rfl, hall, rt, rd, rx, hb⟩ := hrel
  obtain ⟨⟨t0, t1, t2, t3, t4, t5⟩, -⟩ := rt.all6
  obtain ⟨c0, -⟩ := rd.all1
  obtain ⟨⟨d0, d1⟩, -⟩ := rx.all2
  have RT := Lib.hid rt
  have RD := Lib.hid rd
  have RX := Lib.hid rx
  clear rt rd rx
  by_cases hlt : k < t.uniqs.length
  ·obtain ⟨bu, ou, AU, nU, cU, -, rfl, q0, hu, -⟩ := UqR.at_ (h3.below UqR.stays hb) hlt
   obtain rfl : t.uniqs[k].cols.length = nU := hu.1
   have i0 : (0 : Int) ≤ k := by omega
   have i1 : (k : Int) < t.uniqs.length := by omega
   have hst := uniq_take t rows x k hlt
   rw [hall.out, Bool.true_and] at hst
   have hno := fun hf => uniq_no (t := t) (rows := rows) (x := x) hlt hf
   have HU := Lib.hid (HUQ.out _ (List.getElem_mem hlt))
   have HC := Lib.hid (specL5Twice AL AU AX nL cL t.uniqs[k].cols.length cU nX cX rows t.uniqs[k].cols x _ _ _ wr.drew ((hr.below RwR.stays hb).drew RwR.stays) (hu.drew IntR.stays) ((hx.below VlR.stays hb).drew VlR.stays) hrn (HUM.out _ (List.getElem_mem hlt)) hxn HVN.out HU.out.1 HU.out.2)
   have hbd := hb.drew
   clear hu
   cases he : twiceB t.uniqs[k].cols rows x
   ·have HA := Lib.hid (show (t.uniqs.take (k + 1)).all (fun u => !(twiceB u.cols rows x)) = true by rw [hst, he]; rfl)
    have HE := Lib.hid he
    clear hst hno he
    go_wp2_with fail
    go_region_held3 (fun w' => w'.cell? ⟨w.heap.size + 1, 0, none⟩ = some (.slice AL nL cL) ∧ w'.cell? ⟨w.heap.size, 3, none⟩ = some (.slice (some ⟨bu, ou, none⟩) t.uniqs.length c3) ∧ w'.cell? ⟨bu, ou + k, none⟩ = some (.slice AU t.uniqs[k].cols.length cU) ∧ w'.cell? ⟨w.heap.size + 1 + 1, 0, none⟩ = some (.int .i64 x.id) ∧ w'.cell? ⟨w.heap.size + 1 + 1, 1, none⟩ = some (.slice AX nX cX))
     (first | go_keep | exact ⟨below_keep hb9 _ _ c0, below_keep hb9 _ _ t3, below_keep hb9 _ _ q0, below_keep hb9 _ _ d0, below_keep hb9 _ _ d1⟩)
     (first | (go_at_call 200; refine HC.out.mono ?_; rintro e w9 ⟨rfl, hb9⟩; rw [HE.out]))
    go_wp2_with fail
    go_roundw
    case rel => exact ⟨k + 1, by omega, by go_num, HA, (RT.out.drew).below hb9, (RD.out.drew).below hb9, (RX.out.drew).below hb9, hbd.trans (hb9.mono hbd.size)⟩
    case measure => simp [intOf]; omega
   ·have HF := Lib.hid (hno he)
    have HE := Lib.hid he
    clear hst hno he
    go_wp2_with fail
    go_region_held3 (fun w' => w'.cell? ⟨w.heap.size + 1, 0, none⟩ = some (.slice AL nL cL) ∧ w'.cell? ⟨w.heap.size, 3, none⟩ = some (.slice (some ⟨bu, ou, none⟩) t.uniqs.length c3) ∧ w'.cell? ⟨bu, ou + k, none⟩ = some (.slice AU t.uniqs[k].cols.length cU) ∧ w'.cell? ⟨w.heap.size + 1 + 1, 0, none⟩ = some (.int .i64 x.id) ∧ w'.cell? ⟨w.heap.size + 1 + 1, 1, none⟩ = some (.slice AX nX cX))
     (first | go_keep | exact ⟨below_keep hb9 _ _ c0, below_keep hb9 _ _ t3, below_keep hb9 _ _ q0, below_keep hb9 _ _ d0, below_keep hb9 _ _ d1⟩)
     (first | (go_at_call 200; refine HC.out.mono ?_; rintro e w9 ⟨rfl, hb9⟩; rw [HE.out]))
    go_wp2_with fail
    go_ret
    exact ⟨retB HF.out.symm, hbd.trans (hb9.mono hbd.size)⟩
  ·obtain rfl : k = t.uniqs.length := by omega
   have h1 := hall.out
   rw [List.take_of_length_le (Nat.le_refl _)] at h1
   have HF := Lib.hid (HR.out.trans h1)
   clear hall h1
   go_wp2_with fail
   go_ret
   exact ⟨retB HF.out.symm, hb⟩
def parentR (tk : List Int) (rows : List Rw) (fc : List Int) (vals : List Vl) : Bool := !(knownL (keyL fc vals)) || decide (0 < (findL tk (keyL fc vals) rows).length)
set_option maxRecDepth 100000 in
set_option maxHeartbeats 4000000 in
theorem specL5Parent (AS AD AC AV : Option Addr) (nS cS nD cD nC cC nV cV : Nat) (s : List Tb) (db : List Dt) (f : Fk) (vals : List Vl) (m : Nat) (ok okd okc okv : Nat → Prop) (w : World)
  (hs : Sl TbR 6 ok w AS nS s) (hd : Sl DtR 1 okd w AD nD db) (hc : Sl IntR 1 okc w AC nC f.cols) (hv : Sl VlR 3 okv w AV nV vals) (hsn : nS ≤ 1048576) (hdn : nD ≤ 1048576) (hcn : nC ≤ 1048576) (hvn : nV ≤ 1048576) (hca : f.cols.all (inV vals) = true)
  (hat : atN (s.map Tb.name) f.table = m) (hm : m < s.length) (hmd : m < db.length) (hkn : s[m].key.length ≤ 1048576) (hrn : db[m].rows.length ≤ 1048576) (hrv : ∀ r ∈ db[m].rows, r.vals.length ≤ 1048576) (hall : ∀ r ∈ db[m].rows, s[m].key.all (inV r.vals) = true) :
  Calls Tryz.prog 175 #[.slice AS nS cS, .slice AD nD cD, .agg #[.slice AC nC cC, .string f.table, .int .i64 f.del, .int .i64 f.upd, .bool f.dfr], .slice AV nV cV] w fun e w' => e = .returned (.bool (parentR s[m].key db[m].rows f.cols vals)) ∧ Below w.heap.size w w' := by
 obtain rfl : s.length = nS := hs.1
 obtain rfl : db.length = nD := hd.1
 have HVN := Lib.hid hrv
 have HALL := Lib.hid hall
 have HCA := Lib.hid hca
 have HAT := Lib.hid hat
 have HKN := Lib.hid hkn
 have HRN := Lib.hid hrn
 have HKL := Lib.hid (show (keyL f.cols vals).length ≤ 1048576 by rw [show (keyL f.cols vals).length = f.cols.length by simp [keyL], hc.1]; exact hcn)
 clear hrv hall hca hat hkn hrn
 have i0 : (0 : Int) ≤ m := by omega
 have i1 : (m : Int) < s.length := by omega
 have i2 : (m : Int) < db.length := by omega
 have hb0 := (Below.refl w.heap.size w).alloc (Nat.le_refl _) (.cells #[.slice AC nC cC, .string f.table, .int .i64 f.del, .int .i64 f.upd, .bool f.dfr] 128)
 have RF := Lib.hid (Row.new w 128 #[.slice AC nC cC, .string f.table, .int .i64 f.del, .int .i64 f.upd, .bool f.dfr])
 obtain ⟨c0, c1, c2, c3, c4⟩ := RF.out.five
 go_enter Tryz.func175, Tryz.ntmps175
 go_wp2_with fail
 generalize w.alloc (.cells #[.slice AC nC cC, .string f.table, .int .i64 f.del, .int .i64 f.upd, .bool f.dfr] 128) = z0 at *
 refine (specL4Key AC AV nC cC nV cV f.cols vals _ _ _ (hc.below IntR.stays hb0) (hv.below VlR.stays hb0) hcn hvn HCA.out).mono ?_
 rintro e w1 ⟨AO, cO, rfl, hcO, hsl, hb1⟩
 have hbz1 := hb0.trans (hb1.mono hb0.size)
 have HSL := Lib.hid hsl
 clear hsl c0 c1 c2 c3 c4
 obtain ⟨c0, c1, c2, c3, c4⟩ := (RF.out.below hb1).five
 go_wp2_with fail
 refine (specL3At AS s.length cS s f.table _ _ (hs.below TbR.stays hbz1) hsn).mono ?_
 rintro e w2 ⟨rfl, hb2⟩
 rw [HAT.out]
 have hbz2 := hbz1.trans (hb2.mono hbz1.size)
 have HSL2 := Lib.hid (HSL.out.below VlR.stays hb2)
 clear c0 c1 c2 c3 c4
 obtain ⟨bt, ot, A1, n1, d1, A2, n2, d2, A3, n3, d3, A4, n4, d4, A5, n5, d5, -, rfl, q0, q1, q2, q3, q4, q5, s1, s2, -⟩ := TbR.at_ (hs.below TbR.stays hbz2) hm
 obtain rfl : s[m].key.length = n2 := s2.1
 obtain ⟨bd, od, AL, nL, cL, -, rfl, p0, hrw, -⟩ := DtR.at_ (hd.below DtR.stays hbz2) hmd
 obtain rfl : db[m].rows.length = nL := hrw.1
 have HRW := Lib.hid (hrw.drew RwR.stays)
 have HKC := Lib.hid (s2.drew IntR.stays)
 have HSL3 := Lib.hid (HSL2.out.drew VlR.stays)
 have hbd := hbz2.drew
 clear hrw s1 s2 q0 q1 q3 q4 q5 HSL
 cases hk : knownL (keyL f.cols vals)
 ·have HR := Lib.hid (show parentR s[m].key db[m].rows f.cols vals = true by unfold parentR; rw [hk]; rfl)
  clear hk
  go_wp2_with fail
  refine wp_region_noPanic ?_
  refine wp_region_held_drew (S := fun w' => w'.cell? ⟨bd, od + m, none⟩ = some (.slice AL db[m].rows.length cL) ∧ w'.cell? ⟨bt, ot + m * 6 + 2, none⟩ = some (.slice A2 s[m].key.length d2)) (by kernel_rfl) ⟨p0, q2⟩ (fun hHeld => ?_)
  refine tk 0 ?_
  refine tk 1 ?_
  refine tk 2 ?_
  refine tu 3 ?_
  refine tu 4 ?_
  refine tu 5 ?_
  refine tu 6 ?_
  refine tu 7 ?_
  refine tu 8 ?_
  refine tu 9 ?_
  refine tu 10 ?_
  refine tu 11 ?_
  refine tu 12 ?_
  refine tu 13 ?_
  refine tu 14 ?_
  refine tu 15 ?_
  refine tk 16 ?_
  refine tk 17 ?_
  refine wpAnyH_done (by kernel_rfl) ?_ _
  refine NoPanic.normal ?_
  clear hHeld
  go_wp2_with fail
  go_ret
  exact ⟨retB HR.out.symm, hbd⟩
 ·have HR := Lib.hid (show parentR s[m].key db[m].rows f.cols vals = decide (0 < (findL s[m].key (keyL f.cols vals) db[m].rows).length) by unfold parentR; rw [hk]; rfl)
  clear hk
  go_wp2_with fail
  refine wp_region_noPanic ?_
  refine wp_region_held_drew (S := fun w' => w'.cell? ⟨bd, od + m, none⟩ = some (.slice AL db[m].rows.length cL) ∧ w'.cell? ⟨bt, ot + m * 6 + 2, none⟩ = some (.slice A2 s[m].key.length d2)) (by kernel_rfl) ⟨p0, q2⟩ (fun hHeld => ?_)
  refine tk 0 ?_
  refine tk 1 ?_
  refine tk 2 ?_
  refine tk 3 ?_
  refine tk 4 ?_
  refine tk 5 ?_
  refine tk 6 ?_
  refine tk 7 ?_
  refine tk 8 ?_
  refine tk 9 ?_
  refine tk 10 ?_
  refine tk 11 ?_
  refine tk 12 ?_
  refine wpAnyH_ready (rs := [13]) (by kernel_rfl) (by simp) ?_
  refine AllReadyH.cons rfl (fun K hK => ?_) AllReadyH.nil
  go_simp
  refine (specL4Find AL A2 AO db[m].rows.length cL s[m].key.length d2 (keyL f.cols vals).length cO db[m].rows s[m].key (keyL f.cols vals) _ _ _ _ (HRW.out) (HKC.out) HSL3.out HRN.out HKN.out HKL.out HVN.out HALL.out).mono ?_
  rintro e w9 ⟨AF, cF, rfl, hcF, hfl, hb9⟩
  go_wp2_with fail
  refine hK.out _ _ ⟨below_keep hb9 _ _ hHeld.1, below_keep hb9 _ _ hHeld.2⟩ (fun hHeld => ?_)
  clear hK K
  (try simp only [Act.put, pz0, pz1, pz2, pz3, pz4, pz5])
  refine tk 14 ?_
  refine tk 15 ?_
  refine tk 16 ?_
  refine tk 17 ?_
  refine wpAnyH_done (by kernel_rfl) ?_ _
  refine NoPanic.normal ?_
  clear hHeld
  go_wp2_with fail
  go_ret
  exact ⟨retB HR.out.symm, hbd.trans (hb9.mono hbd.size)⟩
def FkIn (s : List Tb) (db : List Dt) (vals : List Vl) (f : Fk) : Prop := f.cols.all (inV vals) = true ∧ f.cols.length ≤ 1048576 ∧ ∃ m : Nat, atN (s.map Tb.name) f.table = m ∧ ∃ (hm : m < s.length) (hmd : m < db.length), s[m].key.length ≤ 1048576 ∧ db[m].rows.length ≤ 1048576 ∧ (∀ r ∈ db[m].rows, r.vals.length ≤ 1048576) ∧ ∀ r ∈ db[m].rows, s[m].key.all (inV r.vals) = true
def parentB (s : List Tb) (db : List Dt) (f : Fk) (vals : List Vl) : Bool :=
 parentR ((s[(atN (s.map Tb.name) f.table).toNat]?.map Tb.key).getD []) ((db[(atN (s.map Tb.name) f.table).toNat]?.map Dt.rows).getD []) f.cols vals
theorem parentB_at {s : List Tb} {db : List Dt} {f : Fk} {vals : List Vl} {m : Nat} (h : atN (s.map Tb.name) f.table = m) (hm : m < s.length) (hmd : m < db.length) : parentB s db f vals = parentR s[m].key db[m].rows f.cols vals := by
 unfold parentB; rw [h]; simp [hm, hmd]
theorem specL5ParentB (AS AD AC AV : Option Addr) (nS cS nD cD nC cC nV cV : Nat) (s : List Tb) (db : List Dt) (f : Fk) (vals : List Vl) (ok okd okc okv : Nat → Prop) (w : World)
  (hs : Sl TbR 6 ok w AS nS s) (hd : Sl DtR 1 okd w AD nD db) (hc : Sl IntR 1 okc w AC nC f.cols) (hv : Sl VlR 3 okv w AV nV vals) (hsn : nS ≤ 1048576) (hdn : nD ≤ 1048576) (hvn : nV ≤ 1048576) (hF : FkIn s db vals f) :
  Calls Tryz.prog 175 #[.slice AS nS cS, .slice AD nD cD, .agg #[.slice AC nC cC, .string f.table, .int .i64 f.del, .int .i64 f.upd, .bool f.dfr], .slice AV nV cV] w fun e w' => e = .returned (.bool (parentB s db f vals)) ∧ Below w.heap.size w w' := by
 obtain ⟨h1, h2, m, h3, hm, hmd, h4, h5, h6, h7⟩ := hF
 rw [parentB_at h3 hm hmd]
 exact specL5Parent AS AD AC AV nS cS nD cD nC cC nV cV s db f vals m ok okd okc okv w hs hd hc hv hsn hdn (by have := hc.1; omega) hvn h1 h3 hm hmd h4 h5 h6 h7
theorem all_take_one {α : Type} (f : α → Bool) (l : List α) (k : Nat) (h : k < l.length) : (l.take (k + 1)).all f = ((l.take k).all f && f l[k]) := by
 rw [List.take_succ_eq_append_getElem h, List.all_append]; simp
def okFkB (s : List Tb) (db : List Dt) (vals : List Vl) (wait : Bool) (f : Fk) : Bool := (wait && f.dfr) || parentB s db f vals
def refersB (s : List Tb) (db : List Dt) (t : Tb) (vals : List Vl) (wait : Bool) : Bool := t.fks.all (okFkB s db vals wait)
set_option maxRecDepth 100000 in
set_option maxHeartbeats 4000000 in
theorem specL5Refers (AS AD AV : Option Addr) (nS cS nD cD nV cV : Nat) (s : List Tb) (db : List Dt) (i : Nat) (vals : List Vl) (wait : Bool) (ok okd okv : Nat → Prop) (w : World)
  (hs : Sl TbR 6 ok w AS nS s) (hd : Sl DtR 1 okd w AD nD db) (hv : Sl VlR 3 okv w AV nV vals) (hsn : nS ≤ 1048576) (hdn : nD ≤ 1048576) (hvn : nV ≤ 1048576) (hi : i < s.length) (hfn : s[i].fks.length ≤ 1048576) (hF : ∀ f ∈ s[i].fks, FkIn s db vals f) :
  Calls Tryz.prog 144 #[.slice AS nS cS, .slice AD nD cD, .int .i64 i, .slice AV nV cV, .bool wait] w fun e w' => e = .returned (.bool (refersB s db s[i] vals wait)) ∧ Below w.heap.size w w' := by
 obtain rfl : s.length = nS := hs.1
 have HF := Lib.hid hF
 clear hF
 have i0 : (0 : Int) ≤ i := by omega
 have i1 : (i : Int) < s.length := by omega
 have hb0 := Below.refl w.heap.size w
 obtain ⟨bt, ot, A1, n1, d1, A2, n2, d2, A3, n3, d3, A4, n4, d4, A5, n5, d5, -, rfl, q0, q1, q2, q3, q4, q5, s1, s2, s3, s4, s5, -⟩ := TbR.at_ hs hi
 obtain rfl : s[i].fks.length = n5 := s5.1
 go_enter Tryz.func144, Tryz.ntmps144
 go_wp2_with fail
 go_loopw [11] (fun j wr => ∃ k : Nat, k ≤ s[i].fks.length ∧ j = .int .i64 k ∧ Hid ((s[i].fks.take k).all (okFkB s db vals wait) = true) ∧ Below w.heap.size w wr) (fun j _ => s[i].fks.length - (intOf j).toNat)
 case atStart => exact ⟨0, by omega, rfl, Lib.hid (by simp), hb0⟩
 case round =>
  clear hb0
  obtain ⟨k, hk', rfl, hall, hb⟩ := hrel
  have t5 := below_keep hb _ _ q5
  clear q0 q1 q2 q3 q4 q5
  by_cases hlt : k < s[i].fks.length
  ·obtain ⟨bf, of, AC, nC, cC, -, rfl, g0, g1, g2, g3, g4, hc, -⟩ := FkR.at_ (s5.below FkR.stays hb) hlt
   have j0 : (0 : Int) ≤ k := by omega
   have j1 : (k : Int) < s[i].fks.length := by omega
   have hst := all_take_one (okFkB s db vals wait) s[i].fks k hlt
   rw [hall.out, Bool.true_and] at hst
   have hno : okFkB s db vals wait s[i].fks[k] = false → refersB s db s[i] vals wait = false := fun hf => by
    unfold refersB; rw [List.all_eq_false]; exact ⟨s[i].fks[k], List.getElem_mem hlt, by simp [hf]⟩
   have hbl := (Below.refl wr.heap.size wr).alloc (Nat.le_refl _) (.cells #[.slice AC nC cC, .string s[i].fks[k].table, .int .i64 s[i].fks[k].del, .int .i64 s[i].fks[k].upd, .bool s[i].fks[k].dfr] 128)
   have hba := hb.alloc hb.size (.cells #[.slice AC nC cC, .string s[i].fks[k].table, .int .i64 s[i].fks[k].del, .int .i64 s[i].fks[k].upd, .bool s[i].fks[k].dfr] 128)
   have HC := Lib.hid (specL5ParentB (some ⟨bt, ot, none⟩) AD AC AV s.length cS nD cD nC cC nV cV s db s[i].fks[k] vals _ _ _ _ (wr.alloc (.cells #[.slice AC nC cC, .string s[i].fks[k].table, .int .i64 s[i].fks[k].del, .int .i64 s[i].fks[k].upd, .bool s[i].fks[k].dfr] 128)) (hs.below TbR.stays hba) (hd.below DtR.stays hba) (hc.below IntR.stays hbl) (hv.below VlR.stays hba) hsn hdn hvn (HF.out _ (List.getElem_mem hlt)))
   have RF := Lib.hid (Row.new wr 128 #[.slice AC nC cC, .string s[i].fks[k].table, .int .i64 s[i].fks[k].del, .int .i64 s[i].fks[k].upd, .bool s[i].fks[k].dfr])
   obtain ⟨c0, c1, c2, c3, c4⟩ := RF.out.five
   generalize hdv : s[i].fks[k].dfr = dv at *
   cases hwt : wait
   ·subst hwt
    cases hp : parentB s db s[i].fks[k] vals
    ·have HP := Lib.hid hp
     have HN := Lib.hid (hno (by unfold okFkB; rw [hp]; rfl))
     clear hst hno hp hdv
     go_wp2_with fail
     refine HC.out.mono ?_
     rintro e w5 ⟨rfl, hb5⟩
     rw [HP.out]
     go_wp2_with fail
     go_ret
     exact ⟨retB HN.out.symm, hba.trans (hb5.mono hba.size)⟩
    ·have HP := Lib.hid hp
     have HA := Lib.hid (show (s[i].fks.take (k + 1)).all (okFkB s db vals false) = true by rw [hst]; unfold okFkB; rw [hp]; rfl)
     clear hst hno hp hdv
     go_wp2_with fail
     refine HC.out.mono ?_
     rintro e w5 ⟨rfl, hb5⟩
     rw [HP.out]
     go_wp2_with fail
     go_roundw
     case rel => exact ⟨k + 1, by omega, by go_num, HA, hba.trans (hb5.mono hba.size)⟩
     case measure => simp [intOf]; omega
   ·subst hwt
    cases dv
    ·have HD := Lib.hid hdv
     clear hdv
     cases hp : parentB s db s[i].fks[k] vals
     ·have HP := Lib.hid hp
      have HN := Lib.hid (hno (by unfold okFkB; rw [hp, HD.out]; rfl))
      clear hst hno hp
      go_wp2_with fail
      refine HC.out.mono ?_
      rintro e w5 ⟨rfl, hb5⟩
      rw [HP.out]
      go_wp2_with fail
      go_ret
      exact ⟨retB HN.out.symm, hba.trans (hb5.mono hba.size)⟩
     ·have HP := Lib.hid hp
      have HA := Lib.hid (show (s[i].fks.take (k + 1)).all (okFkB s db vals true) = true by rw [hst]; unfold okFkB; rw [hp, HD.out]; rfl)
      clear hst hno hp
      go_wp2_with fail
      refine HC.out.mono ?_
      rintro e w5 ⟨rfl, hb5⟩
      rw [HP.out]
      go_wp2_with fail
      go_roundw
      case rel => exact ⟨k + 1, by omega, by go_num, HA, hba.trans (hb5.mono hba.size)⟩
      case measure => simp [intOf]; omega
    ·have HA := Lib.hid (show (s[i].fks.take (k + 1)).all (okFkB s db vals true) = true by rw [hst]; unfold okFkB; rw [hdv]; rfl)
     clear hst hno hdv
     go_wp2_with fail
     go_roundw
     case rel => exact ⟨k + 1, by omega, by go_num, HA, hba⟩
     case measure => simp [intOf]; omega
  ·obtain rfl : k = s[i].fks.length := by omega
   have h1 := hall.out
   rw [List.take_of_length_le (Nat.le_refl _)] at h1
   have HR := Lib.hid (show refersB s db s[i] vals wait = true from h1)
   clear hall h1
   go_wp2_with fail
   go_ret
   exact ⟨retB HR.out.symm, hb⟩
end Go.Proofs.YtciaidjmehelpaaGreat
namespace Go.Proofs.YtciaidjmehelpaaGreat
open Go.RowKit
theorem schemaB_at {s : List Tb} (h : schemaB s = true) {i : Nat} (hi : i < s.length) : tableB s[i] = true ∧ leadsB s s[i] = true := by
 simp only [schemaB, Bool.and_eq_true] at h
 exact ⟨List.all_eq_true.1 h.2.1 _ (List.getElem_mem hi), List.all_eq_true.1 h.2.2.2 _ (List.getElem_mem hi)⟩
theorem schemaB_le {s : List Tb} (h : schemaB s = true) : s.length ≤ 5 := by
 simp only [schemaB, Bool.and_eq_true, decide_eq_true_eq] at h
 exact h.1
theorem tableB_cols {t : Tb} (h : tableB t = true) : t.cols.length ≤ 8 := by
 simp only [tableB, colsB, Bool.and_eq_true, decide_eq_true_eq] at h
 exact h.2.1.2.1
theorem tableB_key {t : Tb} (h : tableB t = true) : colsInB t.key t.cols.length = true := by
 simp only [tableB, keyB, Bool.and_eq_true] at h
 exact h.2.2.1.1
theorem tableB_uniq {t : Tb} (h : tableB t = true) : ∀ u ∈ t.uniqs, colsInB u.cols t.cols.length = true := fun u hu => by
 simp only [tableB, uqsB, Bool.and_eq_true] at h
 exact List.all_eq_true.1 h.2.2.2.1.2 u hu
theorem tableB_fk {t : Tb} (h : tableB t = true) : ∀ f ∈ t.fks, colsInB f.cols t.cols.length = true := fun f hf => by
 simp only [tableB, fksB, Bool.and_eq_true] at h
 have := List.all_eq_true.1 h.2.2.2.2.2.2 f hf
 simp only [fkB, Bool.and_eq_true] at this
 exact this.1
theorem leadB_at {s : List Tb} {x : Tb} {f : Fk} (h : leadB s x f = true) : ∃ m : Nat, atN (s.map Tb.name) f.table = m ∧ m < s.length := by
 simp only [leadB, Bool.and_eq_true, decide_eq_true_eq] at h
 rcases atN_rng (s.map Tb.name) f.table with h1 | ⟨h1, h2⟩
 ·exact absurd h1 h.1
 ·exact ⟨(atN (s.map Tb.name) f.table).toNat, by omega, by rw [List.length_map] at h2; omega⟩
theorem dbB_schema {s : List Tb} {db : List Dt} (h : dbB s db = true) : schemaB s = true := by
 simp only [dbB, Bool.and_eq_true] at h
 exact h.1
theorem dbB_data {s : List Tb} {db : List Dt} (h : dbB s db = true) {m : Nat} (h1 : m < s.length) (h2 : m < db.length) : dataB s[m].cols db[m].rows = true := by
 simp only [dbB, Bool.and_eq_true, decide_eq_true_eq] at h
 have h3 := List.all_eq_true.1 h.2.2 (s[m], db[m]) (by rw [List.mem_iff_getElem]; exact ⟨m, by rw [List.length_zip]; omega, by simp⟩)
 exact h3
theorem dbB_rows {s : List Tb} {db : List Dt} (h : dbB s db = true) {m : Nat} (h1 : m < s.length) (h2 : m < db.length) : db[m].rows.length ≤ 60 := by
 have h3 := dbB_data h h1 h2
 simp only [dataB, Bool.and_eq_true, decide_eq_true_eq] at h3
 exact h3.1
theorem fkIn_of {s : List Tb} {db : List Dt} (h : dbB s db = true) {i : Nat} (hi : i < s.length) {vals : List Vl} (hv : vals.length = s[i].cols.length) : ∀ f ∈ s[i].fks, FkIn s db vals f := fun f hf => by
 have hS := dbB_schema h
 have hT := schemaB_at hS hi
 have hl := dbB_len h
 have hc := tableB_fk hT.1 f hf
 have h8 := tableB_cols hT.1
 obtain ⟨m, e, hm⟩ := leadB_at (List.all_eq_true.1 hT.2 f hf)
 have hmd : m < db.length := by omega
 have hM := schemaB_at hS hm
 have hk := colsInB_len (tableB_key hM.1)
 have hm8 := tableB_cols hM.1
 have hr := dbB_row h hm hmd
 refine ⟨all_inV hc hv, by have := (colsInB_len hc).1; omega, m, e, hm, hmd, by omega, by have := dbB_rows h hm hmd; omega, fun r hr' => by rw [hr r hr']; omega, fun r hr' => all_inV (tableB_key hM.1) (hr r hr')⟩
theorem evalB_dead {ts : List Tk} {row : List Vl} {k : Nat} (h : evalGo row (ts.take k) [] = none) : evalB ts row = none := by
 unfold evalB
 split
 ·rw [evalGo_dead row ts k [] h]; rfl
 ·rfl
theorem specTwo (k : Int) (hk : k = 3 ∨ k = 4 ∨ k = 5 ∨ k = 6 ∨ k = 9 ∨ k = 10) (a b : Vl) (w : World) (ha : a.ok = true) (hb : b.ok = true) :
  Calls Tryz.prog 166 #[.int .i64 k, .agg #[.int .i64 a.k, .int .i64 a.n, .string a.s], .agg #[.int .i64 b.k, .int .i64 b.n, .string b.s]] w (OptPost (op2 k a b) w) := by
 rcases hk with rfl | rfl | rfl | rfl | rfl | rfl
 ·exact specTwo3 a b w
 ·exact specTwo4 a b w
 ·exact specTwo5 a b w
 ·exact specTwo6 a b w
 ·exact specTwo9 a b w ha hb
 ·exact specTwo10 a b w ha hb
theorem specTwoNone (k : Int) (hk : k = 3 ∨ k = 4 ∨ k = 5 ∨ k = 6 ∨ k = 9 ∨ k = 10) (a b : Vl) (w : World) (ha : a.ok = true) (hb : b.ok = true) (ho : op2 k a b = none) :
  Calls Tryz.prog 166 #[.int .i64 k, .agg #[.int .i64 a.k, .int .i64 a.n, .string a.s], .agg #[.int .i64 b.k, .int .i64 b.n, .string b.s]] w fun e w' => ∃ v : Vl, e = .returned (.tuple #[.agg #[.int .i64 v.k, .int .i64 v.n, .string v.s], .bool false]) ∧ Below w.heap.size w w' :=
 (specTwo k hk a b w ha hb).mono fun e w' ⟨v, he, _, hbl⟩ => ⟨v, by rw [he, ho]; rfl, hbl⟩
theorem specTwoSome (k : Int) (hk : k = 3 ∨ k = 4 ∨ k = 5 ∨ k = 6 ∨ k = 9 ∨ k = 10) (a b v : Vl) (w : World) (ha : a.ok = true) (hb : b.ok = true) (ho : op2 k a b = some v) :
  Calls Tryz.prog 166 #[.int .i64 k, .agg #[.int .i64 a.k, .int .i64 a.n, .string a.s], .agg #[.int .i64 b.k, .int .i64 b.n, .string b.s]] w fun e w' => e = .returned (.tuple #[.agg #[.int .i64 v.k, .int .i64 v.n, .string v.s], .bool true]) ∧ Below w.heap.size w w' :=
 (specTwo k hk a b w ha hb).mono fun e w' ⟨x, he, hx, hbl⟩ => ⟨by rw [he, hx v ho, ho]; rfl, hbl⟩
theorem keep7 {w w' : World} {a0 a1 a2 a3 a4 a5 a6 : Addr} {v0 v1 v2 v3 v4 v5 v6 : Value} (h : w.cell? a0 = some v0 ∧ w.cell? a1 = some v1 ∧ w.cell? a2 = some v2 ∧ w.cell? a3 = some v3 ∧ w.cell? a4 = some v4 ∧ w.cell? a5 = some v5 ∧ w.cell? a6 = some v6) (hb : Below w.heap.size w w') : w'.cell? a0 = some v0 ∧ w'.cell? a1 = some v1 ∧ w'.cell? a2 = some v2 ∧ w'.cell? a3 = some v3 ∧ w'.cell? a4 = some v4 ∧ w'.cell? a5 = some v5 ∧ w'.cell? a6 = some v6 := by
 obtain ⟨h0, h1, h2, h3, h4, h5, h6⟩ := h
 exact ⟨(hb.cell (cell_lt h0)).trans h0, (hb.cell (cell_lt h1)).trans h1, (hb.cell (cell_lt h2)).trans h2, (hb.cell (cell_lt h3)).trans h3, (hb.cell (cell_lt h4)).trans h4, (hb.cell (cell_lt h5)).trans h5, (hb.cell (cell_lt h6)).trans h6⟩
theorem set_far {w : World} {g b i j : Nat} {x v : Value} (hne : b ≠ g) (h : w.cell? ⟨b, i, none⟩ = some v) : (w.setCell ⟨g, j, none⟩ x).cell? ⟨b, i, none⟩ = some v :=
 (World.cell?_of_block (w := w) (a := ⟨b, i, none⟩) (Below.heap_setCell w ⟨g, j, none⟩ x b hne)).trans h
theorem keep7s {w : World} {g b c i0 i1 i2 i3 i4 i5 i6 : Nat} {x y z v0 v1 v2 v3 v4 v5 v6 : Value} (hb : b ≠ g) (hc : c ≠ g)
  (h : w.cell? ⟨b, i0, none⟩ = some v0 ∧ w.cell? ⟨c, i1, none⟩ = some v1 ∧ w.cell? ⟨c, i2, none⟩ = some v2 ∧ w.cell? ⟨c, i3, none⟩ = some v3 ∧ w.cell? ⟨c, i4, none⟩ = some v4 ∧ w.cell? ⟨c, i5, none⟩ = some v5 ∧ w.cell? ⟨c, i6, none⟩ = some v6) :
  (((w.setCell ⟨g, 0, none⟩ x).setCell ⟨g, 1, none⟩ y).setCell ⟨g, 2, none⟩ z).cell? ⟨b, i0, none⟩ = some v0 ∧ (((w.setCell ⟨g, 0, none⟩ x).setCell ⟨g, 1, none⟩ y).setCell ⟨g, 2, none⟩ z).cell? ⟨c, i1, none⟩ = some v1 ∧ (((w.setCell ⟨g, 0, none⟩ x).setCell ⟨g, 1, none⟩ y).setCell ⟨g, 2, none⟩ z).cell? ⟨c, i2, none⟩ = some v2 ∧ (((w.setCell ⟨g, 0, none⟩ x).setCell ⟨g, 1, none⟩ y).setCell ⟨g, 2, none⟩ z).cell? ⟨c, i3, none⟩ = some v3 ∧ (((w.setCell ⟨g, 0, none⟩ x).setCell ⟨g, 1, none⟩ y).setCell ⟨g, 2, none⟩ z).cell? ⟨c, i4, none⟩ = some v4 ∧ (((w.setCell ⟨g, 0, none⟩ x).setCell ⟨g, 1, none⟩ y).setCell ⟨g, 2, none⟩ z).cell? ⟨c, i5, none⟩ = some v5 ∧ (((w.setCell ⟨g, 0, none⟩ x).setCell ⟨g, 1, none⟩ y).setCell ⟨g, 2, none⟩ z).cell? ⟨c, i6, none⟩ = some v6 := by
 obtain ⟨h0, h1, h2, h3, h4, h5, h6⟩ := h
 exact ⟨set_far hb (set_far hb (set_far hb h0)), set_far hc (set_far hc (set_far hc h1)), set_far hc (set_far hc (set_far hc h2)), set_far hc (set_far hc (set_far hc h3)), set_far hc (set_far hc (set_far hc h4)), set_far hc (set_far hc (set_far hc h5)), set_far hc (set_far hc (set_far hc h6))⟩
set_option maxRecDepth 100000 in
set_option maxHeartbeats 1000000 in
theorem specL2Eval (A R : Option Addr) (n m cap capR : Nat) (ts : List Tk) (row : List Vl) (w : World) (h : Toks w A n ts) (hr : Vals w R m row) (hn : n ≤ maxLen) (hm : m ≤ maxLen) (hrow : rowB row = true) (hex : exprB ts row.length = true) :
  Calls Tryz.prog 129 #[.slice A n cap, .slice R m capR] w (EvalPost (evalB ts row) w) := by
 obtain rfl : n = ts.length := h.len.symm
 obtain rfl : m = row.length := hr.len.symm
 have HR := Lib.hid hrow
 have HE := Lib.hid hex
 have h16 : row.length ≤ 16 := by simp [rowB] at hrow; exact hrow.1
 clear hrow hex
 obtain ⟨hgo, h24⟩ := exprB_go HE.out
 have HGO := Lib.hid hgo
 have hok : ∀ v ∈ row, v.ok = true := by have := HR.out; simp [rowB] at this; exact this.2
 have HOK := Lib.hid hok
 clear hgo hok
 go_enter Tryz.func129, Tryz.ntmps129
 go_wp2
 have rz := (Row.new w 34 #[.int .i64 0, .int .i64 0, .string ⟨#[]⟩]).alloc (.cells #[] 34)
 have hb0 := ((Below.refl w.heap.size w).alloc (Nat.le_refl _) (.cells #[.int .i64 0, .int .i64 0, .string ⟨#[]⟩] 34)).alloc (by simp only [size1]; omega) (.cells #[] 34)
 generalize (w.alloc (.cells #[.int .i64 0, .int .i64 0, .string ⟨#[]⟩] 34)).alloc (.cells #[] 34) = x0 at *
 go_loopw [6, 7] (fun s i wr => ∃ (k : Nat) (st : List Vl) (a : Addr) (c : Nat), k ≤ ts.length ∧ i = .int .i64 k ∧ s = .slice (some a) st.length c ∧ st.length ≤ c ∧ c ≤ maxLen ∧ st.length ≤ k ∧ Hid (a.spot = none) ∧ Hid (exprGo row.length (ts.take k) 0 = some st.length) ∧ Hid (evalGo row (ts.take k) [] = some st) ∧ Hid (∀ v ∈ st, v.ok = true) ∧
   Vals wr (some a) st.length st ∧ Row wr w.heap.size 34 #[.int .i64 0, .int .i64 0, .string ⟨#[]⟩] ∧ Below w.heap.size w wr) (fun _ i _ => ts.length - (intOf i).toNat)
 case atStart => exact ⟨0, [], ⟨w.heap.size + 1, 0, none⟩, 0, by omega, rfl, rfl, by simp, by simp [maxLen], by simp, Lib.hid rfl, Lib.hid (by simp [exprGo]), Lib.hid (by simp [evalGo]), Lib.hid (by simp), ⟨rfl, by simp, fun h => absurd h (by simp)⟩, rz, hb0⟩
 case round =>
  obtain ⟨k, st, a, c, hk, rfl, rfl, hlc, hcm, hlk, hasp, hexp, hev, hstok, hvals, hrz, hb⟩ := hrel
  by_cases hlt : k < ts.length
  ·obtain ⟨b, off, rfl, c0, c1, c2, c3, c4⟩ := (h.below hb).at_ hlt
   obtain ⟨htok, htk, hexp2⟩ := right_at HGO.out hlt hexp.out
   have hev2 := evalGo_snoc row ts k hlt [] st hev.out
   have HEXP := Lib.hid hexp2
   have HEV := Lib.hid hev2
   have HTOK := Lib.hid htok
   clear hexp2 hev2 hexp hev htok
   generalize ts[k] = t at *
   obtain ⟨k0, tc, tvk, tvn, tvs⟩ := t
   simp only at c0 c1 c2 c3 c4 htk HEXP HEV HTOK
   by_cases hk2 : k0 = 2
   ·skip
    subst hk2
    unfold maxLen at hcm
    have bl : b < wr.heap.size := cell_lt c0
    have bz0 := (Below.refl wr.heap.size wr).alloc (Nat.le_refl _) (.cells #[.int .i64 0, .int .i64 0, .string ⟨#[]⟩] 34)
    have e0 := (bz0.cell bl).trans c0
    have e2 := (bz0.cell bl).trans c2
    have e3 := (bz0.cell bl).trans c3
    have e4 := (bz0.cell bl).trans c4
    clear bz0
    go_wp2_with fail
    have rvx := Row.new wr 34 #[.int .i64 tvk, .int .i64 tvn, .string tvs]
    have bv := (Below.refl wr.heap.size wr).alloc (Nat.le_refl _) (.cells #[.int .i64 tvk, .int .i64 tvn, .string tvs] 34)
    have hv := hvals.below bv
    have hzx : wr.heap.size < (wr.alloc (.cells #[.int .i64 tvk, .int .i64 tvn, .string tvs] 34)).heap.size := by simp
    have hbx := hb.trans (bv.mono hb.size)
    have rzx := hrz.below bv
    generalize wr.alloc (.cells #[.int .i64 tvk, .int .i64 tvn, .string tvs] 34) = xt at *
    have hfr : st.length ≤ st.length := Nat.le_refl _
    have HFR := Lib.hid (show st.length = st.length - takes 2 by simp [takes])
    have HTV := Lib.hid (show tokVal row ⟨2, tc, tvk, tvn, tvs⟩ (st.drop (st.length - takes 2)) = some ⟨tvk, tvn, tvs⟩ by simp [tokVal])
    have i2 : IntKind.i64.wrap (st.length : Int) = st.length := IntWalk.i64_in _ (by omega)
    obtain ⟨⟨v0, v1, v2⟩, -⟩ := rvx.three
    have i1 : (st.length : Int) ≤ c := by omega
    have hbs : wr.heap.size ≤ xt.heap.size := by omega
    have Ra : Row (xt.alloc (.cells #[] 34)).drew xt.heap.size 34 #[] := Row.new xt 34 #[]
    have Rb : Row ((xt.alloc (.cells #[] 34)).alloc (.cells #[.int .i64 tvk, .int .i64 tvn, .string tvs] 34)).drew xt.heap.size 34 #[] := (Row.new xt 34 #[]).alloc _
    have Rc : Row ((xt.alloc (.cells #[.int .i64 tvk, .int .i64 tvn, .string tvs] 34)).alloc (.cells #[] 34)).drew (xt.heap.size + 1) 34 #[] := Row.newAt _ _ _ _ (by simp)
    have Sb : Row ((xt.alloc (.cells #[] 34)).alloc (.cells #[.int .i64 tvk, .int .i64 tvn, .string tvs] 34)).drew (xt.heap.size + 1) 34 #[.int .i64 tvk, .int .i64 tvn, .string tvs] := Row.newAt _ _ _ _ (by simp)
    have Sc : Row ((xt.alloc (.cells #[.int .i64 tvk, .int .i64 tvn, .string tvs] 34)).alloc (.cells #[] 34)).drew xt.heap.size 34 #[.int .i64 tvk, .int .i64 tvn, .string tvs] := (Row.new _ _ _).alloc _
    have Va : Vals (xt.alloc (.cells #[] 34)).drew (some a) st.length (st.take st.length) := (hv.below ((Below.refl _ xt).alloc (Nat.le_refl _) _)).take hfr
    have Vb : Vals ((xt.alloc (.cells #[] 34)).alloc (.cells #[.int .i64 tvk, .int .i64 tvn, .string tvs] 34)).drew (some a) st.length (st.take st.length) := (hv.below (((Below.refl _ xt).alloc (Nat.le_refl _) _).alloc (by simp) _)).take hfr
    have Vc : Vals ((xt.alloc (.cells #[.int .i64 tvk, .int .i64 tvn, .string tvs] 34)).alloc (.cells #[] 34)).drew (some a) st.length (st.take st.length) := (hv.below (((Below.refl _ xt).alloc (Nat.le_refl _) _).alloc (by simp) _)).take hfr
    have hlen24 : st.length ≤ 1000 := by omega
    go_region_held3 (fun w' => w'.cell? ⟨wr.heap.size, 0, none⟩ = some (.int .i64 tvk) ∧ w'.cell? ⟨wr.heap.size, 1, none⟩ = some (.int .i64 tvn) ∧ w'.cell? ⟨wr.heap.size, 2, none⟩ = some (.string tvs))
     (first | go_keep | ((with_reducible refine keep3 ?_ ((Below.refl _ _).alloc (Nat.le_refl _) _)); assumption) | ((with_reducible refine keep3g ?_ hg2 ?_ ?_ ?_) <;> first | assumption | (simp only; omega)) | ((with_reducible refine keep3g ?_ hg1 ?_ ?_ ?_) <;> first | assumption | (simp only; omega)))
     (first
      | ((with_reducible refine step_app_vals0 rfl _ _ rfl xt.heap.size xt.heap.size rfl Ra (by omega) a st.length c (st.take st.length) rfl hasp.out Va (by omega) (by first | (simp; done) | (simp; omega)) ?_); intro g1 cap1 w1 ho1 hg1 hb1)
      | ((with_reducible refine step_app_vals0 rfl _ _ rfl xt.heap.size xt.heap.size rfl Rb (by omega) a st.length c (st.take st.length) rfl hasp.out Vb (by omega) (by first | (simp; done) | (simp; omega)) ?_); intro g1 cap1 w1 ho1 hg1 hb1)
      | ((with_reducible refine step_app_vals0 rfl _ _ rfl xt.heap.size (xt.heap.size + 1) rfl Rc (by omega) a st.length c (st.take st.length) rfl hasp.out Vc (by omega) (by first | (simp; done) | (simp; omega)) ?_); intro g1 cap1 w1 ho1 hg1 hb1)
      | ((with_reducible refine step_app_vals rfl _ _ rfl xt.heap.size g1 _ cap1 _ rfl (ho1.alloc _) _ 1 1 [(⟨tvk, tvn, tvs⟩ : Vl)] rfl rfl (vals_one (Row.new _ _ _)) (by omega) (by have := hg1.size; simp at this ⊢; omega) ?_); intro g2 cap2 w2 ho2 hg2 hb2)
      | ((with_reducible refine step_app_vals rfl _ _ rfl xt.heap.size g1 _ cap1 _ rfl ho1 _ 1 1 [(⟨tvk, tvn, tvs⟩ : Vl)] rfl rfl (vals_one (grown_row hg1 Sb (by omega))) (by omega) (by have := hg1.size; simp at this ⊢; omega) ?_); intro g2 cap2 w2 ho2 hg2 hb2)
      | ((with_reducible refine step_app_vals rfl _ _ rfl xt.heap.size g1 _ cap1 _ rfl ho1 _ 1 1 [(⟨tvk, tvn, tvs⟩ : Vl)] rfl rfl (vals_one (grown_row hg1 Sc (by omega))) (by omega) (by have := hg1.size; simp at this ⊢; omega) ?_); intro g2 cap2 w2 ho2 hg2 hb2))
    all_goals
     have bz : Below xt.heap.size xt w2 := by
      have hs1 := hg1.size
      simp at hs1
      first
      | exact ((Below.refl _ xt).alloc (Nat.le_refl _) _).drew.trans ((grown_below hg1 (by omega) (by simp)).trans (((Below.refl _ w1).alloc (by omega) _).trans (grown_below hg2 (by omega) (by simp; omega))))
      | exact (((Below.refl _ xt).alloc (Nat.le_refl _) _).alloc (by simp) _).drew.trans ((grown_below hg1 (by omega) (by simp; omega)).trans (grown_below hg2 (by omega) (by omega)))
     have hbz := hbx.trans (bz.mono hbx.size)
     have rzz := rzx.below bz
     have hl1 : (st.take st.length).length = st.length := by rw [List.length_take]; omega
     have hl2 : (st.take st.length ++ [(⟨tvk, tvn, tvs⟩ : Vl)]).length = st.length + 1 := by rw [List.length_append, hl1]; rfl
     obtain ⟨hvz, hcz, hcz2⟩ := ho2.vals hl2
     have HL := Lib.hid hl2
     have hsz := bz.size
     clear hl1 hl2 ho2 ho1 hg1 hg2 hv rvx Ra Rb Rc Sb Sc Va Vb Vc v0 v1 v2 c0 c1 c2 c3 c4 i1 i2
     go_wp2_with fail
     go_roundw
     case rel =>
      refine ⟨k + 1, st.take st.length ++ [(⟨tvk, tvn, tvs⟩ : Vl)], ⟨g2, 0, none⟩, cap2, by omega, by go_num, by rw [HL.out], by rw [HL.out]; exact hcz, hcz2, by rw [HL.out]; omega, Lib.hid rfl, Lib.hid ?_, Lib.hid ?_, Lib.hid ?_, by rw [HL.out]; exact hvz, rzz, hbz⟩
      ·rw [HL.out, HFR.out]; exact HEXP.out
      ·rw [HEV.out, evalStep_some HTV.out]; exact congrArg (fun m => some (List.take m st ++ [(⟨tvk, tvn, tvs⟩ : Vl)])) HFR.out.symm
      ·intro u hu
       rw [List.mem_append, List.mem_singleton] at hu
       rcases hu with hu | rfl
       ·exact hstok.out u (List.mem_of_mem_take hu)
       ·exact tokVal_ok HOK.out HTOK.out HTV.out
     case measure => simp [intOf]; omega
   have d2 : (k0 == 2) = false := by simpa using hk2
   by_cases hk1 : k0 = 1
   ·skip
    subst hk1
    unfold maxLen at hcm
    have bl : b < wr.heap.size := cell_lt c0
    have bz0 := (Below.refl wr.heap.size wr).alloc (Nat.le_refl _) (.cells #[.int .i64 0, .int .i64 0, .string ⟨#[]⟩] 34)
    have e0 := (bz0.cell bl).trans c0
    have e1 := (bz0.cell bl).trans c1
    obtain ⟨hj0, hj1⟩ : 0 ≤ tc ∧ tc < row.length := by have := HTOK.out; simp [tokB] at this; exact ⟨this.1, this.2.1⟩
    obtain ⟨j, rfl⟩ : ∃ j : Nat, tc = (j : Int) := ⟨tc.toNat, by omega⟩
    have hjr : j < row.length := by omega
    obtain ⟨br, ofr, rfl, r0, r1, r2⟩ := ((hr.below hb).below bz0).at_ hjr
    clear bz0
    go_wp2_with fail
    have rvx := Row.new wr 34 #[.int .i64 row[j].k, .int .i64 row[j].n, .string row[j].s]
    have bv := (Below.refl wr.heap.size wr).alloc (Nat.le_refl _) (.cells #[.int .i64 row[j].k, .int .i64 row[j].n, .string row[j].s] 34)
    have hv := hvals.below bv
    have hzx : wr.heap.size < (wr.alloc (.cells #[.int .i64 row[j].k, .int .i64 row[j].n, .string row[j].s] 34)).heap.size := by simp
    have hbx := hb.trans (bv.mono hb.size)
    have rzx := hrz.below bv
    generalize wr.alloc (.cells #[.int .i64 row[j].k, .int .i64 row[j].n, .string row[j].s] 34) = xt at *
    have hfr : st.length ≤ st.length := Nat.le_refl _
    have HFR := Lib.hid (show st.length = st.length - takes 1 by simp [takes])
    have HTV := Lib.hid (show tokVal row ⟨1, j, tvk, tvn, tvs⟩ (st.drop (st.length - takes 1)) = some row[j] by simp [tokVal, List.getElem?_eq_getElem hjr])
    have i2 : IntKind.i64.wrap (st.length : Int) = st.length := IntWalk.i64_in _ (by omega)
    generalize row[j] = v at *
    clear r0 r1 r2
    obtain ⟨⟨v0, v1, v2⟩, -⟩ := rvx.three
    have i1 : (st.length : Int) ≤ c := by omega
    have hbs : wr.heap.size ≤ xt.heap.size := by omega
    have Ra : Row (xt.alloc (.cells #[] 34)).drew xt.heap.size 34 #[] := Row.new xt 34 #[]
    have Rb : Row ((xt.alloc (.cells #[] 34)).alloc (.cells #[.int .i64 v.k, .int .i64 v.n, .string v.s] 34)).drew xt.heap.size 34 #[] := (Row.new xt 34 #[]).alloc _
    have Rc : Row ((xt.alloc (.cells #[.int .i64 v.k, .int .i64 v.n, .string v.s] 34)).alloc (.cells #[] 34)).drew (xt.heap.size + 1) 34 #[] := Row.newAt _ _ _ _ (by simp)
    have Sb : Row ((xt.alloc (.cells #[] 34)).alloc (.cells #[.int .i64 v.k, .int .i64 v.n, .string v.s] 34)).drew (xt.heap.size + 1) 34 #[.int .i64 v.k, .int .i64 v.n, .string v.s] := Row.newAt _ _ _ _ (by simp)
    have Sc : Row ((xt.alloc (.cells #[.int .i64 v.k, .int .i64 v.n, .string v.s] 34)).alloc (.cells #[] 34)).drew xt.heap.size 34 #[.int .i64 v.k, .int .i64 v.n, .string v.s] := (Row.new _ _ _).alloc _
    have Va : Vals (xt.alloc (.cells #[] 34)).drew (some a) st.length (st.take st.length) := (hv.below ((Below.refl _ xt).alloc (Nat.le_refl _) _)).take hfr
    have Vb : Vals ((xt.alloc (.cells #[] 34)).alloc (.cells #[.int .i64 v.k, .int .i64 v.n, .string v.s] 34)).drew (some a) st.length (st.take st.length) := (hv.below (((Below.refl _ xt).alloc (Nat.le_refl _) _).alloc (by simp) _)).take hfr
    have Vc : Vals ((xt.alloc (.cells #[.int .i64 v.k, .int .i64 v.n, .string v.s] 34)).alloc (.cells #[] 34)).drew (some a) st.length (st.take st.length) := (hv.below (((Below.refl _ xt).alloc (Nat.le_refl _) _).alloc (by simp) _)).take hfr
    have hlen24 : st.length ≤ 1000 := by omega
    go_region_held3 (fun w' => w'.cell? ⟨wr.heap.size, 0, none⟩ = some (.int .i64 v.k) ∧ w'.cell? ⟨wr.heap.size, 1, none⟩ = some (.int .i64 v.n) ∧ w'.cell? ⟨wr.heap.size, 2, none⟩ = some (.string v.s))
     (first | go_keep | ((with_reducible refine keep3 ?_ ((Below.refl _ _).alloc (Nat.le_refl _) _)); assumption) | ((with_reducible refine keep3g ?_ hg2 ?_ ?_ ?_) <;> first | assumption | (simp only; omega)) | ((with_reducible refine keep3g ?_ hg1 ?_ ?_ ?_) <;> first | assumption | (simp only; omega)))
     (first
      | ((with_reducible refine step_app_vals0 rfl _ _ rfl xt.heap.size xt.heap.size rfl Ra (by omega) a st.length c (st.take st.length) rfl hasp.out Va (by omega) (by first | (simp; done) | (simp; omega)) ?_); intro g1 cap1 w1 ho1 hg1 hb1)
      | ((with_reducible refine step_app_vals0 rfl _ _ rfl xt.heap.size xt.heap.size rfl Rb (by omega) a st.length c (st.take st.length) rfl hasp.out Vb (by omega) (by first | (simp; done) | (simp; omega)) ?_); intro g1 cap1 w1 ho1 hg1 hb1)
      | ((with_reducible refine step_app_vals0 rfl _ _ rfl xt.heap.size (xt.heap.size + 1) rfl Rc (by omega) a st.length c (st.take st.length) rfl hasp.out Vc (by omega) (by first | (simp; done) | (simp; omega)) ?_); intro g1 cap1 w1 ho1 hg1 hb1)
      | ((with_reducible refine step_app_vals rfl _ _ rfl xt.heap.size g1 _ cap1 _ rfl (ho1.alloc _) _ 1 1 [v] rfl rfl (vals_one (Row.new _ _ _)) (by omega) (by have := hg1.size; simp at this ⊢; omega) ?_); intro g2 cap2 w2 ho2 hg2 hb2)
      | ((with_reducible refine step_app_vals rfl _ _ rfl xt.heap.size g1 _ cap1 _ rfl ho1 _ 1 1 [v] rfl rfl (vals_one (grown_row hg1 Sb (by omega))) (by omega) (by have := hg1.size; simp at this ⊢; omega) ?_); intro g2 cap2 w2 ho2 hg2 hb2)
      | ((with_reducible refine step_app_vals rfl _ _ rfl xt.heap.size g1 _ cap1 _ rfl ho1 _ 1 1 [v] rfl rfl (vals_one (grown_row hg1 Sc (by omega))) (by omega) (by have := hg1.size; simp at this ⊢; omega) ?_); intro g2 cap2 w2 ho2 hg2 hb2))
    all_goals
     have bz : Below xt.heap.size xt w2 := by
      have hs1 := hg1.size
      simp at hs1
      first
      | exact ((Below.refl _ xt).alloc (Nat.le_refl _) _).drew.trans ((grown_below hg1 (by omega) (by simp)).trans (((Below.refl _ w1).alloc (by omega) _).trans (grown_below hg2 (by omega) (by simp; omega))))
      | exact (((Below.refl _ xt).alloc (Nat.le_refl _) _).alloc (by simp) _).drew.trans ((grown_below hg1 (by omega) (by simp; omega)).trans (grown_below hg2 (by omega) (by omega)))
     have hbz := hbx.trans (bz.mono hbx.size)
     have rzz := rzx.below bz
     have hl1 : (st.take st.length).length = st.length := by rw [List.length_take]; omega
     have hl2 : (st.take st.length ++ [v]).length = st.length + 1 := by rw [List.length_append, hl1]; rfl
     obtain ⟨hvz, hcz, hcz2⟩ := ho2.vals hl2
     have HL := Lib.hid hl2
     have hsz := bz.size
     clear hl1 hl2 ho2 ho1 hg1 hg2 hv rvx Ra Rb Rc Sb Sc Va Vb Vc v0 v1 v2 c0 c1 c2 c3 c4 i1 i2
     go_wp2_with fail
     go_roundw
     case rel =>
      refine ⟨k + 1, st.take st.length ++ [v], ⟨g2, 0, none⟩, cap2, by omega, by go_num, by rw [HL.out], by rw [HL.out]; exact hcz, hcz2, by rw [HL.out]; omega, Lib.hid rfl, Lib.hid ?_, Lib.hid ?_, Lib.hid ?_, by rw [HL.out]; exact hvz, rzz, hbz⟩
      ·rw [HL.out, HFR.out]; exact HEXP.out
      ·rw [HEV.out, evalStep_some HTV.out]; exact congrArg (fun m => some (List.take m st ++ [v])) HFR.out.symm
      ·intro u hu
       rw [List.mem_append, List.mem_singleton] at hu
       rcases hu with hu | rfl
       ·exact hstok.out u (List.mem_of_mem_take hu)
       ·exact tokVal_ok HOK.out HTOK.out HTV.out
     case measure => simp [intOf]; omega
   have d1 : (k0 == 1) = false := by simpa using hk1
   by_cases hk8 : k0 = 8
   ·skip
    subst hk8
    unfold maxLen at hcm
    have ht1 : 1 ≤ st.length := by simpa [takes] using htk
    obtain ⟨fr, hfr1⟩ : ∃ fr, fr = st.length - 1 := ⟨_, rfl⟩
    have hfrl : fr < st.length := by omega
    have bl : b < wr.heap.size := cell_lt c0
    have bz0 := (Below.refl wr.heap.size wr).alloc (Nat.le_refl _) (.cells #[.int .i64 0, .int .i64 0, .string ⟨#[]⟩] 34)
    have e0 := (bz0.cell bl).trans c0
    obtain ⟨bs, ofs, ea, s0, s1, s2⟩ := (hvals.below bz0).at_ hfrl
    obtain rfl : a = ⟨bs, ofs, none⟩ := by simpa using ea
    clear ea
    have HFR := Lib.hid (show fr = st.length - takes 8 by rw [hfr1]; simp [takes])
    have hfr : fr ≤ st.length := by omega
    have i2 : IntKind.i64.wrap ((st.length : Int) - 1) = (fr : Int) := by rw [IntWalk.i64_in _ (by omega)]; omega
    have i3 : (0 : Int) ≤ fr := by omega
    have i4 : (fr : Int) < st.length := by omega
    have hdr : st.drop (st.length - takes 8) = [st[fr]] := by
     rw [← HFR.out, List.drop_eq_getElem_cons hfrl, List.drop_eq_nil_of_le (by omega)]
    have HTV := Lib.hid (show tokVal row ⟨8, tc, tvk, tvn, tvs⟩ (st.drop (st.length - takes 8)) = some ⟨1, yes (st[fr].k == 0), ⟨#[]⟩⟩ by
     rw [hdr]; rcases yes01 (st[fr].k == 0) with h | h <;> simp [tokVal, opOf, op1, asOpt, asVl, h])
    clear hdr hfr1
    have HS := Lib.hid hfrl
    generalize st[fr] = q at *
    have rz1 := Row.new wr 34 #[.int .i64 0, .int .i64 0, .string ⟨#[]⟩]
    go_wp2_with fail
    refine (specYes _ _).mono ?_
    rintro e y1 ⟨rfl, rfl⟩
    generalize yes (q.k == 0) = yq at *
    go_wp2_with fail
    refine (specInt _ _).mono ?_
    rintro e y2 ⟨rfl, o, rfl⟩
    go_wp2_with fail
    have rvx := (Row.new wr 34 #[.int .i64 1, .int .i64 yq, .string ⟨#[]⟩]).alloc o
    have bv := ((Below.refl wr.heap.size wr).alloc (Nat.le_refl _) (.cells #[.int .i64 1, .int .i64 yq, .string ⟨#[]⟩] 34)).alloc (by simp) o
    have hv := hvals.below bv
    have hzx : wr.heap.size < ((wr.alloc (.cells #[.int .i64 1, .int .i64 yq, .string ⟨#[]⟩] 34)).alloc o).heap.size := by simp; try omega
    have hbx := hb.trans (bv.mono hb.size)
    have rzx := hrz.below bv
    generalize (wr.alloc (.cells #[.int .i64 1, .int .i64 yq, .string ⟨#[]⟩] 34)).alloc o = xt at *
    clear rz1 s0 s1 s2 e0 bz0
    obtain ⟨⟨v0, v1, v2⟩, -⟩ := rvx.three
    have i1 : (fr : Int) ≤ c := by omega
    have hbs : wr.heap.size ≤ xt.heap.size := by omega
    have Ra : Row (xt.alloc (.cells #[] 34)).drew xt.heap.size 34 #[] := Row.new xt 34 #[]
    have Rb : Row ((xt.alloc (.cells #[] 34)).alloc (.cells #[.int .i64 1, .int .i64 yq, .string ⟨#[]⟩] 34)).drew xt.heap.size 34 #[] := (Row.new xt 34 #[]).alloc _
    have Rc : Row ((xt.alloc (.cells #[.int .i64 1, .int .i64 yq, .string ⟨#[]⟩] 34)).alloc (.cells #[] 34)).drew (xt.heap.size + 1) 34 #[] := Row.newAt _ _ _ _ (by simp)
    have Sb : Row ((xt.alloc (.cells #[] 34)).alloc (.cells #[.int .i64 1, .int .i64 yq, .string ⟨#[]⟩] 34)).drew (xt.heap.size + 1) 34 #[.int .i64 1, .int .i64 yq, .string ⟨#[]⟩] := Row.newAt _ _ _ _ (by simp)
    have Sc : Row ((xt.alloc (.cells #[.int .i64 1, .int .i64 yq, .string ⟨#[]⟩] 34)).alloc (.cells #[] 34)).drew xt.heap.size 34 #[.int .i64 1, .int .i64 yq, .string ⟨#[]⟩] := (Row.new _ _ _).alloc _
    have Va : Vals (xt.alloc (.cells #[] 34)).drew (some ⟨bs, ofs, none⟩) fr (st.take fr) := (hv.below ((Below.refl _ xt).alloc (Nat.le_refl _) _)).take hfr
    have Vb : Vals ((xt.alloc (.cells #[] 34)).alloc (.cells #[.int .i64 1, .int .i64 yq, .string ⟨#[]⟩] 34)).drew (some ⟨bs, ofs, none⟩) fr (st.take fr) := (hv.below (((Below.refl _ xt).alloc (Nat.le_refl _) _).alloc (by simp) _)).take hfr
    have Vc : Vals ((xt.alloc (.cells #[.int .i64 1, .int .i64 yq, .string ⟨#[]⟩] 34)).alloc (.cells #[] 34)).drew (some ⟨bs, ofs, none⟩) fr (st.take fr) := (hv.below (((Below.refl _ xt).alloc (Nat.le_refl _) _).alloc (by simp) _)).take hfr
    have hlen24 : fr ≤ 1000 := by omega
    go_region_held3 (fun w' => w'.cell? ⟨wr.heap.size, 0, none⟩ = some (.int .i64 1) ∧ w'.cell? ⟨wr.heap.size, 1, none⟩ = some (.int .i64 yq) ∧ w'.cell? ⟨wr.heap.size, 2, none⟩ = some (.string ⟨#[]⟩))
     (first | go_keep | ((with_reducible refine keep3 ?_ ((Below.refl _ _).alloc (Nat.le_refl _) _)); assumption) | ((with_reducible refine keep3g ?_ hg2 ?_ ?_ ?_) <;> first | assumption | (simp only; omega)) | ((with_reducible refine keep3g ?_ hg1 ?_ ?_ ?_) <;> first | assumption | (simp only; omega)))
     (first
      | ((with_reducible refine step_app_vals0 rfl _ _ rfl xt.heap.size xt.heap.size rfl Ra (by omega) ⟨bs, ofs, none⟩ fr c (st.take fr) rfl rfl Va (by omega) (by first | (simp; done) | (simp; omega)) ?_); intro g1 cap1 w1 ho1 hg1 hb1)
      | ((with_reducible refine step_app_vals0 rfl _ _ rfl xt.heap.size xt.heap.size rfl Rb (by omega) ⟨bs, ofs, none⟩ fr c (st.take fr) rfl rfl Vb (by omega) (by first | (simp; done) | (simp; omega)) ?_); intro g1 cap1 w1 ho1 hg1 hb1)
      | ((with_reducible refine step_app_vals0 rfl _ _ rfl xt.heap.size (xt.heap.size + 1) rfl Rc (by omega) ⟨bs, ofs, none⟩ fr c (st.take fr) rfl rfl Vc (by omega) (by first | (simp; done) | (simp; omega)) ?_); intro g1 cap1 w1 ho1 hg1 hb1)
      | ((with_reducible refine step_app_vals rfl _ _ rfl xt.heap.size g1 _ cap1 _ rfl (ho1.alloc _) _ 1 1 [(⟨1, yq, ⟨#[]⟩⟩ : Vl)] rfl rfl (vals_one (Row.new _ _ _)) (by omega) (by have := hg1.size; simp at this ⊢; omega) ?_); intro g2 cap2 w2 ho2 hg2 hb2)
      | ((with_reducible refine step_app_vals rfl _ _ rfl xt.heap.size g1 _ cap1 _ rfl ho1 _ 1 1 [(⟨1, yq, ⟨#[]⟩⟩ : Vl)] rfl rfl (vals_one (grown_row hg1 Sb (by omega))) (by omega) (by have := hg1.size; simp at this ⊢; omega) ?_); intro g2 cap2 w2 ho2 hg2 hb2)
      | ((with_reducible refine step_app_vals rfl _ _ rfl xt.heap.size g1 _ cap1 _ rfl ho1 _ 1 1 [(⟨1, yq, ⟨#[]⟩⟩ : Vl)] rfl rfl (vals_one (grown_row hg1 Sc (by omega))) (by omega) (by have := hg1.size; simp at this ⊢; omega) ?_); intro g2 cap2 w2 ho2 hg2 hb2))
    all_goals
     have bz : Below xt.heap.size xt w2 := by
      have hs1 := hg1.size
      simp at hs1
      first
      | exact ((Below.refl _ xt).alloc (Nat.le_refl _) _).drew.trans ((grown_below hg1 (by omega) (by simp)).trans (((Below.refl _ w1).alloc (by omega) _).trans (grown_below hg2 (by omega) (by simp; omega))))
      | exact (((Below.refl _ xt).alloc (Nat.le_refl _) _).alloc (by simp) _).drew.trans ((grown_below hg1 (by omega) (by simp; omega)).trans (grown_below hg2 (by omega) (by omega)))
     have hbz := hbx.trans (bz.mono hbx.size)
     have rzz := rzx.below bz
     have hl1 : (st.take fr).length = fr := by rw [List.length_take]; omega
     have hl2 : (st.take fr ++ [(⟨1, yq, ⟨#[]⟩⟩ : Vl)]).length = fr + 1 := by rw [List.length_append, hl1]; rfl
     obtain ⟨hvz, hcz, hcz2⟩ := ho2.vals hl2
     have HL := Lib.hid hl2
     have hsz := bz.size
     clear hl1 hl2 ho2 ho1 hg1 hg2 hv rvx Ra Rb Rc Sb Sc Va Vb Vc v0 v1 v2 c0 c1 c2 c3 c4 i1 i2
     go_wp2_with fail
     go_roundw
     case rel =>
      refine ⟨k + 1, st.take fr ++ [(⟨1, yq, ⟨#[]⟩⟩ : Vl)], ⟨g2, 0, none⟩, cap2, by omega, by go_num, by rw [HL.out], by rw [HL.out]; exact hcz, hcz2, by rw [HL.out]; omega, Lib.hid rfl, Lib.hid ?_, Lib.hid ?_, Lib.hid ?_, by rw [HL.out]; exact hvz, rzz, hbz⟩
      ·rw [HL.out, HFR.out]; exact HEXP.out
      ·rw [HEV.out, evalStep_some HTV.out]; exact congrArg (fun m => some (List.take m st ++ [(⟨1, yq, ⟨#[]⟩⟩ : Vl)])) HFR.out.symm
      ·intro u hu
       rw [List.mem_append, List.mem_singleton] at hu
       rcases hu with hu | rfl
       ·exact hstok.out u (List.mem_of_mem_take hu)
       ·exact tokVal_ok HOK.out HTOK.out HTV.out
     case measure => simp [intOf]; omega
   have d8 : (k0 == 8) = false := by simpa using hk8
   by_cases hk7 : k0 = 7
   ·skip
    subst hk7
    unfold maxLen at hcm
    have ht1 : 1 ≤ st.length := by simpa [takes] using htk
    obtain ⟨fr, hfr1⟩ : ∃ fr, fr = st.length - 1 := ⟨_, rfl⟩
    have hfrl : fr < st.length := by omega
    have bl : b < wr.heap.size := cell_lt c0
    have bz0 := (Below.refl wr.heap.size wr).alloc (Nat.le_refl _) (.cells #[.int .i64 0, .int .i64 0, .string ⟨#[]⟩] 34)
    have e0 := (bz0.cell bl).trans c0
    obtain ⟨bs, ofs, ea, s0, s1, s2⟩ := (hvals.below bz0).at_ hfrl
    obtain rfl : a = ⟨bs, ofs, none⟩ := by simpa using ea
    clear ea
    have HFR := Lib.hid (show fr = st.length - takes 7 by rw [hfr1]; simp [takes])
    have hfr : fr ≤ st.length := by omega
    have i2 : IntKind.i64.wrap ((st.length : Int) - 1) = (fr : Int) := by rw [IntWalk.i64_in _ (by omega)]; omega
    have i3 : (0 : Int) ≤ fr := by omega
    have i4 : (fr : Int) < st.length := by omega
    have hdr : st.drop (st.length - takes 7) = [st[fr]] := by
     rw [← HFR.out, List.drop_eq_getElem_cons hfrl, List.drop_eq_nil_of_le (by omega)]
    have hqok := hstok.out _ (List.getElem_mem hfrl)
    have HDR := Lib.hid hdr
    have HQ := Lib.hid hqok
    clear hdr hfr1 hqok
    have HS := Lib.hid hfrl
    generalize st[fr] = q at *
    have rz1 := Row.new wr 34 #[.int .i64 0, .int .i64 0, .string ⟨#[]⟩]
    cases htr : truS q
    ·have HT := Lib.hid htr
     clear htr
     have HTV := Lib.hid (show tokVal row ⟨7, tc, tvk, tvn, tvs⟩ (st.drop (st.length - takes 7)) = none by
      have h1 : truOf q = -1 := by simpa [truS] using HT.out
      rw [HDR.out]; simp [tokVal, opOf, op1, h1, not3, asOpt])
     go_wp2_with fail
     refine (specOf q _).mono ?_
     rintro e y1 ⟨rfl, hb1⟩
     rw [HT.out]
     have rz2 := rz1.below hb1
     have bz1 := bz0.trans (hb1.mono bz0.size)
     go_wp2_with fail
     refine (specNot3 _ _).mono ?_
     rintro e y2 ⟨rfl, rfl⟩
     go_wp2_with fail
     refine (specAs _ _).mono ?_
     rintro e y3 ⟨rfl, hb3⟩
     have rz3 := rz2.below hb3
     have bz3 := bz1.trans (hb3.mono bz1.size)
     obtain ⟨⟨g0, g1, g2⟩, ⟨g3, g4, g5⟩⟩ := rz3.three
     generalize asVl (not3 (truN q)) = v at *
     have rzf := hrz.below bz3
     obtain ⟨⟨f0, f1, f2⟩, ⟨f3, f4, f5⟩⟩ := rzf.three
     have hne : w.heap.size ≠ wr.heap.size := by have := lt_of_block hrz; omega
     go_wp2_with fail
     have rzz : Row ((((((y3.setCell ⟨wr.heap.size, 0, none⟩ (.int .i64 v.k)).setCell ⟨wr.heap.size, 1, none⟩ (.int .i64 v.n)).setCell ⟨wr.heap.size, 2, none⟩ (.string v.s)).setCell ⟨w.heap.size, 0, none⟩ (.int .i64 0)).setCell ⟨w.heap.size, 1, none⟩ (.int .i64 0)).setCell ⟨w.heap.size, 2, none⟩ (.string ⟨#[]⟩)) w.heap.size 34 #[.int .i64 0, .int .i64 0, .string ⟨#[]⟩] := (((((rzf.far hne _).far hne _).far hne _).set 0 _).set 1 _).set 2 _
     obtain ⟨⟨z0, z1, z2⟩, -⟩ := rzz.three
     have hz := hb.trans (bz3.mono hb.size)
     have HN := evalB_dead (row := row) (ts := ts) (k := k + 1) (by rw [HEV.out, evalStep_none HTV.out])
     have HNN := Lib.hid HN
     clear HN
     refine bodyPost_ret (v := .tuple #[.agg #[.int .i64 0, .int .i64 0, .string ⟨#[]⟩], .bool false]) (by simp [results, Tryz.results129, go_sem, z0, z1, z2]) rfl ⟨by rw [HNN.out]; rfl, ?_⟩
     have hq := hb.size
     repeat (first | with_reducible exact hz | with_reducible refine Below.drew ?_ | with_reducible refine Below.setCell ?_ (by simp; omega) _ | with_reducible refine Below.setCell ?_ (by simp) _)
    ·have HT := Lib.hid htr
     clear htr
     have HTV := Lib.hid (show tokVal row ⟨7, tc, tvk, tvn, tvs⟩ (st.drop (st.length - takes 7)) = some (asVl (not3 (truN q))) by
      have h1 : ¬ truOf q = -1 := by simpa [truS] using HT.out
      have h2 : truN q = truOf q := by simp [truN, h1]
      have h3 : ¬ not3 (truOf q) = -1 := by rcases truOf_cases HQ.out with ⟨_, h⟩ | ⟨_, h | h⟩ | ⟨_, h⟩ <;> rw [h] <;> first | decide | exact absurd h h1
      rw [HDR.out, h2]; simp [tokVal, opOf, op1, asOpt, h3])
     go_wp2_with fail
     refine (specOf q _).mono ?_
     rintro e y1 ⟨rfl, hb1⟩
     rw [HT.out]
     have rz2 := rz1.below hb1
     have bz1 := bz0.trans (hb1.mono bz0.size)
     go_wp2_with fail
     refine (specNot3 _ _).mono ?_
     rintro e y2 ⟨rfl, rfl⟩
     go_wp2_with fail
     refine (specAs _ _).mono ?_
     rintro e y3 ⟨rfl, hb3⟩
     have rz3 := rz2.below hb3
     have bz3 := bz1.trans (hb3.mono bz1.size)
     obtain ⟨⟨g0, g1, g2⟩, ⟨g3, g4, g5⟩⟩ := rz3.three
     generalize asVl (not3 (truN q)) = v at *
     go_wp2_with fail
     have rvx := ((rz3.set 0 (.int .i64 v.k)).set 1 (.int .i64 v.n)).set 2 (.string v.s)
     have bv := ((bz3.setCell (p := ⟨wr.heap.size, 0, none⟩) (Nat.le_refl _) (.int .i64 v.k)).setCell (p := ⟨wr.heap.size, 1, none⟩) (Nat.le_refl _) (.int .i64 v.n)).setCell (p := ⟨wr.heap.size, 2, none⟩) (Nat.le_refl _) (.string v.s)
     have hv := hvals.below bv
     have hzx : wr.heap.size < (((y3.setCell ⟨wr.heap.size, 0, none⟩ (.int .i64 v.k)).setCell ⟨wr.heap.size, 1, none⟩ (.int .i64 v.n)).setCell ⟨wr.heap.size, 2, none⟩ (.string v.s)).heap.size := by have := lt_of_block rz3; simp; exact this
     have hbx := hb.trans (bv.mono hb.size)
     have rzx := hrz.below bv
     generalize ((y3.setCell ⟨wr.heap.size, 0, none⟩ (.int .i64 v.k)).setCell ⟨wr.heap.size, 1, none⟩ (.int .i64 v.n)).setCell ⟨wr.heap.size, 2, none⟩ (.string v.s) = xt at *
     clear rz1 rz2 rz3 g0 g1 g2 g3 g4 g5 s0 s1 s2 e0 bz0 bz1 bz3
     obtain ⟨⟨v0, v1, v2⟩, -⟩ := rvx.three
     have i1 : (fr : Int) ≤ c := by omega
     have hbs : wr.heap.size ≤ xt.heap.size := by omega
     have Ra : Row (xt.alloc (.cells #[] 34)).drew xt.heap.size 34 #[] := Row.new xt 34 #[]
     have Rb : Row ((xt.alloc (.cells #[] 34)).alloc (.cells #[.int .i64 v.k, .int .i64 v.n, .string v.s] 34)).drew xt.heap.size 34 #[] := (Row.new xt 34 #[]).alloc _
     have Rc : Row ((xt.alloc (.cells #[.int .i64 v.k, .int .i64 v.n, .string v.s] 34)).alloc (.cells #[] 34)).drew (xt.heap.size + 1) 34 #[] := Row.newAt _ _ _ _ (by simp)
     have Sb : Row ((xt.alloc (.cells #[] 34)).alloc (.cells #[.int .i64 v.k, .int .i64 v.n, .string v.s] 34)).drew (xt.heap.size + 1) 34 #[.int .i64 v.k, .int .i64 v.n, .string v.s] := Row.newAt _ _ _ _ (by simp)
     have Sc : Row ((xt.alloc (.cells #[.int .i64 v.k, .int .i64 v.n, .string v.s] 34)).alloc (.cells #[] 34)).drew xt.heap.size 34 #[.int .i64 v.k, .int .i64 v.n, .string v.s] := (Row.new _ _ _).alloc _
     have Va : Vals (xt.alloc (.cells #[] 34)).drew (some ⟨bs, ofs, none⟩) fr (st.take fr) := (hv.below ((Below.refl _ xt).alloc (Nat.le_refl _) _)).take hfr
     have Vb : Vals ((xt.alloc (.cells #[] 34)).alloc (.cells #[.int .i64 v.k, .int .i64 v.n, .string v.s] 34)).drew (some ⟨bs, ofs, none⟩) fr (st.take fr) := (hv.below (((Below.refl _ xt).alloc (Nat.le_refl _) _).alloc (by simp) _)).take hfr
     have Vc : Vals ((xt.alloc (.cells #[.int .i64 v.k, .int .i64 v.n, .string v.s] 34)).alloc (.cells #[] 34)).drew (some ⟨bs, ofs, none⟩) fr (st.take fr) := (hv.below (((Below.refl _ xt).alloc (Nat.le_refl _) _).alloc (by simp) _)).take hfr
     have hlen24 : fr ≤ 1000 := by omega
     go_region_held3 (fun w' => w'.cell? ⟨wr.heap.size, 0, none⟩ = some (.int .i64 v.k) ∧ w'.cell? ⟨wr.heap.size, 1, none⟩ = some (.int .i64 v.n) ∧ w'.cell? ⟨wr.heap.size, 2, none⟩ = some (.string v.s))
      (first | go_keep | ((with_reducible refine keep3 ?_ ((Below.refl _ _).alloc (Nat.le_refl _) _)); assumption) | ((with_reducible refine keep3g ?_ hg2 ?_ ?_ ?_) <;> first | assumption | (simp only; omega)) | ((with_reducible refine keep3g ?_ hg1 ?_ ?_ ?_) <;> first | assumption | (simp only; omega)))
      (first
       | ((with_reducible refine step_app_vals0 rfl _ _ rfl xt.heap.size xt.heap.size rfl Ra (by omega) ⟨bs, ofs, none⟩ fr c (st.take fr) rfl rfl Va (by omega) (by first | (simp; done) | (simp; omega)) ?_); intro g1 cap1 w1 ho1 hg1 hb1)
       | ((with_reducible refine step_app_vals0 rfl _ _ rfl xt.heap.size xt.heap.size rfl Rb (by omega) ⟨bs, ofs, none⟩ fr c (st.take fr) rfl rfl Vb (by omega) (by first | (simp; done) | (simp; omega)) ?_); intro g1 cap1 w1 ho1 hg1 hb1)
       | ((with_reducible refine step_app_vals0 rfl _ _ rfl xt.heap.size (xt.heap.size + 1) rfl Rc (by omega) ⟨bs, ofs, none⟩ fr c (st.take fr) rfl rfl Vc (by omega) (by first | (simp; done) | (simp; omega)) ?_); intro g1 cap1 w1 ho1 hg1 hb1)
       | ((with_reducible refine step_app_vals rfl _ _ rfl xt.heap.size g1 _ cap1 _ rfl (ho1.alloc _) _ 1 1 [v] rfl rfl (vals_one (Row.new _ _ _)) (by omega) (by have := hg1.size; simp at this ⊢; omega) ?_); intro g2 cap2 w2 ho2 hg2 hb2)
       | ((with_reducible refine step_app_vals rfl _ _ rfl xt.heap.size g1 _ cap1 _ rfl ho1 _ 1 1 [v] rfl rfl (vals_one (grown_row hg1 Sb (by omega))) (by omega) (by have := hg1.size; simp at this ⊢; omega) ?_); intro g2 cap2 w2 ho2 hg2 hb2)
       | ((with_reducible refine step_app_vals rfl _ _ rfl xt.heap.size g1 _ cap1 _ rfl ho1 _ 1 1 [v] rfl rfl (vals_one (grown_row hg1 Sc (by omega))) (by omega) (by have := hg1.size; simp at this ⊢; omega) ?_); intro g2 cap2 w2 ho2 hg2 hb2))
     all_goals
      have bz : Below xt.heap.size xt w2 := by
       have hs1 := hg1.size
       simp at hs1
       first
       | exact ((Below.refl _ xt).alloc (Nat.le_refl _) _).drew.trans ((grown_below hg1 (by omega) (by simp)).trans (((Below.refl _ w1).alloc (by omega) _).trans (grown_below hg2 (by omega) (by simp; omega))))
       | exact (((Below.refl _ xt).alloc (Nat.le_refl _) _).alloc (by simp) _).drew.trans ((grown_below hg1 (by omega) (by simp; omega)).trans (grown_below hg2 (by omega) (by omega)))
      have hbz := hbx.trans (bz.mono hbx.size)
      have rzz := rzx.below bz
      have hl1 : (st.take fr).length = fr := by rw [List.length_take]; omega
      have hl2 : (st.take fr ++ [v]).length = fr + 1 := by rw [List.length_append, hl1]; rfl
      obtain ⟨hvz, hcz, hcz2⟩ := ho2.vals hl2
      have HL := Lib.hid hl2
      have hsz := bz.size
      clear hl1 hl2 ho2 ho1 hg1 hg2 hv rvx Ra Rb Rc Sb Sc Va Vb Vc v0 v1 v2 c0 c1 c2 c3 c4 i1 i2
      go_wp2_with fail
      go_roundw
      case rel =>
       refine ⟨k + 1, st.take fr ++ [v], ⟨g2, 0, none⟩, cap2, by omega, by go_num, by rw [HL.out], by rw [HL.out]; exact hcz, hcz2, by rw [HL.out]; omega, Lib.hid rfl, Lib.hid ?_, Lib.hid ?_, Lib.hid ?_, by rw [HL.out]; exact hvz, rzz, hbz⟩
       ·rw [HL.out, HFR.out]; exact HEXP.out
       ·rw [HEV.out, evalStep_some HTV.out]; exact congrArg (fun m => some (List.take m st ++ [v])) HFR.out.symm
       ·intro u hu
        rw [List.mem_append, List.mem_singleton] at hu
        rcases hu with hu | rfl
        ·exact hstok.out u (List.mem_of_mem_take hu)
        ·exact tokVal_ok HOK.out HTOK.out HTV.out
      case measure => simp [intOf]; omega
   have d7 : (k0 == 7) = false := by simpa using hk7
   unfold maxLen at hcm
   have hkk : k0 = 3 ∨ k0 = 4 ∨ k0 = 5 ∨ k0 = 6 ∨ k0 = 9 ∨ k0 = 10 := by
    have := HTOK.out; unfold tokB isOpB at this; simp only [hk1, hk2, if_false] at this; split at this
    ·rename_i h; simp at h; omega
    ·cases this
   have htk2 : takes k0 = 2 := by unfold takes; rw [if_neg (by omega), if_pos hkk]
   have ht1 : 2 ≤ st.length := by rw [htk2] at htk; exact htk
   obtain ⟨f2, hf2⟩ : ∃ f2, f2 = st.length - 2 := ⟨_, rfl⟩
   obtain ⟨f1, hf1⟩ : ∃ f1, f1 = st.length - 1 := ⟨_, rfl⟩
   have hf2l : f2 < st.length := by omega
   have hf1l : f1 < st.length := by omega
   have bl : b < wr.heap.size := cell_lt c0
   have bz0 := (Below.refl wr.heap.size wr).alloc (Nat.le_refl _) (.cells #[.int .i64 0, .int .i64 0, .string ⟨#[]⟩] 34)
   have e0 := (bz0.cell bl).trans c0
   obtain ⟨bs, ofs, ea, s0, s1, s2⟩ := (hvals.below bz0).at_ hf2l
   obtain rfl : a = ⟨bs, ofs, none⟩ := by simpa using ea
   clear ea
   obtain ⟨bs', ofs', ea, s3, s4, s5⟩ := (hvals.below bz0).at_ hf1l
   obtain ⟨rfl, rfl⟩ : bs = bs' ∧ ofs = ofs' := by simpa using ea
   clear ea
   have HFR := Lib.hid (show f2 = st.length - takes k0 by rw [htk2]; exact hf2)
   have hfr : f2 ≤ st.length := by omega
   have i2 : IntKind.i64.wrap ((st.length : Int) - 2) = (f2 : Int) := by rw [IntWalk.i64_in _ (by omega)]; omega
   have i2b : IntKind.i64.wrap ((st.length : Int) - 1) = (f1 : Int) := by rw [IntWalk.i64_in _ (by omega)]; omega
   have i3 : (0 : Int) ≤ f2 := by omega
   have i4 : (f2 : Int) < st.length := by omega
   have i5 : (0 : Int) ≤ f1 := by omega
   have i6 : (f1 : Int) < st.length := by omega
   have i7 : (0 : Int) ≤ k := by omega
   have i8 : (k : Int) < ts.length := by omega
   have hdr : st.drop (st.length - takes k0) = [st[f2], st[f1]] := by
    have e1 : f1 = f2 + 1 := by omega
    subst e1
    rw [← HFR.out, List.drop_eq_getElem_cons hf2l, List.drop_eq_getElem_cons hf1l, List.drop_eq_nil_of_le (by omega)]
   have hpok := hstok.out _ (List.getElem_mem hf2l)
   have hqok := hstok.out _ (List.getElem_mem hf1l)
   have HT0 := Lib.hid (show tokVal row ⟨k0, tc, tvk, tvn, tvs⟩ (st.drop (st.length - takes k0)) = op2 k0 st[f2] st[f1] by rw [hdr]; simp [tokVal, opOf, hk1, hk2])
   clear hdr hf1 hf2 htk2
   have HPK := Lib.hid hpok
   have HQK := Lib.hid hqok
   clear hpok hqok
   generalize st[f2] = p at *
   generalize st[f1] = q at *
   have rz1 := Row.new wr 34 #[.int .i64 0, .int .i64 0, .string ⟨#[]⟩]
   have hbs : bs < wr.heap.size := by
    obtain ⟨b', o', e', hc'⟩ := hvals.2.2 (by omega)
    cases e'
    have := hc' 0 (by simp; omega) 0 (by simp [Vl.cells])
    exact cell_lt this
   have hnb : b ≠ wr.heap.size := by omega
   have hns : bs ≠ wr.heap.size := by omega
   have HKK := Lib.hid hkk
   clear hkk
   cases hop : op2 k0 p q
   ·have HOP := Lib.hid hop
    clear hop
    have HTV := Lib.hid (HT0.out.trans HOP.out)
    go_wp2_with fail
    have rzf0 := hrz.below bz0
    generalize wr.alloc (.cells #[.int .i64 0, .int .i64 0, .string ⟨#[]⟩] 34) = y0 at *
    go_region_held3 (fun w' => w'.cell? ⟨b, off + k * 5, none⟩ = some (.int .i64 k0) ∧ w'.cell? ⟨bs, ofs + f2 * 3, none⟩ = some (.int .i64 p.k) ∧ w'.cell? ⟨bs, ofs + f2 * 3 + 1, none⟩ = some (.int .i64 p.n) ∧ w'.cell? ⟨bs, ofs + f2 * 3 + 2, none⟩ = some (.string p.s) ∧ w'.cell? ⟨bs, ofs + f1 * 3, none⟩ = some (.int .i64 q.k) ∧ w'.cell? ⟨bs, ofs + f1 * 3 + 1, none⟩ = some (.int .i64 q.n) ∧ w'.cell? ⟨bs, ofs + f1 * 3 + 2, none⟩ = some (.string q.s))
     (first | go_keep | exact keep7 (by assumption) hbA | ((with_reducible refine keep7s hnb hns ?_); assumption))
     (first | (go_at_call 166; refine (specTwoNone k0 HKK.out p q _ HPK.out HQK.out HOP.out).mono ?_; rintro e yA ⟨v, rfl, hbA⟩; have rzA := rz1.drew.below hbA; have rfA := rzf0.drew.below hbA; obtain ⟨⟨g0, g1, g2⟩, ⟨g3, g4, g5⟩⟩ := rzA.three; obtain ⟨⟨f0, f1', f2'⟩, ⟨f3, f4, f5⟩⟩ := rfA.three))
    have hne : w.heap.size ≠ wr.heap.size := by have := lt_of_block hrz; omega
    have bzA := bz0.drew.trans (hbA.mono bz0.size)
    go_wp2_with fail
    have rzz : Row ((((((yA.setCell ⟨wr.heap.size, 0, none⟩ (.int .i64 v.k)).setCell ⟨wr.heap.size, 1, none⟩ (.int .i64 v.n)).setCell ⟨wr.heap.size, 2, none⟩ (.string v.s)).setCell ⟨w.heap.size, 0, none⟩ (.int .i64 0)).setCell ⟨w.heap.size, 1, none⟩ (.int .i64 0)).setCell ⟨w.heap.size, 2, none⟩ (.string ⟨#[]⟩)) w.heap.size 34 #[.int .i64 0, .int .i64 0, .string ⟨#[]⟩] := (((((rfA.far hne _).far hne _).far hne _).set 0 _).set 1 _).set 2 _
    obtain ⟨⟨z0, z1, z2⟩, -⟩ := rzz.three
    have hz := hb.trans (bzA.mono hb.size)
    have HN := evalB_dead (row := row) (ts := ts) (k := k + 1) (by rw [HEV.out, evalStep_none HTV.out])
    have HNN := Lib.hid HN
    clear HN
    refine bodyPost_ret (v := .tuple #[.agg #[.int .i64 0, .int .i64 0, .string ⟨#[]⟩], .bool false]) (by simp [results, Tryz.results129, go_sem, z0, z1, z2]) rfl ⟨by rw [HNN.out]; rfl, ?_⟩
    have hq := hb.size
    repeat (first | with_reducible exact hz | with_reducible refine Below.drew ?_ | with_reducible refine Below.setCell ?_ (by simp; omega) _ | with_reducible refine Below.setCell ?_ (by simp) _)
   ·rename_i v
    have HOP := Lib.hid hop
    clear hop
    have HTV := Lib.hid (HT0.out.trans HOP.out)
    go_wp2_with fail
    have rzf0 := hrz.below bz0
    generalize wr.alloc (.cells #[.int .i64 0, .int .i64 0, .string ⟨#[]⟩] 34) = y0 at *
    go_region_held3 (fun w' => w'.cell? ⟨b, off + k * 5, none⟩ = some (.int .i64 k0) ∧ w'.cell? ⟨bs, ofs + f2 * 3, none⟩ = some (.int .i64 p.k) ∧ w'.cell? ⟨bs, ofs + f2 * 3 + 1, none⟩ = some (.int .i64 p.n) ∧ w'.cell? ⟨bs, ofs + f2 * 3 + 2, none⟩ = some (.string p.s) ∧ w'.cell? ⟨bs, ofs + f1 * 3, none⟩ = some (.int .i64 q.k) ∧ w'.cell? ⟨bs, ofs + f1 * 3 + 1, none⟩ = some (.int .i64 q.n) ∧ w'.cell? ⟨bs, ofs + f1 * 3 + 2, none⟩ = some (.string q.s))
     (first | go_keep | exact keep7 (by assumption) hbA | ((with_reducible refine keep7s hnb hns ?_); assumption))
     (first | (go_at_call 166; refine (specTwoSome k0 HKK.out p q v _ HPK.out HQK.out HOP.out).mono ?_; rintro e yA ⟨rfl, hbA⟩; have rzA := rz1.drew.below hbA; have rfA := rzf0.drew.below hbA; obtain ⟨⟨g0, g1, g2⟩, ⟨g3, g4, g5⟩⟩ := rzA.three; obtain ⟨⟨f0, f1', f2'⟩, ⟨f3, f4, f5⟩⟩ := rfA.three))
    have bzA := bz0.drew.trans (hbA.mono bz0.size)
    go_wp2_with fail
    have rvx := ((rzA.set 0 (.int .i64 v.k)).set 1 (.int .i64 v.n)).set 2 (.string v.s)
    have bv := ((bzA.setCell (p := ⟨wr.heap.size, 0, none⟩) (Nat.le_refl _) (.int .i64 v.k)).setCell (p := ⟨wr.heap.size, 1, none⟩) (Nat.le_refl _) (.int .i64 v.n)).setCell (p := ⟨wr.heap.size, 2, none⟩) (Nat.le_refl _) (.string v.s)
    have hv := hvals.below bv
    have hzx : wr.heap.size < (((yA.setCell ⟨wr.heap.size, 0, none⟩ (.int .i64 v.k)).setCell ⟨wr.heap.size, 1, none⟩ (.int .i64 v.n)).setCell ⟨wr.heap.size, 2, none⟩ (.string v.s)).heap.size := by have := lt_of_block rzA; simp; exact this
    have hbx := hb.trans (bv.mono hb.size)
    have rzx := hrz.below bv
    generalize ((yA.setCell ⟨wr.heap.size, 0, none⟩ (.int .i64 v.k)).setCell ⟨wr.heap.size, 1, none⟩ (.int .i64 v.n)).setCell ⟨wr.heap.size, 2, none⟩ (.string v.s) = xt at *
    clear rz1 rzA rfA rzf0 g0 g1 g2 g3 g4 g5 f0 f1' f2' f3 f4 f5 s0 s1 s2 s3 s4 s5 e0 bz0 bzA
    obtain ⟨⟨v0, v1, v2⟩, -⟩ := rvx.three
    have i1 : (f2 : Int) ≤ c := by omega
    have hbs : wr.heap.size ≤ xt.heap.size := by omega
    have Ra : Row (xt.alloc (.cells #[] 34)).drew xt.heap.size 34 #[] := Row.new xt 34 #[]
    have Rb : Row ((xt.alloc (.cells #[] 34)).alloc (.cells #[.int .i64 v.k, .int .i64 v.n, .string v.s] 34)).drew xt.heap.size 34 #[] := (Row.new xt 34 #[]).alloc _
    have Rc : Row ((xt.alloc (.cells #[.int .i64 v.k, .int .i64 v.n, .string v.s] 34)).alloc (.cells #[] 34)).drew (xt.heap.size + 1) 34 #[] := Row.newAt _ _ _ _ (by simp)
    have Sb : Row ((xt.alloc (.cells #[] 34)).alloc (.cells #[.int .i64 v.k, .int .i64 v.n, .string v.s] 34)).drew (xt.heap.size + 1) 34 #[.int .i64 v.k, .int .i64 v.n, .string v.s] := Row.newAt _ _ _ _ (by simp)
    have Sc : Row ((xt.alloc (.cells #[.int .i64 v.k, .int .i64 v.n, .string v.s] 34)).alloc (.cells #[] 34)).drew xt.heap.size 34 #[.int .i64 v.k, .int .i64 v.n, .string v.s] := (Row.new _ _ _).alloc _
    have Va : Vals (xt.alloc (.cells #[] 34)).drew (some ⟨bs, ofs, none⟩) f2 (st.take f2) := (hv.below ((Below.refl _ xt).alloc (Nat.le_refl _) _)).take hfr
    have Vb : Vals ((xt.alloc (.cells #[] 34)).alloc (.cells #[.int .i64 v.k, .int .i64 v.n, .string v.s] 34)).drew (some ⟨bs, ofs, none⟩) f2 (st.take f2) := (hv.below (((Below.refl _ xt).alloc (Nat.le_refl _) _).alloc (by simp) _)).take hfr
    have Vc : Vals ((xt.alloc (.cells #[.int .i64 v.k, .int .i64 v.n, .string v.s] 34)).alloc (.cells #[] 34)).drew (some ⟨bs, ofs, none⟩) f2 (st.take f2) := (hv.below (((Below.refl _ xt).alloc (Nat.le_refl _) _).alloc (by simp) _)).take hfr
    have hlen24 : f2 ≤ 1000 := by omega
    go_region_held3 (fun w' => w'.cell? ⟨wr.heap.size, 0, none⟩ = some (.int .i64 v.k) ∧ w'.cell? ⟨wr.heap.size, 1, none⟩ = some (.int .i64 v.n) ∧ w'.cell? ⟨wr.heap.size, 2, none⟩ = some (.string v.s))
     (first | go_keep | ((with_reducible refine keep3 ?_ ((Below.refl _ _).alloc (Nat.le_refl _) _)); assumption) | ((with_reducible refine keep3g ?_ hg2 ?_ ?_ ?_) <;> first | assumption | (simp only; omega)) | ((with_reducible refine keep3g ?_ hg1 ?_ ?_ ?_) <;> first | assumption | (simp only; omega)))
     (first
      | ((with_reducible refine step_app_vals0 rfl _ _ rfl xt.heap.size xt.heap.size rfl Ra (by omega) ⟨bs, ofs, none⟩ f2 c (st.take f2) rfl rfl Va (by omega) (by first | (simp; done) | (simp; omega)) ?_); intro g1 cap1 w1 ho1 hg1 hb1)
      | ((with_reducible refine step_app_vals0 rfl _ _ rfl xt.heap.size xt.heap.size rfl Rb (by omega) ⟨bs, ofs, none⟩ f2 c (st.take f2) rfl rfl Vb (by omega) (by first | (simp; done) | (simp; omega)) ?_); intro g1 cap1 w1 ho1 hg1 hb1)
      | ((with_reducible refine step_app_vals0 rfl _ _ rfl xt.heap.size (xt.heap.size + 1) rfl Rc (by omega) ⟨bs, ofs, none⟩ f2 c (st.take f2) rfl rfl Vc (by omega) (by first | (simp; done) | (simp; omega)) ?_); intro g1 cap1 w1 ho1 hg1 hb1)
      | ((with_reducible refine step_app_vals rfl _ _ rfl xt.heap.size g1 _ cap1 _ rfl (ho1.alloc _) _ 1 1 [v] rfl rfl (vals_one (Row.new _ _ _)) (by omega) (by have := hg1.size; simp at this ⊢; omega) ?_); intro g2 cap2 w2 ho2 hg2 hb2)
      | ((with_reducible refine step_app_vals rfl _ _ rfl xt.heap.size g1 _ cap1 _ rfl ho1 _ 1 1 [v] rfl rfl (vals_one (grown_row hg1 Sb (by omega))) (by omega) (by have := hg1.size; simp at this ⊢; omega) ?_); intro g2 cap2 w2 ho2 hg2 hb2)
      | ((with_reducible refine step_app_vals rfl _ _ rfl xt.heap.size g1 _ cap1 _ rfl ho1 _ 1 1 [v] rfl rfl (vals_one (grown_row hg1 Sc (by omega))) (by omega) (by have := hg1.size; simp at this ⊢; omega) ?_); intro g2 cap2 w2 ho2 hg2 hb2))
    all_goals
     have bz : Below xt.heap.size xt w2 := by
      have hs1 := hg1.size
      simp at hs1
      first
      | exact ((Below.refl _ xt).alloc (Nat.le_refl _) _).drew.trans ((grown_below hg1 (by omega) (by simp)).trans (((Below.refl _ w1).alloc (by omega) _).trans (grown_below hg2 (by omega) (by simp; omega))))
      | exact (((Below.refl _ xt).alloc (Nat.le_refl _) _).alloc (by simp) _).drew.trans ((grown_below hg1 (by omega) (by simp; omega)).trans (grown_below hg2 (by omega) (by omega)))
     have hbz := hbx.trans (bz.mono hbx.size)
     have rzz := rzx.below bz
     have hl1 : (st.take f2).length = f2 := by rw [List.length_take]; omega
     have hl2 : (st.take f2 ++ [v]).length = f2 + 1 := by rw [List.length_append, hl1]; rfl
     obtain ⟨hvz, hcz, hcz2⟩ := ho2.vals hl2
     have HL := Lib.hid hl2
     have hsz := bz.size
     clear hl1 hl2 ho2 ho1 hg1 hg2 hv rvx Ra Rb Rc Sb Sc Va Vb Vc v0 v1 v2 c0 c1 c2 c3 c4 i1 i2
     go_wp2_with fail
     go_roundw
     case rel =>
      refine ⟨k + 1, st.take f2 ++ [v], ⟨g2, 0, none⟩, cap2, by omega, by go_num, by rw [HL.out], by rw [HL.out]; exact hcz, hcz2, by rw [HL.out]; omega, Lib.hid rfl, Lib.hid ?_, Lib.hid ?_, Lib.hid ?_, by rw [HL.out]; exact hvz, rzz, hbz⟩
      ·rw [HL.out, HFR.out]; exact HEXP.out
      ·rw [HEV.out, evalStep_some HTV.out]; exact congrArg (fun m => some (List.take m st ++ [v])) HFR.out.symm
      ·intro u hu
       rw [List.mem_append, List.mem_singleton] at hu
       rcases hu with hu | rfl
       ·exact hstok.out u (List.mem_of_mem_take hu)
       ·exact tokVal_ok HOK.out HTOK.out HTV.out
     case measure => simp [intOf]; omega
  ·have e : ts.take k = ts := List.take_of_length_le (by omega)
   have hx := hexp.out
   rw [e] at hx
   have hl1 : st.length = 1 := by have := HGO.out; rw [hx] at this; simpa using this
   have hev' := hev.out
   rw [e] at hev'
   have h0 : 0 < st.length := by omega
   obtain ⟨bs, ofs, ea, s0, s1, s2⟩ := hvals.at_ h0
   obtain rfl : a = ⟨bs, ofs, none⟩ := by simpa using ea
   have hB : evalB ts row = some st[0] := by
    unfold evalB
    rw [if_pos (by rw [Bool.and_eq_true]; exact ⟨HR.out, HE.out⟩), hev']
    simp [h0]
   have HB := Lib.hid hB
   clear hB hev' hx e hl1 ea
   generalize st[0] = v at *
   rw [Nat.zero_mul, Nat.add_zero] at s0 s1 s2
   obtain ⟨⟨f0, f1, f2⟩, ⟨f3, f4, f5⟩⟩ := hrz.three
   have rzz : Row (((wr.setCell ⟨w.heap.size, 0, none⟩ (.int .i64 v.k)).setCell ⟨w.heap.size, 1, none⟩ (.int .i64 v.n)).setCell ⟨w.heap.size, 2, none⟩ (.string v.s)) w.heap.size 34 #[.int .i64 v.k, .int .i64 v.n, .string v.s] := ((hrz.set 0 _).set 1 _).set 2 _
   obtain ⟨⟨z0, z1, z2⟩, -⟩ := rzz.three
   clear rzz
   go_wp2_with fail
   refine bodyPost_ret (v := .tuple #[.agg #[.int .i64 v.k, .int .i64 v.n, .string v.s], .bool true]) (by simp [results, Tryz.results129, go_sem, z0, z1, z2]) rfl ⟨by rw [HB.out]; rfl, ?_⟩
   repeat (first | with_reducible exact hb | with_reducible refine Below.drew ?_ | with_reducible refine Below.setCell ?_ (by simp; omega) _ | with_reducible refine Below.setCell ?_ (by simp) _)
theorem rowB_le {row : List Vl} (h : rowB row = true) : row.length ≤ 16 := by simp [rowB] at h; exact h.1
set_option maxRecDepth 100000 in
set_option maxHeartbeats 1000000 in
theorem specL2Truth (A R : Option Addr) (n m cap capR : Nat) (ts : List Tk) (row : List Vl) (w : World) (h : Toks w A n ts) (hr : Vals w R m row) (hn : n ≤ maxLen) (hm : m ≤ maxLen) (hrow : rowB row = true) (hex : exprB ts row.length = true) :
  Calls Tryz.prog 94 #[.slice A n cap, .slice R m capR] w fun e w' => e = .returned (.int .i64 (truthB ts row)) ∧ Below w.heap.size w w' := by
 have HR := Lib.hid hrow
 have HX := Lib.hid hex
 clear hrow hex
 cases hv : evalB ts row with
 | none =>
  have HE := Lib.hid hv
  have HT := Lib.hid (show truthB ts row = -1 by simp [truthB, hv])
  have HZ := Lib.hid (show truS Vl.zero = true by simp [truS, truOf, Vl.zero])
  clear hv
  go_enter Tryz.func94, Tryz.ntmps94
  go_wp2_with fail
  refine (specL2Eval A R n m cap capR ts row _ h hr hn hm HR.out HX.out).mono ?_
  rintro e w1 ⟨rfl, hb1⟩
  rw [HE.out]
  simp only [Option.getD_none, Option.isSome_none]
  have r1 := Row.new w1 34 #[.int .i64 Vl.zero.k, .int .i64 Vl.zero.n, .string Vl.zero.s]
  have hbx := hb1.alloc hb1.size (.cells #[.int .i64 Vl.zero.k, .int .i64 Vl.zero.n, .string Vl.zero.s] 34)
  go_wp2_with fail
  generalize Vl.zero = v at *
  refine (specOf v _).mono ?_
  rintro e w2 ⟨rfl, hb2⟩
  go_wp2
  go_ret
  exact ⟨retI (by rw [HT.out]), hbx.trans (hb2.mono hbx.size)⟩
 | some v =>
  have HE := Lib.hid hv
  have HT := Lib.hid (show truthB ts row = truOf v by simp [truthB, hv])
  clear hv
  cases hs : truS v
  ·have HS := Lib.hid hs
   have HT2 := Lib.hid (show truOf v = -1 by simpa [truS] using hs)
   clear hs
   go_enter Tryz.func94, Tryz.ntmps94
   go_wp2_with fail
   refine (specL2Eval A R n m cap capR ts row _ h hr hn hm HR.out HX.out).mono ?_
   rintro e w1 ⟨rfl, hb1⟩
   rw [HE.out]
   simp only [Option.getD_some, Option.isSome_some]
   have hbx := hb1.alloc hb1.size (.cells #[.int .i64 v.k, .int .i64 v.n, .string v.s] 34)
   go_wp2_with fail
   refine (specOf v _).mono ?_
   rintro e w2 ⟨rfl, hb2⟩
   rw [HS.out]
   go_wp2
   go_ret
   exact ⟨retI (by rw [HT.out, HT2.out]), hbx.trans (hb2.mono hbx.size)⟩
  ·have HS := Lib.hid hs
   have HT2 := Lib.hid (show truN v = truOf v by have h1 : ¬ truOf v = -1 := by simpa [truS] using hs
                                                 simp [truN, h1])
   clear hs
   go_enter Tryz.func94, Tryz.ntmps94
   go_wp2_with fail
   refine (specL2Eval A R n m cap capR ts row _ h hr hn hm HR.out HX.out).mono ?_
   rintro e w1 ⟨rfl, hb1⟩
   rw [HE.out]
   simp only [Option.getD_some, Option.isSome_some]
   have hbx := hb1.alloc hb1.size (.cells #[.int .i64 v.k, .int .i64 v.n, .string v.s] 34)
   go_wp2_with fail
   refine (specOf v _).mono ?_
   rintro e w2 ⟨rfl, hb2⟩
   rw [HS.out]
   go_wp2
   go_ret
   exact ⟨retI (by rw [HT.out, HT2.out]), hbx.trans (hb2.mono hbx.size)⟩
end Go.Proofs.YtciaidjmehelpaaGreat
namespace Go.Proofs.YtciaidjmehelpaaGreat
open Go.RowKit Go.Maps
set_option maxRecDepth 100000 in
set_option maxHeartbeats 1000000 in
theorem specNulls (A1 AR : Option Addr) (n1 c1 nR cR : Nat) (v0 v2 v3 v4 v5 : Value) (cols : List Cl) (row : List Vl) (ok : Nat → Prop) (w : World)
  (h : Sl ClR 6 ok w A1 n1 cols) (hv : Vals w AR nR row) (hn1 : n1 ≤ 1048576) (hn2 : nR ≤ 1048576) (hlen : row.length = cols.length) :
  Calls Tryz.prog 170 #[.agg #[v0, .slice A1 n1 c1, v2, v3, v4, v5], .slice AR nR cR] w fun e w' => e = .returned (.bool (nullsB cols row)) ∧ Below w.heap.size w w' := by
 obtain rfl : cols.length = n1 := h.1
 obtain rfl : row.length = nR := hv.len
 have hb0 := (Below.refl w.heap.size w).alloc (Nat.le_refl _) (.cells #[v0, .slice A1 cols.length c1, v2, v3, v4, v5] 82)
 have r0 := Row.new w 82 #[v0, .slice A1 cols.length c1, v2, v3, v4, v5]
 have hz : (cols.zip row).length = cols.length := by simp [hlen]
 have HZ := Lib.hid hz
 have HL := Lib.hid hlen
 clear hz hlen
 go_enter Tryz.func170, Tryz.ntmps170
 go_wp2_with fail
 generalize w.alloc (.cells #[v0, .slice A1 cols.length c1, v2, v3, v4, v5] 82) = x0 at *
 go_loopw [5] (fun i wr => ∃ k : Nat, k ≤ cols.length ∧ i = .int .i64 k ∧ Hid (((cols.zip row).take k).all nullV = true) ∧ Row wr w.heap.size 82 #[v0, .slice A1 cols.length c1, v2, v3, v4, v5] ∧ Below w.heap.size w wr) (fun i _ => cols.length - (intOf i).toNat)
 case atStart => exact ⟨0, by omega, rfl, Lib.hid (by simp), r0, hb0⟩
 case round =>
  obtain ⟨k, hk, rfl, hall, hr, hb⟩ := hrel
  by_cases hlt : k < cols.length
  ·have hlt2 : k < row.length := by have := HL.out; omega
   obtain ⟨⟨d0, d1, d2, d3, d4, d5⟩, -⟩ := hr.all6
   obtain ⟨b2, off2, rfl, p0, p1, p2⟩ := (hv.below hb).at_ hlt2
   obtain ⟨b, off, -, rfl, q0, q1, q2, q3, q4, q5⟩ := ClR.at_ (h.below ClR.stays hb) hlt
   have hsn := all_take nullV (cols.zip row) k (by rw [HZ.out]; exact hlt)
   have hno := fun hf => all_no nullV (cols.zip row) k (by rw [HZ.out]; exact hlt) hf
   have eg : nullV ((cols.zip row)[k]'(by rw [HZ.out]; exact hlt)) = !(cols[k].nn && row[k].k == 0) := by rw [List.getElem_zip]; rfl
   rw [hall.out, Bool.true_and, eg] at hsn
   rw [eg] at hno
   have i0 : (0 : Int) ≤ k := by omega
   have i1 : (k : Int) < cols.length := by omega
   have i2 : (k : Int) < row.length := by have := HL.out; omega
   clear eg
   cases hd : cols[k].nn
   ·have HA := Lib.hid (show ((cols.zip row).take (k + 1)).all nullV = true by rw [hsn, hd]; rfl)
    rw [hd] at q2
    clear hsn hno hall
    go_wp2_with fail
    go_roundw
    case rel => exact ⟨k + 1, by omega, by go_num, Lib.hid HA.out, hr, hb⟩
    case measure => simp [intOf]; omega
   rw [hd] at q2
   cases hc : (row[k].k == 0)
   ·have HA := Lib.hid (show ((cols.zip row).take (k + 1)).all nullV = true by rw [hsn, hc, Bool.and_false]; rfl)
    clear hsn hno hall
    go_wp2_with fail
    go_roundw
    case rel => exact ⟨k + 1, by omega, by go_num, Lib.hid HA.out, hr, hb⟩
    case measure => simp [intOf]; omega
   ·have HF := Lib.hid (show nullsB cols row = false from hno (by rw [hc, hd]; rfl))
    clear hsn hno hall
    go_wp2_with fail
    go_ret
    exact ⟨retB HF.out.symm, hb⟩
  ·have e : (cols.zip row).take k = cols.zip row := List.take_of_length_le (by rw [HZ.out]; omega)
   have h1 := hall.out
   rw [e] at h1
   have HF := Lib.hid (show nullsB cols row = true from h1)
   have i3 : ¬ (k : Int) < row.length := by have := HL.out; omega
   clear e h1 hall
   go_wp2
   go_ret
   exact ⟨retB HF.out.symm, hb⟩
theorem truthB_rng (ts : List Tk) (row : List Vl) : truthB ts row = -1 ∨ truthB ts row = 0 ∨ truthB ts row = 1 ∨ truthB ts row = 2 := by
 unfold truthB
 split
 ·unfold truOf
  split
  ·simp
  ·split
   ·unfold yes; split <;> simp
   ·simp
 ·simp
set_option maxRecDepth 100000 in
set_option maxHeartbeats 1000000 in
theorem specChecks (AL AR : Option Addr) (nL cL nR cR : Nat) (v0 v1 v2 v3 v5 : Value) (l : List Ck) (row : List Vl) (ok : Nat → Prop) (w : World)
  (h : Sl CkR 1 ok w AL nL l) (hv : Vals w AR nR row) (hs : szL Ck.sz l ≤ 1048576) (hn2 : nR ≤ 1048576) (hrow : rowB row = true) (hex : ∀ u ∈ l, exprB u.expr row.length = true) :
  Calls Tryz.prog 171 #[.agg #[v0, v1, v2, v3, .slice AL nL cL, v5], .slice AR nR cR] w fun e w' => e = .returned (.bool (checksB l row)) ∧ Below w.heap.size w w' := by
 obtain rfl : l.length = nL := h.1
 have hn1 : l.length ≤ 1048576 := by unfold szL at hs; omega
 have HSZ := Lib.hid hs
 have HR := Lib.hid hrow
 have HX := Lib.hid hex
 have HM := Lib.hid (show nR ≤ maxLen by unfold maxLen; omega)
 clear hs hrow hex
 have hb0 := (Below.refl w.heap.size w).alloc (Nat.le_refl _) (.cells #[v0, v1, v2, v3, .slice AL l.length cL, v5] 82)
 have r0 := Row.new w 82 #[v0, v1, v2, v3, .slice AL l.length cL, v5]
 go_enter Tryz.func171, Tryz.ntmps171
 go_wp2_with fail
 generalize w.alloc (.cells #[v0, v1, v2, v3, .slice AL l.length cL, v5] 82) = x0 at *
 go_loopw [5] (fun i wr => ∃ k : Nat, k ≤ l.length ∧ i = .int .i64 k ∧ Hid ((l.take k).all (ckV row) = true) ∧ Row wr w.heap.size 82 #[v0, v1, v2, v3, .slice AL l.length cL, v5] ∧ Below w.heap.size w wr) (fun i _ => l.length - (intOf i).toNat)
 case atStart => exact ⟨0, by omega, rfl, Lib.hid (by simp), r0, hb0⟩
 case round =>
  obtain ⟨k, hk, rfl, hall, hr, hb⟩ := hrel
  obtain ⟨⟨d0, d1, d2, d3, d4, d5⟩, -⟩ := hr.all6
  by_cases hlt : k < l.length
  ·obtain ⟨b, off, A9, n9, c9, -, ea, q0, s0, hcp⟩ := CkR.at_ (h.below CkR.stays hb) hlt
   rw [ea] at d4
   clear ea
   obtain rfl : l[k].expr.length = n9 := s0.1
   have hv1 := hv.below hb
   have hk9 : l[k].expr.length ≤ 1048576 := by have := HSZ.out; have := sum_mem_le Ck.sz l k hlt; unfold szL at *; simp only [Ck.sz] at *; (try unfold szL at *); (try simp only at *); omega
   have HK9 := Lib.hid (show l[k].expr.length ≤ maxLen by unfold maxLen; omega)
   have hsn := all_take (ckV row) l k hlt
   rw [hall.out, Bool.true_and] at hsn
   have hno := fun hf => all_no (ckV row) l k hlt hf
   have i0 : (0 : Int) ≤ k := by omega
   have i1 : (k : Int) < l.length := by omega
   have hcall := specL2Truth A9 AR l[k].expr.length nR c9 cR l[k].expr row _ (Sl.cellz (fun _ => rfl) s0) hv1 HK9.out HM.out HR.out (HX.out _ (List.getElem_mem hlt))
   have HCALL := Lib.hid hcall
   clear hk9 hcall
   rcases truthB_rng l[k].expr row with h1 | h1 | h1 | h1
   ·have HF := Lib.hid (show checksB l row = false from hno (by unfold ckV truOkB; rw [h1]; rfl))
    have H1 := Lib.hid h1
    clear hsn hno hall h1
    go_wp2_with fail
    refine HCALL.out.mono ?_
    rintro e w1 ⟨rfl, hb1⟩
    rw [H1.out]
    clear HCALL
    go_wp2
    go_ret
    exact ⟨retB HF.out.symm, hb.trans (hb1.mono hb.size)⟩
   ·have HF := Lib.hid (show checksB l row = false from hno (by unfold ckV truOkB; rw [h1]; rfl))
    have H1 := Lib.hid h1
    clear hsn hno hall h1
    go_wp2_with fail
    refine HCALL.out.mono ?_
    rintro e w1 ⟨rfl, hb1⟩
    rw [H1.out]
    clear HCALL
    go_wp2
    go_ret
    exact ⟨retB HF.out.symm, hb.trans (hb1.mono hb.size)⟩
   all_goals
    have HA := Lib.hid (show (l.take (k + 1)).all (ckV row) = true by rw [hsn]; unfold ckV truOkB; rw [h1]; rfl)
    have H1 := Lib.hid h1
    clear hsn hno hall h1
    go_wp2_with fail
    refine HCALL.out.mono ?_
    rintro e w1 ⟨rfl, hb1⟩
    rw [H1.out]
    clear HCALL
    go_wp2
    go_roundw
    case rel => exact ⟨k + 1, by omega, by go_num, Lib.hid HA.out, hr.below hb1, hb.trans (hb1.mono hb.size)⟩
    case measure => simp [intOf]; omega
  ·have e : l.take k = l := List.take_of_length_le (by omega)
   have h1 := hall.out
   rw [e] at h1
   have HF := Lib.hid (show checksB l row = true from h1)
   clear e h1 hall
   go_wp2
   go_ret
   exact ⟨retB HF.out.symm, hb⟩
theorem fit_all {cols : List Cl} {row : List Vl} (hl : row.length = cols.length) (h : fitAll cols row = true) : row.all Vl.ok = true := by
 induction row generalizing cols with
 | nil => rfl
 | cons v vs ih =>
  cases cols with
  | nil => simp at hl
  | cons c cs =>
   unfold fitAll at h
   rw [List.zip_cons_cons, List.all_cons, Bool.and_eq_true] at h
   have h1 : valOkB v.k v.n v.s = true := by
    have := h.1; unfold fitV fitsB at this; simp only [Bool.and_eq_true] at this; exact this.1
   rw [List.all_cons, ih (by simpa using hl) h.2, Bool.and_true]
   exact h1
theorem rowB_of {x : Tb} {row : List Vl} (hT : tableB x = true) (hK : kindsB x.cols row = true) : rowB row = true := by
 unfold kindsB at hK
 rw [Bool.and_eq_true, decide_eq_true_eq] at hK
 unfold tableB colsB at hT
 simp only [Bool.and_eq_true, decide_eq_true_eq] at hT
 have h8 : x.cols.length ≤ 8 := hT.2.1.2.1
 unfold rowB
 rw [fit_all hK.1 hK.2, decide_eq_true (by omega)]; rfl
theorem exprs_of {x : Tb} {row : List Vl} (hT : tableB x = true) (hl : row.length = x.cols.length) : ∀ u ∈ x.checks, exprB u.expr row.length = true := by
 unfold tableB cksB at hT
 simp only [Bool.and_eq_true, decide_eq_true_eq] at hT
 intro u hu
 rw [hl]
 exact List.all_eq_true.1 hT.2.2.2.2.1.2 u hu
end Go.Proofs.YtciaidjmehelpaaGreat
namespace Go.Proofs.YtciaidjmehelpaaGreat
open Go.RowKit
def nextI (rows : List Rw) : Int := match rows.getLast? with | none => 1 | some r => r.id + 1
theorem nextI_last {rows : List Rw} {k : Nat} (h : rows.length = k + 1) (hk : k < rows.length) : nextI rows = rows[k].id + 1 := by
 unfold nextI
 rw [List.getLast?_eq_getElem?, h, Nat.add_sub_cancel, List.getElem?_eq_getElem hk]
set_option maxRecDepth 100000 in
theorem specL6Next (AL : Option Addr) (nL cL : Nat) (rows : List Rw) (ok : Nat → Prop) (w : World) (hr : Sl RwR 2 ok w AL nL rows) (hn : nL ≤ 1048576) (hid : ∀ r ∈ rows, -1000000000 ≤ r.id ∧ r.id ≤ 1000000000) :
  Calls Tryz.prog 140 #[.agg #[.slice AL nL cL]] w fun e w' => e = .returned (.int .i64 (nextI rows)) ∧ Below w.heap.size w w' := by
 obtain rfl : rows.length = nL := hr.1
 have hb0 := (Below.refl w.heap.size w).alloc (Nat.le_refl _) (.cells #[.slice AL rows.length cL] 55)
 obtain ⟨c0, -⟩ := (Row.new w 55 #[.slice AL rows.length cL]).all1
 by_cases h0 : rows.length = 0
 ·have hx : rows = [] := List.length_eq_zero_iff.1 h0
  subst hx
  go_enter Tryz.func140, Tryz.ntmps140
  go_wp2
  go_ret
  exact ⟨rfl, hb0⟩
 ·obtain ⟨k, hk⟩ : ∃ k, rows.length = k + 1 := ⟨rows.length - 1, by omega⟩
  have hlt : k < rows.length := by omega
  obtain ⟨b, off, A1, n1, c1, -, rfl, q0, q1, -, -⟩ := RwR.at_ (hr.below RwR.stays hb0) hlt
  have hrx := hid _ (List.getElem_mem hlt)
  have HN := Lib.hid (nextI_last hk hlt)
  have hk1 : (rows.length : Int) - 1 = k := by omega
  have hk2 : ¬ (rows.length : Int) = 0 := by omega
  have hk3 : ((rows.length : Int) == 0) = false := by simpa using hk2
  have i0 : (0 : Int) ≤ k := by omega
  have i1 : (k : Int) < rows.length := by omega
  have hw : IntKind.i64.wrap (rows[k].id + 1) = rows[k].id + 1 := by rw [IntKind.wrap_i64]; omega
  generalize rows[k].id = id at *
  clear hk h0 hid
  go_enter Tryz.func140, Tryz.ntmps140
  go_wp2
  go_ret
  exact ⟨by rw [HN.out]; rfl, hb0⟩
def ableI (t : Tb) (row : List Vl) : Int := if nullsB t.cols row then (if checksB t.checks row then 0 else 3) else 2
set_option maxRecDepth 100000 in
set_option maxHeartbeats 1000000 in
theorem specL6Able (A1 : Option Addr) (n1 c1 : Nat) (A2 : Option Addr) (n2 c2 : Nat) (A3 : Option Addr) (n3 c3 : Nat) (A4 : Option Addr) (n4 c4 : Nat) (A5 : Option Addr) (n5 c5 : Nat) (AR : Option Addr) (nR cR : Nat) (t : Tb) (row : List Vl) (ok okv : Nat → Prop) (w : World)
  (h1 : Sl ClR 6 ok w A1 n1 t.cols) (h4 : Sl CkR 1 ok w A4 n4 t.checks) (hv : Sl VlR 3 okv w AR nR row) (hts : t.sz ≤ 1048576) (hn2 : nR ≤ 1048576) (hlen : row.length = t.cols.length) (hrow : rowB row = true) (hex : ∀ u ∈ t.checks, exprB u.expr row.length = true) :
  Calls Tryz.prog 139 #[.agg #[.string t.name, .slice A1 n1 c1, .slice A2 n2 c2, .slice A3 n3 c3, .slice A4 n4 c4, .slice A5 n5 c5], .slice AR nR cR] w fun e w' => e = .returned (.int .i64 (ableI t row)) ∧ Below w.heap.size w w' := by
 have hn1 : n1 ≤ 1048576 := by rw [← h1.1]; unfold Tb.sz szL at hts; omega
 have hcs : szL Ck.sz t.checks ≤ 1048576 := by unfold Tb.sz at hts; omega
 have HC := Lib.hid hcs
 have HX := Lib.hid hex
 have HR := Lib.hid hrow
 have hb0 := (Below.refl w.heap.size w).alloc (Nat.le_refl _) (.cells #[.string t.name, .slice A1 n1 c1, .slice A2 n2 c2, .slice A3 n3 c3, .slice A4 n4 c4, .slice A5 n5 c5] 82)
 have rt := Row.new w 82 #[.string t.name, .slice A1 n1 c1, .slice A2 n2 c2, .slice A3 n3 c3, .slice A4 n4 c4, .slice A5 n5 c5]
 obtain ⟨⟨p0, p1, p2, p3, p4, p5⟩, -⟩ := rt.all6
 clear hcs hex hrow
 go_enter Tryz.func139, Tryz.ntmps139
 go_wp2_with fail
 generalize w.alloc (.cells #[.string t.name, .slice A1 n1 c1, .slice A2 n2 c2, .slice A3 n3 c3, .slice A4 n4 c4, .slice A5 n5 c5] 82) = z at *
 refine (specNulls A1 AR n1 c1 nR cR _ _ _ _ _ t.cols row _ _ (h1.below ClR.stays hb0) (Sl.cellz (fun _ => rfl) (hv.below VlR.stays hb0)) hn1 hn2 hlen).mono ?_
 rintro e w1 ⟨rfl, hq⟩
 have rt := rt.below hq
 have hb1 := hb0.trans (hq.mono hb0.size)
 clear p0 p1 p2 p3 p4 p5 hq
 obtain ⟨⟨p0, p1, p2, p3, p4, p5⟩, -⟩ := rt.all6
 cases hu : nullsB t.cols row
 ·have HF := Lib.hid (show ableI t row = 2 by unfold ableI; rw [hu]; rfl)
  go_wp2_with fail
  go_ret
  exact ⟨by rw [HF.out]; rfl, hb1⟩
 go_wp2_with fail
 refine (specChecks A4 AR n4 c4 nR cR _ _ _ _ _ t.checks row _ _ (h4.below CkR.stays hb1) (Sl.cellz (fun _ => rfl) (hv.below VlR.stays hb1)) HC.out hn2 HR.out HX.out).mono ?_
 rintro e w2 ⟨rfl, hq⟩
 have hb2 := hb1.trans (hq.mono hb1.size)
 clear hq
 cases hk : checksB t.checks row
 ·have HF := Lib.hid (show ableI t row = 3 by unfold ableI; rw [hu, hk]; rfl)
  go_wp2_with fail
  go_ret
  exact ⟨by rw [HF.out]; rfl, hb2⟩
 ·have HF := Lib.hid (show ableI t row = 0 by unfold ableI; rw [hu, hk]; rfl)
  go_wp2_with fail
  go_ret
  exact ⟨by rw [HF.out]; rfl, hb2⟩
def keysIn (t : Tb) (v : List Vl) : Prop := t.key.all (inV v) = true ∧ (∀ u ∈ t.uniqs, u.cols.all (inV v) = true) ∧ v.length ≤ 1048576
def rivB (t : Tb) (x r : Rw) : Bool := (r.id != x.id) && !(uniqueB t [r] x)
def rivI (t : Tb) (rows : List Rw) (x : Rw) : List Int := (rows.filter (rivB t x)).map Rw.id
theorem rivI_take (t : Tb) (rows : List Rw) (x : Rw) (k : Nat) (h : k < rows.length) : rivI t (rows.take (k + 1)) x = rivI t (rows.take k) x ++ (if rivB t x rows[k] then [rows[k].id] else []) := by
 unfold rivI
 rw [List.take_succ_eq_append_getElem h, List.filter_append, List.map_append]
 congr 1
 cases hb : rivB t x rows[k] <;> simp [hb]
theorem rivI_len (t : Tb) (rows : List Rw) (x : Rw) (k : Nat) : (rivI t (rows.take k) x).length ≤ k := by
 unfold rivI
 rw [List.length_map]
 exact Nat.le_trans (List.length_filter_le _ _) (by rw [List.length_take]; omega)
theorem row_one {w : World} {g : Nat} {x : Rw} {A : Option Addr} {n c : Nat} {ok : Nat → Prop} (hr : Row w g 57 #[.int .i64 x.id, .slice A n c]) (hv : Sl VlR 3 ok w A n x.vals) (hc : n ≤ c) : Sl RwR 2 (fun _ => True) w (some ⟨g, 0, none⟩) 1 [x] := by
 refine ⟨rfl, fun _ => ⟨g, 0, rfl, trivial, fun i hi => ?_⟩⟩
 obtain rfl : i = 0 := by simpa using hi
 refine ⟨[.int .i64 x.id, .slice A n c], rfl, ⟨A, n, c, rfl, hv.stays VlR.stays (fun _ _ => trivial) (fun _ _ _ h => h), hc⟩, fun j v hj => ?_⟩
 have h1 := hr.cell j
 rw [show (0 : Nat) + 0 * 2 + j = j by omega, h1, ← hj]
 simp
theorem one_all {x : Rw} {P : Rw → Prop} (h : P x) : ∀ r ∈ [x], P r := fun r hr => by rw [List.mem_singleton.1 hr]; exact h
theorem bx3r {w w' : World} {g0 g1 g2 : Nat} {T0 T1 T2 : TypeId} {c0 c1 c2 : Array Value} (h : Row w g0 T0 c0 ∧ Row w g1 T1 c1 ∧ Row w g2 T2 c2) (hb : Below w.heap.size w w') : Row w' g0 T0 c0 ∧ Row w' g1 T1 c1 ∧ Row w' g2 T2 c2 := ⟨h.1.below hb, h.2.1.below hb, h.2.2.below hb⟩
theorem rows3 {u w' : World} {g0 g1 g2 : Nat} {T0 T1 T2 : TypeId} {c0 c1 c2 : Array Value} (h : Row u g0 T0 c0 ∧ Row u g1 T1 c1 ∧ Row u g2 T2 c2) (hk : ∀ g T cs, T ≠ 2 → Row u g T cs → Row w' g T cs) (h0 : T0 ≠ 2 := by decide) (h1 : T1 ≠ 2 := by decide) (h2 : T2 ≠ 2 := by decide) : Row w' g0 T0 c0 ∧ Row w' g1 T1 c1 ∧ Row w' g2 T2 c2 := ⟨hk _ _ _ h0 h.1, hk _ _ _ h1 h.2.1, hk _ _ _ h2 h.2.2⟩
theorem grown_ints {u w' : World} {o : Obj} {base : Nat} {v : Value} {xs : List Int} (hg : (u.alloc o).grownBy w' v.ownBlock) (ho : OwnI u base v xs) : ∀ g T cs, T ≠ 2 → Row u g T cs → Row w' g T cs := fun g T cs hT hr => by
 refine (hg.block g (lt_of_block (hr.alloc o)) (fun e => ?_)).trans (hr.alloc o)
 rcases ho.2 with ⟨rfl, -⟩ | ⟨k, cap, cur, rfl, h1, h2, -⟩
 ·cases e
 ·have e1 : k = g := by simpa [Value.ownBlock] using e.symm
  subst e1
  have h3 : u.heap[k]? = some (.cells cs T (0, 0)) := hr
  rw [h2] at h3
  injection h3 with h4
  injection h4 with _ h5 _
  exact hT h5.symm
set_option maxRecDepth 100000 in
set_option maxHeartbeats 2000000 in
theorem specL6Rivals (A1 A2 A3 A4 A5 AL AX : Option Addr) (n1 c1 n2 c2 n3 c3 n4 c4 n5 c5 nL cL nX cX : Nat) (t : Tb) (rows : List Rw) (x : Rw) (ok okr okx : Nat → Prop) (w : World)
  (h2 : Sl IntR 1 ok w A2 n2 t.key) (h3 : Sl UqR 1 ok w A3 n3 t.uniqs) (hr : Sl RwR 2 okr w AL nL rows) (hx : Sl VlR 3 okx w AX nX x.vals) (hts : t.sz ≤ 1048576) (hrn : nL ≤ 1048576) (hall : ∀ r ∈ rows, keysIn t r.vals) (hkx : keysIn t x.vals) :
  Calls Tryz.prog 172 #[.agg #[.string t.name, .slice A1 n1 c1, .slice A2 n2 c2, .slice A3 n3 c3, .slice A4 n4 c4, .slice A5 n5 c5], .agg #[.slice AL nL cL], .agg #[.int .i64 x.id, .slice AX nX cX]] w (MadeI (rivI t rows x) w) := by
 obtain rfl : rows.length = nL := hr.1
 obtain rfl : x.vals.length = nX := hx.1
 have hkn : n2 ≤ 1048576 := by rw [← h2.1]; unfold Tb.sz at hts; omega
 have hun : n3 ≤ 1048576 := by rw [← h3.1]; unfold Tb.sz szL at hts; omega
 have hum : ∀ u ∈ t.uniqs, u.cols.length ≤ 1048576 := fun u hu => by
  have g1 := szL_mem Uq.sz t.uniqs u hu
  have g3 : szL Uq.sz t.uniqs ≤ t.sz := by unfold Tb.sz; omega
  have g4 : u.cols.length ≤ u.sz := by unfold Uq.sz; omega
  omega
 have HALL := Lib.hid hall
 have HKX := Lib.hid hkx
 have HUM := Lib.hid hum
 have H2 := Lib.hid h2
 have H3 := Lib.hid h3
 have HX := Lib.hid hx
 have HRW := Lib.hid hr
 clear hall hkx hum h2 h3 hx hr hts
 obtain ⟨i0, hi, hz0, hz1, hz2⟩ := info_parts infoIntI
 have I1 := Lib.hid hi
 have I2 := Lib.hid hz0
 have I3 := Lib.hid hz1
 have I4 := Lib.hid hz2
 clear hi hz0 hz1 hz2
 have hz : Below w.heap.size w (((w.alloc (.cells #[.string t.name, .slice A1 n1 c1, .slice A2 n2 c2, .slice A3 n3 c3, .slice A4 n4 c4, .slice A5 n5 c5] 82)).alloc (.cells #[.slice AL rows.length cL] 55)).alloc (.cells #[.int .i64 x.id, .slice AX x.vals.length cX] 57)) := (((Below.refl w.heap.size w).alloc (Nat.le_refl _) _).alloc (by simp) _).alloc (by simp; omega) _
 have rt := ((Row.new w 82 #[.string t.name, .slice A1 n1 c1, .slice A2 n2 c2, .slice A3 n3 c3, .slice A4 n4 c4, .slice A5 n5 c5]).alloc (.cells #[.slice AL rows.length cL] 55)).alloc (.cells #[.int .i64 x.id, .slice AX x.vals.length cX] 57)
 have rd := (Row.newAt (w.alloc (.cells #[.string t.name, .slice A1 n1 c1, .slice A2 n2 c2, .slice A3 n3 c3, .slice A4 n4 c4, .slice A5 n5 c5] 82)) 55 #[.slice AL rows.length cL] (w.heap.size + 1) (by simp)).alloc (.cells #[.int .i64 x.id, .slice AX x.vals.length cX] 57)
 have rx := Row.newAt ((w.alloc (.cells #[.string t.name, .slice A1 n1 c1, .slice A2 n2 c2, .slice A3 n3 c3, .slice A4 n4 c4, .slice A5 n5 c5] 82)).alloc (.cells #[.slice AL rows.length cL] 55)) 57 #[.int .i64 x.id, .slice AX x.vals.length cX] (w.heap.size + 2) (by simp)
 have hsz : (((w.alloc (.cells #[.string t.name, .slice A1 n1 c1, .slice A2 n2 c2, .slice A3 n3 c3, .slice A4 n4 c4, .slice A5 n5 c5] 82)).alloc (.cells #[.slice AL rows.length cL] 55)).alloc (.cells #[.int .i64 x.id, .slice AX x.vals.length cX] 57)).heap.size = w.heap.size + 3 := by simp
 go_enter Tryz.func172, Tryz.ntmps172
 go_wp2_with fail
 generalize hzz : ((w.alloc (.cells #[.string t.name, .slice A1 n1 c1, .slice A2 n2 c2, .slice A3 n3 c3, .slice A4 n4 c4, .slice A5 n5 c5] 82)).alloc (.cells #[.slice AL rows.length cL] 55)).alloc (.cells #[.int .i64 x.id, .slice AX x.vals.length cX] 57) = z at *
 clear hzz
 have ho := OwnI.lit z (base := w.heap.size) (by omega)
 rw [hsz] at ho
 have HO := Lib.hid ho
 clear ho
 have hb0 := hz.alloc hz.size (.cells #[] 2)
 have rt0 := rt.alloc (.cells #[] 2)
 have rd0 := rd.alloc (.cells #[] 2)
 have rx0 := rx.alloc (.cells #[] 2)
 generalize z.alloc (.cells #[] 2) = z1 at *
 go_loopw [7, 8] (fun v iv wr => ∃ k : Nat, k ≤ rows.length ∧ iv = .int .i64 k ∧ Hid (OwnI wr w.heap.size v (rivI t (rows.take k) x)) ∧ Below w.heap.size w wr ∧ Hid (Row wr w.heap.size 82 #[.string t.name, .slice A1 n1 c1, .slice A2 n2 c2, .slice A3 n3 c3, .slice A4 n4 c4, .slice A5 n5 c5] ∧ Row wr (w.heap.size + 1) 55 #[.slice AL rows.length cL] ∧ Row wr (w.heap.size + 2) 57 #[.int .i64 x.id, .slice AX x.vals.length cX])) (fun _ iv _ => rows.length - (intOf iv).toNat)
 case atStart => exact ⟨0, by omega, rfl, Lib.hid (by rw [List.take_zero]; exact HO.out), hb0, Lib.hid ⟨rt0, rd0, rx0⟩⟩
 case round =>
  clear HO hb0 rt rd rx rt0 rd0 rx0 hz hsz
  obtain ⟨k, hk, rfl, hown, hb, hbox⟩ := hrel
  obtain ⟨rt, rd, rx⟩ := hbox.out
  obtain ⟨e0, -⟩ := rd.all1
  obtain ⟨⟨x0, x1⟩, -⟩ := rx.all2
  obtain ⟨⟨p0, p1, p2, p3, p4, p5⟩, -⟩ := rt.all6
  by_cases hlt : k < rows.length
  ·obtain ⟨b, off, A6, n6, c6, -, rfl, q0, q1, hv6, hc6⟩ := RwR.at_ (HRW.out.below RwR.stays hb) hlt
   have i0' : (0 : Int) ≤ k := by omega
   have i1 : (k : Int) < rows.length := by omega
   have HTK := Lib.hid (rivI_take t rows x k hlt)
   have HKL := Lib.hid (rivI_len t rows x k)
   have HV6 := Lib.hid hv6
   have HKI := Lib.hid (HALL.out _ (List.getElem_mem hlt))
   clear hv6
   cases idn : (rows[k].id != x.id)
   ·have HB := Lib.hid (show rivB t x rows[k] = false by unfold rivB; rw [idn]; rfl)
    have idn2 : (rows[k].id == x.id) = true := by simpa using idn
    rw [HB.out] at HTK
    go_wp2_with fail
    go_quiet (fail)
    have hb2 : Below w.heap.size w (wr.drewN nq) := ⟨hb.os, hb.tape, hb.output, hb.size, hb.block⟩
    have HR := Lib.hid (show OwnI (wr.drewN nq) w.heap.size _ (rivI t (rows.take (k + 1)) x) from by rw [HTK.out]; simp only [Bool.false_eq_true, if_false, List.append_nil]; exact hown.out)
    have HBX := Lib.hid (show Row (wr.drewN nq) w.heap.size _ _ ∧ Row (wr.drewN nq) (w.heap.size + 1) _ _ ∧ Row (wr.drewN nq) (w.heap.size + 2) _ _ from hbox.out)
    generalize wr.drewN nq = w2 at *
    go_wp2_with fail
    go_roundw
    case rel => exact ⟨k + 1, by omega, by go_num, HR, hb2, HBX⟩
    case measure => simp [intOf]; omega
   ·go_wp2_with fail
    have hc0 : Below wr.heap.size wr wr.drew := (Below.refl wr.heap.size wr).drew
    refine wp_region_noPanic ?_
    refine wp_region_held_drew (S := (fun w' => w'.cell? ⟨w.heap.size, 0, none⟩ = some (.string t.name) ∧ w'.cell? ⟨w.heap.size, 1, none⟩ = some (.slice A1 n1 c1) ∧ w'.cell? ⟨w.heap.size, 2, none⟩ = some (.slice A2 n2 c2) ∧ w'.cell? ⟨w.heap.size, 3, none⟩ = some (.slice A3 n3 c3) ∧ w'.cell? ⟨w.heap.size, 4, none⟩ = some (.slice A4 n4 c4) ∧ w'.cell? ⟨w.heap.size, 5, none⟩ = some (.slice A5 n5 c5) ∧ w'.cell? ⟨w.heap.size + 1, 0, none⟩ = some (.slice (some ⟨b, off, none⟩) rows.length cL) ∧ w'.cell? ⟨w.heap.size + 2, 0, none⟩ = some (.int .i64 x.id) ∧ w'.cell? ⟨w.heap.size + 2, 1, none⟩ = some (.slice AX x.vals.length cX) ∧ w'.cell? ⟨b, off + k * 2, none⟩ = some (.int .i64 rows[k].id) ∧ w'.cell? ⟨b, off + k * 2 + 1, none⟩ = some (.slice A6 n6 c6))) (by kernel_rfl) ⟨p0, p1, p2, p3, p4, p5, e0, x0, x1, q0, q1⟩ (fun hHeld => ?_)
    generalize wr.drew = u0 at *
    refine tk 0 ?_
    refine tk 1 ?_
    refine tk 2 ?_
    refine tk 3 ?_
    refine tk 4 ?_
    refine tk 5 ?_
    refine tk 6 ?_
    refine tk 7 ?_
    refine tk 8 ?_
    refine tk 9 ?_
    refine tk 10 ?_
    refine tk 11 ?_
    refine tk 12 ?_
    refine tk 13 ?_
    refine tk 14 ?_
    refine tk 15 ?_
    refine tk 18 ?_
    refine wpAnyH_ready (rs := [16]) (by kernel_rfl) (by simp) ?_
    refine AllReadyH.cons rfl (fun K hK => ?_) AllReadyH.nil
    go_simp
    have hal : Below u0.heap.size u0 (u0.alloc (.cells #[.int .i64 rows[k].id, .slice A6 n6 c6] 57)) := (Below.refl _ _).alloc (Nat.le_refl _) _
    have rg := Row.new u0 57 #[.int .i64 rows[k].id, .slice A6 n6 c6]
    have hc1 := hc0.alloc hc0.size (.cells #[.int .i64 rows[k].id, .slice A6 n6 c6] 57)
    have hv1 := HV6.out.below VlR.stays (hc1.mono (Nat.le_refl _))
    have hs1 := row_one (x := rows[k]) rg hv1 hc6
    have how1 := OwnI.below hown.out hc1
    have hb1 := hb.trans (hc1.mono hb.size)
    have hbx1 := bx3r hbox.out hc1
    clear hal rg hv1
    generalize u0.alloc (.cells #[.int .i64 rows[k].id, .slice A6 n6 c6] 57) = u1 at *
    generalize u0.heap.size = g at *
    refine hK.out _ _ ⟨below_keep hc1 _ _ p0, below_keep hc1 _ _ p1, below_keep hc1 _ _ p2, below_keep hc1 _ _ p3, below_keep hc1 _ _ p4, below_keep hc1 _ _ p5, below_keep hc1 _ _ e0, below_keep hc1 _ _ x0, below_keep hc1 _ _ x1, below_keep hc1 _ _ q0, below_keep hc1 _ _ q1⟩ (fun hHeld => ?_)
    clear hK K
    (try simp only [Act.put, pz0, pz1, pz2, pz3, pz4, pz5])
    refine tk 17 ?_
    refine wpAnyH_ready (rs := [19]) (by kernel_rfl) (by simp) ?_
    refine AllReadyH.cons rfl (fun K hK => ?_) AllReadyH.nil
    go_simp
    go_at_call 192
    refine (specL5Unique A1 A2 A3 A4 A5 (some ⟨g, 0, none⟩) AX n1 c1 n2 c2 n3 c3 n4 c4 n5 c5 1 1 _ cX t [rows[k]] x _ _ _ _ u1 (H2.out.below IntR.stays hb1) (H3.out.below UqR.stays hb1) hs1 (HX.out.below VlR.stays hb1) (by omega) hkn hun HUM.out HKX.out.2.2 (one_all HKI.out.2.2) (one_all HKI.out.1) HKX.out.1 (fun u hu => ⟨one_all (HKI.out.2.1 u hu), HKX.out.2.1 u hu⟩)).mono ?_
    rintro e u2 ⟨rfl, hq⟩
    have hc2 := hc1.trans (hq.mono hc1.size)
    have how2 := OwnI.below how1 hq
    have hb2 := hb1.trans (hq.mono hb1.size)
    have hbx2 := bx3r hbx1 hq
    clear hq how1 hbx1 hs1
    refine hK.out _ _ ⟨below_keep hc2 _ _ p0, below_keep hc2 _ _ p1, below_keep hc2 _ _ p2, below_keep hc2 _ _ p3, below_keep hc2 _ _ p4, below_keep hc2 _ _ p5, below_keep hc2 _ _ e0, below_keep hc2 _ _ x0, below_keep hc2 _ _ x1, below_keep hc2 _ _ q0, below_keep hc2 _ _ q1⟩ (fun hHeld => ?_)
    clear hK K
    (try simp only [Act.put, pz0, pz1, pz2, pz3, pz4, pz5])
    refine tk 20 ?_
    refine tk 21 ?_
    refine wpAnyH_done (by kernel_rfl) ?_ _
    refine NoPanic.normal ?_
    clear hHeld
    have HOW := Lib.hid how2
    have HBX := Lib.hid hbx2
    obtain ⟨f0, -⟩ := hbx2.2.1.all1
    have g0 := below_keep hc2 _ _ q0
    clear how2 hbx2 hc0 hc1 hc2 hb1 hbox hown p0 p1 p2 p3 p4 p5 e0 x0 x1 q0 q1 hb rt rd rx
    cases hun2 : uniqueB t [rows[k]] x
    ·have HB := Lib.hid (show rivB t x rows[k] = true by unfold rivB; rw [idn, hun2]; rfl)
     rw [HB.out] at HTK
     clear hun2
     go_wp2_with (at_builtin; refine wpList_append_own _ rfl _ _ 29 rfl w.heap.size 2 i0 (.int .i64 0) 1 8 Tryz.underlying29 I1.out I2.out I3.out I4.out rfl (by decide) _ _ _ rfl (World.ownsRow.alloc HOW.out _) ⟨_, 0, none⟩ 1 1 [.int .i64 rows[k].id] rfl rfl ?c1 ?c2 ?c3 ?c4 ?c5 ?_)
     try (case c1 => exact cell_one_new _ _ _)
     case c2 => first | rfl | (intro u hu; simp at hu; subst hu; rfl)
     case c3 => have := HKL.out; unfold maxLen; omega
     case c4 => have := HKL.out; omega
     case c5 => have := hb2.size; simp; omega
     intro v' w3 hown3 hgrow _
     have R3 := Lib.hid (OwnI.app HOW.out hb2.size hown3 hgrow)
     have HB3 := Lib.hid (rows3 HBX.out (u := u2) (w' := w3) (grown_ints hgrow HOW.out))
     have hb3 := hb2.trans R3.out.2
     clear hown3 hgrow HOW
     go_wp2_with fail
     go_roundw
     case rel => exact ⟨k + 1, by omega, by go_num, Lib.hid (by rw [HTK.out]; exact R3.out.1), hb3, HB3⟩
     case measure => simp [intOf]; omega
    ·have HB := Lib.hid (show rivB t x rows[k] = false by unfold rivB; rw [idn, hun2]; rfl)
     rw [HB.out] at HTK
     clear hun2
     have HR := Lib.hid (show OwnI u2 w.heap.size _ (rivI t (rows.take (k + 1)) x) from by rw [HTK.out]; simp only [Bool.false_eq_true, if_false, List.append_nil]; exact HOW.out)
     go_wp2_with fail
     go_roundw
     case rel => exact ⟨k + 1, by omega, by go_num, HR, hb2, HBX⟩
     case measure => simp [intOf]; omega
  ·obtain rfl : k = rows.length := by omega
   have HF := Lib.hid hown.out
   rw [List.take_length] at HF
   obtain ⟨A9, c9, rfl, h91, -, h93⟩ := HF.out.sl
   have H93 := Lib.hid h93
   have hc9 := h91
   clear h93 h91 p0 p1 p2 p3 p4 p5 x0 x1
   generalize hnn : (rivI t rows x).length = nn at *
   have HNN := Lib.hid hnn
   clear hnn
   go_wp2_with fail
   go_ret
   exact ⟨A9, c9, by rw [HNN.out]; rfl, by rw [HNN.out]; exact hc9, by rw [HNN.out]; exact H93.out, hb⟩
set_option maxRecDepth 100000 in
set_option maxHeartbeats 1000000 in
theorem specL6ClearNo (AS AD AX : Option Addr) (nS cS nD cD nX cX : Nat) (s : List Tb) (db : List Dt) (m : Nat) (x : Rw) (deep : Int) (ok okd okx : Nat → Prop) (w : World)
  (hs : Sl TbR 6 ok w AS nS s) (hd : Sl DtR 1 okd w AD nD db) (hx : Sl VlR 3 okx w AX nX x.vals) (hm : m < s.length) (hmd : m < db.length) (hss : szL Tb.sz s ≤ 1048576) (hrn : db[m].rows.length ≤ 1048576) (hall : ∀ r ∈ db[m].rows, keysIn s[m] r.vals) (hkx : keysIn s[m] x.vals) (hriv : rivI s[m] db[m].rows x = []) :
  Calls Tryz.prog 141 #[.slice AS nS cS, .slice AD nD cD, .int .i64 m, .agg #[.int .i64 x.id, .slice AX nX cX], .bool false, .int .i64 deep] w fun e w' => e = .returned (.tuple #[.slice AD nD cD, .int .i64 0]) ∧ Below w.heap.size w w' := by
 obtain rfl : s.length = nS := hs.1
 obtain rfl : db.length = nD := hd.1
 obtain rfl : x.vals.length = nX := hx.1
 obtain ⟨b, off, A1, n1, c1, A2, n2, c2, A3, n3, c3, A4, n4, c4, A5, n5, c5, -, eS, q0, q1, q2, q3, q4, q5, s1, s2, s3, s4, s5, -⟩ := TbR.at_ hs hm
 obtain ⟨bd, od, AL, nL, cL, -, eD, p0, hrw, -⟩ := DtR.at_ hd hmd
 obtain rfl : db[m].rows.length = nL := hrw.1
 subst eS eD
 have hts : s[m].sz ≤ 1048576 := Nat.le_trans (szL_mem Tb.sz s s[m] (List.getElem_mem hm)) hss
 have HALL := Lib.hid hall
 have HKX := Lib.hid hkx
 have HRV := Lib.hid hriv
 have HTS := Lib.hid hts
 clear hall hkx hriv hts hss hs hd s1 s4 s5
 have i0' : (0 : Int) ≤ m := by omega
 have i1 : (m : Int) < s.length := by omega
 have i2 : (m : Int) < db.length := by omega
 have hz : Below w.heap.size w (w.alloc (.cells #[.int .i64 x.id, .slice AX x.vals.length cX] 57)) := (Below.refl w.heap.size w).alloc (Nat.le_refl _) _
 obtain ⟨⟨x0, x1⟩, -⟩ := (Row.new w 57 #[.int .i64 x.id, .slice AX x.vals.length cX]).all2
 go_enter Tryz.func141, Tryz.ntmps141
 go_upto_region 1 with fail
 generalize w.alloc (.cells #[.int .i64 x.id, .slice AX x.vals.length cX] 57) = z at *
 have q0 := below_keep hz _ _ q0
 have q1 := below_keep hz _ _ q1
 have q2 := below_keep hz _ _ q2
 have q3 := below_keep hz _ _ q3
 have q4 := below_keep hz _ _ q4
 have q5 := below_keep hz _ _ q5
 have p0 := below_keep hz _ _ p0
 have hc0 : Below z.heap.size z z.drew := (Below.refl z.heap.size z).drew
 refine wp_region_noPanic ?_
 refine wp_region_held_drew (S := (fun w' => w'.cell? ⟨b, off + m * 6, none⟩ = some (.string s[m].name) ∧ w'.cell? ⟨b, off + m * 6 + 1, none⟩ = some (.slice A1 n1 c1) ∧ w'.cell? ⟨b, off + m * 6 + 2, none⟩ = some (.slice A2 n2 c2) ∧ w'.cell? ⟨b, off + m * 6 + 3, none⟩ = some (.slice A3 n3 c3) ∧ w'.cell? ⟨b, off + m * 6 + 4, none⟩ = some (.slice A4 n4 c4) ∧ w'.cell? ⟨b, off + m * 6 + 5, none⟩ = some (.slice A5 n5 c5) ∧ w'.cell? ⟨bd, od + m, none⟩ = some (.slice AL db[m].rows.length cL) ∧ w'.cell? ⟨w.heap.size, 0, none⟩ = some (.int .i64 x.id) ∧ w'.cell? ⟨w.heap.size, 1, none⟩ = some (.slice AX x.vals.length cX))) (by kernel_rfl) ⟨q0, q1, q2, q3, q4, q5, p0, x0, x1⟩ (fun hHeld => ?_)
 generalize z.drew = u0 at *
 refine tk 0 ?_
 refine tk 1 ?_
 refine tk 2 ?_
 refine tk 3 ?_
 refine tk 4 ?_
 refine tk 5 ?_
 refine tk 6 ?_
 refine tk 7 ?_
 refine tk 8 ?_
 refine wpAnyH_ready (rs := [9]) (by kernel_rfl) (by simp) ?_
 refine AllReadyH.cons rfl (fun K hK => ?_) AllReadyH.nil
 go_simp
 go_at_call 172
 refine (specL6Rivals A1 A2 A3 A4 A5 AL AX n1 c1 n2 c2 n3 c3 n4 c4 n5 c5 _ cL _ cX s[m] db[m].rows x _ _ _ u0 (s2.below IntR.stays (hz.trans (hc0.mono hz.size))) (s3.below UqR.stays (hz.trans (hc0.mono hz.size))) (hrw.below RwR.stays (hz.trans (hc0.mono hz.size))) (hx.below VlR.stays (hz.trans (hc0.mono hz.size))) HTS.out hrn HALL.out HKX.out).mono ?_
 rintro e u1 ⟨AR, cR, rfl, hcR, hR, hq⟩
 have hc1 := hc0.trans (hq.mono hc0.size)
 clear hq
 refine hK.out _ _ ⟨below_keep hc1 _ _ q0, below_keep hc1 _ _ q1, below_keep hc1 _ _ q2, below_keep hc1 _ _ q3, below_keep hc1 _ _ q4, below_keep hc1 _ _ q5, below_keep hc1 _ _ p0, below_keep hc1 _ _ x0, below_keep hc1 _ _ x1⟩ (fun hHeld => ?_)
 clear hK K
 (try simp only [Act.put, pz0, pz1, pz2, pz3, pz4, pz5])
 refine tk 10 ?_
 refine wpAnyH_done (by kernel_rfl) ?_ _
 refine NoPanic.normal ?_
 clear hHeld
 have hbz := hz.trans (hc1.mono hz.size)
 clear hc1 hc0 x0 x1 q0 q1 q2 q3 q4 q5 p0
 rw [HRV.out] at hR hcR ⊢
 simp only [List.length_nil] at hR hcR ⊢
 clear hR hcR
 go_wp2_with fail
 go_loopw [1, 15] (fun v iv wr => v = .slice (some ⟨bd, od, none⟩) db.length cD ∧ iv = .int .i64 0 ∧ wr = u1) (fun _ _ _ => 0)
 case atStart => exact ⟨rfl, rfl, rfl⟩
 case round =>
  obtain ⟨rfl, rfl, rfl⟩ := hrel
  go_wp2_with fail
  go_ret2
  exact ⟨rfl, hbz⟩
set_option maxRecDepth 100000 in
set_option maxHeartbeats 1000000 in
theorem specL6ClearYes (AS AD AX : Option Addr) (nS cS nD cD nX cX : Nat) (s : List Tb) (db : List Dt) (m : Nat) (x : Rw) (deep : Int) (ok okd okx : Nat → Prop) (w : World)
  (hs : Sl TbR 6 ok w AS nS s) (hd : Sl DtR 1 okd w AD nD db) (hx : Sl VlR 3 okx w AX nX x.vals) (hm : m < s.length) (hmd : m < db.length) (hss : szL Tb.sz s ≤ 1048576) (hrn : db[m].rows.length ≤ 1048576) (hall : ∀ r ∈ db[m].rows, keysIn s[m] r.vals) (hkx : keysIn s[m] x.vals) (hriv : rivI s[m] db[m].rows x ≠ []) :
  Calls Tryz.prog 141 #[.slice AS nS cS, .slice AD nD cD, .int .i64 m, .agg #[.int .i64 x.id, .slice AX nX cX], .bool false, .int .i64 deep] w fun e w' => e = .returned (.tuple #[.slice none 0 0, .int .i64 4]) ∧ Below w.heap.size w w' := by
 obtain rfl : s.length = nS := hs.1
 obtain rfl : db.length = nD := hd.1
 obtain rfl : x.vals.length = nX := hx.1
 obtain ⟨b, off, A1, n1, c1, A2, n2, c2, A3, n3, c3, A4, n4, c4, A5, n5, c5, -, eS, q0, q1, q2, q3, q4, q5, s1, s2, s3, s4, s5, -⟩ := TbR.at_ hs hm
 obtain ⟨bd, od, AL, nL, cL, -, eD, p0, hrw, -⟩ := DtR.at_ hd hmd
 obtain rfl : db[m].rows.length = nL := hrw.1
 subst eS eD
 have hts : s[m].sz ≤ 1048576 := Nat.le_trans (szL_mem Tb.sz s s[m] (List.getElem_mem hm)) hss
 have HALL := Lib.hid hall
 have HKX := Lib.hid hkx
 have HRV := Lib.hid hriv
 have HTS := Lib.hid hts
 clear hall hkx hriv hts hss hs hd s1 s4 s5
 have i0' : (0 : Int) ≤ m := by omega
 have i1 : (m : Int) < s.length := by omega
 have i2 : (m : Int) < db.length := by omega
 have hz : Below w.heap.size w (w.alloc (.cells #[.int .i64 x.id, .slice AX x.vals.length cX] 57)) := (Below.refl w.heap.size w).alloc (Nat.le_refl _) _
 obtain ⟨⟨x0, x1⟩, -⟩ := (Row.new w 57 #[.int .i64 x.id, .slice AX x.vals.length cX]).all2
 go_enter Tryz.func141, Tryz.ntmps141
 go_upto_region 1 with fail
 generalize w.alloc (.cells #[.int .i64 x.id, .slice AX x.vals.length cX] 57) = z at *
 have q0 := below_keep hz _ _ q0
 have q1 := below_keep hz _ _ q1
 have q2 := below_keep hz _ _ q2
 have q3 := below_keep hz _ _ q3
 have q4 := below_keep hz _ _ q4
 have q5 := below_keep hz _ _ q5
 have p0 := below_keep hz _ _ p0
 have hc0 : Below z.heap.size z z.drew := (Below.refl z.heap.size z).drew
 refine wp_region_noPanic ?_
 refine wp_region_held_drew (S := (fun w' => w'.cell? ⟨b, off + m * 6, none⟩ = some (.string s[m].name) ∧ w'.cell? ⟨b, off + m * 6 + 1, none⟩ = some (.slice A1 n1 c1) ∧ w'.cell? ⟨b, off + m * 6 + 2, none⟩ = some (.slice A2 n2 c2) ∧ w'.cell? ⟨b, off + m * 6 + 3, none⟩ = some (.slice A3 n3 c3) ∧ w'.cell? ⟨b, off + m * 6 + 4, none⟩ = some (.slice A4 n4 c4) ∧ w'.cell? ⟨b, off + m * 6 + 5, none⟩ = some (.slice A5 n5 c5) ∧ w'.cell? ⟨bd, od + m, none⟩ = some (.slice AL db[m].rows.length cL) ∧ w'.cell? ⟨w.heap.size, 0, none⟩ = some (.int .i64 x.id) ∧ w'.cell? ⟨w.heap.size, 1, none⟩ = some (.slice AX x.vals.length cX))) (by kernel_rfl) ⟨q0, q1, q2, q3, q4, q5, p0, x0, x1⟩ (fun hHeld => ?_)
 generalize z.drew = u0 at *
 refine tk 0 ?_
 refine tk 1 ?_
 refine tk 2 ?_
 refine tk 3 ?_
 refine tk 4 ?_
 refine tk 5 ?_
 refine tk 6 ?_
 refine tk 7 ?_
 refine tk 8 ?_
 refine wpAnyH_ready (rs := [9]) (by kernel_rfl) (by simp) ?_
 refine AllReadyH.cons rfl (fun K hK => ?_) AllReadyH.nil
 go_simp
 go_at_call 172
 refine (specL6Rivals A1 A2 A3 A4 A5 AL AX n1 c1 n2 c2 n3 c3 n4 c4 n5 c5 _ cL _ cX s[m] db[m].rows x _ _ _ u0 (s2.below IntR.stays (hz.trans (hc0.mono hz.size))) (s3.below UqR.stays (hz.trans (hc0.mono hz.size))) (hrw.below RwR.stays (hz.trans (hc0.mono hz.size))) (hx.below VlR.stays (hz.trans (hc0.mono hz.size))) HTS.out hrn HALL.out HKX.out).mono ?_
 rintro e u1 ⟨AR, cR, rfl, hcR, hR, hq⟩
 have hc1 := hc0.trans (hq.mono hc0.size)
 clear hq
 refine hK.out _ _ ⟨below_keep hc1 _ _ q0, below_keep hc1 _ _ q1, below_keep hc1 _ _ q2, below_keep hc1 _ _ q3, below_keep hc1 _ _ q4, below_keep hc1 _ _ q5, below_keep hc1 _ _ p0, below_keep hc1 _ _ x0, below_keep hc1 _ _ x1⟩ (fun hHeld => ?_)
 clear hK K
 (try simp only [Act.put, pz0, pz1, pz2, pz3, pz4, pz5])
 refine tk 10 ?_
 refine wpAnyH_done (by kernel_rfl) ?_ _
 refine NoPanic.normal ?_
 clear hHeld
 have hbz := hz.trans (hc1.mono hz.size)
 clear hc1 hc0 x0 x1 q0 q1 q2 q3 q4 q5 p0
 have hpos : 0 < (rivI s[m] db[m].rows x).length := List.length_pos_iff.2 HRV.out
 generalize (rivI s[m] db[m].rows x).length = nn at *
 have hpi : (0 : Int) < (nn : Int) := by omega
 clear hR hcR
 go_wp2_with fail
 go_ret2
 exact ⟨rfl, hbz⟩
def lastI (a : Int) : List Rw → Int
 | [] => a
 | x :: r => lastI x.id r
theorem lastI_app (x : Rw) : ∀ (l : List Rw) (a : Int), lastI a (l ++ [x]) = x.id
 | [], _ => rfl
 | y :: r, _ => lastI_app x r y.id
theorem nextI_eq (l : List Rw) : nextI l = lastI 0 l + 1 := by
 unfold nextI
 cases h : l.getLast? with
 | none => rw [List.getLast?_eq_none_iff.1 h]; rfl
 | some r =>
  obtain ⟨ys, rfl⟩ := List.getLast?_eq_some_iff.1 h
  rw [lastI_app]
theorem idsGo_le {cols : List Cl} : ∀ {l : List Rw} {a : Int}, idsGo cols a l = true → a ≤ lastI a l ∧ ∀ r ∈ l, a < r.id ∧ r.id ≤ lastI a l ∧ r.id ≤ 1000000000
 | [], a, _ => ⟨Int.le_refl _, fun r hr => by cases hr⟩
 | x :: l, a, h => by
  simp only [idsGo, Bool.and_eq_true, decide_eq_true_eq] at h
  obtain ⟨h1, h2, h3, h4⟩ := h
  obtain ⟨g1, g2⟩ := idsGo_le h4
  refine ⟨by show a ≤ lastI x.id l; omega, fun r hr => ?_⟩
  rcases List.mem_cons.1 hr with rfl | hr
  ·exact ⟨h1, g1, h2⟩
  ·obtain ⟨k1, k2, k3⟩ := g2 r hr
   exact ⟨by omega, k2, k3⟩
theorem idsGo_app {cols : List Cl} {x : Rw} (hx : x.id ≤ 1000000000) (hk : kindsB cols x.vals = true) : ∀ {l : List Rw} {a : Int}, idsGo cols a l = true → a < x.id → (∀ r ∈ l, r.id < x.id) → idsGo cols a (l ++ [x]) = true
 | [], a, _, ha, _ => by
  show (decide (a < x.id) && (decide (x.id ≤ 1000000000) && (kindsB cols x.vals && true))) = true
  rw [hk, decide_eq_true ha, decide_eq_true hx]; rfl
 | y :: l, a, h, ha, hl => by
  simp only [idsGo, Bool.and_eq_true, decide_eq_true_eq] at h
  obtain ⟨h1, h2, h3, h4⟩ := h
  have := idsGo_app hx hk h4 (hl y (List.mem_cons_self ..)) fun r hr => hl r (List.mem_cons_of_mem _ hr)
  show (decide (a < y.id) && (decide (y.id ≤ 1000000000) && (kindsB cols y.vals && idsGo cols y.id (l ++ [x])))) = true
  rw [this, h3, decide_eq_true h1, decide_eq_true h2]; rfl
def insD (db : List Dt) (m : Nat) (x : Rw) : List Dt := db.set m ⟨(db[m]?.getD ⟨[]⟩).rows ++ [x]⟩
theorem insD_at {db : List Dt} {m : Nat} (h : m < db.length) (x : Rw) : insD db m x = db.set m ⟨db[m].rows ++ [x]⟩ := by unfold insD; rw [List.getElem?_eq_getElem h]; rfl
theorem ids_next {s : List Tb} {db : List Dt} (h : dbB s db = true) {m : Nat} (h1 : m < s.length) (h2 : m < db.length) : 0 < nextI db[m].rows ∧ ∀ r ∈ db[m].rows, 0 < r.id ∧ r.id < nextI db[m].rows ∧ r.id ≤ 1000000000 := by
 have h3 := dbB_data h h1 h2
 simp only [dataB, Bool.and_eq_true] at h3
 obtain ⟨g1, g2⟩ := idsGo_le h3.2
 rw [nextI_eq]
 exact ⟨by omega, fun r hr => by obtain ⟨k1, k2, k3⟩ := g2 r hr; exact ⟨k1, by omega, k3⟩⟩
theorem dbB_ins {s : List Tb} {db : List Dt} (h : dbB s db = true) {m : Nat} (h1 : m < s.length) (h2 : m < db.length) {vals : List Vl} (hk : kindsB s[m].cols vals = true) (h60 : db[m].rows.length < 60) (hid : nextI db[m].rows ≤ 1000000000) : dbB s (insD db m ⟨nextI db[m].rows, vals⟩) = true := by
 rw [insD_at h2]
 have hd := dbB_data h h1 h2
 obtain ⟨hp, hn⟩ := ids_next h h1 h2
 simp only [dataB, Bool.and_eq_true, decide_eq_true_eq] at hd
 have hx : dataB s[m].cols (db[m].rows ++ [⟨nextI db[m].rows, vals⟩]) = true := by
  unfold dataB
  rw [Bool.and_eq_true, decide_eq_true_eq]
  exact ⟨by rw [List.length_append, List.length_singleton]; omega, idsGo_app hid hk hd.2 hp fun r hr => (hn r hr).2.1⟩
 have hl := dbB_len h
 unfold dbB
 rw [dbB_schema h, List.length_set, decide_eq_true hl, Bool.true_and, Bool.true_and, List.all_eq_true]
 intro p hpm
 obtain ⟨i, hi, rfl⟩ := List.mem_iff_getElem.1 hpm
 rw [List.length_zip, List.length_set] at hi
 have his : i < s.length := by omega
 have hid' : i < db.length := by omega
 rw [List.getElem_zip]
 by_cases e : m = i
 ·subst e
  rw [List.getElem_set_self]
  exact hx
 ·rw [List.getElem_set_ne e]
  exact dbB_data h his hid'
theorem keysIn_of {s : List Tb} (h : schemaB s = true) {i : Nat} (hi : i < s.length) {vals : List Vl} (hl : vals.length = s[i].cols.length) : keysIn s[i] vals := by
 have hT := (schemaB_at h hi).1
 have h8 := tableB_cols hT
 exact ⟨all_inV (tableB_key hT) hl, fun u hu => all_inV (tableB_uniq hT u hu) hl, by omega⟩
theorem kindsB_len {cols : List Cl} {l : List Vl} (h : kindsB cols l = true) : l.length = cols.length := by
 simp only [kindsB, Bool.and_eq_true, decide_eq_true_eq] at h
 exact h.1
set_option maxRecDepth 100000 in
set_option maxHeartbeats 600000 in
theorem specL6Insert (AS AD AV : Option Addr) (nS cS nD cD nV cV : Nat) (s : List Tb) (db : List Dt) (m : Nat) (vals : List Vl) (ok okd okv : Nat → Prop) (w : World)
  (hs : Sl TbR 6 ok w AS nS s) (hd : Sl DtR 1 okd w AD nD db) (hv : Sl VlR 3 okv w AV nV vals) (hB : dbB s db = true) (hm : m < s.length) (hk : kindsB s[m].cols vals = true) (hss : szL Tb.sz s ≤ 1048576) :
  Calls Tryz.prog 118 #[.slice AS nS cS, .slice AD nD cD, .int .i64 m, .slice AV nV cV, .bool false] w fun e w' => (∃ (A : Option Addr) (n c : Nat) (id code : Int), e = .returned (.tuple #[.slice A n c, .int .i64 id, .int .i64 code]) ∧
   (code ≠ 0 ∨ (n = nD ∧ nD ≤ c ∧ Sl DtR 1 (fun _ => True) w' A nD (insD db m ⟨nextI (db[m]?.getD ⟨[]⟩).rows, vals⟩) ∧ dbB s (insD db m ⟨nextI (db[m]?.getD ⟨[]⟩).rows, vals⟩) = true))) ∧ Below w.heap.size w w' := by
 obtain rfl : s.length = nS := hs.1
 obtain rfl : db.length = nD := hd.1
 obtain rfl : vals.length = nV := hv.1
 have hmd : m < db.length := by have := dbB_len hB; omega
 obtain ⟨b, off, A1, n1, c1, A2, n2, c2, A3, n3, c3, A4, n4, c4, A5, n5, c5, -, eS, q0, q1, q2, q3, q4, q5, s1, s2, s3, s4, s5, -⟩ := TbR.at_ hs hm
 obtain ⟨bd, od, AL, nL, cL, -, eD, p0, hrw, -⟩ := DtR.at_ hd hmd
 obtain rfl : db[m].rows.length = nL := hrw.1
 subst eS eD
 have hts : s[m].sz ≤ 1048576 := Nat.le_trans (szL_mem Tb.sz s s[m] (List.getElem_mem hm)) hss
 have hS := dbB_schema hB
 have hT := (schemaB_at hS hm).1
 have hlen := kindsB_len hk
 have h8 := tableB_cols hT
 have hrb := rowB_of hT hk
 have hex := exprs_of hT hlen
 have hids := ids_next hB hm hmd
 have h60 := dbB_data hB hm hmd
 simp only [dataB, Bool.and_eq_true, decide_eq_true_eq] at h60
 have HB := Lib.hid hB
 have HK := Lib.hid hk
 have HTS := Lib.hid hts
 have HRB := Lib.hid hrb
 have HEX := Lib.hid hex
 have HIDS := Lib.hid hids
 have HLEN := Lib.hid hlen
 have HSS := Lib.hid hss
 have HKX := Lib.hid (keysIn_of hS hm hlen)
 have HALL := Lib.hid (show ∀ r ∈ db[m].rows, keysIn s[m] r.vals from fun r hr => keysIn_of hS hm (dbB_row hB hm hmd r hr))
 have hrn : db[m].rows.length ≤ 60 := h60.1
 have HRN := Lib.hid hrn
 have hvn : vals.length ≤ 8 := by omega
 have HVN := Lib.hid hvn
 have HS := Lib.hid hs
 have HD := Lib.hid hd
 have hsl : s.length ≤ 1048576 := by unfold szL at hss; omega
 have hdl : db.length ≤ 1048576 := by have := dbB_len hB; omega
 have HSL := Lib.hid hsl
 have HDL := Lib.hid hdl
 have HFN := Lib.hid (show s[m].fks.length ≤ 1048576 by unfold Tb.sz szL at hts; omega)
 clear hB hk hts hrb hex hids hlen hss hS hT h8 h60 hrn hs hd hsl hdl
 have i0' : (0 : Int) ≤ m := by omega
 have i1 : (m : Int) < s.length := by omega
 have i2 : (m : Int) < db.length := by omega
 have hz := (Below.refl w.heap.size w).alloc (Nat.le_refl _) (.cells #[.string s[m].name, .slice A1 n1 c1, .slice A2 n2 c2, .slice A3 n3 c3, .slice A4 n4 c4, .slice A5 n5 c5] 82)
 have rt := Row.new w 82 #[.string s[m].name, .slice A1 n1 c1, .slice A2 n2 c2, .slice A3 n3 c3, .slice A4 n4 c4, .slice A5 n5 c5]
 obtain ⟨⟨t0, t1, t2, t3, t4, t5⟩, -⟩ := rt.all6
 go_enter Tryz.func118, Tryz.ntmps118
 go_wp2_with fail
 generalize w.alloc (.cells #[.string s[m].name, .slice A1 n1 c1, .slice A2 n2 c2, .slice A3 n3 c3, .slice A4 n4 c4, .slice A5 n5 c5] 82) = z at *
 clear t0 t1 t2 t3 t4 t5 rt q0 q1 q2 q3 q4 q5
 refine (specL6Able A1 n1 c1 A2 n2 c2 A3 n3 c3 A4 n4 c4 A5 n5 c5 AV _ cV s[m] vals _ _ z (s1.below ClR.stays hz) (s4.below CkR.stays hz) (hv.below VlR.stays hz) HTS.out (by omega) HLEN.out HRB.out HEX.out).mono ?_
 rintro e w2 ⟨rfl, hq⟩
 have hb := hz.trans (hq.mono hz.size)
 clear hq hz
 by_cases ha : ableI s[m] vals = 0
 case neg =>
  generalize ableI s[m] vals = kc at *
  have hk1 : (kc != 0) = true := by simpa using ha
  go_wp2_with fail
  go_ret3
  exact ⟨⟨none, 0, 0, 0, kc, rfl, .inl ha⟩, hb⟩
 rw [ha]
 clear ha
 have p1 := below_keep hb _ _ p0
 go_wp2_with fail
 refine (specL6Next AL _ cL db[m].rows _ _ (hrw.below RwR.stays hb) (by have := HRN.out; omega) (fun r hr => by have := HIDS.out.2 r hr; omega)).mono ?_
 rintro e w3 ⟨rfl, hq⟩
 have hb := hb.trans (hq.mono hb.size)
 clear hq p1
 go_wp2_with fail
 refine (specCopyVals AV _ cV vals _ _ (hv.below VlR.stays hb) (by omega)).mono ?_
 rintro e w4 ⟨v4, rfl, hK, hq⟩
 have hb := hb.trans (hq.mono hb.size)
 clear hq
 obtain ⟨AX, cX, ev, hcX, -, hX⟩ := OwnG.sl (f := Vl.cells) (sz := 3) (fun _ => rfl) hK
 subst ev
 have hX := hX.stays VlR.stays (ok' := fun _ => True) (fun _ _ => trivial) (fun _ _ _ h => h)
 clear hK
 obtain ⟨id, hid⟩ : ∃ id, id = nextI db[m].rows := ⟨_, rfl⟩
 rw [← hid]
 have HID := Lib.hid (show id = nextI (db[m]?.getD ⟨[]⟩).rows by rw [List.getElem?_eq_getElem hmd]; exact hid)
 have HIE := Lib.hid hid
 clear hid
 have hal := (Below.refl w4.heap.size w4).alloc (Nat.le_refl _) (.cells #[.int .i64 id, .slice AX vals.length cX] 57)
 have rx := Row.new w4 57 #[.int .i64 id, .slice AX vals.length cX]
 have hX := hX.below VlR.stays hal
 have hb := hb.trans (hal.mono hb.size)
 obtain ⟨⟨x0, x1⟩, -⟩ := rx.all2
 clear hal
 go_wp2_with fail
 generalize w4.alloc (.cells #[.int .i64 id, .slice AX vals.length cX] 57) = z5 at *
 generalize w4.heap.size = gx at *
 clear x0 x1
 by_cases hr : rivI s[m] db[m].rows ⟨id, vals⟩ = []
 case neg =>
  refine (specL6ClearYes _ _ AX _ cS _ cD _ cX s db m ⟨id, vals⟩ 0 _ _ _ _ (HS.out.below TbR.stays hb) (HD.out.below DtR.stays hb) hX hm hmd HSS.out (by have := HRN.out; omega) HALL.out HKX.out hr).mono ?_
  rintro e w6 ⟨rfl, hq⟩
  have hb := hb.trans (hq.mono hb.size)
  clear hq
  go_wp2_with fail
  go_ret3
  exact ⟨⟨none, 0, 0, 0, 4, rfl, .inl (by omega)⟩, hb⟩
 refine (specL6ClearNo _ _ AX _ cS _ cD _ cX s db m ⟨id, vals⟩ 0 _ _ _ _ (HS.out.below TbR.stays hb) (HD.out.below DtR.stays hb) hX hm hmd HSS.out (by have := HRN.out; omega) HALL.out HKX.out hr).mono ?_
 rintro e w6 ⟨rfl, hq⟩
 have hb := hb.trans (hq.mono hb.size)
 have rx := rx.below hq
 have hX := hX.below VlR.stays hq
 clear hq hr
 have p1 := below_keep hb _ _ p0
 obtain ⟨⟨x0, x1⟩, -⟩ := rx.all2
 by_cases hf : db[m].rows.length = 60
 ·have hf1 : (db[m].rows.length : Int) = 60 := by omega
  have hf2 : ((db[m].rows.length : Int) == 60) = true := by simpa using hf1
  generalize db[m].rows.length = nr at *
  go_wp2_with fail
  go_ret3
  exact ⟨⟨none, 0, 0, 0, 7, rfl, .inl (by omega)⟩, hb⟩
 have hf1 : ((db[m].rows.length : Int) == 60) = false := by simp; omega
 by_cases hg : 1000000000 < id
 ·go_wp2_with fail
  go_ret3
  exact ⟨⟨none, 0, 0, 0, 7, rfl, .inl (by omega)⟩, hb⟩
 have HDB := Lib.hid (dbB_ins HB.out hm hmd HK.out (by have := HRN.out; omega) (by rw [← HIE.out]; omega))
 rw [← HIE.out] at HDB
 have HLT := Lib.hid (show ∀ r ∈ db[m].rows, r.id < id from fun r hr => by rw [HIE.out]; exact (HIDS.out.2 r hr).2.1)
 go_upto_region 13 with fail
 have hc0 : Below w6.heap.size w6 w6.drew := (Below.refl w6.heap.size w6).drew
 refine wp_region_noPanic ?_
 refine wp_region_held_drew (S := (fun w' => w'.cell? ⟨bd, od + m, none⟩ = some (.slice AL db[m].rows.length cL) ∧ w'.cell? ⟨gx, 0, none⟩ = some (.int .i64 id) ∧ w'.cell? ⟨gx, 1, none⟩ = some (.slice AX vals.length cX))) (by kernel_rfl) ⟨p1, x0, x1⟩ (fun hHeld => ?_)
 generalize w6.drew = u0 at *
 refine tk 0 ?_
 refine tk 1 ?_
 refine tk 2 ?_
 refine tk 3 ?_
 refine tk 4 ?_
 refine tk 5 ?_
 refine tk 6 ?_
 refine wpAnyH_ready (rs := [7]) (by kernel_rfl) (by simp) ?_
 refine AllReadyH.cons rfl (fun K hK => ?_) AllReadyH.nil
 go_simp
 go_at_call 143
 refine (specL4Put AL AX _ cL _ cX db[m].rows ⟨id, vals⟩ _ _ u0 (hrw.below RwR.stays (hb.trans (hc0.mono hb.size))) (hX.below VlR.stays hc0) hcX (by have := HRN.out; omega) HLT.out).mono ?_
 rintro e u1 ⟨⟨AP, cP, rfl, hcP, hP⟩, hq⟩
 have hc1 := hc0.trans (hq.mono hc0.size)
 obtain ⟨rs, hrs⟩ : ∃ rs, rs = db[m].rows ++ [⟨id, vals⟩] := ⟨_, rfl⟩
 rw [← hrs] at hP hcP ⊢
 have HRS := Lib.hid hrs
 have HP := Lib.hid hP
 have HCP := Lib.hid hcP
 have HDD := Lib.hid (HD.out.below DtR.stays (hb.trans (hc1.mono hb.size)))
 have HDN := Lib.hid (show db.length ≤ 1000000 by have := dbB_len HB.out; have := schemaB_le (dbB_schema HB.out); omega)
 generalize hnp : rs.length = np at *
 have HNP := Lib.hid hnp
 clear hq hrs hP hcP hnp
 refine hK.out _ _ ⟨below_keep hc1 _ _ p1, below_keep hc1 _ _ x0, below_keep hc1 _ _ x1⟩ (fun hHeld => ?_)
 clear hK K
 (try simp only [Act.put, pz0, pz1, pz2, pz3, pz4, pz5])
 refine wpAnyH_ready (rs := [8]) (by kernel_rfl) (by simp) ?_
 refine AllReadyH.cons rfl (fun K hK => ?_) AllReadyH.nil
 go_simp
 go_at_call 142
 refine (specL4With (some ⟨bd, od, none⟩) AP db.length cD np cP m db ⟨rs⟩ _ _ u1 HDD.out HP.out HCP.out hmd HDN.out).mono ?_
 rintro e u2 ⟨⟨AW, cW, rfl, hcW, hW⟩, hq⟩
 have hc2 := hc1.trans (hq.mono hc1.size)
 rw [HRS.out] at hW
 clear hq HP HCP HDD
 refine hK.out _ _ ⟨below_keep hc2 _ _ p1, below_keep hc2 _ _ x0, below_keep hc2 _ _ x1⟩ (fun hHeld => ?_)
 clear hK K
 (try simp only [Act.put, pz0, pz1, pz2, pz3, pz4, pz5])
 refine tk 9 ?_
 refine wpAnyH_done (by kernel_rfl) ?_ _
 refine NoPanic.normal ?_
 clear hHeld
 have hb := hb.trans (hc2.mono hb.size)
 have rx := rx.below hc2
 have hX := hX.below VlR.stays hc2
 rw [← insD_at hmd] at hW
 clear hc0 hc1 hc2 p1 x0 x1
 obtain ⟨⟨x0, x1⟩, -⟩ := rx.all2
 have HW := Lib.hid hW
 have HCW := Lib.hid hcW
 clear hW hcW
 go_wp2_with fail
 refine (specL5Refers _ AW AX _ cS _ cW _ cX s (insD db m ⟨id, vals⟩) m vals true _ _ _ _ (HS.out.below TbR.stays hb) HW.out hX HSL.out HDL.out (by omega) hm HFN.out (fkIn_of HDB.out hm HLEN.out)).mono ?_
 rintro e u3 ⟨rfl, hq⟩
 have hb := hb.trans (hq.mono hb.size)
 have HW := Lib.hid (HW.out.below DtR.stays hq)
 have rx := rx.below hq
 clear hq x0 x1
 obtain ⟨⟨x0, x1⟩, -⟩ := rx.all2
 cases hrf : refersB s (insD db m ⟨id, vals⟩) s[m] vals true
 ·go_wp2_with fail
  go_ret3
  exact ⟨⟨none, 0, 0, 0, 5, rfl, .inl (by omega)⟩, hb⟩
 ·go_wp2_with fail
  go_quiet (fail)
  go_wp2_with fail
  go_ret3
  refine ⟨⟨AW, db.length, cW, id, 0, rfl, .inr ⟨rfl, HCW.out, ?_, ?_⟩⟩, ⟨hb.os, hb.tape, hb.output, hb.size, hb.block⟩⟩
  ·rw [← HID.out]; exact HW.out.stays DtR.stays (fun _ h => h) (fun _ _ _ h => h)
  ·rw [← HID.out]; exact HDB.out
set_option maxRecDepth 100000 in
theorem specL6OkM (AS AD : Option Addr) (nS cS nD cD : Nat) (s : List Tb) (db : List Dt) (m : Nat) (ok okd : Nat → Prop) (w : World) (hs : Sl TbR 6 ok w AS nS s) (hd : Sl DtR 1 okd w AD nD db) (hm : m < s.length) (hcp : nS ≤ cS) (hsz : szL Tb.sz s ≤ 1048576) (hdz : szL Dt.sz db ≤ 1048576) :
  Calls Tryz.prog 45 #[.slice AS nS cS, .slice AD nD cD, .int .i64 m] w fun e w' => e = .returned (.bool (dbB s db)) ∧ Below w.heap.size w w' := by
 obtain rfl : s.length = nS := hs.1
 have hsl : s.length ≤ 1048576 := by unfold szL at hsz; omega
 have hin : (decide ((0 : Int) ≤ (m : Int)) && decide ((m : Int) ≤ (s.length : Int) - 1)) = true := by
  rw [Bool.and_eq_true, decide_eq_true_eq, decide_eq_true_eq]; omega
 have HC := Lib.hid (specDbOk AS AD _ cS nD cD s db _ _ w hs hd hcp hsz hdz)
 have HI := Lib.hid (fun w => specInK (n := (m : Int)) hin w)
 clear hs hd hsz hdz hin
 go_enter Tryz.func45, Tryz.ntmps45
 go_wp2_with fail
 refine HC.out.mono ?_
 rintro e w1 ⟨rfl, hb⟩
 cases hB : dbB s db
 ·go_wp2_with fail
  go_ret
  exact ⟨by rw [hB]; rfl, hb⟩
 ·go_wp2_with fail
  refine (HI.out _).mono ?_
  rintro e w2 ⟨rfl, rfl⟩
  go_wp2_with fail
  go_ret
  exact ⟨by rw [hB]; rfl, hb⟩
theorem dbB_small {s : List Tb} {db : List Dt} (h : dbB s db = true) : db.length ≤ 1048576 ∧ (∀ d ∈ db, d.rows.length ≤ 1000000) ∧ ∀ d ∈ db, ∀ r ∈ d.rows, r.vals.length ≤ 1048576 := by
 have hl := dbB_len h
 have h5 := schemaB_le (dbB_schema h)
 refine ⟨by omega, fun d hd => ?_, fun d hd r hr => ?_⟩
 ·obtain ⟨i, hi, rfl⟩ := List.mem_iff_getElem.1 hd
  have := dbB_rows h (m := i) (by omega) hi
  omega
 ·obtain ⟨i, hi, rfl⟩ := List.mem_iff_getElem.1 hd
  have h1 := dbB_row h (m := i) (by omega) hi r hr
  have h8 := tableB_cols (schemaB_at (dbB_schema h) (i := i) (by omega)).1
  omega
set_option maxRecDepth 100000 in
set_option maxHeartbeats 1000000 in
theorem specInsertRow (AS AD AV : Option Addr) (nS cS nD cD nV cV : Nat) (s : List Tb) (db : List Dt) (m : Nat) (vals : List Vl) (ok okd okv : Nat → Prop) (w : World)
  (hs : Sl TbR 6 ok w AS nS s) (hd : Sl DtR 1 okd w AD nD db) (hv : Sl VlR 3 okv w AV nV vals) (hm : m < s.length) (hcp : nS ≤ cS) (hss : szL Tb.sz s ≤ 1048576) (hdz : szL Dt.sz db ≤ 1048576) (hvn : nV ≤ 1048576) :
  Calls Tryz.prog 84 #[.slice AS nS cS, .slice AD nD cD, .int .i64 m, .slice AV nV cV, .bool false] w fun e w' => (∃ (A : Option Addr) (n c : Nat) (id code : Int) (db' : List Dt), e = .returned (.tuple #[.slice A n c, .int .i64 id, .int .i64 code]) ∧ n ≤ c ∧ Sl DtR 1 (okF w.heap.size w') w' A n db' ∧
   (code = 1 ∨ db' = db ∨ db' = insD db m ⟨nextI (db[m]?.getD ⟨[]⟩).rows, vals⟩)) ∧ Below w.heap.size w w' := by
 obtain rfl : s.length = nS := hs.1
 obtain rfl : db.length = nD := hd.1
 obtain rfl : vals.length = nV := hv.1
 obtain ⟨b, off, A1, n1, c1, A2, n2, c2, A3, n3, c3, A4, n4, c4, A5, n5, c5, -, eS, q0, q1, q2, q3, q4, q5, s1, -, -, -, -, -⟩ := TbR.at_ hs hm
 subst eS
 have hts : s[m].sz ≤ 1048576 := Nat.le_trans (szL_mem Tb.sz s s[m] (List.getElem_mem hm)) hss
 have hn1 : n1 ≤ 1048576 := by rw [← s1.1]; unfold Tb.sz szL at hts; omega
 have i0' : (0 : Int) ≤ m := by omega
 have i1 : (m : Int) < s.length := by omega
 have HS := Lib.hid hs
 have HD := Lib.hid hd
 have HV := Lib.hid hv
 have HC := Lib.hid (specL6OkM _ AD _ cS _ cD s db m _ _ w hs hd hm hcp hss hdz)
 have HSS := Lib.hid hss
 clear hs hd hv hss hdz hts
 go_enter Tryz.func84, Tryz.ntmps84
 go_wp2_with fail
 refine HC.out.mono ?_
 rintro e w1 ⟨rfl, hb⟩
 clear HC
 cases hB : dbB s db
 ·go_wp2_with fail
  go_ret3
  exact ⟨⟨none, 0, 0, 0, 1, [], rfl, Nat.le_refl _, ⟨rfl, fun h => by omega⟩, .inl rfl⟩, hb⟩
 have HB := Lib.hid hB
 clear hB
 have q0 := below_keep hb _ _ q0
 have q1 := below_keep hb _ _ q1
 have q2 := below_keep hb _ _ q2
 have q3 := below_keep hb _ _ q3
 have q4 := below_keep hb _ _ q4
 have q5 := below_keep hb _ _ q5
 go_wp2_with fail
 refine (specKinds A1 AV n1 c1 _ cV _ _ _ _ _ s[m].cols vals _ _ (s1.below ClR.stays hb) (Sl.cellz (fun _ => rfl) (HV.out.below VlR.stays hb)) hn1 hvn).mono ?_
 rintro e w2 ⟨rfl, hq⟩
 have hb := hb.trans (hq.mono hb.size)
 clear hq q0 q1 q2 q3 q4 q5
 cases hk : kindsB s[m].cols vals
 ·go_wp2_with fail
  go_ret3
  exact ⟨⟨none, 0, 0, 0, 1, [], rfl, Nat.le_refl _, ⟨rfl, fun h => by omega⟩, .inl rfl⟩, hb⟩
 have HK := Lib.hid hk
 clear hk
 go_wp2_with fail
 refine (specL6Insert _ AD AV _ cS _ cD _ cV s db m vals _ _ _ _ (HS.out.below TbR.stays hb) (HD.out.below DtR.stays hb) (HV.out.below VlR.stays hb) HB.out hm HK.out HSS.out).mono ?_
 rintro e w3 ⟨⟨A, n, c, id, code, rfl, hcase⟩, hq⟩
 have hb := hb.trans (hq.mono hb.size)
 have HCA := Lib.hid hcase
 have HB3 := Lib.hid hb
 clear hq hcase
 by_cases h0 : code = 0
 ·rcases HCA.out with h | ⟨rfl, hnc, hsl, hB2⟩
  ·exact absurd h0 h
  obtain ⟨g1, g2, g3⟩ := dbB_small hB2
  have hlen : (insD db m ⟨nextI (db[m]?.getD ⟨[]⟩).rows, vals⟩).length = db.length := by unfold insD; rw [List.length_set]
  have HSL := Lib.hid hsl
  have HG := Lib.hid (And.intro g1 (And.intro g2 g3))
  have hdl : db.length ≤ 1048576 := by omega
  subst h0
  clear hsl hB2 g1 g2 g3 hlen
  go_wp2_with fail
  refine (specL4Copy A _ c _ _ _ HSL.out hdl HG.out.2.1 HG.out.2.2).mono ?_
  rintro e w4 ⟨A9, c9, rfl, hc9, h9, hq⟩
  go_wp2_with fail
  go_ret3
  exact ⟨⟨A9, _, c9, _, 0, _, rfl, hc9, h9.stays DtR.stays (fun b hb' => ⟨Nat.le_trans HB3.out.size hb'.1, hb'.2⟩) (fun _ _ _ h => h), .inr (.inr rfl)⟩, HB3.out.trans (hq.mono HB3.out.size)⟩
 ·have hk1 : (code != 0) = true := by simpa using h0
  obtain ⟨g1, g2, g3⟩ := dbB_small HB.out
  have HG := Lib.hid (And.intro g1 (And.intro g2 g3))
  clear g2 g3
  go_wp2_with fail
  refine (specL4Copy AD _ cD db _ _ (HD.out.below DtR.stays hb) g1 HG.out.2.1 HG.out.2.2).mono ?_
  rintro e w4 ⟨A9, c9, rfl, hc9, h9, hq⟩
  go_wp2_with fail
  go_ret3
  exact ⟨⟨A9, _, c9, 0, code, db, rfl, hc9, h9.stays DtR.stays (fun b hb' => ⟨Nat.le_trans HB3.out.size hb'.1, hb'.2⟩) (fun _ _ _ h => h), .inr (.inl rfl)⟩, HB3.out.trans (hq.mono HB3.out.size)⟩
def baseOk (M : Nat) (ts : List Tb) (ds : List Dt) : Prop := ∀ d ∈ ds, d.rows.length ≤ M ∧ ∀ r ∈ d.rows, (∃ t ∈ ts, r.vals.length = t.cols.length) ∧ ∀ x ∈ r.vals, okV x.k x.n x.s
def isBase (M : Nat) (ts : List Tb) (base : Nat) (v : Value) (w : World) : Prop := ∃ (A : Option Addr) (c : Nat) (ds : List Dt), v = .slice A ds.length c ∧ ds.length ≤ c ∧ Sl DtR 1 (okF base w) w A ds.length ds ∧ ds.length ≤ ts.length ∧ baseOk M ts ds
def baseK (M : Nat) (ts : List Tb) (ds : List Dt) (i : Nat) (k : Int) : Prop := ds.length = ts.length ∧ baseOk M ts ds ∧ (∀ j (h : j < ds.length), i < j → ds[j].rows = []) ∧ ∀ h : i < ds.length, (ds[i].rows.length : Int) + k ≤ M
theorem baseOk.sz {M : Nat} {ts : List Tb} {ds : List Dt} (h : baseOk M ts ds) (ht : schOk ts) (hM : M ≤ 20) (hl : ds.length ≤ ts.length) : szL Dt.sz ds ≤ 50000 := by
 have hv : ∀ d ∈ ds, ∀ r ∈ d.rows, Rw.sz r ≤ 61 + 61 * 12 := fun d hd r hr => by
  obtain ⟨⟨t, ht1, ht2⟩, hx⟩ := (h d hd).2 r hr
  have h1 := szL_le (fun v : Vl => v.s.size) 12 r.vals fun x hx' => okV_le (hx x hx')
  have h2 := cols_le t
  have h3 := (ht.2.2 t ht1).1
  have h4 : r.vals.length * 12 ≤ 61 * 12 := Nat.mul_le_mul_right _ (by omega)
  show szL (fun v : Vl => v.s.size) r.vals ≤ _
  omega
 have hd : ∀ d ∈ ds, Dt.sz d ≤ 20 + 20 * (61 + 61 * 12) := fun d hd => by
  have h1 := szL_le Rw.sz (61 + 61 * 12) d.rows (hv d hd)
  have h2 := (h d hd).1
  have h4 : d.rows.length * (61 + 61 * 12) ≤ 20 * (61 + 61 * 12) := Nat.mul_le_mul_right _ (by omega)
  show szL Rw.sz d.rows ≤ _
  omega
 have h1 := szL_le Dt.sz (20 + 20 * (61 + 61 * 12)) ds hd
 have h4 : ds.length * (20 + 20 * (61 + 61 * 12)) ≤ 3 * (20 + 20 * (61 + 61 * 12)) := Nat.mul_le_mul_right _ (by have := ht.2.1; omega)
 have := ht.2.1
 omega
theorem baseK.ins {M : Nat} {ts : List Tb} {ds : List Dt} {i : Nat} {k : Int} (h : baseK M ts ds i k) (hk : 0 < k) (hi : i < ds.length) {id : Int} {xs : List Vl} (ht : ∃ t ∈ ts, xs.length = t.cols.length) (hx : ∀ y ∈ xs, okV y.k y.n y.s) : baseK M ts (insD ds i ⟨id, xs⟩) i (k - 1) := by
 obtain ⟨h1, h2, h3, h4⟩ := h
 have h4' := h4 hi
 rw [insD_at hi]
 refine ⟨by rw [List.length_set]; exact h1, fun d hd => ?_, fun j hj hij => by rw [List.getElem_set_ne (by omega)]; exact h3 j (by simpa using hj) hij, fun h => ?_⟩
 ·rcases List.mem_or_eq_of_mem_set hd with hd | rfl
  ·exact h2 d hd
  ·refine ⟨by rw [List.length_append]; simp; omega, fun r hr => ?_⟩
   rcases List.mem_append.1 hr with hr | hr
   ·exact (h2 _ (List.getElem_mem hi)).2 r hr
   ·rw [List.mem_singleton.1 hr]; exact ⟨ht, hx⟩
 ·rw [List.getElem_set_self, List.length_append]; simp; omega
theorem baseK.less {M : Nat} {ts : List Tb} {ds : List Dt} {i : Nat} {k : Int} (h : baseK M ts ds i k) : baseK M ts ds i (k - 1) := ⟨h.1, h.2.1, h.2.2.1, fun hi => by have := h.2.2.2 hi; omega⟩
theorem okF.but {base R : Nat} {w w' : World} (hb : But R w w') (hR : R < base) {b : Nat} (h : okF base w b) : okF base w' b :=
 ⟨h.1, Nat.lt_of_lt_of_le h.2.1 hb.size, fun off => (World.frozen?_of_block (hb.block b h.2.1 (by have := h.1; omega))).trans (h.2.2 off)⟩
theorem Sl.butF {α : Type} {Rr : Rd α} (hR : Stays Rr) {sz base : Nat} {w w' : World} {A : Option Addr} {n : Nat} {ds : List α} (h : Sl Rr sz (okF base w) w A n ds) {R : Nat} (hb : But R w w') (hlt : R < base) : Sl Rr sz (okF base w') w' A n ds :=
 h.stays hR (fun b hb' => hb'.but hb hlt) fun p v hp hc => (hb.cell (cell_lt hc) (by have := hp.1; omega)).trans hc
theorem OwnW.second {w : World} {base : Nat} {A : Option Addr} {c : Nat} {xs : List Vl} (h : OwnW w base (.slice A xs.length c) xs) (h2 : 2 ≤ xs.length) : ∃ g, A = some ⟨g, 0, none⟩ ∧ base ≤ g ∧ g < w.heap.size ∧
  (∃ k n s, w.cell? ⟨g, 3, none⟩ = some (.int .i64 k) ∧ w.cell? ⟨g, 4, none⟩ = some (.int .i64 n) ∧ w.cell? ⟨g, 5, none⟩ = some (.string s)) ∧ (∀ j, w.frozen? ⟨g, j, none⟩ = false) ∧
  ∀ k n s, OwnW (((w.setCell ⟨g, 3, none⟩ (.int .i64 k)).setCell ⟨g, 4, none⟩ (.int .i64 n)).setCell ⟨g, 5, none⟩ (.string s)) base (.slice A xs.length c) (xs.set 1 ⟨k, n, s⟩) := by
 obtain ⟨x0, x1, tl, rfl⟩ : ∃ x0 x1 tl, xs = x0 :: x1 :: tl := by
  match xs, h2 with
  | x0 :: x1 :: tl, _ => exact ⟨x0, x1, tl, rfl⟩
 have h' := h
 rcases h.2 with ⟨-, hn⟩ | ⟨g, cap, cur, e, k1, k2, k3, k4, k5, k6⟩
 ·simp at hn
 simp only [Value.slice.injEq] at e
 obtain ⟨rfl, -, rfl⟩ := e
 have hcell : ∀ j u, ((x0 :: x1 :: tl).map Vl.cells).flatten[j]? = some u → w.cell? ⟨g, j, none⟩ = some u := fun j u hj => by
  rw [← k6, List.getElem?_take] at hj
  split at hj
  ·simp only [World.cell?, k2]
   rw [← Array.getElem?_toList]
   exact hj
  ·cases hj
 refine ⟨g, rfl, k1, lt_of_block k2, ⟨x1.k, x1.n, x1.s, hcell 3 _ rfl, hcell 4 _ rfl, hcell 5 _ rfl⟩, fun j => by simp [World.frozen?, k2], fun k n s => ?_⟩
 have s1 := (World.ownsRow.stored h' 3 (.int .i64 k)).1
 have s2 := (World.ownsRow.stored s1 4 (.int .i64 n)).1
 have s3 := (World.ownsRow.stored s2 5 (.string s)).1
 exact s3
def FitW (wr wx : World) (R : Nat) (a : Option Addr) (len cap : Nat) (zs : List Int) (A : Option Addr) (m c : Nat) : Prop := ∃ xs : List Vl, OwnW wx wr.heap.size (.slice A m c) xs ∧ xs.length = m ∧ (∀ x ∈ xs, okV x.k x.n x.s) ∧ But R wr wx ∧ Rdr wx R a len cap zs
theorem FitW.b {wr wx : World} {R : Nat} {a : Option Addr} {len cap : Nat} {zs : List Int} {A : Option Addr} {m c : Nat} (h : FitW wr wx R a len cap zs A m c) : But R wr wx := by obtain ⟨_, -, -, -, h, -⟩ := h; exact h
theorem FitW.rdr {wr wx : World} {R : Nat} {a : Option Addr} {len cap : Nat} {zs : List Int} {A : Option Addr} {m c : Nat} (h : FitW wr wx R a len cap zs A m c) : Rdr wx R a len cap zs := by obtain ⟨_, -, -, -, -, h⟩ := h; exact h
theorem FitW.but {wr wx wy : World} {R : Nat} {a : Option Addr} {len cap : Nat} {zs : List Int} {A : Option Addr} {m c : Nat} (h : FitW wr wx R a len cap zs A m c) (hb : But R wx wy) (hr : Rdr wy R a len cap zs) (hR : R < wr.heap.size) : FitW wr wy R a len cap zs A m c := by
 obtain ⟨xs, h1, h2, h3, h4, h5⟩ := h
 exact ⟨xs, OwnG.but h1 hb hR, h2, h3, h4.trans hb, hr⟩
theorem FitW.store {wr wx : World} {R : Nat} {a : Option Addr} {len cap : Nat} {zs : List Int} {A : Option Addr} {m c : Nat} (h : FitW wr wx R a len cap zs A m c) (h0 : Rdr wr R a len cap zs) (h2 : 2 ≤ m) : ∃ g, A = some ⟨g, 0, none⟩ ∧
  (∃ k n s, wx.cell? ⟨g, 3, none⟩ = some (.int .i64 k) ∧ wx.cell? ⟨g, 4, none⟩ = some (.int .i64 n) ∧ wx.cell? ⟨g, 5, none⟩ = some (.string s)) ∧ (∀ j, wx.frozen? ⟨g, j, none⟩ = false) ∧
  ∀ k n s, okV k n s → FitW wr (((wx.setCell ⟨g, 3, none⟩ (.int .i64 k)).setCell ⟨g, 4, none⟩ (.int .i64 n)).setCell ⟨g, 5, none⟩ (.string s)) R a len cap zs A m c := by
 obtain ⟨xs, h1, rfl, h3, h4, h5⟩ := h
 obtain ⟨g, e, hg, hl, hc, hf, hs⟩ := OwnW.second h1 h2
 refine ⟨g, e, hc, hf, fun k n s hk => ⟨_, hs k n s, by rw [List.length_set], fun x hx => ?_, ((h4.setNew (p := ⟨g, 3, none⟩) hg _).setNew (p := ⟨g, 4, none⟩) hg _).setNew (p := ⟨g, 5, none⟩) hg _, h0.setNew (h0.setNew (h0.setNew h5 (p := ⟨g, 3, none⟩) hg _) (p := ⟨g, 4, none⟩) hg _) (p := ⟨g, 5, none⟩) hg _⟩⟩
 rcases List.mem_or_eq_of_mem_set hx with hx | rfl
 ·exact h3 x hx
 ·exact hk
set_option maxRecDepth 100000 in
set_option maxHeartbeats 4000000 in
theorem rdBase (M : Nat) (hM1 : 1 ≤ M) (hM2 : M ≤ 20) (A : Option Addr) (n c : Nat) (ts : List Tb) (ok : Nat → Prop) (w : World) (R : Nat) (a : Option Addr) (len cap : Nat) (zs : List Int) (h : Rdr w R a len cap zs) (hs : Sl TbR 6 ok w A n ts) (hok : ∀ b, ok b → b ≠ R) (hcp : n ≤ c) (hk : schOk ts) :
  Calls Tryz.prog 38 #[.pointer (some ⟨R, 0, none⟩), .slice A n c, .int .i64 M] w (Drew R a len cap zs (isBase M ts w.heap.size) w) := by
 have hR : R < w.heap.size := cell_lt h.code
 obtain rfl : ts.length = n := hs.1
 have hsz := hk.sz
 have hn3 := hk.2.1
 have HC := Lib.hid (specDbNew A ts.length c ts ok w hs hcp (by omega))
 have H0 := Lib.hid h
 have HS := Lib.hid hs
 have HK := Lib.hid hk
 clear hs hk
 go_enter Tryz.func38, Tryz.ntmps38
 go_wp2_with fail
 refine HC.out.mono ?_
 rintro e w1 ⟨A0, c0, rfl, hc0, hem, hq⟩
 have hdt := Em.toDt hem
 have HB := Lib.hid (below_but hq R)
 have HR := Lib.hid (rdr_below h hq)
 clear HC hem hq h
 cases hB : schemaB ts
 ·rw [hB] at hdt hc0
  have hl0 : (ems false ts.length).length = 0 := rfl
  rw [hl0] at hdt hc0 ⊢
  go_wp2_with fail
  go_loopw [7, 9] (fun v i wr => v = .slice A0 0 c0 ∧ i = .int .i64 0 ∧ wr = w1) (fun _ _ _ => 0)
  case atStart => exact ⟨rfl, rfl, rfl⟩
  case round =>
   obtain ⟨rfl, rfl, rfl⟩ := hrel
   have h1 : (0 : Int) < ts.length := by have := HK.out.1; omega
   go_wp2_with fail
   go_ret
   exact ⟨_, rfl, ⟨A0, c0, [], rfl, Nat.zero_le _, hdt, Nat.zero_le _, fun d hd => by cases hd⟩, HB.out, HR.out⟩
 rw [hB] at hdt hc0
 have hl0 : (ems true ts.length).length = ts.length := by simp [ems]
 rw [hl0] at hdt hc0 ⊢
 have hde : dts (ems true ts.length) = List.replicate ts.length ⟨[]⟩ := by simp [ems, dts]
 rw [hde] at hdt
 have HD := Lib.hid hdt
 clear hdt hde hB
 go_wp2_with fail
 go_loopw [7, 9] (fun v i wr => ∃ (k : Nat) (A0 : Option Addr) (c0 : Nat) (ds : List Dt), v = .slice A0 ts.length c0 ∧ i = .int .i64 k ∧ k ≤ ts.length ∧ ts.length ≤ c0 ∧ Hid (Sl DtR 1 (okF w.heap.size wr) wr A0 ts.length ds) ∧ Hid (ds.length = ts.length ∧ baseOk M ts ds ∧ ∀ j (h : j < ds.length), k ≤ j → ds[j].rows = []) ∧ Hid (But R w wr) ∧ Hid (Rdr wr R a len cap zs)) (fun _ i _ => ts.length - (intOf i).toNat)
 case atStart => exact ⟨0, A0, c0, _, rfl, rfl, Nat.zero_le _, hc0, HD, Lib.hid ⟨by simp, fun d hd => by rw [List.eq_of_mem_replicate hd]; exact ⟨by simp, fun r hr => by cases hr⟩, fun j hj _ => by rw [List.getElem_replicate]⟩, HB, HR⟩
 case round =>
  clear HD HB HR hc0
  obtain ⟨k, A0, c0, ds, rfl, rfl, hkl, hc0, hdb, hrk, hb, hr⟩ := hrel
  by_cases hlt : k < ts.length
  ·have g1 : (k : Int) < (ts.length : Nat) := by omega
   have g0 : (0 : Int) ≤ (k : Nat) := by omega
   go_wp2_with fail
   refine (rdBelow M _ R a len cap zs hr.out).mono ?_
   rintro e w2 ⟨v, rfl, ⟨y, rfl, y0, y1⟩, hb2, hr2⟩
   have HDI := Lib.hid (hdb.out.butF DtR.stays hb2 hR)
   have HBI := Lib.hid (hb.out.trans hb2)
   have HRI := Lib.hid hr2
   have HKI := Lib.hid (show baseK M ts ds k (1 + y) from ⟨hrk.out.1, hrk.out.2.1, fun j hj hkj => hrk.out.2.2 j hj (by omega), fun h => by rw [hrk.out.2.2 k h (Nat.le_refl _)]; simp; omega⟩)
   clear hdb hb hr hrk hb2 hr2
   go_wp2_with fail
   go_loopw [7, 10] (fun v kv wi => ∃ (m : Int) (A0 : Option Addr) (c0 : Nat) (ds : List Dt), v = .slice A0 ts.length c0 ∧ kv = .int .i64 m ∧ 0 ≤ m ∧ m ≤ 20 ∧ ts.length ≤ c0 ∧ Hid (Sl DtR 1 (okF w.heap.size wi) wi A0 ts.length ds) ∧ Hid (baseK M ts ds k m) ∧ Hid (But R w wi) ∧ Hid (Rdr wi R a len cap zs)) (fun _ kv _ => (intOf kv).toNat)
   case atStart => exact ⟨1 + y, A0, c0, ds, rfl, by go_num, by omega, by omega, hc0, HDI, HKI, HBI, HRI⟩
   case round =>
    clear HDI HKI HBI HRI
    obtain ⟨m, A0, c0, ds, rfl, rfl, m0, m20, hc0, hdb, hkk, hb, hr⟩ := hrel
    by_cases hm : 0 < m
    ·have hkd : k < ds.length := by rw [hkk.out.1]; exact hlt
     have h0d : 0 < ds.length := by omega
     obtain ⟨b, off, P1, p1, q1, P2, p2, q2, P3, p3, q3, P4, p4, q4, P5, p5, q5, hokb, rfl, e0, e1, e2, e3, e4, e5, hcols, -, -, -, -, -⟩ := TbR.at_ (HS.out.butY TbR.stays hb.out hok) hlt
     have hbR : b ≠ R := hok b hokb
     have hc2 : 2 ≤ ts[k].cols.length ∧ ts[k].cols.length ≤ 1000 := by
      have h1 := HK.out.2.2 ts[k] (List.getElem_mem hlt)
      have h2 := cols_le ts[k]
      omega
     go_wp2_with fail
     refine (rdFit _ _ _ _ _ P1 p1 q1 ts[k].cols ok _ R a len cap zs hr.out hcols hok hc2.2).mono ?_
     rintro e w3 ⟨v, rfl, ⟨xs, hown, hxl, hxo⟩, hb3, hr3⟩
     obtain ⟨AV, cV, rfl, -, -, -⟩ := OwnG.sl (f := Vl.cells) (sz := 3) (fun _ => rfl) hown
     have E0 := Lib.hid e0
     have q0 := (hb3.cell (cell_lt e0) hbR).trans e0
     have HF := Lib.hid (show FitW wr w3 R a len cap zs AV xs.length cV from ⟨xs, hown, rfl, hxo, hb3, hr3⟩)
     have HXL := Lib.hid hxl
     have HDR := Lib.hid (hdb.out.butF DtR.stays hb3 hR)
     obtain ⟨b1, o1, A1, n1, c1, ho1, rfl, d0, hrw0, -⟩ := DtR.at_ HDR.out h0d
     simp only [Nat.add_zero] at d0
     clear e0 e1 e2 e3 e4 e5 hcols hown hxo hb3 hr3
     have hc2' : 2 ≤ xs.length := by rw [hxl]; exact hc2.1
     have HXL := Lib.hid hxl
     clear hxl
     obtain ⟨wv, hwv⟩ : ∃ wv, wv = wr := ⟨_, rfl⟩
     subst hwv
     go_upto_region 9 with fail
     go_cut [62] from 44 to 62 (fun s62 wx => ∃ bb : Bool, s62 = .bool bb ∧ (bb = true → 0 < ds[0].rows.length) ∧ FitW wv wx R a len cap zs AV xs.length cV)
     case first =>
      by_cases hN : ts[k].name.toList = [112]
      ·go_wp2_with fail
       go_meet
       case rel => exact ⟨false, rfl, by simp, HF.out⟩
      ·by_cases hL : 0 < n1
       ·have hL1 : (0 : Int) < n1 := by omega
        go_wp2_with fail
        refine (rdOnce 4 _ R a len cap zs HF.out.rdr).mono ?_
        rintro e w4 ⟨v, rfl, ⟨bb, rfl⟩, hb4, hr4⟩
        have HF4 := Lib.hid (HF.out.but hb4 hr4 (Nat.lt_of_lt_of_le hR hb.out.size))
        clear hb4 hr4
        go_wp2_with fail
        go_meet
        case rel => exact ⟨_, rfl, fun _ => by rw [hrw0.1]; exact hL, HF4.out⟩
       ·have hL1 : ¬ (0 : Int) < n1 := by omega
        go_wp2_with fail
        go_meet
        case rel => exact ⟨false, rfl, by simp, HF.out⟩
     case rest =>
      obtain ⟨bb, rfl, hbb, hf⟩ := hcut
      have HF1 := Lib.hid hf
      have q1 := (hf.b.cell (cell_lt E0.out) hbR).trans E0.out
      have HD1 := Lib.hid (hdb.out.butF DtR.stays hf.b hR)
      clear hf HF HDR d0 hrw0
      obtain ⟨wd, hwd⟩ : ∃ wd, wd = wc := ⟨_, rfl⟩
      subst hwd
      go_upto_if 62 with (fail)
      go_cut [12] from 63 to 92 (fun s12 wx => FitW wv wx R a len cap zs AV xs.length cV)
      case first =>
       cases bb
       ·go_wp2_with fail
        go_meet
        case rel => exact HF1.out
       ·have hL := hbb rfl
        obtain ⟨b2, o2, A2, n2, c2, ho2, eo2, d0, hrw0, -⟩ := DtR.at_ HD1.out h0d
        obtain ⟨b3, o3, A3, n3, c3, ho3, eo3, d3, hrw3, -⟩ := DtR.at_ HD1.out hkd
        simp only [Option.some.injEq, Addr.mk.injEq, and_true] at eo2 eo3
        obtain ⟨rfl, rfl⟩ := eo2
        obtain ⟨rfl, rfl⟩ := eo3
        simp only [Nat.add_zero] at d0
        obtain rfl : ds[0].rows.length = n2 := hrw0.1
        obtain rfl : ds[k].rows.length = n3 := hrw3.1
        go_upto_if 72 with (fail)
        go_cut [12] from 72 to 77 (fun s12 wx => wx = wd ∧ ∃ (A9 : Option Addr) (c9 q : Nat) (hq : q < ds.length), s12 = .slice A9 ds[q].rows.length c9 ∧ Hid (Sl RwR 2 (okF w.heap.size wd) wd A9 ds[q].rows.length ds[q].rows))
        case first =>
         cases hT : (ts[k].name.toList == [116, 114, 101, 101])
         ·go_wp2_with fail
          go_meet
          case rel => exact ⟨rfl, A2, c2, 0, h0d, rfl, Lib.hid hrw0⟩
         ·go_wp2_with fail
          go_meet
          case rel => exact ⟨rfl, A3, c3, k, hkd, rfl, Lib.hid hrw3⟩
        case rest =>
         obtain ⟨rfl, A9, c9, q, hq, rfl, hrw9⟩ := hcut
         clear d0 d3 hrw0 hrw3
         by_cases hl : 0 < ds[q].rows.length
         ·have hl1 : (0 : Int) < ds[q].rows.length := by omega
          go_wp2_with fail
          refine (rdBelow _ _ R a len cap zs HF1.out.rdr).mono ?_
          rintro e w5 ⟨v, rfl, ⟨y5, rfl, y50, y51⟩, hb5, hr5⟩
          obtain ⟨j, rfl, hj⟩ := below_nat y50 y51 hl1
          have hj' : j < ds[q].rows.length := by omega
          have HF5 := Lib.hid (HF1.out.but hb5 hr5 (Nat.lt_of_lt_of_le hR hb.out.size))
          have hrw5 := hrw9.out.butF RwR.stays hb5 hR
          obtain ⟨b6, o6, A6, n6, c6, ho6, rfl, -, p6, hvl6, -⟩ := RwR.at_ hrw5 hj'
          have hv2 : 0 < ds[q].rows[j].vals.length := by
           obtain ⟨t, ht1, ht2⟩ := ((hkk.out.2.1 _ (List.getElem_mem hq)).2 _ (List.getElem_mem hj')).1
           have := (HK.out.2.2 t ht1).2
           omega
          have hov := ((hkk.out.2.1 _ (List.getElem_mem hq)).2 _ (List.getElem_mem hj')).2 _ (List.getElem_mem hv2)
          obtain ⟨b7, o7, ho7, rfl, v0, v1, v2⟩ := VlR.at_ hvl6 hv2
          obtain rfl : ds[q].rows[j].vals.length = n6 := hvl6.1
          have hv3 : (0 : Int) < ds[q].rows[j].vals.length := by omega
          obtain ⟨g, rfl, ⟨k9, n9, s9, z3, z4, z5⟩, hfz, hst⟩ := HF5.out.store hr.out hc2'
          have hc3 : (1 : Int) < xs.length := by omega
          have f3 := hfz 3
          have f4 := hfz 4
          have f5 := hfz 5
          have HST := Lib.hid (hst _ _ _ hov)
          simp only [Nat.zero_mul, Nat.add_zero] at v0 v1 v2
          clear hb5 hr5 hvl6 hrw5 hst hfz hov
          go_wp2_with fail
          go_meet
          case rel => exact HST.out
         ·have hl1 : ¬ (0 : Int) < ds[q].rows.length := by omega
          go_wp2_with fail
          go_meet
          case rel => exact HF1.out
      case rest =>
       have HF2 := Lib.hid hcut
       have q2 := (hcut.b.cell (cell_lt E0.out) hbR).trans E0.out
       have HD2 := Lib.hid (hdb.out.butF DtR.stays hcut.b hR)
       clear hcut HF1 HD1 q1 hbb
       obtain ⟨we, hwe⟩ : ∃ we, we = wc := ⟨_, rfl⟩
       subst hwe
       obtain ⟨b3, o3, A3, n3, c3, ho3, eo3, d3, hrw3, -⟩ := DtR.at_ HD2.out hkd
       simp only [Option.some.injEq, Addr.mk.injEq, and_true] at eo3
       obtain ⟨rfl, rfl⟩ := eo3
       go_upto_region 15 with fail
       go_cut [107] from 93 to 107 (fun s107 wx => wx = we ∧ ∃ bb : Bool, s107 = .bool bb)
       case first =>
        by_cases hT : ts[k].name.toList = [116, 114, 101, 101]
        ·go_wp2_with fail
         go_meet
         case rel => exact ⟨rfl, _, rfl⟩
        ·go_wp2_with fail
         go_meet
         case rel => exact ⟨rfl, _, rfl⟩
       case rest =>
        obtain ⟨rfl, bt, rfl⟩ := hcut
        clear d3 hrw3 q2
        obtain ⟨g, rfl, ⟨k9, n9, s9, z3, z4, z5⟩, hfz, hst⟩ := HF2.out.store hr.out hc2'
        have hc3 : (1 : Int) < xs.length := by omega
        have f3 := hfz 3
        have f4 := hfz 4
        have f5 := hfz 5
        have HST := Lib.hid (hst _ _ _ okV_null)
        clear hst hfz
        go_upto_if 107 with (fail)
        go_cut [] from 108 to 110 (fun wx => FitW wv wx R a len cap zs (some ⟨g, 0, none⟩) xs.length cV)
        case first =>
         cases bt
         ·go_wp2_with fail
          go_meet
          case rel => exact HF2.out
         ·go_wp2_with fail
          go_meet
          case rel => exact HST.out
        case rest =>
         have HF3 := Lib.hid hcut
         clear hcut HF2 HST HD2 z3 z4 z5 f3 f4 f5
         obtain ⟨xs', ho, hl', hx', hbx, hrx⟩ := HF3.out
         obtain ⟨A8, c8, e8, -, -, hsv⟩ := OwnG.sl (f := Vl.cells) (sz := 3) (fun _ => rfl) ho
         simp only [Value.slice.injEq] at e8
         obtain ⟨rfl, -, rfl⟩ := e8
         rw [hl'] at hsv
         have HD3 := Lib.hid (hdb.out.butF DtR.stays hbx hR)
         have HS3 := Lib.hid ((HS.out.butY TbR.stays hb.out hok).butY TbR.stays hbx hok)
         have HSV := Lib.hid hsv
         have HB3 := Lib.hid (hb.out.trans hbx)
         have HR3 := Lib.hid hrx
         have HX3 := Lib.hid (show (∃ t ∈ ts, xs'.length = t.cols.length) ∧ ∀ y ∈ xs', okV y.k y.n y.s from ⟨⟨ts[k], List.getElem_mem hlt, by rw [hl']; exact HXL.out⟩, hx'⟩)
         have hdz := hkk.out.2.1.sz HK.out hM2 (Nat.le_of_eq hkk.out.1)
         have HW := Lib.hid hbx.size
         clear ho hx' hbx hrx hsv HF3
         go_wp2_with fail
         refine (specInsertRow _ _ _ ts.length c ts.length c0 xs.length cV ts ds k xs' _ _ _ _ HS3.out HD3.out HSV.out hlt hcp (by omega) (by omega) (by have := HXL.out; omega)).mono ?_
         rintro e w6 ⟨⟨A9, n9, c9, id, code, db', rfl, hc9, h9, hcase⟩, hq⟩
         have HB6 := Lib.hid (HB3.out.trans (below_but hq R))
         have HR6 := Lib.hid (rdr_below HR3.out hq)
         by_cases hcode : code = 1
         ·subst hcode
          have HD6 := Lib.hid (HD3.out.butF DtR.stays (below_but hq R) hR)
          have HK6 := Lib.hid hkk.out.less
          clear hq h9 hcase
          go_wp2_with fail
          go_roundw
          case rel => exact ⟨m - 1, _, c0, ds, rfl, by go_num, by omega, by omega, hc0, HD6, HK6, HB6, HR6⟩
          case measure => simp [intOf]; omega
         ·have hk1 : (code != 1) = true := by simpa using hcode
          have hk2 : baseK M ts db' k (m - 1) := by
           rcases hcase with h | rfl | rfl
           ·exact absurd h hcode
           ·exact hkk.out.less
           ·exact hkk.out.ins hm hkd HX3.out.1 HX3.out.2
          have hn9 : n9 = ts.length := by rw [← h9.1]; exact hk2.1
          subst hn9
          have HD6 := Lib.hid (h9.stays DtR.stays (ok' := okF w.heap.size w6) (fun b hb' => hb'.mono (Nat.le_trans hb.out.size HW.out)) (fun _ _ _ h => h))
          have HK6 := Lib.hid hk2
          clear hq h9 hcase hk2
          go_wp2_with fail
          go_roundw
          case rel => exact ⟨m - 1, A9, c9, db', rfl, by go_num, by omega, by omega, hc9, HD6, HK6, HB6, HR6⟩
          case measure => simp [intOf]; omega
    ·have hm' : m = 0 := by omega
     subst hm'
     go_wp2_with fail
     go_roundw
     case rel => exact ⟨k + 1, A0, c0, ds, rfl, by go_num, by omega, hc0, hdb, Lib.hid ⟨hkk.out.1, hkk.out.2.1, fun j hj hkj => hkk.out.2.2.1 j hj (by omega)⟩, hb, hr⟩
     case measure => simp [intOf]; omega
  ·have g1 : ¬ (k : Int) < (ts.length : Nat) := by omega
   go_wp2_with fail
   go_ret
   exact ⟨_, rfl, ⟨A0, c0, ds, by show Value.slice A0 ts.length c0 = _; rw [hrk.out.1], by rw [hrk.out.1]; exact hc0, by rw [hrk.out.1]; exact hdb.out, by rw [hrk.out.1]; exact Nat.le_refl _, hrk.out.2.1⟩, hb.out, hr.out⟩
end Go.Proofs.YtciaidjmehelpaaGreat
