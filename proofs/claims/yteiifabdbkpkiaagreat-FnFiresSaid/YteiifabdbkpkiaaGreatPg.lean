/-
  Several texts in one: what the proof leans on, part 7.
-/
import Derived.Test.YteiifabdbkpkiaaGreatPc
import Derived.Test.YteiifabdbkpkiaaGreatPe
import Derived.Test.YteiifabdbkpkiaaGreatPf
import Derived.Test.YteiifabdbkpkiaaGreatPb
import Derived.Test.YteiifabdbkpkiaaGreatPd
import Derived.Maps.AppendAt
set_option linter.unusedVariables false
set_option linter.unusedSimpArgs false
namespace Go.Proofs.YteiifabdbkpkiaaGreat
open Go.RowKit Go.Maps
theorem act_in (a : Int) : actB a = (decide (0 ≤ a) && decide (a ≤ 2)) := by
 unfold actB; rw [Bool.eq_iff_iff]; simp; omega
theorem exprB_l2n {ts : List Tk} {n : Nat} (hn : n ≤ 16) : exprB ts n = l2B ts n := by
 have h0 : (0 : Int) ≤ n := by omega
 have h1 : (n : Int) ≤ 16 := by omega
 simp only [exprB, l2B, h0, h1, decide_true, Bool.true_and]
 exact Bool.and_comm _ _
theorem kind_in (k : Int) : (k == 1 || k == 2) = (decide (1 ≤ k) && decide (k ≤ 2)) := by
 rw [Bool.eq_iff_iff]; simp; omega
theorem uniqGo_at (l : List ByteArray) (k : Nat) (h : k < l.length) : uniqGo (l.take k) (l.drop k) = (decide (atN (l.take k) l[k] = -1) && uniqGo (l.take (k + 1)) (l.drop (k + 1))) := by
 rw [List.drop_eq_getElem_cons h, List.take_succ_eq_append_getElem h]; rfl
set_option maxRecDepth 100000 in
set_option maxHeartbeats 4000000 in
theorem specTableOk (x : Tb) (A1 : Option Addr) (n1 c1 : Nat) (A2 : Option Addr) (n2 c2 : Nat) (A3 : Option Addr) (n3 c3 : Nat) (A4 : Option Addr) (n4 c4 : Nat) (A5 : Option Addr) (n5 c5 : Nat) (ok : Nat → Prop) (w : World)
  (h1 : Sl ClR 6 ok w A1 n1 x.cols) (h2 : Sl IntR 1 ok w A2 n2 x.key) (h3 : Sl UqR 1 ok w A3 n3 x.uniqs) (h4 : Sl CkR 1 ok w A4 n4 x.checks) (h5 : Sl FkR 5 ok w A5 n5 x.fks) (hcp : n1 ≤ c1 ∧ n2 ≤ c2 ∧ n3 ≤ c3 ∧ n4 ≤ c4 ∧ n5 ≤ c5) (hs : x.sz ≤ 1048576) :
  Calls Tryz.prog 44 #[.agg #[.string x.name, .slice A1 n1 c1, .slice A2 n2 c2, .slice A3 n3 c3, .slice A4 n4 c4, .slice A5 n5 c5]] w fun e w' => e = .returned (.bool (tableB x)) ∧ Below w.heap.size w w' := by
 obtain rfl : x.cols.length = n1 := h1.1
 obtain rfl : x.key.length = n2 := h2.1
 have HNM := Lib.hid (show x.name.size ≤ maxLen by unfold Tb.sz at hs; unfold maxLen; omega)
 have HS1 := Lib.hid (show szL Cl.sz x.cols ≤ 1048576 by unfold Tb.sz at hs; omega)
 have HS3 := Lib.hid (show szL Uq.sz x.uniqs ≤ 1048576 by unfold Tb.sz at hs; omega)
 have HS4 := Lib.hid (show szL Ck.sz x.checks ≤ 1048576 by unfold Tb.sz at hs; omega)
 have HS5 := Lib.hid (show szL Fk.sz x.fks ≤ 1048576 by unfold Tb.sz at hs; omega)
 have hl1 : x.cols.length ≤ 1048576 := by unfold Tb.sz szL at hs; omega
 have hl2 : x.key.length ≤ 1048576 := by unfold Tb.sz at hs; omega
 obtain rfl : x.uniqs.length = n3 := h3.1
 obtain rfl : x.checks.length = n4 := h4.1
 obtain rfl : x.fks.length = n5 := h5.1
 have hl3 : x.uniqs.length ≤ 1048576 := by unfold Tb.sz szL at hs; omega
 have hl4 : x.checks.length ≤ 1048576 := by unfold Tb.sz szL at hs; omega
 have hl5 : x.fks.length ≤ 1048576 := by unfold Tb.sz szL at hs; omega
 have hcp2 := hcp.2.1
 have hcp1 := hcp.1
 clear hs hcp
 have hb0 := (Below.refl w.heap.size w).alloc (Nat.le_refl _) (.cells #[.string x.name, .slice A1 x.cols.length c1, .slice A2 x.key.length c2, .slice A3 x.uniqs.length c3, .slice A4 x.checks.length c4, .slice A5 x.fks.length c5] 42)
 have r0 := Row.new w 42 #[.string x.name, .slice A1 x.cols.length c1, .slice A2 x.key.length c2, .slice A3 x.uniqs.length c3, .slice A4 x.checks.length c4, .slice A5 x.fks.length c5]
 cases hN : nameB x.name
 ·skip
  have HN0 := Lib.hid hN
  have HF := Lib.hid (show tableB x = false by unfold tableB; rw [hN]; rfl)
  clear hN
  go_enter Tryz.func44, Tryz.ntmps44
  go_wp2_with fail
  refine (specName _ _ HNM.out).mono ?_
  rintro e w1 ⟨rfl, rfl⟩
  rw [HN0.out]
  go_wp2_with fail
  go_ret
  exact ⟨retB HF.out.symm, hb0⟩
 have HN0 := Lib.hid hN
 clear hN
 cases h8 : (decide (1 ≤ (x.cols.length : Int)) && decide ((x.cols.length : Int) ≤ 8))
 ·skip
  have H8 := Lib.hid h8
  have HF := Lib.hid (show tableB x = false by
   have : colsB x.cols = false := by
    unfold colsB
    by_cases e : 1 ≤ x.cols.length
    ·have e2 : ¬ x.cols.length ≤ 8 := by intro e3; simp [e3] at h8; omega
     rw [decide_eq_false e2]; simp
    ·rw [decide_eq_false e]; rfl
   unfold tableB; rw [this]; simp)
  clear h8
  go_enter Tryz.func44, Tryz.ntmps44
  go_wp2_with fail
  refine (specName _ _ HNM.out).mono ?_
  rintro e w1 ⟨rfl, rfl⟩
  rw [HN0.out]
  go_wp2_with fail
  refine (specIn _ _ _ _).mono ?_
  rintro e w1 ⟨rfl, rfl⟩
  rw [H8.out]
  go_wp2_with fail
  go_ret
  exact ⟨retB HF.out.symm, hb0⟩
 have H8 := Lib.hid h8
 have hlen8 : x.cols.length ≤ 8 := by simp at h8; omega
 clear h8
 cases hK : colsInB x.key x.cols.length
 ·skip
  have HK := Lib.hid hK
  have HF := Lib.hid (show tableB x = false by unfold tableB keyB; rw [hK]; simp)
  clear hK
  go_enter Tryz.func44, Tryz.ntmps44
  go_wp2_with fail
  refine (specName _ _ HNM.out).mono ?_
  rintro e w1 ⟨rfl, rfl⟩
  rw [HN0.out]
  go_wp2_with fail
  refine (specIn _ _ _ _).mono ?_
  rintro e w1 ⟨rfl, rfl⟩
  rw [H8.out]
  go_wp2_with fail
  refine (specCols A2 x.key.length c2 x.key x.cols.length ok _ (h2.below IntR.stays hb0) hcp2 hl2 (by omega) (by omega)).mono ?_
  rintro e w2 ⟨rfl, hq1⟩
  rw [HK.out]
  go_wp2_with fail
  go_ret
  exact ⟨retB HF.out.symm, hb0.trans (hq1.mono hb0.size)⟩
 have HK := Lib.hid hK
 have HIN := Lib.hid (colsInB_len hK).2
 clear hK
 by_cases hu : 3 < (x.uniqs.length : Int)
 ·skip
  have HF := Lib.hid (show tableB x = false by unfold tableB uqsB; rw [decide_eq_false (p := x.uniqs.length ≤ 3) (by have := h3.1; omega)]; simp)
  go_enter Tryz.func44, Tryz.ntmps44
  go_wp2_with fail
  refine (specName _ _ HNM.out).mono ?_
  rintro e w1 ⟨rfl, rfl⟩
  rw [HN0.out]
  go_wp2_with fail
  refine (specIn _ _ _ _).mono ?_
  rintro e w1 ⟨rfl, rfl⟩
  rw [H8.out]
  go_wp2_with fail
  refine (specCols A2 x.key.length c2 x.key x.cols.length ok _ (h2.below IntR.stays hb0) hcp2 hl2 (by omega) (by omega)).mono ?_
  rintro e w2 ⟨rfl, hq1⟩
  rw [HK.out]
  obtain ⟨⟨a0, a1, a2, a3, a4, a5⟩, -⟩ := (r0.below hq1).all6
  go_wp2_with fail
  go_ret
  exact ⟨retB HF.out.symm, hb0.trans (hq1.mono hb0.size)⟩
 have hu' : decide (3 < (x.uniqs.length : Int)) = false := by simpa using hu
 by_cases hc : 3 < (x.checks.length : Int)
 ·skip
  have HF := Lib.hid (show tableB x = false by unfold tableB cksB; rw [decide_eq_false (p := x.checks.length ≤ 3) (by have := h4.1; omega)]; simp)
  go_enter Tryz.func44, Tryz.ntmps44
  go_wp2_with fail
  refine (specName _ _ HNM.out).mono ?_
  rintro e w1 ⟨rfl, rfl⟩
  rw [HN0.out]
  go_wp2_with fail
  refine (specIn _ _ _ _).mono ?_
  rintro e w1 ⟨rfl, rfl⟩
  rw [H8.out]
  go_wp2_with fail
  refine (specCols A2 x.key.length c2 x.key x.cols.length ok _ (h2.below IntR.stays hb0) hcp2 hl2 (by omega) (by omega)).mono ?_
  rintro e w2 ⟨rfl, hq1⟩
  rw [HK.out]
  obtain ⟨⟨a0, a1, a2, a3, a4, a5⟩, -⟩ := (r0.below hq1).all6
  go_wp2_with fail
  go_ret
  exact ⟨retB HF.out.symm, hb0.trans (hq1.mono hb0.size)⟩
 have hc' : decide (3 < (x.checks.length : Int)) = false := by simpa using hc
 by_cases hf : 3 < (x.fks.length : Int)
 ·skip
  have HF := Lib.hid (show tableB x = false by unfold tableB fksB; rw [decide_eq_false (p := x.fks.length ≤ 3) (by have := h5.1; omega)]; simp)
  go_enter Tryz.func44, Tryz.ntmps44
  go_wp2_with fail
  refine (specName _ _ HNM.out).mono ?_
  rintro e w1 ⟨rfl, rfl⟩
  rw [HN0.out]
  go_wp2_with fail
  refine (specIn _ _ _ _).mono ?_
  rintro e w1 ⟨rfl, rfl⟩
  rw [H8.out]
  go_wp2_with fail
  refine (specCols A2 x.key.length c2 x.key x.cols.length ok _ (h2.below IntR.stays hb0) hcp2 hl2 (by omega) (by omega)).mono ?_
  rintro e w2 ⟨rfl, hq1⟩
  rw [HK.out]
  obtain ⟨⟨a0, a1, a2, a3, a4, a5⟩, -⟩ := (r0.below hq1).all6
  go_wp2_with fail
  go_ret
  exact ⟨retB HF.out.symm, hb0.trans (hq1.mono hb0.size)⟩
 have hf' : decide (3 < (x.fks.length : Int)) = false := by simpa using hf
 go_enter Tryz.func44, Tryz.ntmps44
 go_wp2_with fail
 refine (specName _ _ HNM.out).mono ?_
 rintro e w1 ⟨rfl, rfl⟩
 rw [HN0.out]
 go_wp2_with fail
 refine (specIn _ _ _ _).mono ?_
 rintro e w1 ⟨rfl, rfl⟩
 rw [H8.out]
 go_wp2_with fail
 refine (specCols A2 x.key.length c2 x.key x.cols.length ok _ (h2.below IntR.stays hb0) hcp2 hl2 (by omega) (by omega)).mono ?_
 rintro e w2 ⟨rfl, hq1⟩
 rw [HK.out]
 have hb1 := hb0.trans (hq1.mono hb0.size)
 have r1 := r0.below hq1
 obtain ⟨⟨a0, a1, a2, a3, a4, a5⟩, -⟩ := r1.all6
 go_wp2_with fail
 clear a0 a1 a2 a3 a4 a5 r0
 go_loopw [4] (fun i wr => ∃ k : Nat, k ≤ x.cols.length ∧ i = .int .i64 k ∧ Hid ((x.cols.take k).all colB = true) ∧ Hid (uniqGo [] (x.cols.map Cl.name) = uniqGo ((x.cols.map Cl.name).take k) ((x.cols.map Cl.name).drop k)) ∧ Row wr w.heap.size 42 #[.string x.name, .slice A1 x.cols.length c1, .slice A2 x.key.length c2, .slice A3 x.uniqs.length c3, .slice A4 x.checks.length c4, .slice A5 x.fks.length c5] ∧ Below w.heap.size w wr) (fun i _ => x.cols.length - (intOf i).toNat)
 case atStart => exact ⟨0, by omega, rfl, Lib.hid (by simp), Lib.hid (by simp), r1, hb1⟩
 case round =>
  obtain ⟨k, hk, rfl, hall, huq, hr, hb⟩ := hrel
  obtain ⟨⟨a0, a1, a2, a3, a4, a5⟩, -⟩ := hr.all6
  by_cases hlt : k < x.cols.length
  ·obtain ⟨b, off, -, rfl, q0, q1, q2, q3, q4, q5⟩ := ClR.at_ (h1.below ClR.stays hb) hlt
   have HZ := Lib.hid (cl_name_le HS1.out k hlt)
   have i0 : (0 : Int) ≤ k := by omega
   have i1 : (k : Int) < x.cols.length := by omega
   have i3 : (k : Int) ≤ c1 := by omega
   have hsl := (h1.below ClR.stays hb)
   have hsl := hsl.below ClR.stays ((Below.refl wr.heap.size wr).alloc (Nat.le_refl _) (.cells #[.string x.cols[k].name, .int .i64 x.cols[k].kind, .bool x.cols[k].nn, .int .i64 x.cols[k].d.k, .int .i64 x.cols[k].d.n, .string x.cols[k].d.s] 68))
   have hug := uniqGo_at (x.cols.map Cl.name) k (by simpa using hlt)
   rw [← huq.out, List.getElem_map, ← List.map_take] at hug
   have HNO := Lib.hid (fun hf : colB x.cols[k] = false => show tableB x = false by unfold tableB colsB; rw [all_no colB x.cols k hlt hf]; simp)
   have HDU := Lib.hid (fun hf : ¬ atN ((x.cols.take k).map Cl.name) x.cols[k].name = -1 => show tableB x = false by
    unfold tableB colsB; rw [hug, decide_eq_false hf]; simp)
   have HUN := Lib.hid (fun hf : atN ((x.cols.take k).map Cl.name) x.cols[k].name = -1 => show uniqGo [] (x.cols.map Cl.name) = uniqGo ((x.cols.map Cl.name).take (k + 1)) ((x.cols.map Cl.name).drop (k + 1)) by
    rw [hug, decide_eq_true hf, Bool.true_and])
   have HCN := Lib.hid (fun hf : colB x.cols[k] = true => show (x.cols.take (k + 1)).all colB = true by rw [all_take colB x.cols k hlt, hall.out, hf]; rfl)
   clear hug hall huq
   generalize x.cols[k] = cl at *
   have hbx := (Below.refl wr.heap.size wr).alloc (Nat.le_refl _) (.cells #[.string cl.name, .int .i64 cl.kind, .bool cl.nn, .int .i64 cl.d.k, .int .i64 cl.d.n, .string cl.d.s] 68)
   have hba := hb.trans (hbx.mono hb.size)
   have rk := Row.new wr 68 #[.string cl.name, .int .i64 cl.kind, .bool cl.nn, .int .i64 cl.d.k, .int .i64 cl.d.n, .string cl.d.s]
   have hr1 := hr.below hbx
   clear hr
   cases hn : nameB cl.name
   ·skip
    have HN := Lib.hid hn
    have HF := Lib.hid (HNO.out (by unfold colB; rw [hn]; rfl))
    clear hn
    go_wp2_with fail
    generalize wr.alloc (.cells #[.string cl.name, .int .i64 cl.kind, .bool cl.nn, .int .i64 cl.d.k, .int .i64 cl.d.n, .string cl.d.s] 68) = x1 at *
    obtain ⟨⟨k0, k1, k2, k3, k4, k5⟩, -⟩ := rk.all6
    obtain ⟨⟨t0, t1, t2, t3, t4, t5⟩, -⟩ := hr1.all6
    refine wp_region_noPanic ?_
    refine wp_region_held_drew (S := fun w' => w'.cell? ⟨wr.heap.size, 0, none⟩ = some (.string cl.name) ∧ w'.cell? ⟨wr.heap.size, 1, none⟩ = some (.int .i64 cl.kind) ∧ w'.cell? ⟨wr.heap.size, 2, none⟩ = some (.bool cl.nn) ∧ w'.cell? ⟨wr.heap.size, 3, none⟩ = some (.int .i64 cl.d.k) ∧ w'.cell? ⟨wr.heap.size, 4, none⟩ = some (.int .i64 cl.d.n) ∧ w'.cell? ⟨wr.heap.size, 5, none⟩ = some (.string cl.d.s) ∧ w'.cell? ⟨w.heap.size, 1, none⟩ = some (.slice (some ⟨b, off, none⟩) x.cols.length c1)) (by kernel_rfl) ⟨k0, k1, k2, k3, k4, k5, t1⟩ (fun hHeld => ?_)
    refine tk 0 ?_
    refine tk 1 ?_
    refine wpAnyH_ready (rs := [2]) (by kernel_rfl) (by simp) ?_
    refine AllReadyH.cons rfl (fun K hK => ?_) AllReadyH.nil
    go_simp
    refine (specName _ _ HZ.out).mono ?_
    rintro e wa ⟨rfl, rfl⟩
    rw [HN.out]
    go_wp2_with fail
    refine hK.out _ _ hHeld (fun hHeld => ?_)
    clear hK K
    (try simp only [Act.put, pz0, pz1, pz2, pz3, pz4, pz5])
    refine tk 3 ?_
    refine tk 4 ?_
    refine tu 5 ?_
    refine tu 6 ?_
    refine tu 7 ?_
    refine tu 8 ?_
    refine tu 9 ?_
    refine tu 10 ?_
    refine tu 11 ?_
    refine tu 12 ?_
    refine tu 13 ?_
    refine tk 14 ?_
    refine tk 15 ?_
    refine tu 16 ?_
    refine tu 17 ?_
    refine tu 18 ?_
    refine tu 19 ?_
    refine tk 20 ?_
    refine tk 21 ?_
    refine tu 22 ?_
    refine tu 23 ?_
    refine tu 24 ?_
    refine tu 25 ?_
    refine tk 26 ?_
    refine tk 27 ?_
    refine tu 28 ?_
    refine tu 29 ?_
    refine tu 30 ?_
    refine tu 31 ?_
    refine tu 32 ?_
    refine tu 33 ?_
    refine tu 34 ?_
    refine tu 35 ?_
    refine tu 36 ?_
    refine tu 37 ?_
    refine tu 38 ?_
    refine tu 39 ?_
    refine tk 40 ?_
    refine wpAnyH_done (by kernel_rfl) ?_ _
    refine NoPanic.normal ?_
    have hz0 := hba.drew
    have rz0 := hr1.drew
    clear hHeld k0 k1 k2 k3 k4 k5 t0 t1 t2 t3 t4 t5
    go_wp2_with fail
    go_ret
    exact ⟨retB HF.out.symm, hz0⟩
   have HN := Lib.hid hn
   by_cases hat : atN ((x.cols.take k).map Cl.name) cl.name = -1
   case neg =>
    have HF := Lib.hid (HDU.out hat)
    obtain ⟨j, hj, hj0⟩ : ∃ j : Int, j = atN ((x.cols.take k).map Cl.name) cl.name ∧ 0 ≤ j := ⟨_, rfl, by rcases atN_rng ((x.cols.take k).map Cl.name) cl.name with h | h; exact absurd h hat; exact h.1⟩
    have HJ := Lib.hid hj
    clear hat hj hn
    go_wp2_with fail
    generalize wr.alloc (.cells #[.string cl.name, .int .i64 cl.kind, .bool cl.nn, .int .i64 cl.d.k, .int .i64 cl.d.n, .string cl.d.s] 68) = x1 at *
    obtain ⟨⟨k0, k1, k2, k3, k4, k5⟩, -⟩ := rk.all6
    obtain ⟨⟨t0, t1, t2, t3, t4, t5⟩, -⟩ := hr1.all6
    refine wp_region_noPanic ?_
    refine wp_region_held_drew (S := fun w' => w'.cell? ⟨wr.heap.size, 0, none⟩ = some (.string cl.name) ∧ w'.cell? ⟨wr.heap.size, 1, none⟩ = some (.int .i64 cl.kind) ∧ w'.cell? ⟨wr.heap.size, 2, none⟩ = some (.bool cl.nn) ∧ w'.cell? ⟨wr.heap.size, 3, none⟩ = some (.int .i64 cl.d.k) ∧ w'.cell? ⟨wr.heap.size, 4, none⟩ = some (.int .i64 cl.d.n) ∧ w'.cell? ⟨wr.heap.size, 5, none⟩ = some (.string cl.d.s) ∧ w'.cell? ⟨w.heap.size, 1, none⟩ = some (.slice (some ⟨b, off, none⟩) x.cols.length c1)) (by kernel_rfl) ⟨k0, k1, k2, k3, k4, k5, t1⟩ (fun hHeld => ?_)
    refine tk 0 ?_
    refine tk 1 ?_
    refine wpAnyH_ready (rs := [2]) (by kernel_rfl) (by simp) ?_
    refine AllReadyH.cons rfl (fun K hK => ?_) AllReadyH.nil
    go_simp
    refine (specName _ _ HZ.out).mono ?_
    rintro e wa ⟨rfl, rfl⟩
    rw [HN.out]
    go_wp2_with fail
    refine hK.out _ _ hHeld (fun hHeld => ?_)
    clear hK K
    (try simp only [Act.put, pz0, pz1, pz2, pz3, pz4, pz5])
    refine tk 3 ?_
    refine tk 4 ?_
    refine tk 5 ?_
    refine tk 6 ?_
    refine tk 7 ?_
    refine tk 8 ?_
    refine tk 9 ?_
    refine tk 10 ?_
    refine tk 11 ?_
    refine wpAnyH_ready (rs := [12]) (by kernel_rfl) (by simp) ?_
    refine AllReadyH.cons rfl (fun K hK => ?_) AllReadyH.nil
    go_simp
    refine (specColAt _ k c1 _ _ _ _ _ (x.cols.take k) _ ok _ ((hsl.drew ClR.stays).take (m := k) (by omega)) (by omega)).mono ?_
    rintro e wb ⟨rfl, hqb⟩
    rw [← HJ.out]
    go_wp2_with fail
    refine hK.out _ _ ⟨below_keep hqb _ _ hHeld.1, below_keep hqb _ _ hHeld.2.1, below_keep hqb _ _ hHeld.2.2.1, below_keep hqb _ _ hHeld.2.2.2.1, below_keep hqb _ _ hHeld.2.2.2.2.1, below_keep hqb _ _ hHeld.2.2.2.2.2.1, below_keep hqb _ _ hHeld.2.2.2.2.2.2⟩ (fun hHeld => ?_)
    clear hK K
    (try simp only [Act.put, pz0, pz1, pz2, pz3, pz4, pz5])
    refine tk 13 ?_
    refine tk 14 ?_
    refine tk 15 ?_
    refine tu 16 ?_
    refine tu 17 ?_
    refine tu 18 ?_
    refine tu 19 ?_
    refine tk 20 ?_
    refine tk 21 ?_
    refine tu 22 ?_
    refine tu 23 ?_
    refine tu 24 ?_
    refine tu 25 ?_
    refine tk 26 ?_
    refine tk 27 ?_
    refine tu 28 ?_
    refine tu 29 ?_
    refine tu 30 ?_
    refine tu 31 ?_
    refine tu 32 ?_
    refine tu 33 ?_
    refine tu 34 ?_
    refine tu 35 ?_
    refine tu 36 ?_
    refine tu 37 ?_
    refine tu 38 ?_
    refine tu 39 ?_
    refine tk 40 ?_
    refine wpAnyH_done (by kernel_rfl) ?_ _
    refine NoPanic.normal ?_
    have hz0 := hba.drew
    have rz0 := hr1.drew
    have hz1 := hz0.trans (hqb.mono hz0.size)
    have rz1 := rz0.below hqb
    clear hHeld k0 k1 k2 k3 k4 k5 t0 t1 t2 t3 t4 t5
    go_wp2_with fail
    go_ret
    exact ⟨retB HF.out.symm, hz1⟩
   have HA := Lib.hid hat
   have HUQ := Lib.hid (HUN.out hat)
   clear hat
   cases hkd : (decide (1 ≤ cl.kind) && decide (cl.kind ≤ 2))
   ·skip
    have HKD := Lib.hid hkd
    have HF := Lib.hid (HNO.out (by unfold colB; rw [kind_in, hkd, Bool.false_and, Bool.and_false]))
    clear hkd hn
    go_wp2_with fail
    generalize wr.alloc (.cells #[.string cl.name, .int .i64 cl.kind, .bool cl.nn, .int .i64 cl.d.k, .int .i64 cl.d.n, .string cl.d.s] 68) = x1 at *
    obtain ⟨⟨k0, k1, k2, k3, k4, k5⟩, -⟩ := rk.all6
    obtain ⟨⟨t0, t1, t2, t3, t4, t5⟩, -⟩ := hr1.all6
    refine wp_region_noPanic ?_
    refine wp_region_held_drew (S := fun w' => w'.cell? ⟨wr.heap.size, 0, none⟩ = some (.string cl.name) ∧ w'.cell? ⟨wr.heap.size, 1, none⟩ = some (.int .i64 cl.kind) ∧ w'.cell? ⟨wr.heap.size, 2, none⟩ = some (.bool cl.nn) ∧ w'.cell? ⟨wr.heap.size, 3, none⟩ = some (.int .i64 cl.d.k) ∧ w'.cell? ⟨wr.heap.size, 4, none⟩ = some (.int .i64 cl.d.n) ∧ w'.cell? ⟨wr.heap.size, 5, none⟩ = some (.string cl.d.s) ∧ w'.cell? ⟨w.heap.size, 1, none⟩ = some (.slice (some ⟨b, off, none⟩) x.cols.length c1)) (by kernel_rfl) ⟨k0, k1, k2, k3, k4, k5, t1⟩ (fun hHeld => ?_)
    refine tk 0 ?_
    refine tk 1 ?_
    refine wpAnyH_ready (rs := [2]) (by kernel_rfl) (by simp) ?_
    refine AllReadyH.cons rfl (fun K hK => ?_) AllReadyH.nil
    go_simp
    refine (specName _ _ HZ.out).mono ?_
    rintro e wa ⟨rfl, rfl⟩
    rw [HN.out]
    go_wp2_with fail
    refine hK.out _ _ hHeld (fun hHeld => ?_)
    clear hK K
    (try simp only [Act.put, pz0, pz1, pz2, pz3, pz4, pz5])
    refine tk 3 ?_
    refine tk 4 ?_
    refine tk 5 ?_
    refine tk 6 ?_
    refine tk 7 ?_
    refine tk 8 ?_
    refine tk 9 ?_
    refine tk 10 ?_
    refine tk 11 ?_
    refine wpAnyH_ready (rs := [12]) (by kernel_rfl) (by simp) ?_
    refine AllReadyH.cons rfl (fun K hK => ?_) AllReadyH.nil
    go_simp
    refine (specColAt _ k c1 _ _ _ _ _ (x.cols.take k) _ ok _ ((hsl.drew ClR.stays).take (m := k) (by omega)) (by omega)).mono ?_
    rintro e wb ⟨rfl, hqb⟩
    rw [HA.out]
    go_wp2_with fail
    refine hK.out _ _ ⟨below_keep hqb _ _ hHeld.1, below_keep hqb _ _ hHeld.2.1, below_keep hqb _ _ hHeld.2.2.1, below_keep hqb _ _ hHeld.2.2.2.1, below_keep hqb _ _ hHeld.2.2.2.2.1, below_keep hqb _ _ hHeld.2.2.2.2.2.1, below_keep hqb _ _ hHeld.2.2.2.2.2.2⟩ (fun hHeld => ?_)
    clear hK K
    (try simp only [Act.put, pz0, pz1, pz2, pz3, pz4, pz5])
    refine tk 13 ?_
    refine tk 14 ?_
    refine tk 15 ?_
    refine tk 16 ?_
    refine tk 17 ?_
    refine wpAnyH_ready (rs := [18]) (by kernel_rfl) (by simp) ?_
    refine AllReadyH.cons rfl (fun K hK => ?_) AllReadyH.nil
    go_simp
    refine (specIn _ _ _ _).mono ?_
    rintro e wc ⟨rfl, rfl⟩
    rw [HKD.out]
    go_wp2_with fail
    refine hK.out _ _ hHeld (fun hHeld => ?_)
    clear hK K
    (try simp only [Act.put, pz0, pz1, pz2, pz3, pz4, pz5])
    refine tk 19 ?_
    refine tk 20 ?_
    refine tk 21 ?_
    refine tu 22 ?_
    refine tu 23 ?_
    refine tu 24 ?_
    refine tu 25 ?_
    refine tk 26 ?_
    refine tk 27 ?_
    refine tu 28 ?_
    refine tu 29 ?_
    refine tu 30 ?_
    refine tu 31 ?_
    refine tu 32 ?_
    refine tu 33 ?_
    refine tu 34 ?_
    refine tu 35 ?_
    refine tu 36 ?_
    refine tu 37 ?_
    refine tu 38 ?_
    refine tu 39 ?_
    refine tk 40 ?_
    refine wpAnyH_done (by kernel_rfl) ?_ _
    refine NoPanic.normal ?_
    have hz0 := hba.drew
    have rz0 := hr1.drew
    have hz1 := hz0.trans (hqb.mono hz0.size)
    have rz1 := rz0.below hqb
    clear hHeld k0 k1 k2 k3 k4 k5 t0 t1 t2 t3 t4 t5
    go_wp2_with fail
    go_ret
    exact ⟨retB HF.out.symm, hz1⟩
   have HKD := Lib.hid hkd
   cases hv : valOkB cl.d.k cl.d.n cl.d.s
   ·skip
    have HV := Lib.hid hv
    have HF := Lib.hid (HNO.out (by unfold colB fitsB; rw [hv, Bool.false_and, Bool.and_false, Bool.and_false]))
    clear hkd hn hv
    go_wp2_with fail
    generalize wr.alloc (.cells #[.string cl.name, .int .i64 cl.kind, .bool cl.nn, .int .i64 cl.d.k, .int .i64 cl.d.n, .string cl.d.s] 68) = x1 at *
    obtain ⟨⟨k0, k1, k2, k3, k4, k5⟩, -⟩ := rk.all6
    obtain ⟨⟨t0, t1, t2, t3, t4, t5⟩, -⟩ := hr1.all6
    refine wp_region_noPanic ?_
    refine wp_region_held_drew (S := fun w' => w'.cell? ⟨wr.heap.size, 0, none⟩ = some (.string cl.name) ∧ w'.cell? ⟨wr.heap.size, 1, none⟩ = some (.int .i64 cl.kind) ∧ w'.cell? ⟨wr.heap.size, 2, none⟩ = some (.bool cl.nn) ∧ w'.cell? ⟨wr.heap.size, 3, none⟩ = some (.int .i64 cl.d.k) ∧ w'.cell? ⟨wr.heap.size, 4, none⟩ = some (.int .i64 cl.d.n) ∧ w'.cell? ⟨wr.heap.size, 5, none⟩ = some (.string cl.d.s) ∧ w'.cell? ⟨w.heap.size, 1, none⟩ = some (.slice (some ⟨b, off, none⟩) x.cols.length c1)) (by kernel_rfl) ⟨k0, k1, k2, k3, k4, k5, t1⟩ (fun hHeld => ?_)
    refine tk 0 ?_
    refine tk 1 ?_
    refine wpAnyH_ready (rs := [2]) (by kernel_rfl) (by simp) ?_
    refine AllReadyH.cons rfl (fun K hK => ?_) AllReadyH.nil
    go_simp
    refine (specName _ _ HZ.out).mono ?_
    rintro e wa ⟨rfl, rfl⟩
    rw [HN.out]
    go_wp2_with fail
    refine hK.out _ _ hHeld (fun hHeld => ?_)
    clear hK K
    (try simp only [Act.put, pz0, pz1, pz2, pz3, pz4, pz5])
    refine tk 3 ?_
    refine tk 4 ?_
    refine tk 5 ?_
    refine tk 6 ?_
    refine tk 7 ?_
    refine tk 8 ?_
    refine tk 9 ?_
    refine tk 10 ?_
    refine tk 11 ?_
    refine wpAnyH_ready (rs := [12]) (by kernel_rfl) (by simp) ?_
    refine AllReadyH.cons rfl (fun K hK => ?_) AllReadyH.nil
    go_simp
    refine (specColAt _ k c1 _ _ _ _ _ (x.cols.take k) _ ok _ ((hsl.drew ClR.stays).take (m := k) (by omega)) (by omega)).mono ?_
    rintro e wb ⟨rfl, hqb⟩
    rw [HA.out]
    go_wp2_with fail
    refine hK.out _ _ ⟨below_keep hqb _ _ hHeld.1, below_keep hqb _ _ hHeld.2.1, below_keep hqb _ _ hHeld.2.2.1, below_keep hqb _ _ hHeld.2.2.2.1, below_keep hqb _ _ hHeld.2.2.2.2.1, below_keep hqb _ _ hHeld.2.2.2.2.2.1, below_keep hqb _ _ hHeld.2.2.2.2.2.2⟩ (fun hHeld => ?_)
    clear hK K
    (try simp only [Act.put, pz0, pz1, pz2, pz3, pz4, pz5])
    refine tk 13 ?_
    refine tk 14 ?_
    refine tk 15 ?_
    refine tk 16 ?_
    refine tk 17 ?_
    refine wpAnyH_ready (rs := [18]) (by kernel_rfl) (by simp) ?_
    refine AllReadyH.cons rfl (fun K hK => ?_) AllReadyH.nil
    go_simp
    refine (specIn _ _ _ _).mono ?_
    rintro e wc ⟨rfl, rfl⟩
    rw [HKD.out]
    go_wp2_with fail
    refine hK.out _ _ hHeld (fun hHeld => ?_)
    clear hK K
    (try simp only [Act.put, pz0, pz1, pz2, pz3, pz4, pz5])
    refine tk 19 ?_
    refine tk 20 ?_
    refine tk 21 ?_
    refine tk 22 ?_
    refine tk 23 ?_
    refine wpAnyH_ready (rs := [24]) (by kernel_rfl) (by simp) ?_
    refine AllReadyH.cons rfl (fun K hK => ?_) AllReadyH.nil
    go_simp
    refine (specValOk _ _ _ _).mono ?_
    rintro e wd ⟨rfl, hqd⟩
    rw [HV.out]
    go_wp2_with fail
    refine hK.out _ _ ⟨below_keep hqd _ _ hHeld.1, below_keep hqd _ _ hHeld.2.1, below_keep hqd _ _ hHeld.2.2.1, below_keep hqd _ _ hHeld.2.2.2.1, below_keep hqd _ _ hHeld.2.2.2.2.1, below_keep hqd _ _ hHeld.2.2.2.2.2.1, below_keep hqd _ _ hHeld.2.2.2.2.2.2⟩ (fun hHeld => ?_)
    clear hK K
    (try simp only [Act.put, pz0, pz1, pz2, pz3, pz4, pz5])
    refine tk 25 ?_
    refine tk 26 ?_
    refine tk 27 ?_
    refine tu 28 ?_
    refine tu 29 ?_
    refine tu 30 ?_
    refine tu 31 ?_
    refine tu 32 ?_
    refine tu 33 ?_
    refine tu 34 ?_
    refine tu 35 ?_
    refine tu 36 ?_
    refine tu 37 ?_
    refine tu 38 ?_
    refine tu 39 ?_
    refine tk 40 ?_
    refine wpAnyH_done (by kernel_rfl) ?_ _
    refine NoPanic.normal ?_
    have hz0 := hba.drew
    have rz0 := hr1.drew
    have hz1 := hz0.trans (hqb.mono hz0.size)
    have rz1 := rz0.below hqb
    have hz2 := hz1.trans (hqd.mono hz1.size)
    have rz2 := rz1.below hqd
    clear hHeld k0 k1 k2 k3 k4 k5 t0 t1 t2 t3 t4 t5
    go_wp2_with fail
    go_ret
    exact ⟨retB HF.out.symm, hz2⟩
   have HV := Lib.hid hv
   by_cases hd0 : cl.d.k = 0
   ·skip
    have HCA := Lib.hid (HCN.out (by unfold colB fitsB; rw [kind_in, hn, hkd, hv, hd0]; rfl))
    have e0 : (cl.d.k == 0) = true := by simpa using hd0
    have e1 : (cl.d.k != 0) = false := by simpa using hd0
    clear hkd hn hv hd0
    go_wp2_with fail
    generalize wr.alloc (.cells #[.string cl.name, .int .i64 cl.kind, .bool cl.nn, .int .i64 cl.d.k, .int .i64 cl.d.n, .string cl.d.s] 68) = x1 at *
    obtain ⟨⟨k0, k1, k2, k3, k4, k5⟩, -⟩ := rk.all6
    obtain ⟨⟨t0, t1, t2, t3, t4, t5⟩, -⟩ := hr1.all6
    refine wp_region_noPanic ?_
    refine wp_region_held_drew (S := fun w' => w'.cell? ⟨wr.heap.size, 0, none⟩ = some (.string cl.name) ∧ w'.cell? ⟨wr.heap.size, 1, none⟩ = some (.int .i64 cl.kind) ∧ w'.cell? ⟨wr.heap.size, 2, none⟩ = some (.bool cl.nn) ∧ w'.cell? ⟨wr.heap.size, 3, none⟩ = some (.int .i64 cl.d.k) ∧ w'.cell? ⟨wr.heap.size, 4, none⟩ = some (.int .i64 cl.d.n) ∧ w'.cell? ⟨wr.heap.size, 5, none⟩ = some (.string cl.d.s) ∧ w'.cell? ⟨w.heap.size, 1, none⟩ = some (.slice (some ⟨b, off, none⟩) x.cols.length c1)) (by kernel_rfl) ⟨k0, k1, k2, k3, k4, k5, t1⟩ (fun hHeld => ?_)
    refine tk 0 ?_
    refine tk 1 ?_
    refine wpAnyH_ready (rs := [2]) (by kernel_rfl) (by simp) ?_
    refine AllReadyH.cons rfl (fun K hK => ?_) AllReadyH.nil
    go_simp
    refine (specName _ _ HZ.out).mono ?_
    rintro e wa ⟨rfl, rfl⟩
    rw [HN.out]
    go_wp2_with fail
    refine hK.out _ _ hHeld (fun hHeld => ?_)
    clear hK K
    (try simp only [Act.put, pz0, pz1, pz2, pz3, pz4, pz5])
    refine tk 3 ?_
    refine tk 4 ?_
    refine tk 5 ?_
    refine tk 6 ?_
    refine tk 7 ?_
    refine tk 8 ?_
    refine tk 9 ?_
    refine tk 10 ?_
    refine tk 11 ?_
    refine wpAnyH_ready (rs := [12]) (by kernel_rfl) (by simp) ?_
    refine AllReadyH.cons rfl (fun K hK => ?_) AllReadyH.nil
    go_simp
    refine (specColAt _ k c1 _ _ _ _ _ (x.cols.take k) _ ok _ ((hsl.drew ClR.stays).take (m := k) (by omega)) (by omega)).mono ?_
    rintro e wb ⟨rfl, hqb⟩
    rw [HA.out]
    go_wp2_with fail
    refine hK.out _ _ ⟨below_keep hqb _ _ hHeld.1, below_keep hqb _ _ hHeld.2.1, below_keep hqb _ _ hHeld.2.2.1, below_keep hqb _ _ hHeld.2.2.2.1, below_keep hqb _ _ hHeld.2.2.2.2.1, below_keep hqb _ _ hHeld.2.2.2.2.2.1, below_keep hqb _ _ hHeld.2.2.2.2.2.2⟩ (fun hHeld => ?_)
    clear hK K
    (try simp only [Act.put, pz0, pz1, pz2, pz3, pz4, pz5])
    refine tk 13 ?_
    refine tk 14 ?_
    refine tk 15 ?_
    refine tk 16 ?_
    refine tk 17 ?_
    refine wpAnyH_ready (rs := [18]) (by kernel_rfl) (by simp) ?_
    refine AllReadyH.cons rfl (fun K hK => ?_) AllReadyH.nil
    go_simp
    refine (specIn _ _ _ _).mono ?_
    rintro e wc ⟨rfl, rfl⟩
    rw [HKD.out]
    go_wp2_with fail
    refine hK.out _ _ hHeld (fun hHeld => ?_)
    clear hK K
    (try simp only [Act.put, pz0, pz1, pz2, pz3, pz4, pz5])
    refine tk 19 ?_
    refine tk 20 ?_
    refine tk 21 ?_
    refine tk 22 ?_
    refine tk 23 ?_
    refine wpAnyH_ready (rs := [24]) (by kernel_rfl) (by simp) ?_
    refine AllReadyH.cons rfl (fun K hK => ?_) AllReadyH.nil
    go_simp
    refine (specValOk _ _ _ _).mono ?_
    rintro e wd ⟨rfl, hqd⟩
    rw [HV.out]
    go_wp2_with fail
    refine hK.out _ _ ⟨below_keep hqd _ _ hHeld.1, below_keep hqd _ _ hHeld.2.1, below_keep hqd _ _ hHeld.2.2.1, below_keep hqd _ _ hHeld.2.2.2.1, below_keep hqd _ _ hHeld.2.2.2.2.1, below_keep hqd _ _ hHeld.2.2.2.2.2.1, below_keep hqd _ _ hHeld.2.2.2.2.2.2⟩ (fun hHeld => ?_)
    clear hK K
    (try simp only [Act.put, pz0, pz1, pz2, pz3, pz4, pz5])
    refine tk 25 ?_
    refine tk 26 ?_
    refine tk 27 ?_
    refine tk 28 ?_
    refine tk 29 ?_
    refine tk 30 ?_
    refine tk 31 ?_
    refine tk 32 ?_
    refine tu 33 ?_
    refine tu 34 ?_
    refine tu 35 ?_
    refine tu 36 ?_
    refine tu 37 ?_
    refine tu 38 ?_
    refine tk 39 ?_
    refine tk 40 ?_
    refine wpAnyH_done (by kernel_rfl) ?_ _
    refine NoPanic.normal ?_
    have hz0 := hba.drew
    have rz0 := hr1.drew
    have hz1 := hz0.trans (hqb.mono hz0.size)
    have rz1 := rz0.below hqb
    have hz2 := hz1.trans (hqd.mono hz1.size)
    have rz2 := rz1.below hqd
    clear hHeld k0 k1 k2 k3 k4 k5 t0 t1 t2 t3 t4 t5
    go_wp2_with fail
    go_roundw
    case rel => exact ⟨k + 1, by omega, by go_num, HCA, HUQ, rz2, hz2⟩
    case measure => simp [intOf]; omega
   have e0 : (cl.d.k == 0) = false := by simpa using hd0
   have e1 : (cl.d.k != 0) = true := by simpa using hd0
   by_cases hdk : cl.d.k = cl.kind
   ·skip
    have HCA := Lib.hid (HCN.out (by unfold colB fitsB; rw [kind_in, hn, hkd, hv, hdk]; simp))
    have e2 : (cl.d.k == cl.kind) = true := by simpa using hdk
    have e3 : (cl.d.k != cl.kind) = false := by simpa using hdk
    clear hkd hn hv hd0 hdk
    go_wp2_with fail
    generalize wr.alloc (.cells #[.string cl.name, .int .i64 cl.kind, .bool cl.nn, .int .i64 cl.d.k, .int .i64 cl.d.n, .string cl.d.s] 68) = x1 at *
    obtain ⟨⟨k0, k1, k2, k3, k4, k5⟩, -⟩ := rk.all6
    obtain ⟨⟨t0, t1, t2, t3, t4, t5⟩, -⟩ := hr1.all6
    refine wp_region_noPanic ?_
    refine wp_region_held_drew (S := fun w' => w'.cell? ⟨wr.heap.size, 0, none⟩ = some (.string cl.name) ∧ w'.cell? ⟨wr.heap.size, 1, none⟩ = some (.int .i64 cl.kind) ∧ w'.cell? ⟨wr.heap.size, 2, none⟩ = some (.bool cl.nn) ∧ w'.cell? ⟨wr.heap.size, 3, none⟩ = some (.int .i64 cl.d.k) ∧ w'.cell? ⟨wr.heap.size, 4, none⟩ = some (.int .i64 cl.d.n) ∧ w'.cell? ⟨wr.heap.size, 5, none⟩ = some (.string cl.d.s) ∧ w'.cell? ⟨w.heap.size, 1, none⟩ = some (.slice (some ⟨b, off, none⟩) x.cols.length c1)) (by kernel_rfl) ⟨k0, k1, k2, k3, k4, k5, t1⟩ (fun hHeld => ?_)
    refine tk 0 ?_
    refine tk 1 ?_
    refine wpAnyH_ready (rs := [2]) (by kernel_rfl) (by simp) ?_
    refine AllReadyH.cons rfl (fun K hK => ?_) AllReadyH.nil
    go_simp
    refine (specName _ _ HZ.out).mono ?_
    rintro e wa ⟨rfl, rfl⟩
    rw [HN.out]
    go_wp2_with fail
    refine hK.out _ _ hHeld (fun hHeld => ?_)
    clear hK K
    (try simp only [Act.put, pz0, pz1, pz2, pz3, pz4, pz5])
    refine tk 3 ?_
    refine tk 4 ?_
    refine tk 5 ?_
    refine tk 6 ?_
    refine tk 7 ?_
    refine tk 8 ?_
    refine tk 9 ?_
    refine tk 10 ?_
    refine tk 11 ?_
    refine wpAnyH_ready (rs := [12]) (by kernel_rfl) (by simp) ?_
    refine AllReadyH.cons rfl (fun K hK => ?_) AllReadyH.nil
    go_simp
    refine (specColAt _ k c1 _ _ _ _ _ (x.cols.take k) _ ok _ ((hsl.drew ClR.stays).take (m := k) (by omega)) (by omega)).mono ?_
    rintro e wb ⟨rfl, hqb⟩
    rw [HA.out]
    go_wp2_with fail
    refine hK.out _ _ ⟨below_keep hqb _ _ hHeld.1, below_keep hqb _ _ hHeld.2.1, below_keep hqb _ _ hHeld.2.2.1, below_keep hqb _ _ hHeld.2.2.2.1, below_keep hqb _ _ hHeld.2.2.2.2.1, below_keep hqb _ _ hHeld.2.2.2.2.2.1, below_keep hqb _ _ hHeld.2.2.2.2.2.2⟩ (fun hHeld => ?_)
    clear hK K
    (try simp only [Act.put, pz0, pz1, pz2, pz3, pz4, pz5])
    refine tk 13 ?_
    refine tk 14 ?_
    refine tk 15 ?_
    refine tk 16 ?_
    refine tk 17 ?_
    refine wpAnyH_ready (rs := [18]) (by kernel_rfl) (by simp) ?_
    refine AllReadyH.cons rfl (fun K hK => ?_) AllReadyH.nil
    go_simp
    refine (specIn _ _ _ _).mono ?_
    rintro e wc ⟨rfl, rfl⟩
    rw [HKD.out]
    go_wp2_with fail
    refine hK.out _ _ hHeld (fun hHeld => ?_)
    clear hK K
    (try simp only [Act.put, pz0, pz1, pz2, pz3, pz4, pz5])
    refine tk 19 ?_
    refine tk 20 ?_
    refine tk 21 ?_
    refine tk 22 ?_
    refine tk 23 ?_
    refine wpAnyH_ready (rs := [24]) (by kernel_rfl) (by simp) ?_
    refine AllReadyH.cons rfl (fun K hK => ?_) AllReadyH.nil
    go_simp
    refine (specValOk _ _ _ _).mono ?_
    rintro e wd ⟨rfl, hqd⟩
    rw [HV.out]
    go_wp2_with fail
    refine hK.out _ _ ⟨below_keep hqd _ _ hHeld.1, below_keep hqd _ _ hHeld.2.1, below_keep hqd _ _ hHeld.2.2.1, below_keep hqd _ _ hHeld.2.2.2.1, below_keep hqd _ _ hHeld.2.2.2.2.1, below_keep hqd _ _ hHeld.2.2.2.2.2.1, below_keep hqd _ _ hHeld.2.2.2.2.2.2⟩ (fun hHeld => ?_)
    clear hK K
    (try simp only [Act.put, pz0, pz1, pz2, pz3, pz4, pz5])
    refine tk 25 ?_
    refine tk 26 ?_
    refine tk 27 ?_
    refine tk 28 ?_
    refine tk 29 ?_
    refine tk 30 ?_
    refine tk 31 ?_
    refine tk 32 ?_
    refine tk 33 ?_
    refine tk 34 ?_
    refine tk 35 ?_
    refine tk 36 ?_
    refine tk 37 ?_
    refine tk 38 ?_
    refine tk 39 ?_
    refine tk 40 ?_
    refine wpAnyH_done (by kernel_rfl) ?_ _
    refine NoPanic.normal ?_
    have hz0 := hba.drew
    have rz0 := hr1.drew
    have hz1 := hz0.trans (hqb.mono hz0.size)
    have rz1 := rz0.below hqb
    have hz2 := hz1.trans (hqd.mono hz1.size)
    have rz2 := rz1.below hqd
    clear hHeld k0 k1 k2 k3 k4 k5 t0 t1 t2 t3 t4 t5
    go_wp2_with fail
    go_roundw
    case rel => exact ⟨k + 1, by omega, by go_num, HCA, HUQ, rz2, hz2⟩
    case measure => simp [intOf]; omega
   ·skip
    have HF := Lib.hid (HNO.out (by unfold colB fitsB; rw [e0, show (cl.d.k == cl.kind) = false by simpa using hdk]; simp))
    have e2 : (cl.d.k == cl.kind) = false := by simpa using hdk
    have e3 : (cl.d.k != cl.kind) = true := by simpa using hdk
    clear hkd hn hv hd0 hdk
    go_wp2_with fail
    generalize wr.alloc (.cells #[.string cl.name, .int .i64 cl.kind, .bool cl.nn, .int .i64 cl.d.k, .int .i64 cl.d.n, .string cl.d.s] 68) = x1 at *
    obtain ⟨⟨k0, k1, k2, k3, k4, k5⟩, -⟩ := rk.all6
    obtain ⟨⟨t0, t1, t2, t3, t4, t5⟩, -⟩ := hr1.all6
    refine wp_region_noPanic ?_
    refine wp_region_held_drew (S := fun w' => w'.cell? ⟨wr.heap.size, 0, none⟩ = some (.string cl.name) ∧ w'.cell? ⟨wr.heap.size, 1, none⟩ = some (.int .i64 cl.kind) ∧ w'.cell? ⟨wr.heap.size, 2, none⟩ = some (.bool cl.nn) ∧ w'.cell? ⟨wr.heap.size, 3, none⟩ = some (.int .i64 cl.d.k) ∧ w'.cell? ⟨wr.heap.size, 4, none⟩ = some (.int .i64 cl.d.n) ∧ w'.cell? ⟨wr.heap.size, 5, none⟩ = some (.string cl.d.s) ∧ w'.cell? ⟨w.heap.size, 1, none⟩ = some (.slice (some ⟨b, off, none⟩) x.cols.length c1)) (by kernel_rfl) ⟨k0, k1, k2, k3, k4, k5, t1⟩ (fun hHeld => ?_)
    refine tk 0 ?_
    refine tk 1 ?_
    refine wpAnyH_ready (rs := [2]) (by kernel_rfl) (by simp) ?_
    refine AllReadyH.cons rfl (fun K hK => ?_) AllReadyH.nil
    go_simp
    refine (specName _ _ HZ.out).mono ?_
    rintro e wa ⟨rfl, rfl⟩
    rw [HN.out]
    go_wp2_with fail
    refine hK.out _ _ hHeld (fun hHeld => ?_)
    clear hK K
    (try simp only [Act.put, pz0, pz1, pz2, pz3, pz4, pz5])
    refine tk 3 ?_
    refine tk 4 ?_
    refine tk 5 ?_
    refine tk 6 ?_
    refine tk 7 ?_
    refine tk 8 ?_
    refine tk 9 ?_
    refine tk 10 ?_
    refine tk 11 ?_
    refine wpAnyH_ready (rs := [12]) (by kernel_rfl) (by simp) ?_
    refine AllReadyH.cons rfl (fun K hK => ?_) AllReadyH.nil
    go_simp
    refine (specColAt _ k c1 _ _ _ _ _ (x.cols.take k) _ ok _ ((hsl.drew ClR.stays).take (m := k) (by omega)) (by omega)).mono ?_
    rintro e wb ⟨rfl, hqb⟩
    rw [HA.out]
    go_wp2_with fail
    refine hK.out _ _ ⟨below_keep hqb _ _ hHeld.1, below_keep hqb _ _ hHeld.2.1, below_keep hqb _ _ hHeld.2.2.1, below_keep hqb _ _ hHeld.2.2.2.1, below_keep hqb _ _ hHeld.2.2.2.2.1, below_keep hqb _ _ hHeld.2.2.2.2.2.1, below_keep hqb _ _ hHeld.2.2.2.2.2.2⟩ (fun hHeld => ?_)
    clear hK K
    (try simp only [Act.put, pz0, pz1, pz2, pz3, pz4, pz5])
    refine tk 13 ?_
    refine tk 14 ?_
    refine tk 15 ?_
    refine tk 16 ?_
    refine tk 17 ?_
    refine wpAnyH_ready (rs := [18]) (by kernel_rfl) (by simp) ?_
    refine AllReadyH.cons rfl (fun K hK => ?_) AllReadyH.nil
    go_simp
    refine (specIn _ _ _ _).mono ?_
    rintro e wc ⟨rfl, rfl⟩
    rw [HKD.out]
    go_wp2_with fail
    refine hK.out _ _ hHeld (fun hHeld => ?_)
    clear hK K
    (try simp only [Act.put, pz0, pz1, pz2, pz3, pz4, pz5])
    refine tk 19 ?_
    refine tk 20 ?_
    refine tk 21 ?_
    refine tk 22 ?_
    refine tk 23 ?_
    refine wpAnyH_ready (rs := [24]) (by kernel_rfl) (by simp) ?_
    refine AllReadyH.cons rfl (fun K hK => ?_) AllReadyH.nil
    go_simp
    refine (specValOk _ _ _ _).mono ?_
    rintro e wd ⟨rfl, hqd⟩
    rw [HV.out]
    go_wp2_with fail
    refine hK.out _ _ ⟨below_keep hqd _ _ hHeld.1, below_keep hqd _ _ hHeld.2.1, below_keep hqd _ _ hHeld.2.2.1, below_keep hqd _ _ hHeld.2.2.2.1, below_keep hqd _ _ hHeld.2.2.2.2.1, below_keep hqd _ _ hHeld.2.2.2.2.2.1, below_keep hqd _ _ hHeld.2.2.2.2.2.2⟩ (fun hHeld => ?_)
    clear hK K
    (try simp only [Act.put, pz0, pz1, pz2, pz3, pz4, pz5])
    refine tk 25 ?_
    refine tk 26 ?_
    refine tk 27 ?_
    refine tk 28 ?_
    refine tk 29 ?_
    refine tk 30 ?_
    refine tk 31 ?_
    refine tk 32 ?_
    refine tk 33 ?_
    refine tk 34 ?_
    refine tk 35 ?_
    refine tk 36 ?_
    refine tk 37 ?_
    refine tk 38 ?_
    refine tk 39 ?_
    refine tk 40 ?_
    refine wpAnyH_done (by kernel_rfl) ?_ _
    refine NoPanic.normal ?_
    have hz0 := hba.drew
    have rz0 := hr1.drew
    have hz1 := hz0.trans (hqb.mono hz0.size)
    have rz1 := rz0.below hqb
    have hz2 := hz1.trans (hqd.mono hz1.size)
    have rz2 := rz1.below hqd
    clear hHeld k0 k1 k2 k3 k4 k5 t0 t1 t2 t3 t4 t5
    go_wp2_with fail
    go_ret
    exact ⟨retB HF.out.symm, hz2⟩
  ·have e : x.cols.take k = x.cols := List.take_of_length_le (by omega)
   have e2 : (x.cols.map Cl.name).drop k = [] := List.drop_eq_nil_of_le (by simp; omega)
   have g1 := hall.out
   have g2 := huq.out
   rw [e] at g1
   rw [e2] at g2
   have HC := Lib.hid (show colsB x.cols = true by
    unfold colsB; rw [g1, g2]
    have := H8.out
    simp at this
    simp [uniqGo]; omega)
   clear e e2 g1 g2 hall huq a0 a1 a2 a3 a4 a5
   obtain ⟨⟨a0, a1, a2, a3, a4, a5⟩, -⟩ := hr.all6
   go_wp2_with fail
   clear a0 a1 a2 a3 a4 a5
   go_loopw [6] (fun i wr => ∃ k : Nat, k ≤ x.key.length ∧ i = .int .i64 k ∧ Hid ((x.key.take k).all (nnAt x.cols) = true) ∧ Row wr w.heap.size 42 #[.string x.name, .slice A1 x.cols.length c1, .slice A2 x.key.length c2, .slice A3 x.uniqs.length c3, .slice A4 x.checks.length c4, .slice A5 x.fks.length c5] ∧ Below w.heap.size w wr) (fun i _ => x.key.length - (intOf i).toNat)
   case atStart => exact ⟨0, by omega, rfl, Lib.hid (by simp), hr, hb⟩
   case round =>
    clear hr hb hlt
    obtain ⟨k, hk, rfl, hall, hr, hb⟩ := hrel
    obtain ⟨⟨a0, a1, a2, a3, a4, a5⟩, -⟩ := hr.all6
    by_cases hlt : k < x.key.length
    ·obtain ⟨bk, offk, -, ek, q0⟩ := IntR.at_ (h2.below IntR.stays hb) hlt
     rw [ek] at a2
     have hin := HIN.out _ (List.getElem_mem hlt)
     have hsn := all_take (nnAt x.cols) x.key k hlt
     rw [hall.out, Bool.true_and] at hsn
     have hno := fun hf => all_no (nnAt x.cols) x.key k hlt hf
     obtain ⟨j, hj⟩ : ∃ j : Nat, x.key[k] = (j : Int) := ⟨x.key[k].toNat, by omega⟩
     rw [hj] at q0 hsn hno hin
     have hjl : j < x.cols.length := by omega
     obtain ⟨bc, offc, -, ec, p0, p1, p2, p3, p4, p5⟩ := ClR.at_ (h1.below ClR.stays hb) hjl
     rw [ec] at a1
     have hnn : nnAt x.cols j = x.cols[j].nn := by unfold nnAt; simp [List.getElem?_eq_getElem hjl]
     have i0 : (0 : Int) ≤ j := by omega
     have i1 : (j : Int) < x.cols.length := by omega
     have i2 : (0 : Int) ≤ k := by omega
     have i3 : (k : Int) < x.key.length := by omega
     cases hnb : x.cols[j].nn
     ·rw [hnb] at p2
      have HF := Lib.hid (show tableB x = false by unfold tableB keyB; rw [hno (hnn.trans hnb)]; simp)
      clear hsn hno hnn hnb hj hall ek ec
      go_wp2_with fail
      go_quiet (fail)
      go_wp2_with fail
      go_ret
      exact ⟨retB HF.out.symm, below_drewN hb _⟩
     ·rw [hnb] at p2
      have HA := Lib.hid (hsn.trans (hnn.trans hnb))
      clear hsn hno hnn hnb hj hall ek ec
      go_wp2_with fail
      go_quiet (fail)
      go_wp2_with fail
      go_roundw
      case rel => exact ⟨k + 1, by omega, by go_num, HA, hr.drewN _, below_drewN hb _⟩
      case measure => simp [intOf]; omega
    ·have e : x.key.take k = x.key := List.take_of_length_le (by omega)
     have g1 := hall.out
     rw [e] at g1
     have HKB := Lib.hid (show keyB x.cols x.key = true by unfold keyB; rw [g1, HK.out]; rfl)
     clear e g1 hall
     go_wp2_with fail
     clear a0 a1 a2 a3 a4 a5
     go_loopw [7] (fun i wr => ∃ k : Nat, k ≤ x.uniqs.length ∧ i = .int .i64 k ∧ Hid ((x.uniqs.take k).all (fun u : Uq => colsInB u.cols x.cols.length) = true) ∧ Row wr w.heap.size 42 #[.string x.name, .slice A1 x.cols.length c1, .slice A2 x.key.length c2, .slice A3 x.uniqs.length c3, .slice A4 x.checks.length c4, .slice A5 x.fks.length c5] ∧ Below w.heap.size w wr) (fun i _ => x.uniqs.length - (intOf i).toNat)
     case atStart => exact ⟨0, by omega, rfl, Lib.hid (by simp), hr, hb⟩
     case round =>
      clear hr hb hlt
      obtain ⟨k, hk, rfl, hall, hr, hb⟩ := hrel
      obtain ⟨⟨a0, a1, a2, a3, a4, a5⟩, -⟩ := hr.all6
      by_cases hlt : k < x.uniqs.length
      ·obtain ⟨b, off, A9, n9, c9, -, ea, q0, s0, hcp9⟩ := UqR.at_ (h3.below UqR.stays hb) hlt
       rw [ea] at a3
       obtain rfl : x.uniqs[k].cols.length = n9 := s0.1
       have hsn := all_take (fun u : Uq => colsInB u.cols x.cols.length) x.uniqs k hlt
       rw [hall.out, Bool.true_and] at hsn
       have hno := fun hf => all_no (fun u : Uq => colsInB u.cols x.cols.length) x.uniqs k hlt hf
       have hk9 : x.uniqs[k].cols.length ≤ 1048576 := by have := HS3.out; have := sum_mem_le Uq.sz x.uniqs k hlt; unfold szL at *; simp only [Uq.sz] at *; (try unfold szL at *); omega
       have i2 : (0 : Int) ≤ k := by omega
       have i3 : (k : Int) < x.uniqs.length := by omega
       cases hc : colsInB x.uniqs[k].cols x.cols.length
       ·have HC9 := Lib.hid hc
        have HF := Lib.hid (show tableB x = false by unfold tableB uqsB; rw [hno hc]; simp)
        clear hsn hno hc hall ea
        go_wp2_with fail
        refine (specCols A9 x.uniqs[k].cols.length c9 x.uniqs[k].cols x.cols.length ok _ s0 hcp9 hk9 (by omega) (by omega)).mono ?_
        rintro e w1 ⟨rfl, hq⟩
        rw [HC9.out]
        go_wp2_with fail
        go_ret
        exact ⟨retB HF.out.symm, hb.trans (hq.mono hb.size)⟩
       ·have HC9 := Lib.hid hc
        have HA := Lib.hid (hsn.trans hc)
        clear hsn hno hc hall ea
        go_wp2_with fail
        refine (specCols A9 x.uniqs[k].cols.length c9 x.uniqs[k].cols x.cols.length ok _ s0 hcp9 hk9 (by omega) (by omega)).mono ?_
        rintro e w1 ⟨rfl, hq⟩
        rw [HC9.out]
        go_wp2_with fail
        go_roundw
        case rel => exact ⟨k + 1, by omega, by go_num, HA, hr.below hq, hb.trans (hq.mono hb.size)⟩
        case measure => simp [intOf]; omega
      ·have e : x.uniqs.take k = x.uniqs := List.take_of_length_le (by omega)
       have g1 := hall.out
       rw [e] at g1
       have HUB := Lib.hid (show uqsB x.cols x.uniqs = true by unfold uqsB; rw [g1, decide_eq_true (by omega)]; rfl)
       clear e g1 hall
       go_wp2_with fail
       clear a0 a1 a2 a3 a4 a5
       go_loopw [8] (fun i wr => ∃ k : Nat, k ≤ x.checks.length ∧ i = .int .i64 k ∧ Hid ((x.checks.take k).all (fun u : Ck => exprB u.expr x.cols.length) = true) ∧ Row wr w.heap.size 42 #[.string x.name, .slice A1 x.cols.length c1, .slice A2 x.key.length c2, .slice A3 x.uniqs.length c3, .slice A4 x.checks.length c4, .slice A5 x.fks.length c5] ∧ Below w.heap.size w wr) (fun i _ => x.checks.length - (intOf i).toNat)
       case atStart => exact ⟨0, by omega, rfl, Lib.hid (by simp), hr, hb⟩
       case round =>
        clear hr hb hlt
        obtain ⟨k, hk, rfl, hall, hr, hb⟩ := hrel
        obtain ⟨⟨a0, a1, a2, a3, a4, a5⟩, -⟩ := hr.all6
        by_cases hlt : k < x.checks.length
        ·obtain ⟨b, off, A9, n9, c9, -, ea, q0, s0, hcp9⟩ := CkR.at_ (h4.below CkR.stays hb) hlt
         rw [ea] at a4
         obtain rfl : x.checks[k].expr.length = n9 := s0.1
         have hsn := all_take (fun u : Ck => exprB u.expr x.cols.length) x.checks k hlt
         rw [hall.out, Bool.true_and] at hsn
         have hno := fun hf => all_no (fun u : Ck => exprB u.expr x.cols.length) x.checks k hlt hf
         have hk9 : x.checks[k].expr.length ≤ 1048576 := by have := HS4.out; have := sum_mem_le Ck.sz x.checks k hlt; unfold szL at *; simp only [Ck.sz] at *; (try unfold szL at *); omega
         have i2 : (0 : Int) ≤ k := by omega
         have i3 : (k : Int) < x.checks.length := by omega
         cases hc : l2B x.checks[k].expr x.cols.length
         ·have HC9 := Lib.hid hc
          have HF := Lib.hid (show tableB x = false by unfold tableB cksB; rw [hno ((exprB_l2n (by omega)).trans hc)]; simp)
          clear hsn hno hc hall ea
          go_wp2_with fail
          refine (specL2Expr A9 x.checks[k].expr.length c9 x.checks[k].expr x.cols.length _ (Sl.cellz (fun _ => rfl) s0) (by unfold maxLen; omega) (by omega) (by omega)).mono ?_
          rintro e w1 ⟨rfl, hq⟩
          rw [HC9.out]
          go_wp2_with fail
          go_ret
          exact ⟨retB HF.out.symm, hb.trans (hq.mono hb.size)⟩
         ·have HC9 := Lib.hid hc
          have HA := Lib.hid (hsn.trans ((exprB_l2n (by omega)).trans hc))
          clear hsn hno hc hall ea
          go_wp2_with fail
          refine (specL2Expr A9 x.checks[k].expr.length c9 x.checks[k].expr x.cols.length _ (Sl.cellz (fun _ => rfl) s0) (by unfold maxLen; omega) (by omega) (by omega)).mono ?_
          rintro e w1 ⟨rfl, hq⟩
          rw [HC9.out]
          go_wp2_with fail
          go_roundw
          case rel => exact ⟨k + 1, by omega, by go_num, HA, hr.below hq, hb.trans (hq.mono hb.size)⟩
          case measure => simp [intOf]; omega
        ·have e : x.checks.take k = x.checks := List.take_of_length_le (by omega)
         have g1 := hall.out
         rw [e] at g1
         have HEB := Lib.hid (show cksB x.cols x.checks = true by unfold cksB; rw [g1, decide_eq_true (by omega)]; rfl)
         clear e g1 hall
         go_wp2_with fail
         clear a0 a1 a2 a3 a4 a5
         go_loopw [9] (fun i wr => ∃ k : Nat, k ≤ x.fks.length ∧ i = .int .i64 k ∧ Hid ((x.fks.take k).all (fkB x.cols.length) = true) ∧ Row wr w.heap.size 42 #[.string x.name, .slice A1 x.cols.length c1, .slice A2 x.key.length c2, .slice A3 x.uniqs.length c3, .slice A4 x.checks.length c4, .slice A5 x.fks.length c5] ∧ Below w.heap.size w wr) (fun i _ => x.fks.length - (intOf i).toNat)
         case atStart => exact ⟨0, by omega, rfl, Lib.hid (by simp), hr, hb⟩
         case round =>
          clear hr hb hlt
          obtain ⟨k, hk, rfl, hall, hr, hb⟩ := hrel
          obtain ⟨⟨a0, a1, a2, a3, a4, a5⟩, -⟩ := hr.all6
          by_cases hlt : k < x.fks.length
          ·obtain ⟨b, off, A9, n9, c9, -, ea, q0, q1, q2, q3, q4, s0, hcp9⟩ := FkR.at_ (h5.below FkR.stays hb) hlt
           rw [ea] at a5
           obtain rfl : x.fks[k].cols.length = n9 := s0.1
           have hsn := all_take (fkB x.cols.length) x.fks k hlt
           rw [hall.out, Bool.true_and] at hsn
           have hno := fun hf => all_no (fkB x.cols.length) x.fks k hlt hf
           obtain ⟨hk9, hk8⟩ : x.fks[k].cols.length ≤ 1048576 ∧ x.fks[k].table.size ≤ 1048576 := by have := HS5.out; have := sum_mem_le Fk.sz x.fks k hlt; unfold szL at *; simp only [Fk.sz] at *; omega
           have HK9 := Lib.hid hk9
           have HK8 := Lib.hid (show x.fks[k].table.size ≤ maxLen by unfold maxLen; omega)
           have i2 : (0 : Int) ≤ k := by omega
           have i3 : (k : Int) < x.fks.length := by omega
           have hbx := (Below.refl wr.heap.size wr).alloc (Nat.le_refl _) (.cells #[.slice A9 x.fks[k].cols.length c9, .string x.fks[k].table, .int .i64 x.fks[k].del, .int .i64 x.fks[k].upd, .bool x.fks[k].dfr] 80)
           have hba := hb.trans (hbx.mono hb.size)
           have s1 := s0.below IntR.stays hbx
           have hr1 := hr.below hbx
           have rf := Row.new wr 80 #[.slice A9 x.fks[k].cols.length c9, .string x.fks[k].table, .int .i64 x.fks[k].del, .int .i64 x.fks[k].upd, .bool x.fks[k].dfr]
           have HNO := Lib.hid (fun hf => show tableB x = false by unfold tableB fksB; rw [hno hf]; simp)
           have HSN := Lib.hid hsn
           clear hsn hno hall ea hk9 hk8
           cases hc9 : colsInB x.fks[k].cols x.cols.length
           ·have HC9 := Lib.hid hc9
            have HF := Lib.hid (HNO.out (by unfold fkB; rw [act_in, act_in, hc9]; simp))
            clear hc9
            go_wp2_with fail
            refine (specCols A9 x.fks[k].cols.length c9 x.fks[k].cols x.cols.length ok _ s1 hcp9 HK9.out (by omega) (by omega)).mono ?_
            rintro e w1 ⟨rfl, hq⟩
            obtain ⟨⟨f0, f1, f2, f3, f4⟩, -⟩ := (rf.below hq).five
            rw [HC9.out]
            go_wp2_with fail
            go_ret
            exact ⟨retB HF.out.symm, hba.trans (hq.mono hba.size)⟩
           have HC9 := Lib.hid hc9
           clear hc9
           cases hn9 : nameB x.fks[k].table
           ·have HN9 := Lib.hid hn9
            have HF := Lib.hid (HNO.out (by unfold fkB; rw [act_in, act_in, HC9.out, hn9]; simp))
            clear hn9
            go_wp2_with fail
            refine (specCols A9 x.fks[k].cols.length c9 x.fks[k].cols x.cols.length ok _ s1 hcp9 HK9.out (by omega) (by omega)).mono ?_
            rintro e w1 ⟨rfl, hq⟩
            obtain ⟨⟨f0, f1, f2, f3, f4⟩, -⟩ := (rf.below hq).five
            rw [HC9.out]
            go_wp2_with fail
            refine (specName _ _ HK8.out).mono ?_
            rintro e w2 ⟨rfl, rfl⟩
            rw [HN9.out]
            go_wp2_with fail
            go_ret
            exact ⟨retB HF.out.symm, hba.trans (hq.mono hba.size)⟩
           have HN9 := Lib.hid hn9
           clear hn9
           cases hd9 : (decide (0 ≤ x.fks[k].del) && decide (x.fks[k].del ≤ 2))
           ·have HD9 := Lib.hid hd9
            have HF := Lib.hid (HNO.out (by unfold fkB; rw [act_in, act_in, HC9.out, HN9.out, hd9]; simp))
            clear hd9
            go_wp2_with fail
            refine (specCols A9 x.fks[k].cols.length c9 x.fks[k].cols x.cols.length ok _ s1 hcp9 HK9.out (by omega) (by omega)).mono ?_
            rintro e w1 ⟨rfl, hq⟩
            obtain ⟨⟨f0, f1, f2, f3, f4⟩, -⟩ := (rf.below hq).five
            rw [HC9.out]
            go_wp2_with fail
            refine (specName _ _ HK8.out).mono ?_
            rintro e w2 ⟨rfl, rfl⟩
            rw [HN9.out]
            go_wp2_with fail
            refine (specIn _ _ _ _).mono ?_
            rintro e w2 ⟨rfl, rfl⟩
            rw [HD9.out]
            go_wp2_with fail
            go_ret
            exact ⟨retB HF.out.symm, hba.trans (hq.mono hba.size)⟩
           have HD9 := Lib.hid hd9
           clear hd9
           cases hu9 : (decide (0 ≤ x.fks[k].upd) && decide (x.fks[k].upd ≤ 2))
           ·have HU9 := Lib.hid hu9
            have HF := Lib.hid (HNO.out (by unfold fkB; rw [act_in, act_in, HC9.out, HN9.out, HD9.out, hu9]; simp))
            clear hu9
            go_wp2_with fail
            refine (specCols A9 x.fks[k].cols.length c9 x.fks[k].cols x.cols.length ok _ s1 hcp9 HK9.out (by omega) (by omega)).mono ?_
            rintro e w1 ⟨rfl, hq⟩
            obtain ⟨⟨f0, f1, f2, f3, f4⟩, -⟩ := (rf.below hq).five
            rw [HC9.out]
            go_wp2_with fail
            refine (specName _ _ HK8.out).mono ?_
            rintro e w2 ⟨rfl, rfl⟩
            rw [HN9.out]
            go_wp2_with fail
            refine (specIn _ _ _ _).mono ?_
            rintro e w2 ⟨rfl, rfl⟩
            rw [HD9.out]
            go_wp2_with fail
            refine (specIn _ _ _ _).mono ?_
            rintro e w2 ⟨rfl, rfl⟩
            rw [HU9.out]
            go_wp2_with fail
            go_ret
            exact ⟨retB HF.out.symm, hba.trans (hq.mono hba.size)⟩
           have HU9 := Lib.hid hu9
           clear hu9
           have HA := Lib.hid (HSN.out.trans (show fkB x.cols.length x.fks[k] = true by unfold fkB; rw [act_in, act_in, HC9.out, HN9.out, HD9.out, HU9.out]; rfl))
           go_wp2_with fail
           refine (specCols A9 x.fks[k].cols.length c9 x.fks[k].cols x.cols.length ok _ s1 hcp9 HK9.out (by omega) (by omega)).mono ?_
           rintro e w1 ⟨rfl, hq⟩
           obtain ⟨⟨f0, f1, f2, f3, f4⟩, -⟩ := (rf.below hq).five
           rw [HC9.out]
           go_wp2_with fail
           refine (specName _ _ HK8.out).mono ?_
           rintro e w2 ⟨rfl, rfl⟩
           rw [HN9.out]
           go_wp2_with fail
           refine (specIn _ _ _ _).mono ?_
           rintro e w2 ⟨rfl, rfl⟩
           rw [HD9.out]
           go_wp2_with fail
           refine (specIn _ _ _ _).mono ?_
           rintro e w2 ⟨rfl, rfl⟩
           rw [HU9.out]
           go_wp2_with fail
           go_roundw
           case rel => exact ⟨k + 1, by omega, by go_num, HA, hr1.below hq, hba.trans (hq.mono hba.size)⟩
           case measure => simp [intOf]; omega
          ·have e : x.fks.take k = x.fks := List.take_of_length_le (by omega)
           have g1 := hall.out
           rw [e] at g1
           have HFB := Lib.hid (show fksB x.cols x.fks = true by unfold fksB; rw [g1, decide_eq_true (by omega)]; rfl)
           clear e g1 hall
           go_wp2_with fail
           go_ret
           exact ⟨retB (by unfold tableB; rw [HN0.out, HC.out, HKB.out, HUB.out, HEB.out, HFB.out]; rfl), hb⟩
set_option maxRecDepth 100000 in
set_option maxHeartbeats 4000000 in
theorem specSchemaOk (AS : Option Addr) (nS cS : Nat) (s : List Tb) (ok : Nat → Prop) (w : World) (hs : Sl TbR 6 ok w AS nS s) (hcp : nS ≤ cS) (hsz : szL Tb.sz s ≤ 1048576) :
  Calls Tryz.prog 24 #[.slice AS nS cS] w fun e w' => e = .returned (.bool (schemaB s)) ∧ Below w.heap.size w w' := by
 obtain rfl : s.length = nS := hs.1
 have hn : s.length ≤ 1048576 := by unfold szL at hsz; omega
 have HSZ := Lib.hid hsz
 have HT := Lib.hid (fun k (hlt : k < s.length) => show s[k].sz ≤ 1048576 by have := HSZ.out; have := sum_mem_le Tb.sz s k hlt; unfold szL at *; omega)
 clear hsz
 go_enter Tryz.func24, Tryz.ntmps24
 go_wp2_with fail
 go_loopw [3] (fun i wr => ∃ k : Nat, k ≤ s.length ∧ i = .int .i64 k ∧ Hid ((s.take k).all tableB = true) ∧ Hid (uniqGo [] (s.map Tb.name) = uniqGo ((s.map Tb.name).take k) ((s.map Tb.name).drop k)) ∧ Below w.heap.size w wr) (fun i _ => s.length - (intOf i).toNat)
 case atStart => exact ⟨0, by omega, rfl, Lib.hid (by simp), Lib.hid (by simp), Below.refl _ _⟩
 case round =>
  obtain ⟨k, hk, rfl, hall, huq, hb⟩ := hrel
  by_cases hlt : k < s.length
  ·have hsw := hs.below TbR.stays hb
   obtain ⟨b, off, A1, n1, c1, A2, n2, c2, A3, n3, c3, A4, n4, c4, A5, n5, c5, -, ea, q0, q1, q2, q3, q4, q5, s1, s2, s3, s4, s5, hcps⟩ := TbR.at_ hsw hlt
   subst ea
   have HCP := Lib.hid hcps
   clear hcps
   have hsn := all_take tableB s k hlt
   rw [hall.out, Bool.true_and] at hsn
   have hno := fun hf => all_no tableB s k hlt hf
   have hug := uniqGo_at (s.map Tb.name) k (by simpa using hlt)
   rw [← huq.out, List.getElem_map, ← List.map_take] at hug
   have HX := Lib.hid (HT.out k hlt)
   have i0 : (0 : Int) ≤ k := by omega
   have i1 : (k : Int) < s.length := by omega
   have i3 : (k : Int) ≤ cS := by omega
   cases hc : tableB s[k]
   ·skip
    have HTB := Lib.hid hc
    have HF := Lib.hid (show schemaB s = false by unfold schemaB; rw [hno hc]; simp)
    clear hc hno hsn hug hall huq
    go_wp2_with fail
    refine wp_region_noPanic ?_
    refine wp_region_held_drew (S := fun w' => w'.cell? ⟨b, off + k * 6, none⟩ = some (.string s[k].name) ∧ w'.cell? ⟨b, off + k * 6 + 1, none⟩ = some (.slice A1 n1 c1) ∧ w'.cell? ⟨b, off + k * 6 + 2, none⟩ = some (.slice A2 n2 c2) ∧ w'.cell? ⟨b, off + k * 6 + 3, none⟩ = some (.slice A3 n3 c3) ∧ w'.cell? ⟨b, off + k * 6 + 4, none⟩ = some (.slice A4 n4 c4) ∧ w'.cell? ⟨b, off + k * 6 + 5, none⟩ = some (.slice A5 n5 c5)) (by kernel_rfl) ⟨q0, q1, q2, q3, q4, q5⟩ (fun hHeld => ?_)
    refine tk 0 ?_
    refine tk 1 ?_
    refine tk 2 ?_
    refine tk 3 ?_
    refine wpAnyH_ready (rs := [4]) (by kernel_rfl) (by simp) ?_
    refine AllReadyH.cons rfl (fun K hK => ?_) AllReadyH.nil
    go_simp
    refine (specTableOk s[k] A1 n1 c1 A2 n2 c2 A3 n3 c3 A4 n4 c4 A5 n5 c5 ok _ (s1.drew ClR.stays) (s2.drew IntR.stays) (s3.drew UqR.stays) (s4.drew CkR.stays) (s5.drew FkR.stays) HCP.out HX.out).mono ?_
    rintro e wc ⟨rfl, hqc⟩
    rw [HTB.out]
    go_wp2_with fail
    refine hK.out _ _ ⟨below_keep hqc _ _ hHeld.1, below_keep hqc _ _ hHeld.2.1, below_keep hqc _ _ hHeld.2.2.1, below_keep hqc _ _ hHeld.2.2.2.1, below_keep hqc _ _ hHeld.2.2.2.2.1, below_keep hqc _ _ hHeld.2.2.2.2.2⟩ (fun hHeld => ?_)
    clear hK K
    (try simp only [Act.put, pz0, pz1, pz2, pz3, pz4, pz5])
    refine tk 5 ?_
    refine tk 6 ?_
    refine tu 7 ?_
    refine tu 8 ?_
    refine tu 9 ?_
    refine tu 10 ?_
    refine tu 11 ?_
    refine tu 12 ?_
    refine tu 13 ?_
    refine tu 14 ?_
    refine tu 15 ?_
    refine tu 16 ?_
    refine tk 17 ?_
    refine wpAnyH_done (by kernel_rfl) ?_ _
    refine NoPanic.normal ?_
    have hz := hb.drew.trans (hqc.mono hb.drew.size)
    clear hHeld q0 q1 q2 q3 q4 q5
    go_wp2_with fail
    go_ret
    exact ⟨retB HF.out.symm, hz⟩
   have HTB := Lib.hid hc
   by_cases hat : atN ((s.take k).map Tb.name) s[k].name = -1
   case neg =>
    obtain ⟨j, hj, hj0⟩ : ∃ j : Int, j = atN ((s.take k).map Tb.name) s[k].name ∧ 0 ≤ j := ⟨_, rfl, by rcases atN_rng ((s.take k).map Tb.name) s[k].name with h | h; exact absurd h hat; exact h.1⟩
    have HJ := Lib.hid hj
    have HF := Lib.hid (show schemaB s = false by unfold schemaB; rw [hug, decide_eq_false hat]; simp)
    clear hc hno hsn hug hall huq hat hj
    go_wp2_with fail
    refine wp_region_noPanic ?_
    refine wp_region_held_drew (S := fun w' => w'.cell? ⟨b, off + k * 6, none⟩ = some (.string s[k].name) ∧ w'.cell? ⟨b, off + k * 6 + 1, none⟩ = some (.slice A1 n1 c1) ∧ w'.cell? ⟨b, off + k * 6 + 2, none⟩ = some (.slice A2 n2 c2) ∧ w'.cell? ⟨b, off + k * 6 + 3, none⟩ = some (.slice A3 n3 c3) ∧ w'.cell? ⟨b, off + k * 6 + 4, none⟩ = some (.slice A4 n4 c4) ∧ w'.cell? ⟨b, off + k * 6 + 5, none⟩ = some (.slice A5 n5 c5)) (by kernel_rfl) ⟨q0, q1, q2, q3, q4, q5⟩ (fun hHeld => ?_)
    refine tk 0 ?_
    refine tk 1 ?_
    refine tk 2 ?_
    refine tk 3 ?_
    refine wpAnyH_ready (rs := [4]) (by kernel_rfl) (by simp) ?_
    refine AllReadyH.cons rfl (fun K hK => ?_) AllReadyH.nil
    go_simp
    refine (specTableOk s[k] A1 n1 c1 A2 n2 c2 A3 n3 c3 A4 n4 c4 A5 n5 c5 ok _ (s1.drew ClR.stays) (s2.drew IntR.stays) (s3.drew UqR.stays) (s4.drew CkR.stays) (s5.drew FkR.stays) HCP.out HX.out).mono ?_
    rintro e wc ⟨rfl, hqc⟩
    rw [HTB.out]
    go_wp2_with fail
    refine hK.out _ _ ⟨below_keep hqc _ _ hHeld.1, below_keep hqc _ _ hHeld.2.1, below_keep hqc _ _ hHeld.2.2.1, below_keep hqc _ _ hHeld.2.2.2.1, below_keep hqc _ _ hHeld.2.2.2.2.1, below_keep hqc _ _ hHeld.2.2.2.2.2⟩ (fun hHeld => ?_)
    clear hK K
    (try simp only [Act.put, pz0, pz1, pz2, pz3, pz4, pz5])
    refine tk 5 ?_
    refine tk 6 ?_
    refine tk 7 ?_
    refine tk 8 ?_
    refine tk 9 ?_
    refine tk 10 ?_
    refine tk 11 ?_
    refine tk 12 ?_
    refine tk 13 ?_
    refine tk 14 ?_
    refine wpAnyH_ready (rs := [15]) (by kernel_rfl) (by simp) ?_
    refine AllReadyH.cons rfl (fun K hK => ?_) AllReadyH.nil
    go_simp
    refine (specL3At _ k cS (s.take k) _ ok _ (((hsw.drew TbR.stays).below TbR.stays hqc).take (m := k) (by omega)) (by omega)).mono ?_
    rintro e wd ⟨rfl, hqd⟩
    rw [← HJ.out]
    go_wp2_with fail
    refine hK.out _ _ ⟨below_keep hqd _ _ hHeld.1, below_keep hqd _ _ hHeld.2.1, below_keep hqd _ _ hHeld.2.2.1, below_keep hqd _ _ hHeld.2.2.2.1, below_keep hqd _ _ hHeld.2.2.2.2.1, below_keep hqd _ _ hHeld.2.2.2.2.2⟩ (fun hHeld => ?_)
    clear hK K
    (try simp only [Act.put, pz0, pz1, pz2, pz3, pz4, pz5])
    refine tk 16 ?_
    refine tk 17 ?_
    refine wpAnyH_done (by kernel_rfl) ?_ _
    refine NoPanic.normal ?_
    have hz := hb.drew.trans (hqc.mono hb.drew.size)
    have hz := hz.trans (hqd.mono hz.size)
    clear hHeld q0 q1 q2 q3 q4 q5
    go_wp2_with fail
    go_ret
    exact ⟨retB HF.out.symm, hz⟩
   case pos =>
    have HA := Lib.hid hat
    have HUQ := Lib.hid (show uniqGo [] (s.map Tb.name) = uniqGo ((s.map Tb.name).take (k + 1)) ((s.map Tb.name).drop (k + 1)) by rw [hug, decide_eq_true hat, Bool.true_and])
    have HAL := Lib.hid (hsn.trans hc)
    clear hc hno hsn hug hall huq hat
    go_wp2_with fail
    refine wp_region_noPanic ?_
    refine wp_region_held_drew (S := fun w' => w'.cell? ⟨b, off + k * 6, none⟩ = some (.string s[k].name) ∧ w'.cell? ⟨b, off + k * 6 + 1, none⟩ = some (.slice A1 n1 c1) ∧ w'.cell? ⟨b, off + k * 6 + 2, none⟩ = some (.slice A2 n2 c2) ∧ w'.cell? ⟨b, off + k * 6 + 3, none⟩ = some (.slice A3 n3 c3) ∧ w'.cell? ⟨b, off + k * 6 + 4, none⟩ = some (.slice A4 n4 c4) ∧ w'.cell? ⟨b, off + k * 6 + 5, none⟩ = some (.slice A5 n5 c5)) (by kernel_rfl) ⟨q0, q1, q2, q3, q4, q5⟩ (fun hHeld => ?_)
    refine tk 0 ?_
    refine tk 1 ?_
    refine tk 2 ?_
    refine tk 3 ?_
    refine wpAnyH_ready (rs := [4]) (by kernel_rfl) (by simp) ?_
    refine AllReadyH.cons rfl (fun K hK => ?_) AllReadyH.nil
    go_simp
    refine (specTableOk s[k] A1 n1 c1 A2 n2 c2 A3 n3 c3 A4 n4 c4 A5 n5 c5 ok _ (s1.drew ClR.stays) (s2.drew IntR.stays) (s3.drew UqR.stays) (s4.drew CkR.stays) (s5.drew FkR.stays) HCP.out HX.out).mono ?_
    rintro e wc ⟨rfl, hqc⟩
    rw [HTB.out]
    go_wp2_with fail
    refine hK.out _ _ ⟨below_keep hqc _ _ hHeld.1, below_keep hqc _ _ hHeld.2.1, below_keep hqc _ _ hHeld.2.2.1, below_keep hqc _ _ hHeld.2.2.2.1, below_keep hqc _ _ hHeld.2.2.2.2.1, below_keep hqc _ _ hHeld.2.2.2.2.2⟩ (fun hHeld => ?_)
    clear hK K
    (try simp only [Act.put, pz0, pz1, pz2, pz3, pz4, pz5])
    refine tk 5 ?_
    refine tk 6 ?_
    refine tk 7 ?_
    refine tk 8 ?_
    refine tk 9 ?_
    refine tk 10 ?_
    refine tk 11 ?_
    refine tk 12 ?_
    refine tk 13 ?_
    refine tk 14 ?_
    refine wpAnyH_ready (rs := [15]) (by kernel_rfl) (by simp) ?_
    refine AllReadyH.cons rfl (fun K hK => ?_) AllReadyH.nil
    go_simp
    refine (specL3At _ k cS (s.take k) _ ok _ (((hsw.drew TbR.stays).below TbR.stays hqc).take (m := k) (by omega)) (by omega)).mono ?_
    rintro e wd ⟨rfl, hqd⟩
    rw [HA.out]
    go_wp2_with fail
    refine hK.out _ _ ⟨below_keep hqd _ _ hHeld.1, below_keep hqd _ _ hHeld.2.1, below_keep hqd _ _ hHeld.2.2.1, below_keep hqd _ _ hHeld.2.2.2.1, below_keep hqd _ _ hHeld.2.2.2.2.1, below_keep hqd _ _ hHeld.2.2.2.2.2⟩ (fun hHeld => ?_)
    clear hK K
    (try simp only [Act.put, pz0, pz1, pz2, pz3, pz4, pz5])
    refine tk 16 ?_
    refine tk 17 ?_
    refine wpAnyH_done (by kernel_rfl) ?_ _
    refine NoPanic.normal ?_
    have hz := hb.drew.trans (hqc.mono hb.drew.size)
    have hz := hz.trans (hqd.mono hz.size)
    clear hHeld q0 q1 q2 q3 q4 q5
    go_wp2_with fail
    go_roundw
    case rel => exact ⟨k + 1, by omega, by go_num, Lib.hid HAL.out, Lib.hid HUQ.out, hz⟩
    case measure => simp [intOf]; omega
  ·have e : s.take k = s := List.take_of_length_le (by omega)
   have e2 : (s.map Tb.name).drop k = [] := List.drop_eq_nil_of_le (by simp; omega)
   have g1 := hall.out
   have g2 := huq.out
   rw [e] at g1
   rw [e2] at g2
   have HALL := Lib.hid g1
   have HU := Lib.hid (show uniqGo [] (s.map Tb.name) = true by rw [g2]; simp [uniqGo])
   clear e e2 g1 g2 hall huq
   go_wp2_with fail
   clear hk hlt
   go_loopw [4] (fun i wr => ∃ k : Nat, k ≤ s.length ∧ i = .int .i64 k ∧ Hid ((s.take k).all (leadsB s) = true) ∧ Below w.heap.size w wr) (fun i _ => s.length - (intOf i).toNat)
   case atStart => exact ⟨0, by omega, rfl, Lib.hid (by simp), hb⟩
   case round =>
    clear hb
    obtain ⟨k, hk, rfl, hall, hb⟩ := hrel
    by_cases hlt : k < s.length
    case neg =>
     have e : s.take k = s := List.take_of_length_le (by omega)
     have g1 := hall.out
     rw [e] at g1
     by_cases h5 : (s.length : Int) ≤ 5
     ·have HF := Lib.hid (show schemaB s = true by unfold schemaB; rw [decide_eq_true (by omega), HALL.out, HU.out, g1]; rfl)
      have h5' : decide ((s.length : Int) ≤ 5) = true := by simpa using h5
      clear e g1 hall
      go_wp2_with fail
      go_ret
      exact ⟨retB HF.out.symm, hb⟩
     ·have HF := Lib.hid (show schemaB s = false by unfold schemaB; rw [decide_eq_false (by omega)]; rfl)
      have h5' : decide ((s.length : Int) ≤ 5) = false := by simpa using h5
      clear e g1 hall
      go_wp2_with fail
      go_ret
      exact ⟨retB HF.out.symm, hb⟩
    case pos =>
     have hsn := all_take (leadsB s) s k hlt
     rw [hall.out, Bool.true_and] at hsn
     have HNO := Lib.hid (fun hf : leadsB s s[k] = false => show schemaB s = false by unfold schemaB; rw [all_no (leadsB s) s k hlt hf]; simp)
     have HSN := Lib.hid hsn
     have HX := Lib.hid (HT.out k hlt)
     have HTK := Lib.hid (show tableB s[k] = true from List.all_eq_true.1 HALL.out _ (List.getElem_mem hlt))
     clear hsn hall
     have i0 : (0 : Int) ≤ k := by omega
     have i1 : (k : Int) < s.length := by omega
     go_wp2_with fail
     go_loopw [5] (fun i wr => ∃ m : Nat, m ≤ s[k].fks.length ∧ i = .int .i64 m ∧ Hid ((s[k].fks.take m).all (leadB s s[k]) = true) ∧ Below w.heap.size w wr) (fun i _ => s[k].fks.length - (intOf i).toNat)
     case atStart => exact ⟨0, by omega, rfl, Lib.hid (by simp), hb⟩
     case round =>
      clear hb
      obtain ⟨m, hm, rfl, hall, hb⟩ := hrel
      obtain ⟨b, off, A1, n1, c1, A2, n2, c2, A3, n3, c3, A4, n4, c4, A5, n5, c5, -, ea, q0, q1, q2, q3, q4, q5, s1, s2, -, -, s5, -⟩ := TbR.at_ (hs.below TbR.stays hb) hlt
      subst ea
      obtain rfl : s[k].fks.length = n5 := s5.1
      by_cases hlm : m < s[k].fks.length
      case neg =>
       have e : s[k].fks.take m = s[k].fks := List.take_of_length_le (by omega)
       have g1 := hall.out
       rw [e] at g1
       have HA := Lib.hid (HSN.out.trans g1)
       clear e g1 hall
       go_wp2_with fail
       go_roundw
       case rel => exact ⟨k + 1, by omega, by go_num, Lib.hid HA.out, hb⟩
       case measure => simp [intOf]; omega
      case pos =>
       have hsn := all_take (leadB s s[k]) s[k].fks m hlm
       rw [hall.out, Bool.true_and] at hsn
       have hno := fun hf : leadB s s[k] s[k].fks[m] = false => HNO.out (show leadsB s s[k] = false from all_no (leadB s s[k]) s[k].fks m hlm hf)
       have HI1 := Lib.hid (show ∀ y ∈ s[k].fks[m].cols, 0 ≤ y ∧ y < s[k].cols.length from fk_cols HTK.out hlm)
       obtain ⟨bf, offf, A9, n9, c9, -, ef, y0, y1, y2, y3, y4, hfc, -⟩ := FkR.at_ s5 hlm
       subst ef
       obtain rfl : s[k].fks[m].cols.length = n9 := hfc.1
       have HSN3 := Lib.hid hsn
       have HNO3 := Lib.hid hno
       clear hsn hno hall
       have hfin : s[k].fks[m].cols.length ≤ 1048576 := by have h1 := HX.out; have := sum_mem_le Fk.sz s[k].fks m hlm; simp only [Tb.sz, Fk.sz, szL] at *; omega
       have hfl : s[k].fks.length ≤ 1048576 := by have := HX.out; simp only [Tb.sz, szL] at this; omega
       generalize s[k].fks[m] = f at *
       have j0 : (0 : Int) ≤ m := by omega
       have j1' : (m : Int) < s[k].fks.length := by omega
       have hbx := (Below.refl wr.heap.size wr).alloc (Nat.le_refl _) (.cells #[.slice A9 f.cols.length c9, .string f.table, .int .i64 f.del, .int .i64 f.upd, .bool f.dfr] 80)
       have hba := hb.trans (hbx.mono hb.size)
       have rf := Row.new wr 80 #[.slice A9 f.cols.length c9, .string f.table, .int .i64 f.del, .int .i64 f.upd, .bool f.dfr]
       have hfc1 := hfc.below IntR.stays hbx
       obtain ⟨⟨f0, f1, f2, f3, f4⟩, -⟩ := rf.five
       clear hfc
       go_wp2_with fail
       generalize wr.alloc (.cells #[.slice A9 f.cols.length c9, .string f.table, .int .i64 f.del, .int .i64 f.upd, .bool f.dfr] 80) = z1 at *
       generalize wr.heap.size = gz at *
       refine (specL3At _ s.length cS s f.table ok _ (hs.below TbR.stays hba) hn).mono ?_
       rintro e w1 ⟨rfl, hb1⟩
       have hbc := hba.trans (hb1.mono hba.size)
       have rf1 := rf.below hb1
       have hfc2 := hfc1.below IntR.stays hb1
       clear f0 f1 f2 f3 f4 q0 q1 q2 q3 q4 q5 y0 y1 y2 y3 y4 s1 s2 hbx hb rf hfc1 hba hb1 s5
       obtain ⟨⟨f0, f1, f2, f3, f4⟩, -⟩ := rf1.five
       by_cases hat : atN (s.map Tb.name) f.table = -1
       ·have HA := Lib.hid hat
        have HF := Lib.hid (HNO3.out (by unfold leadB; rw [decide_eq_false (by simp [hat])]; rfl))
        rw [hat]
        clear hat
        go_wp2_with fail
        go_quiet (fail)
        go_wp2_with fail
        go_ret
        exact ⟨retB HF.out.symm, below_drewN hbc _⟩
       obtain ⟨j, hj, hjl⟩ : ∃ j : Nat, atN (s.map Tb.name) f.table = (j : Int) ∧ j < s.length := by
        rcases atN_rng (s.map Tb.name) f.table with h | h
        ·exact absurd h hat
        ·rw [List.length_map] at h; exact ⟨(atN (s.map Tb.name) f.table).toNat, by omega, by omega⟩
       have hld : leadB s s[k] f = sameB s[k].cols f.cols s[j].cols s[j].key := by
        unfold leadB; rw [decide_eq_true hat, hj]; simp [List.getElem?_eq_getElem hjl]
       have HSN4 := Lib.hid (HSN3.out.trans hld)
       have HLD := Lib.hid hld
       have HTJ := Lib.hid (show tableB s[j] = true from List.all_eq_true.1 HALL.out _ (List.getElem_mem hjl))
       rw [hj]
       clear hat hj hld
       have k0 : (0 : Int) ≤ j := by omega
       have k1 : (j : Int) < s.length := by omega
       have k2 : ¬ ((j : Int) < 0) := by omega
       have k3 : decide ((j : Int) < 0) = false := decide_eq_false k2
       obtain ⟨bj, offj, B1, m1, d1, B2, m2, d2, B3, m3, d3, B4, m4, d4, B5, m5, d5, -, ej, z0, z1', z2, z3, z4, z5, t1, t2, -, -, -, -⟩ := TbR.at_ (hs.below TbR.stays hbc) hjl
       cases ej
       obtain rfl : s[j].key.length = m2 := t2.1
       cases hl : (s[j].key.length == f.cols.length)
       ·have hne := beq_eq_false_iff_ne.1 hl
        have hl' : ¬ ((s[j].key.length : Int) = f.cols.length) := by omega
        have HF := Lib.hid (HNO3.out (by rw [HLD.out]; unfold sameB; rw [decide_eq_false (fun h => hne h.symm)]; rfl))
        clear hl hne
        go_wp2_with fail
        go_quiet (fail)
        go_wp2_with fail
        go_ret
        exact ⟨retB HF.out.symm, below_drewN hbc _⟩
       have hlen : s[j].key.length = f.cols.length := by simpa using hl
       have hl' : ((s[j].key.length : Int) = f.cols.length) := by omega
       have hz : (f.cols.zip s[j].key).length = f.cols.length := by simp [hlen]
       have HZ := Lib.hid hz
       have HL := Lib.hid hlen
       have HE := Lib.hid (show sameB s[k].cols f.cols s[j].cols s[j].key = (f.cols.zip s[j].key).all (kindV s[k].cols s[j].cols) by unfold sameB; rw [decide_eq_true hlen.symm]; rfl)
       clear hl hz hlen
       go_wp2_with fail
       go_quiet (fail)
       go_wp2_with fail
       clear f0 f1 f2 f3 f4 z0 z1' z2 z3 z4 z5 t1 t2 hl'
       have hbd := fun n => below_drewN hbc n
       go_loopw [8] (fun i wr => ∃ r : Nat, r ≤ f.cols.length ∧ i = .int .i64 r ∧ Hid (((f.cols.zip s[j].key).take r).all (kindV s[k].cols s[j].cols) = true) ∧ Row wr gz 80 #[.slice A9 f.cols.length c9, .string f.table, .int .i64 f.del, .int .i64 f.upd, .bool f.dfr] ∧ Sl IntR 1 ok wr A9 f.cols.length f.cols ∧ Below w.heap.size w wr) (fun i _ => f.cols.length - (intOf i).toNat)
       case atStart => exact ⟨0, by omega, rfl, Lib.hid (by simp), rf1.drewN _, hfc2.drewN IntR.stays _, hbd _⟩
       case round =>
        clear hbd hbc rf1 hfc2
        obtain ⟨r, hr', rfl, hall, hrf, hfc, hb⟩ := hrel
        obtain ⟨⟨f0, f1, f2, f3, f4⟩, -⟩ := hrf.five
        by_cases hlr : r < f.cols.length
        case neg =>
         have e : (f.cols.zip s[j].key).take r = f.cols.zip s[j].key := List.take_of_length_le (by rw [HZ.out]; omega)
         have g1 := hall.out
         rw [e] at g1
         have HA := Lib.hid (HSN4.out.trans (HE.out.trans g1))
         clear e g1 hall
         go_wp2_with fail
         go_roundw
         case rel => exact ⟨m + 1, by omega, by go_num, Lib.hid HA.out, hb⟩
         case measure => simp [intOf]; omega
        case pos =>
         have hlr2 : r < s[j].key.length := by have := HL.out; omega
         obtain ⟨bq, offq, C1, e1, g1, C2, e2, g2, C3, e3, g3, C4, e4, g4, C5, e5, g5, -, eq, q0, q1, q2, q3, q4, q5, s1, -, -, -, -, -⟩ := TbR.at_ (hs.below TbR.stays hb) hlt
         cases eq
         obtain ⟨bj, offj, D1, m1, d1, D2, m2, d2, D3, m3, d3, D4, m4, d4, D5, m5, d5, -, ej, z0, z1', z2, z3, z4, z5, t1, t2, -, -, -, -⟩ := TbR.at_ (hs.below TbR.stays hb) hjl
         cases ej
         obtain rfl : s[j].key.length = m2 := t2.1
         obtain rfl : s[k].cols.length = e1 := s1.1
         obtain rfl : s[j].cols.length = m1 := t1.1
         obtain ⟨bk, offk, -, ek, p0⟩ := IntR.at_ hfc hlr
         subst ek
         obtain ⟨bl, offl, -, el, p1⟩ := IntR.at_ t2 hlr2
         subst el
         have hi1 := HI1.out _ (List.getElem_mem hlr)
         have hi2 := key_cols HTJ.out _ (List.getElem_mem hlr2)
         have hsn := all_take (kindV s[k].cols s[j].cols) (f.cols.zip s[j].key) r (by rw [HZ.out]; exact hlr)
         have hno := fun hf : kindV s[k].cols s[j].cols ((f.cols.zip s[j].key)[r]'(by rw [HZ.out]; exact hlr)) = false => all_no (kindV s[k].cols s[j].cols) (f.cols.zip s[j].key) r (by rw [HZ.out]; exact hlr) hf
         obtain ⟨u1, hu1⟩ : ∃ j : Nat, f.cols[r] = (j : Int) := ⟨f.cols[r].toNat, by omega⟩
         obtain ⟨u2, hu2⟩ : ∃ i : Nat, s[j].key[r] = (i : Int) := ⟨s[j].key[r].toNat, by omega⟩
         rw [hu1] at p0 hi1
         rw [hu2] at p1 hi2
         have hjl1 : u1 < s[k].cols.length := by omega
         have hjl2 : u2 < s[j].cols.length := by omega
         have eg : kindV s[k].cols s[j].cols ((f.cols.zip s[j].key)[r]'(by rw [HZ.out]; exact hlr)) = (s[k].cols[u1].kind == s[j].cols[u2].kind) := by
          rw [List.getElem_zip]; unfold kindV; simp only [hu1, hu2, kindAt_nat hjl1, kindAt_nat hjl2]
         rw [hall.out, Bool.true_and, eg] at hsn
         rw [eg] at hno
         obtain ⟨bv, offv, -, ev, v0, v1, v2, v3, v4, v5⟩ := ClR.at_ s1 hjl1
         subst ev
         obtain ⟨bx, offx, -, ex, x0, x1, x2, x3, x4, x5⟩ := ClR.at_ t1 hjl2
         subst ex
         have r0 : (0 : Int) ≤ r := by omega
         have r1 : (r : Int) < f.cols.length := by omega
         have r2 : (r : Int) < s[j].key.length := by omega
         have r3 : (0 : Int) ≤ u1 := by omega
         have r4 : (u1 : Int) < s[k].cols.length := by omega
         have r5 : (0 : Int) ≤ u2 := by omega
         have r6 : (u2 : Int) < s[j].cols.length := by omega
         clear eg hu1 hu2 hi1 hi2
         cases hc : (s[k].cols[u1].kind == s[j].cols[u2].kind)
         ·have HF := Lib.hid (HNO3.out (by rw [HLD.out, HE.out]; exact hno hc))
          have hc2 : (s[k].cols[u1].kind != s[j].cols[u2].kind) = true := by rw [bne, hc]; rfl
          clear hsn hno hall
          go_wp2_with fail
          go_quiet (fail)
          go_wp2_with fail
          go_ret
          exact ⟨retB HF.out.symm, below_drewN hb _⟩
         ·have HA := Lib.hid (hsn.trans hc)
          have hc2 : (s[k].cols[u1].kind != s[j].cols[u2].kind) = false := by rw [bne, hc]; rfl
          clear hsn hno hall
          go_wp2_with fail
          go_quiet (fail)
          go_wp2_with fail
          go_roundw
          case rel => exact ⟨r + 1, by omega, by go_num, Lib.hid HA.out, hrf.drewN _, hfc.drewN IntR.stays _, below_drewN hb _⟩
          case measure => simp [intOf]; omega
theorem tableB_colsT {t : Tb} (h : tableB t = true) : t.cols.length ≤ 8 := by
 simp only [tableB, colsB, Bool.and_eq_true, decide_eq_true_eq] at h
 exact h.2.1.2.1
theorem specL2ExprE (A : Option Addr) (n cap : Nat) (ts : List Tk) (cols : Int) (w : World) (h : Toks w A n ts) (hn : n ≤ maxLen) (h0 : 0 ≤ cols) (h16 : cols ≤ 16) :
  Calls Tryz.prog 46 #[.slice A n cap, .int .i64 cols] w fun e w' => e = .returned (.bool (exprB ts cols)) ∧ Below w.heap.size w w' :=
 (specL2Expr A n cap ts cols w h hn h0 h16).mono fun e w' hq => ⟨by
  rw [hq.1]; exact retB (by simp only [exprB, l2B, h0, h16, decide_true, Bool.true_and]; exact Bool.and_comm _ _), hq.2⟩
set_option maxRecDepth 100000 in
set_option maxHeartbeats 4000000 in
theorem specOne (AS : Option Addr) (nS cS : Nat) (s : List Tb) (A2 : Option Addr) (n2 c2 : Nat) (A4 : Option Addr) (n4 c4 : Nat) (t : Tg) (ok okt : Nat → Prop) (w : World)
  (hs : Sl TbR 6 ok w AS nS s) (hsz : szL Tb.sz s ≤ 1048576) (hS : schemaB s = true) (ht : t.szN ≤ 1048576)
  (h2 : Sl TkR 5 okt w A2 n2 t.wher) (h4 : Sl TeR 1 okt w A4 n4 t.terms) :
  Calls Tryz.prog 25 #[.slice AS nS cS, .agg #[.string t.table, .int .i64 t.event, .slice A2 n2 c2, .string t.into, .slice A4 n4 c4]] w fun e w' => e = .returned (.bool (trigB s t)) ∧ Below w.heap.size w w' := by
 obtain rfl : s.length = nS := hs.1
 obtain rfl : t.wher.length = n2 := h2.1
 obtain rfl : t.terms.length = n4 := h4.1
 have hn : s.length ≤ 1048576 := by unfold szL at hsz; omega
 have hnw : t.wher.length ≤ 1048576 := by unfold Tg.szN szL at ht; omega
 have hnt : t.terms.length ≤ 1048576 := by unfold Tg.szN szL at ht; omega
 have HTE := Lib.hid (fun (k : Nat) (hk : k < t.terms.length) => show (t.terms[k]).expr.length ≤ maxLen by
  have e : szL (fun _ : Tk => 0) (t.terms[k]).expr ≤ szL Te.szN t.terms := szL_mem Te.szN t.terms t.terms[k] (List.getElem_mem hk)
  have e2 : (t.terms[k]).expr.length ≤ szL (fun _ : Tk => 0) (t.terms[k]).expr := by unfold szL; omega
  unfold Tg.szN at ht
  unfold maxLen
  omega)
 have HCL := Lib.hid (fun k (hlt : k < s.length) => show s[k].cols.length ≤ 8 from tableB_colsT (List.all_eq_true.1 (by unfold schemaB at hS; simp only [Bool.and_eq_true] at hS; exact hS.2.1) _ (List.getElem_mem hlt)))
 have HH4 := Lib.hid h4
 have HH2 := Lib.hid h2
 clear hsz ht hS
 have hb0 := (Below.refl w.heap.size w).alloc (Nat.le_refl _) (.cells #[.string t.table, .int .i64 t.event, .slice A2 t.wher.length c2, .string t.into, .slice A4 t.terms.length c4] 36)
 have r0 := Row.new w 36 #[.string t.table, .int .i64 t.event, .slice A2 t.wher.length c2, .string t.into, .slice A4 t.terms.length c4]
 obtain ⟨⟨d0, d1, d2, d3, d4⟩, -⟩ := r0.five
 have HS0 := Lib.hid (hs.below TbR.stays hb0)
 go_enter Tryz.func25, Tryz.ntmps25
 go_wp2_with fail
 refine (specL3At AS s.length cS s t.table ok _ HS0.out hn).mono ?_
 rintro e w1 ⟨rfl, hq1⟩
 have hb1 := hb0.trans (hq1.mono hb0.size)
 have r1 := r0.below hq1
 clear d0 d1 d2 d3 d4 HS0 r0
 obtain ⟨⟨d0, d1, d2, d3, d4⟩, -⟩ := r1.five
 go_wp2_with fail
 refine (specL3At AS s.length cS s t.into ok _ (hs.below TbR.stays hb1) hn).mono ?_
 rintro e w2 ⟨rfl, hq2⟩
 have hb2 := hb1.trans (hq2.mono hb1.size)
 have r2 := r1.below hq2
 clear d0 d1 d2 d3 d4 r1
 obtain ⟨⟨d0, d1, d2, d3, d4⟩, -⟩ := r2.five
 have hs2 := hs.below TbR.stays hb2
 have g2 := h2.below TkR.stays hb2
 have hbo := hb0
 clear hs h2 h4 hq1 hq2 hb1 hb0
 by_cases e0 : atN (s.map Tb.name) t.table = -1
 ·have HF := Lib.hid (show trigB s t = false by unfold trigB; rw [e0]; rfl)
  rw [e0]
  clear e0
  go_wp2_with fail
  go_quiet (fail)
  go_wp2_with fail
  go_ret
  first | exact ⟨retB HF.out.symm, below_dN hb2 _⟩ | exact ⟨retB HF.out.symm, hb2⟩
 obtain ⟨m, hm, hml⟩ : ∃ m : Nat, atN (s.map Tb.name) t.table = m ∧ m < s.length := by
  rcases atN_rng (s.map Tb.name) t.table with h | h
  ·exact absurd h e0
  ·rw [List.length_map] at h
   exact ⟨(atN (s.map Tb.name) t.table).toNat, by omega, by omega⟩
 have zm : decide ((m : Int) < 0) = false := decide_eq_false (by omega)
 by_cases e1 : atN (s.map Tb.name) t.into = -1
 ·have HF := Lib.hid (show trigB s t = false by unfold trigB; rw [e1]; simp)
  rw [e1, hm]
  clear e0 e1 hm
  go_wp2_with fail
  go_quiet (fail)
  go_wp2_with fail
  go_ret
  first | exact ⟨retB HF.out.symm, below_dN hb2 _⟩ | exact ⟨retB HF.out.symm, hb2⟩
 obtain ⟨q, hq, hql⟩ : ∃ q : Nat, atN (s.map Tb.name) t.into = q ∧ q < s.length := by
  rcases atN_rng (s.map Tb.name) t.into with h | h
  ·exact absurd h e1
  ·rw [List.length_map] at h
   exact ⟨(atN (s.map Tb.name) t.into).toNat, by omega, by omega⟩
 have zq : decide ((q : Int) < 0) = false := decide_eq_false (by omega)
 clear e0 e1
 rw [hm, hq]
 cases hev : eventB t.event
 ·have HF := Lib.hid (show trigB s t = false by unfold trigB; rw [hev]; simp)
  have HE := Lib.hid hev
  clear hev hm hq
  go_wp2_with fail
  go_quiet ((go_at_call 21; exact Calls.quiet_of_same (specInV HE.out _)))
  go_wp2_with fail
  go_ret
  first | exact ⟨retB HF.out.symm, below_dN hb2 _⟩ | exact ⟨retB HF.out.symm, hb2⟩
 have HE := Lib.hid hev
 have HB := Lib.hid (show trigB s t = (decide (t.terms.length = s[q].cols.length) && ((decide (t.wher.length = 0) || exprB t.wher (2 * (s[m].cols.length : Int))) && t.terms.all (fun y => exprB y.expr (2 * (s[m].cols.length : Int))))) by
  unfold trigB trigE
  rw [hm, hq, hev, widthAt_of hm hml, widthAt_of hq hql, decide_eq_false (show ¬ (m : Int) = -1 by omega), decide_eq_false (show ¬ (q : Int) = -1 by omega), Int.natCast_mul]; rfl)
 clear hev hm hq
 obtain ⟨gb, go, D1, m1, x1, D2, m2, x2, D3, m3, x3, D4, m4, x4, D5, m5, x5, -, ea, q0, q1, q2, q3, q4, q5, s1, -, -, -, -, -⟩ := TbR.at_ hs2 hml
 subst ea
 obtain ⟨gb', go', E1, f1, k1, E2, f2, k2, E3, f3, k3, E4, f4, k4, E5, f5, k5, -, ea', v0, v1, v2, v3, v4, v5, p1, -, -, -, -, -⟩ := TbR.at_ hs2 hql
 obtain ⟨rfl, rfl⟩ : gb = gb' ∧ go = go' := by simpa using ea'
 obtain rfl : s[m].cols.length = m1 := s1.1
 obtain rfl : s[q].cols.length = f1 := p1.1
 clear ea' q0 q2 q3 q4 q5 v0 v2 v3 v4 v5 s1 p1 hs2
 have i0 : (0 : Int) ≤ m := by omega
 have i1 : (m : Int) < s.length := by omega
 have j0 : (0 : Int) ≤ q := by omega
 have j1 : (q : Int) < s.length := by omega
 have hc0 := HCL.out m hml
 have hc1 := HCL.out q hql
 by_cases hl : t.terms.length = s[q].cols.length
 case neg =>
  have HF := Lib.hid (show trigB s t = false by rw [HB.out, decide_eq_false hl]; rfl)
  have zl : ((t.terms.length : Int) == s[q].cols.length) = false := beq_eq_false_iff_ne.2 (by omega)
  clear hl
  go_wp2_with fail
  go_quiet ((go_at_call 21; exact Calls.quiet_of_same (specInV HE.out _)))
  go_wp2_with fail
  go_ret
  first | exact ⟨retB HF.out.symm, below_dN hb2 _⟩ | exact ⟨retB HF.out.symm, hb2⟩
 have zl2 : ((t.terms.length : Int) != s[q].cols.length) = false := by rw [hl]; simp
 have zl : ((t.terms.length : Int) == s[q].cols.length) = true := by rw [hl]; exact beq_self_eq_true _
 have HB2 := Lib.hid (show trigB s t = ((decide (t.wher.length = 0) || exprB t.wher (2 * (s[m].cols.length : Int))) && t.terms.all (fun y => exprB y.expr (2 * (s[m].cols.length : Int)))) by rw [HB.out, decide_eq_true hl]; rfl)
 clear hl
 go_wp2_with fail
 go_quiet ((go_at_call 21; exact Calls.quiet_of_same (specInV HE.out _)))
 (try rw [zl2])
 have q1' := below_keep (below_dN (Below.refl w2.heap.size w2) nq) _ _ q1
 have r3 := r2.below (below_dN (Below.refl w2.heap.size w2) nq)
 have hb3 := below_dN hb2 nq
 clear d0 d1 d2 d3 d4 r2
 obtain ⟨⟨d0, d1, d2, d3, d4⟩, -⟩ := r3.five
 go_wp2_with fail
 generalize w2.drewN nq = wz at *
 have HR := Lib.hid r3
 clear r3 d0 d1 d2 d3 d4 q1 q1' v1 g2
 go_loopw [8] (fun iv wr => ∃ k : Nat, k ≤ t.terms.length ∧ iv = .int .i64 k ∧ Hid ((t.terms.take k).all (fun y => exprB y.expr (2 * (s[m].cols.length : Int))) = true) ∧ Below w.heap.size w wr ∧ Row wr w.heap.size 36 #[.string t.table, .int .i64 t.event, .slice A2 t.wher.length c2, .string t.into, .slice A4 t.terms.length c4]) (fun iv _ => t.terms.length - (intOf iv).toNat)
 case atStart => exact ⟨0, by omega, rfl, Lib.hid (by simp), hb3, HR.out⟩
 case round =>
  obtain ⟨k, hk, rfl, hall, hb, r4⟩ := hrel
  obtain ⟨⟨d0, d1, d2, d3, d4⟩, -⟩ := r4.five
  by_cases hlt : k < t.terms.length
  ·obtain ⟨bt, ot, AE, nE, cE, -, rfl, u0, hx, -⟩ := TeR.at_ (HH4.out.below TeR.stays hb) hlt
   obtain rfl : t.terms[k].expr.length = nE := hx.1
   have a0 : (0 : Int) ≤ k := by omega
   have a1 : (k : Int) < t.terms.length := by omega
   have HXE := Lib.hid (specL2ExprE AE t.terms[k].expr.length cE t.terms[k].expr (2 * (s[m].cols.length : Int)) wr (Sl.cellz (fun _ => rfl) hx) (HTE.out k hlt) (by omega) (by omega))
   have hst := all_take (fun y : Te => exprB y.expr (2 * (s[m].cols.length : Int))) t.terms k hlt
   rw [hall.out, Bool.true_and] at hst
   clear hx
   cases he : exprB t.terms[k].expr (2 * (s[m].cols.length : Int))
   ·have HF := Lib.hid (show trigB s t = false by rw [HB2.out, all_no (fun y : Te => exprB y.expr (2 * (s[m].cols.length : Int))) t.terms k hlt he]; simp)
    have HEE := Lib.hid he
    clear hst he
    go_wp2_with fail
    refine HXE.out.mono ?_
    rintro e w3 ⟨rfl, hq3⟩
    rw [HEE.out]
    go_wp2_with fail
    go_ret
    exact ⟨retB HF.out.symm, hb.trans (hq3.mono hb.size)⟩
   ·have HA := Lib.hid (show (t.terms.take (k + 1)).all (fun y => exprB y.expr (2 * (s[m].cols.length : Int))) = true by rw [hst]; exact he)
    have HEE := Lib.hid he
    clear hst he
    go_wp2_with fail
    refine HXE.out.mono ?_
    rintro e w3 ⟨rfl, hq3⟩
    rw [HEE.out]
    go_wp2_with fail
    go_roundw
    case rel => exact ⟨k + 1, by omega, by go_num, HA, hb.trans (hq3.mono hb.size), r4.below hq3⟩
    case measure => simp [intOf]; omega
  ·obtain rfl : k = t.terms.length := by omega
   have h1 := hall.out
   rw [List.take_of_length_le (Nat.le_refl _)] at h1
   have HB3 := Lib.hid (show trigB s t = (decide (t.wher.length = 0) || exprB t.wher (2 * (s[m].cols.length : Int))) by rw [HB2.out, h1, Bool.and_true])
   clear hall h1
   by_cases hwl : t.wher.length = 0
   ·have HF := Lib.hid (show trigB s t = true by rw [HB3.out, decide_eq_true hwl]; rfl)
    have zw : ((t.wher.length : Int) == 0) = true := by rw [hwl]; rfl
    go_wp2_with fail
    go_ret
    exact ⟨retB HF.out.symm, hb⟩
   ·have HF := Lib.hid (show trigB s t = exprB t.wher (2 * (s[m].cols.length : Int)) by rw [HB3.out, decide_eq_false hwl]; rfl)
    have zw : ((t.wher.length : Int) == 0) = false := beq_eq_false_iff_ne.2 (by omega)
    go_wp2_with fail
    refine (specL2ExprE A2 t.wher.length c2 t.wher (2 * (s[m].cols.length : Int)) wr (Sl.cellz (fun _ => rfl) (HH2.out.below TkR.stays hb)) (by unfold maxLen; omega) (by omega) (by omega)).mono ?_
    rintro e w3 ⟨rfl, hq3⟩
    rw [← HF.out]
    go_wp2_with fail
    go_ret
    exact ⟨rfl, hb.trans (hq3.mono hb.size)⟩
set_option maxRecDepth 100000 in
set_option maxHeartbeats 4000000 in
theorem implTriggersOk (AS AL : Option Addr) (nS cS nL cL : Nat) (s : List Tb) (l : List Tg) (ok okl : Nat → Prop) (w : World)
  (hs : Sl TbR 6 ok w AS nS s) (hl : Sl TgR 5 okl w AL nL l) (hsz : szL Tb.sz s ≤ 1048576) (hlz : szL Tg.szN l ≤ 1048576) :
  Calls Tryz.prog 17 #[.slice AS nS cS, .slice AL nL cL] w fun e w' => e = .returned (.bool (triggersB s l)) ∧ Below w.heap.size w w' := by
 obtain rfl : l.length = nL := hl.1
 have hn : l.length ≤ 1048576 := by unfold szL at hlz; omega
 have HLZ := Lib.hid (fun (k : Nat) (hk : k < l.length) => show (l[k]).szN ≤ 1048576 from Nat.le_trans (szL_mem Tg.szN l l[k] (List.getElem_mem hk)) hlz)
 have HSZ := Lib.hid hsz
 have HL := Lib.hid hl
 have HS := Lib.hid hs
 clear hlz hsz hl
 cases hS : schemaB s
 ·have HF := Lib.hid (show triggersB s l = false by unfold triggersB; rw [hS]; rfl)
  have HE := Lib.hid hS
  clear hS
  go_enter Tryz.func17, Tryz.ntmps17
  go_wp2_with fail
  refine (implSchemaOk AS nS cS s ok w hs HSZ.out).mono ?_
  rintro e w1 ⟨rfl, hq1⟩
  rw [HE.out]
  go_wp2_with fail
  go_ret
  exact ⟨retB HF.out.symm, hq1⟩
 have HE := Lib.hid hS
 by_cases h6 : l.length ≤ 6
 case neg =>
  have HF := Lib.hid (show triggersB s l = false by unfold triggersB; rw [decide_eq_false h6]; simp)
  have z6 : decide ((6 : Int) < l.length) = true := decide_eq_true (by omega)
  clear hS
  go_enter Tryz.func17, Tryz.ntmps17
  go_wp2_with fail
  refine (implSchemaOk AS nS cS s ok w hs HSZ.out).mono ?_
  rintro e w1 ⟨rfl, hq1⟩
  rw [HE.out]
  go_wp2_with fail
  go_ret
  exact ⟨retB HF.out.symm, hq1⟩
 have z6 : decide ((6 : Int) < l.length) = false := decide_eq_false (by omega)
 have HB := Lib.hid (show triggersB s l = l.all (trigB s) by unfold triggersB; rw [hS, decide_eq_true h6]; rfl)
 clear hS
 go_enter Tryz.func17, Tryz.ntmps17
 go_wp2_with fail
 refine (implSchemaOk AS nS cS s ok w hs HSZ.out).mono ?_
 rintro e w1 ⟨rfl, hq1⟩
 rw [HE.out]
 go_wp2_with fail
 clear hs
 go_loopw [16] (fun iv wr => ∃ k : Nat, k ≤ l.length ∧ iv = .int .i64 k ∧ Hid ((l.take k).all (trigB s) = true) ∧ Below w.heap.size w wr) (fun iv _ => l.length - (intOf iv).toNat)
 case atStart => exact ⟨0, by omega, rfl, Lib.hid (by simp), hq1⟩
 case round =>
  clear hq1
  obtain ⟨k, hk, rfl, hall, hb⟩ := hrel
  by_cases hlt : k < l.length
  ·obtain ⟨bt, ot, A2, n2, c2, A4, n4, c4, -, rfl, y0, y1, y2, y3, y4, g2, g4, -, -⟩ := TgR.at_ (HL.out.below TgR.stays hb) hlt
   have i0 : (0 : Int) ≤ k := by omega
   have i1 : (k : Int) < l.length := by omega
   have HX := Lib.hid (implTriggerOk AS nS cS s bt (ot + k * 5) A2 n2 c2 A4 n4 c4 l[k] _ _ wr (HS.out.below TbR.stays hb) HSZ.out (HLZ.out k hlt) y0 y1 y2 y3 y4 g2 g4)
   have hst := all_take (trigB s) l k hlt
   rw [hall.out, Bool.true_and] at hst
   clear g2 g4 y0 y1 y2 y3 y4
   cases he : trigB s l[k]
   ·have HF := Lib.hid (show triggersB s l = false by rw [HB.out, all_no (trigB s) l k hlt he])
    have HEE := Lib.hid he
    clear hst he
    go_wp2_with fail
    refine HX.out.mono ?_
    rintro e w3 ⟨rfl, hq3⟩
    rw [HEE.out]
    go_wp2_with fail
    go_ret
    exact ⟨retB HF.out.symm, hb.trans (hq3.mono hb.size)⟩
   ·have HA := Lib.hid (show (l.take (k + 1)).all (trigB s) = true by rw [hst]; exact he)
    have HEE := Lib.hid he
    clear hst he
    go_wp2_with fail
    refine HX.out.mono ?_
    rintro e w3 ⟨rfl, hq3⟩
    rw [HEE.out]
    go_wp2_with fail
    go_roundw
    case rel => exact ⟨k + 1, by omega, by go_num, HA, hb.trans (hq3.mono hb.size)⟩
    case measure => simp [intOf]; omega
  ·obtain rfl : k = l.length := by omega
   have h1 := hall.out
   rw [List.take_of_length_le (Nat.le_refl _)] at h1
   have HF := Lib.hid (show triggersB s l = true by rw [HB.out]; exact h1)
   clear hall h1
   go_wp2_with fail
   go_ret
   exact ⟨retB HF.out.symm, hb⟩
set_option maxRecDepth 100000 in
set_option maxHeartbeats 4000000 in
theorem specTriggersOk (AS AL : Option Addr) (nS cS nL cL : Nat) (s : List Tb) (l : List Tg) (ok okl : Nat → Prop) (w : World)
  (hs : Sl TbR 6 ok w AS nS s) (hl : Sl TgR 5 okl w AL nL l) (hcp : nS ≤ cS) (hsz : szL Tb.sz s ≤ 1048576) (hlz : szL Tg.szN l ≤ 1048576) :
  Calls Tryz.prog 9 #[.slice AS nS cS, .slice AL nL cL] w fun e w' => e = .returned (.bool (triggersB s l)) ∧ Below w.heap.size w w' := by
 obtain rfl : l.length = nL := hl.1
 have hn : l.length ≤ 1048576 := by unfold szL at hlz; omega
 have HLZ := Lib.hid (fun (k : Nat) (hk : k < l.length) => show (l[k]).szN ≤ 1048576 from Nat.le_trans (szL_mem Tg.szN l l[k] (List.getElem_mem hk)) hlz)
 have HSZ := Lib.hid hsz
 have HL := Lib.hid hl
 have HS := Lib.hid hs
 clear hlz hsz hl
 cases hS : schemaB s
 ·have HF := Lib.hid (show triggersB s l = false by unfold triggersB; rw [hS]; rfl)
  have HE := Lib.hid hS
  clear hS
  go_enter Tryz.func9, Tryz.ntmps9
  go_wp2_with fail
  go_loopw [5] (fun iv wr => iv = .int .i64 0 ∧ Below w.heap.size w wr) (fun iv _ => 0)
  case atStart => exact ⟨rfl, Below.refl _ _⟩
  case round =>
   obtain ⟨rfl, hb⟩ := hrel
   go_wp2_with fail
   refine (specSchemaOk AS nS cS s ok _ (HS.out.below TbR.stays hb) hcp HSZ.out).mono ?_
   rintro e w1 ⟨rfl, hq1⟩
   rw [HE.out]
   go_wp2_with fail
   refine (specSchemaOk AS nS cS s ok _ (HS.out.below TbR.stays (hb.trans (hq1.mono hb.size))) hcp HSZ.out).mono ?_
   rintro e w2 ⟨rfl, hq2⟩
   rw [HE.out]
   go_wp2_with fail
   go_ret
   exact ⟨retB HF.out.symm, (hb.trans (hq1.mono hb.size)).trans (hq2.mono (hb.trans (hq1.mono hb.size)).size)⟩
 have HE := Lib.hid hS
 have HB := Lib.hid (show triggersB s l = (decide (l.length ≤ 6) && l.all (trigB s)) by unfold triggersB; rw [hS]; rfl)
 clear hS
 go_enter Tryz.func9, Tryz.ntmps9
 go_wp2_with fail
 clear hs
 go_loopw [5] (fun iv wr => ∃ k : Nat, k ≤ l.length ∧ iv = .int .i64 k ∧ Hid ((l.take k).all (trigB s) = true) ∧ Below w.heap.size w wr) (fun iv _ => l.length - (intOf iv).toNat)
 case atStart => exact ⟨0, by omega, rfl, Lib.hid (by simp), Below.refl _ _⟩
 case round =>
  obtain ⟨k, hk, rfl, hall, hb⟩ := hrel
  by_cases hlt : k < l.length
  ·have i0 : (0 : Int) ≤ k := by omega
   have i1 : (k : Int) < l.length := by omega
   go_wp2_with fail
   refine (specSchemaOk AS nS cS s ok _ (HS.out.below TbR.stays hb) hcp HSZ.out).mono ?_
   rintro e w1 ⟨rfl, hq1⟩
   rw [HE.out]
   have hb1 := hb.trans (hq1.mono hb.size)
   obtain ⟨bt, ot, A2, n2, c2, A4, n4, c4, -, rfl, y0, y1, y2, y3, y4, g2, g4, -, -⟩ := TgR.at_ (HL.out.below TgR.stays hb1) hlt
   have HX := Lib.hid (specOne AS nS cS s A2 n2 c2 A4 n4 c4 l[k] _ _ w1 (HS.out.below TbR.stays hb1) HSZ.out HE.out (HLZ.out k hlt) g2 g4)
   have hst := all_take (trigB s) l k hlt
   rw [hall.out, Bool.true_and] at hst
   clear g2 g4
   cases he : trigB s l[k]
   ·have HF := Lib.hid (show triggersB s l = false by rw [HB.out, all_no (trigB s) l k hlt he]; simp)
    have HEE := Lib.hid he
    clear hst he
    go_wp2_with fail
    refine HX.out.mono ?_
    rintro e w3 ⟨rfl, hq3⟩
    rw [HEE.out]
    go_wp2_with fail
    go_ret
    exact ⟨retB HF.out.symm, hb1.trans (hq3.mono hb1.size)⟩
   ·have HA := Lib.hid (show (l.take (k + 1)).all (trigB s) = true by rw [hst]; exact he)
    have HEE := Lib.hid he
    clear hst he
    go_wp2_with fail
    refine HX.out.mono ?_
    rintro e w3 ⟨rfl, hq3⟩
    rw [HEE.out]
    go_wp2_with fail
    go_roundw
    case rel => exact ⟨k + 1, by omega, by go_num, HA, hb1.trans (hq3.mono hb1.size)⟩
    case measure => simp [intOf]; omega
  ·obtain rfl : k = l.length := by omega
   have h1 := hall.out
   rw [List.take_of_length_le (Nat.le_refl _)] at h1
   have HF := Lib.hid (show triggersB s l = decide (l.length ≤ 6) by rw [HB.out, h1, Bool.and_true])
   clear hall h1
   go_wp2_with fail
   refine (specSchemaOk AS nS cS s ok _ (HS.out.below TbR.stays hb) hcp HSZ.out).mono ?_
   rintro e w1 ⟨rfl, hq1⟩
   rw [HE.out]
   have hb1 := hb.trans (hq1.mono hb.size)
   go_wp2_with fail
   refine (specSchemaOk AS nS cS s ok _ (HS.out.below TbR.stays hb1) hcp HSZ.out).mono ?_
   rintro e w2 ⟨rfl, hq2⟩
   rw [HE.out]
   by_cases h6 : l.length ≤ 6
   ·have z6 : decide ((l.length : Int) ≤ 6) = true := decide_eq_true (by omega)
    have HF2 := Lib.hid (show triggersB s l = true by rw [HF.out, decide_eq_true h6])
    go_wp2_with fail
    go_ret
    exact ⟨retB HF2.out.symm, hb1.trans (hq2.mono hb1.size)⟩
   ·have z6 : decide ((l.length : Int) ≤ 6) = false := decide_eq_false (by omega)
    have HF2 := Lib.hid (show triggersB s l = false by rw [HF.out, decide_eq_false h6])
    go_wp2_with fail
    go_ret
    exact ⟨retB HF2.out.symm, hb1.trans (hq2.mono hb1.size)⟩
end Go.Proofs.YteiifabdbkpkiaaGreat
namespace Go.Proofs.YteiifabdbkpkiaaGreat
open Go.RowKit Go.Maps Go.Shelf
attribute [local go_sem] Oper.semAt_some
theorem TeR.lows : Lows TeR := fun _ _ _ _ ⟨A0, n0, c0, e, h0, hcp⟩ => ⟨A0, n0, c0, e, h0.lows (FlatR.lows _) (by omega), hcp⟩
theorem TgR.lows : Lows TgR := fun _ _ _ _ ⟨A2, n2, c2, A4, n4, c4, e, h2, h4, hcp⟩ => ⟨A2, n2, c2, A4, n4, c4, e, h2.lows (FlatR.lows _) (by omega), h4.lows TeR.lows (by omega), hcp⟩
theorem ownFrom_rowI {β : Type} (B b : Nat) (T : TypeId) (cs : Array Value) : OwnFrom B (fun (_ : β) W => Row W b T cs) := fun _ X Y row hs hg hr =>
 (hg.block b (lt_of_block hs) (fun e => by
  obtain ⟨o, ho, hc⟩ := (hr b e.symm).2
  unfold Row at hs
  rw [hs] at ho; cases ho; cases hc)).trans hs
theorem ownFrom_ownI {β : Type} (B base : Nat) (v : Value) (xs : List Int) : OwnFrom B (fun (_ : β) W => OwnI W base v xs) := fun s X Y row hs hg hr => by
 refine ⟨hs.1, ?_⟩
 rcases hs.2 with h | ⟨g, cap, cur, rfl, h1, h2, h3⟩
 ·exact .inl h
 ·exact .inr ⟨g, cap, cur, rfl, h1, ownFrom_rowI (β := β) B g _ cur s X Y row h2 hg hr, h3⟩
theorem grownBy_setI (W : World) (b i : Nat) (v : Value) : W.grownBy (W.setCell ⟨b, i, none⟩ v) (some b) :=
 ⟨rfl, rfl, rfl, by simp [World.setCell], fun k hk hne => Below.heap_setCell W _ v k (fun e => hne (by rw [e]))⟩
theorem ownI_cells {W : World} {v : Value} {base : Nat} {xs : List Int} (h : OwnI W base v xs) : ∀ k, v.ownBlock = some k → base ≤ k ∧ ∃ cs fr T, (T = 29 ∨ T = 2) ∧ W.heap[k]? = some (.cells cs T fr) := by
 intro k hk
 rcases h.2 with ⟨rfl, -⟩ | ⟨g, cap, cur, rfl, h1, h2, -⟩
 ·cases hk
 ·have e : g = k := by simpa [Value.ownBlock] using hk
  subst e
  exact ⟨h1, cur, (0, 0), _, .inr rfl, h2⟩
theorem ownI_grown {W W' : World} {v : Value} {base : Nat} {xs : List Int} {row : Option Nat} (h : OwnI W base v xs) (hg : W.grownBy W' row) (hne : ∀ k, v.ownBlock = some k → row ≠ some k) : OwnI W' base v xs := by
 refine ⟨h.1, ?_⟩
 rcases h.2 with h | ⟨g, cap, cur, rfl, h1, h2, h3⟩
 ·exact .inl h
 ·exact .inr ⟨g, cap, cur, rfl, h1, (hg.block g (lt_of_block h2) (fun e => hne g rfl e.symm)).trans h2, h3⟩
theorem ownI_put {W : World} {D base : Nat} {v : Value} {xs : List Int} {o : Obj} (o' : Obj) (h : OwnI W base v xs) (hD : W.heap[D]? = some o) (hc : o.isCells = false) : OwnI (W.putObj D o') base v xs := by
 refine ⟨h.1, ?_⟩
 rcases h.2 with h | ⟨g, cap, cur, rfl, h1, h2, h3⟩
 ·exact .inl h
 ·exact .inr ⟨g, cap, cur, rfl, h1, (World.putObj_heap_other (fun e => by subst e; rw [hD] at h2; cases h2; cases hc)).trans h2, h3⟩
theorem ownI_ne_row {w : World} {base : Nat} {v : Value} {xs : List Int} (h : OwnI w base v xs) {g : Nat} {T' : TypeId} {cs : Array Value} (hr : Row w g T' cs) (hne : 2 ≠ T') : ∀ k, v.ownBlock = some k → k ≠ g := by
 intro k hk e
 subst e
 rcases h.2 with ⟨rfl, -⟩ | ⟨g', cap, cur, rfl, h1, h2, -⟩
 ·cases hk
 ·have e : g' = k := by simpa [Value.ownBlock] using hk
  subst e
  have h3 : w.heap[g']? = some (.cells cs T') := hr
  rw [h3] at h2
  injection h2 with h4
  injection h4 with h5 h6
  exact hne h6.symm
theorem eachFired_seq (n n0 : Nat) (AS AL AO AN : Option Addr) (nS cS nL cL nO cO nN cN b m : Nat) (ev : Int) (s : List Tb) (l : List Tg) (old now : List Vl) (w : World)
  (H : EvIn n0 AS AL AO AN nS cS nL cL nO cO nN cN b m ev s l old now w) (hm : m < s.length) (h0c : 0 < s[m].cols.length) (hc8 : s[m].cols.length ≤ 8) (hnO : nO ≤ s[m].cols.length) (hnN : nN ≤ s[m].cols.length)
  (hs9 : s.length ≤ 1048576) (hl9 : l.length ≤ 1048576) (hX : ∀ x ∈ l, (x.table.toList == s[m].name.toList) = true → x.wher.length ≠ 0 → exprB x.wher (2 * s[m].cols.length : Nat) = true) (hWl : ∀ x ∈ l, x.wher.length ≤ 1048576) :
  SeqX Tryz.prog n 38 #[.pointer (some ⟨b, 0, none⟩), .pointer (some ⟨b + 2, 0, none⟩), .pointer (some ⟨b + 1, 0, none⟩)] (fun x : Nat => #[Value.int .i64 (x : Nat), ptrT AL x]) (KpI n0)
   (fun xs => xs = firesN s[m] ev old now l l.length) (fun pre => pre <+: firesN s[m] ev old now l l.length) l.length w := fun l0 J Jx W hW hJ hJx hY h0 =>
 eachFired1_in n l0 n0 AS AL AO AN nS cS nL cL nO cO nN cN b m ev s l old now J Jx W (H.kp (KpI.below H.n0_le hW)) hm h0c hc8 hnO hnN hs9 hl9 hX hWl hJ hJx hY h0
set_option maxRecDepth 100000 in
set_option maxHeartbeats 4000000 in
theorem implFiresOk (AS AL AO AN : Option Addr) (nS cS nL cL nO cO nN cN m : Nat) (ev : Int) (s : List Tb) (l : List Tg) (ok okl oko okn : Nat → Prop) (old now : List Vl) (w : World)
  (hS : Sl TbR 6 ok w AS nS s) (hL : Sl TgR 5 okl w AL nL l) (hsz : szL Tb.sz s ≤ 1048576) (hlz : szL Tg.szN l ≤ 1048576) (hO : Sl VlR 3 oko w AO nO old) (hN : Sl VlR 3 okn w AN nN now) (hnO : nO ≤ 1048576) (hnN : nN ≤ 1048576)
  (hT : triggersB s l = true) (hm : m < s.length) (hrO : rowIfB s[m].cols old = true) (hrN : rowIfB s[m].cols now = true) :
  Calls Tryz.prog 6 #[.slice AS nS cS, .slice AL nL cL, .int .i64 m, .int .i64 ev, .slice AO nO cO, .slice AN nN cN] w fun e w' => ∃ v, e = .returned v ∧ OwnI w' w.heap.size v (firesTo s[m] ev old now l l.length) ∧ Below w.heap.size w w' := by
 obtain rfl : s.length = nS := hS.1
 obtain rfl : l.length = nL := hL.1
 obtain rfl : old.length = nO := hO.1
 obtain rfl : now.length = nN := hN.1
 have hs9 : s.length ≤ 1048576 := by unfold szL at hsz; omega
 have hl9 : l.length ≤ 1048576 := by unfold szL at hlz; omega
 have hsch : schemaB s = true := by unfold triggersB at hT; simp only [Bool.and_eq_true] at hT; exact hT.1
 have HSC := Lib.hid (schema_tab hsch hm)
 have HX := Lib.hid (trig_expr hT hm)
 have HW := Lib.hid (show ∀ x ∈ l, x.wher.length ≤ 1048576 from fun x hx => by
  have h1 := szL_mem Tg.szN l x hx
  have h3 : x.szN = x.table.size + szL (fun _ : Tk => 0) x.wher + x.into.size + szL Te.szN x.terms := rfl
  have h2 : x.wher.length ≤ szL (fun _ : Tk => 0) x.wher := by unfold szL; omega
  omega)
 have HT := Lib.hid (implTriggersOk AS AL s.length cS l.length cL s l ok okl w hS hL hsz hlz)
 have HTB := Lib.hid hT
 have HRO := Lib.hid hrO
 have HRN := Lib.hid hrN
 have HLO := Lib.hid (rowIf_len hrO)
 have HLN := Lib.hid (rowIf_len hrN)
 have HS := Lib.hid (And.intro hS (And.intro hL (And.intro hO hN)))
 have HIN := Lib.hid (show (decide ((0 : Int) ≤ (m : Nat)) && decide (((m : Nat) : Int) < (s.length : Int))) = true by rw [decide_eq_true (by omega : (0 : Int) ≤ (m : Nat)), decide_eq_true (by omega : ((m : Nat) : Int) < (s.length : Int))]; rfl)
 obtain ⟨i0, hi, hz0, hz1, hz2⟩ := info_parts infoIntI
 have H1 := Lib.hid hi
 have H2 := Lib.hid hz0
 have H3 := Lib.hid hz1
 have H4 := Lib.hid hz2
 have m0 : (0 : Int) ≤ (m : Nat) := by omega
 have m1 : ((m : Nat) : Int) < s.length := by omega
 clear hi hz0 hz1 hz2 hT hrO hrN hL hO hN hsch
 obtain ⟨g, o, A1, n1, c1, A2, n2, c2, A3, n3, c3, A4, n4, c4, A5, n5, c5, -, rfl, x0', x1', -, -, -, -, hcols', -⟩ := TbR.at_ hS hm
 clear hS
 have HC1 := Lib.hid (And.intro x1' hcols')
 have hc1 : n1 ≤ 1048576 := by have := hcols'.1; have := HSC.out; omega
 clear x0' x1' hcols'
 refine (callsIn_wide (n := 8)).1 ?_
 refine callsIn_of_wp_marks Tryz.func6 rfl trivial ?_ rfl
 simp only [Tryz.ntmps6, List.size_toArray, List.length_cons, List.length_nil, Nat.reduceAdd, Nat.reduceSub, Array.replicate_succ, Array.replicate_zero, List.push_toArray, List.append_toArray, List.nil_append, List.cons_append]
 gi_wp2_with fail
 refine ⟨trivial, (callsIn_wide.2 HT.out).mono ?_⟩
 rintro e w1 ⟨rfl, hb1⟩
 rw [HTB.out]
 clear HT
 gi_wp2_with fail
 refine ⟨trivial, (callsIn_wide.2 (implIsPlace (m : Nat) s.length w1)).mono ?_⟩
 rintro e w1' ⟨rfl, rfl⟩
 rw [HIN.out]
 gi_wp2_with fail
 refine ⟨trivial, (callsIn_wide.2 (implFitsIf g (o + m * 6) A1 AO n1 c1 old.length cO s[m].cols old ok w1 (below_keep hb1 _ _ HC1.out.1) (HC1.out.2.below ClR.stays hb1) (Sl.cellz (fun _ => rfl) (HS.out.2.2.1.below VlR.stays hb1)) hc1 hnO)).mono ?_⟩
 rintro e w2 ⟨rfl, hb2⟩
 rw [HRO.out]
 have hb12 := hb1.trans (hb2.mono hb1.size)
 gi_wp2_with fail
 refine ⟨trivial, (callsIn_wide.2 (implFitsIf g (o + m * 6) A1 AN n1 c1 now.length cN s[m].cols now ok w2 (below_keep hb12 _ _ HC1.out.1) (HC1.out.2.below ClR.stays hb12) (Sl.cellz (fun _ => rfl) (HS.out.2.2.2.below VlR.stays hb12)) hc1 hnN)).mono ?_⟩
 rintro e w3 ⟨rfl, hb3⟩
 rw [HRN.out]
 have hb13 := hb12.trans (hb3.mono hb12.size)
 clear hb1 hb2 hb3 hb12
 have hsz0 := hb13.size
 have hbx := hb13.alloc hb13.size (.cells #[.slice none 0 0] 29)
 have r0 := Row.newAt w3 29 #[.slice none 0 0] w3.heap.size rfl
 gi_wp2_with fail
 refine ⟨trivial, (callsIn_wide.2 (implEachFired (some ⟨g, o, none⟩) AL AO AN s.length cS l.length cL old.length cO now.length cN m ev _)).mono ?_⟩
 rintro e w4 ⟨rfl, ⟨e0, e1, e2⟩, hb4⟩
 have hb5 := hbx.trans (hb4.mono hbx.size)
 have r4 := r0.below hb4
 have hsz : (w3.alloc (.cells #[.slice none 0 0] 29)).heap.size = w3.heap.size + 1 := by simp
 have hlt4 := lt_of_block e0
 rw [hsz] at e0 e1 e2 hlt4
 generalize hB0 : w3.heap.size = B0 at *
 have HE : EvIn w.heap.size (some ⟨g, o, none⟩) AL AO AN s.length cS l.length cL old.length cO now.length cN (B0 + 1) m ev s l old now w4 := ⟨by omega, e0, e1, e2, (HS.out.1.lows TbR.lows (by omega)).low TbR.stays hb5, (HS.out.2.1.lows TgR.lows (by omega)).low TgR.stays hb5, (HS.out.2.2.1.lows (FlatR.lows _) (by omega)).low VlR.stays hb5, (HS.out.2.2.2.lows (FlatR.lows _) (by omega)).low VlR.stays hb5⟩
 have HE := Lib.hid HE
 clear e0 e1 e2 r0 hbx hb4 hsz
 gi_wp2
 refine wp_rangeX (gf := 38) (lb := #[.pointer (some ⟨B0 + 1, 0, none⟩), .pointer (some ⟨B0 + 1 + 2, 0, none⟩), .pointer (some ⟨B0 + 1 + 1, 0, none⟩)]) rfl (enters_of Tryz.func38 (by kernel_rfl) rfl)
  (eachFired_seq _ w.heap.size (some ⟨g, o, none⟩) AL AO AN s.length cS l.length cL old.length cO now.length cN (B0 + 1) m ev s l old now w4 HE.out hm HSC.out.1 HSC.out.2 HLO.out HLN.out hs9 hl9 HX.out HW.out) (fun h k => h.trans k) (fun W l o o' hl h hc => KpI.put o' (by omega) h hc) (fun _ => rfl)
  (fun pre W => (∃ v, Row W B0 29 #[v] ∧ OwnI W w.heap.size v (pre.map fun (j : Nat) => (j : Int))) ∧ Below w.heap.size w W)
  (fun _ _ _ => False)
  (OwnFrom.and (fun pre X Y row hs hg hr => by
   obtain ⟨v, h1, h2⟩ := hs
   exact ⟨v, ownFrom_rowI (β := Unit) _ B0 _ _ () X Y row h1 hg hr, ownFrom_ownI (β := Unit) _ _ v _ () X Y row h2 hg hr⟩) (ownFrom_below (Nat.le_refl _) (by omega)))
  (fun _ _ _ _ _ hs _ _ => hs)
  ⟨⟨_, r4, OwnI.nil _ _⟩, hb5⟩
  (fun x a' W => ∃ (u0 u1 u2 u3 u4 u5 u6 u7 u8 u9 u10 u11 u12 u15 u16 u17 u18 u19 u20 u21 u22 u23 u24 u25 u26 u27 u28 u29 u30 u31 u32 u33 u34 u35 u36 u37 u38 u39 u40 u41 u42 u43 u44 u45 u46 u47 u48 u49 u50 u51 u52 u53 u54 u55 u56 : Value), a' = { tmps := #[u0, u1, u2, u3, u4, u5, u6, u7, u8, u9, u10, u11, u12, .pointer (some ⟨B0, 0, none⟩), .int .i64 (x : Nat), u15, u16, u17, u18, u19, u20, u21, u22, u23, u24, u25, u26, u27, u28, u29, u30, u31, u32, u33, u34, u35, u36, u37, u38, u39, u40, u41, u42, u43, u44, u45, u46, u47, u48, u49, u50, u51, u52, u53, u54, u55, u56], defers := [] })
  (fun x a' _ X Y row hs hg hr => by
   obtain ⟨u0, u1, u2, u3, u4, u5, u6, u7, u8, u9, u10, u11, u12, u15, u16, u17, u18, u19, u20, u21, u22, u23, u24, u25, u26, u27, u28, u29, u30, u31, u32, u33, u34, u35, u36, u37, u38, u39, u40, u41, u42, u43, u44, u45, u46, u47, u48, u49, u50, u51, u52, u53, u54, u55, u56, h2⟩ := hs
   exact ⟨u0, u1, u2, u3, u4, u5, u6, u7, u8, u9, u10, u11, u12, u15, u16, u17, u18, u19, u20, u21, u22, u23, u24, u25, u26, u27, u28, u29, u30, u31, u32, u33, u34, u35, u36, u37, u38, u39, u40, u41, u42, u43, u44, u45, u46, u47, u48, u49, u50, u51, u52, u53, u54, u55, u56, h2⟩)
  ?assign ?body ?done ?stop
 case assign =>
  rintro lq pre x W K ⟨⟨v, hr, ho⟩, hb⟩ hK
  gi_wp2
  exact hK _ _ ⟨Nat.le_refl _, fun _ _ _ h _ => h⟩ (KpI.refl _ _) ⟨⟨v, hr, ho⟩, hb⟩ ⟨_, _, _, _, _, _, _, _, _, _, _, _, _, _, _, _, _, _, _, _, _, _, _, _, _, _, _, _, _, _, _, _, _, _, _, _, _, _, _, _, _, _, _, _, _, _, _, _, _, _, _, _, _, _, _, rfl⟩
 case body =>
  rintro lq pre x a' W ⟨⟨v, hr, ho⟩, hb⟩ ⟨u0, u1, u2, u3, u4, u5, u6, u7, u8, u9, u10, u11, u12, u15, u16, u17, u18, u19, u20, u21, u22, u23, u24, u25, u26, u27, u28, u29, u30, u31, u32, u33, u34, u35, u36, u37, u38, u39, u40, u41, u42, u43, u44, u45, u46, u47, u48, u49, u50, u51, u52, u53, u54, u55, u56, rfl⟩ hlt
  have HO := Lib.hid ho
  have HR0 := Lib.hid hr
  have HB1 := Lib.hid hb
  have c0 := hr.cell 0
  simp only [List.getElem?_toArray, List.getElem?_cons_zero] at c0
  have hml : (pre.map fun (j : Nat) => (j : Int)).length = pre.length := List.length_map _
  have hne0 := Lib.hid (ownI_ne_row ho hr (by decide))
  have HMAP := Lib.hid (show (pre ++ [x]).map (fun (j : Nat) => (j : Int)) = pre.map (fun (j : Nat) => (j : Int)) ++ [(x : Int)] by rw [List.map_append]; rfl)
  clear ho hr hb
  generalize hpm : (pre.map fun (j : Nat) => (j : Int)) = pm at *
  clear hpm
  gi_wp2_with (gi_at_builtin; refine wpListIn_append_own _ rfl _ _ 29 rfl w.heap.size 2 i0 (.int .i64 0) 1 8 Tryz.underlying29 H1.out H2.out H3.out H4.out rfl (by decide) _ _ _ rfl (World.ownsRow.alloc HO.out _) ⟨_, 0, none⟩ 1 1 [.int .i64 (x : Nat)] rfl rfl ?c1 ?c2 ?c3 ?c4 ?c5 ?_)
  case c1 => exact cells_newAt _ [.int .i64 (x : Nat)] _ (by simp)
  case c2 => intro u hu; simp at hu; subst hu; rfl
  case c3 => unfold maxLen; omega
  case c4 => omega
  case c5 => have := HB1.out.size; simp; omega
  intro v' w5 hown3 hgrow _
  obtain ⟨g', cap', rfl⟩ := ownsRow_succ hown3
  have R := Lib.hid (OwnI.app HO.out HB1.out.size (v' := .slice (some ⟨g', 0, none⟩) (pre.length + 1) cap') (by rw [hml]; exact hown3) hgrow)
  have r5 := grown_rowK hgrow (HR0.out.alloc _) hne0.out
  have hba := (Below.refl W.heap.size W).alloc (Nat.le_refl _) (.cells #[.int .i64 (x : Nat)] 2)
  have HOa := OwnI.below HO.out hba
  have hca := ownI_cells HOa
  have hn0 := HB1.out.size
  have hk1 : KpI w.heap.size W w5 := (KpI.below hn0 hba).trans (KpI.grown (by have := hba.size; omega) hgrow hca)
  have ho1 : KeepsOthers W w5 := (KeepsOthers.alloc W (.cells #[.int .i64 (x : Nat)] 2)).trans (KeepsOthers.of_grownBy hgrow (fun j o hj ho' => by
   obtain ⟨-, cs, fr, T, -, hh⟩ := hca j hj
   rw [hh] at ho'; cases ho'; rfl))
  have hne5 := ownI_ne_row R.out.1 r5 (by decide)
  have HX5 := Lib.hid (And.intro hk1 (And.intro ho1 hne5))
  have R5 := Lib.hid r5
  have c5 := r5.cell 0
  have f5 := r5.free 0
  simp only [List.getElem?_toArray, List.getElem?_cons_zero] at c5
  clear hown3 hgrow hba HOa hca hk1 ho1 hne5 r5 c0
  gi_wp2_with fail
  have hgs := grownBy_setI w5 B0 0 (.slice (some ⟨g', 0, none⟩) (pre.length + 1) cap')
  have r6 : Row (w5.setCell ⟨B0, 0, none⟩ (.slice (some ⟨g', 0, none⟩) (pre.length + 1) cap')) B0 29 #[.slice (some ⟨g', 0, none⟩) (pre.length + 1) cap'] := by simpa using R5.out.set 0 (.slice (some ⟨g', 0, none⟩) (pre.length + 1) cap')
  have hb5 : Below w.heap.size w w5 := HB1.out.trans R.out.2
  exact ⟨((HX5.out.2.1).trans (KeepsOthers.setCell _ _ _)).from _, HX5.out.1.trans (KpI.grown (by have := hb5.size; omega) hgs (fun k hk => by cases hk; exact ⟨by omega, _, _, _, .inl rfl, R5.out⟩)),
   ⟨_, r6, by rw [HMAP.out]; exact ownI_grown R.out.1 hgs (fun k hk e => by cases e; exact HX5.out.2.2 _ hk rfl)⟩, hb5.setCell (p := ⟨B0, 0, none⟩) (by omega) _⟩
 case done =>
  rintro D xs W hD rfl ⟨⟨v, hr, ho⟩, hb⟩ hK
  obtain ⟨AO', cO', rfl, -, -, -⟩ := ho.sl
  have c0 := hr.cell 0
  simp only [List.getElem?_toArray, List.getElem?_cons_zero] at c0
  have HOP := Lib.hid (ownI_put (.deferred none) ho hK rfl)
  have HBB := Lib.hid (hb.trans ((KpI.put (n0 := w.heap.size) (.deferred none) (by omega) hK rfl).1))
  clear ho hr hb
  generalize ((firesN s[m] ev old now l l.length).map fun (j : Nat) => (j : Int)).length = nlen at *
  gi_wp2_with fail
  refine ⟨by simp, .inl ⟨_, _, rfl, run_takeDeferred hK, ?_⟩⟩
  refine ⟨.slice AO' nlen cO', ?_, _, rfl, by rw [firesTo_N]; exact HOP.out, HBB.out⟩
  simp [results, Tryz.f6, go_sem]
 case stop =>
  rintro D c pre W hD hpre h hK
  exact h.elim
end Go.Proofs.YteiifabdbkpkiaaGreat
