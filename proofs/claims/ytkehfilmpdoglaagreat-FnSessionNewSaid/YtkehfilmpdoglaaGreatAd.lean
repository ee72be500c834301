/-
  Several texts in one: what the proof leans on, part 4.
-/
import Derived.Test.YtkehfilmpdoglaaGreatAa
import Derived.Test.YtkehfilmpdoglaaGreatAc
import Derived.Test.YtkehfilmpdoglaaGreatAb
import Derived.Deep.AppendLies
import Derived.Deep.Cut
set_option linter.unusedVariables false
set_option linter.unusedSimpArgs false
namespace Go.Proofs.YtkehfilmpdoglaaGreat
open Go.RowKit Go.Maps
theorem act_in (a : Int) : actB a = (decide (0 ≤ a) && decide (a ≤ 2)) := by
 unfold actB; rw [Bool.eq_iff_iff]; simp; omega
theorem exprB_l2n {ts : List Tk} {n : Nat} (hn : n ≤ 16) : exprB ts n = l2B ts n := by
 have h0 : (0 : Int) ≤ n := by omega
 have h1 : (n : Int) ≤ 16 := by omega
 simp only [exprB, l2B, h0, h1, decide_true, Bool.true_and]
 exact Bool.and_comm _ _
theorem kind_in (k : Int) : (k == 1 || k == 2) = (decide (1 ≤ k) && decide (k ≤ 2)) := by
 rw [Bool.eq_iff_iff]; simp; omega
theorem uniqGo_at (l : List ByteArray) (k : Nat) (h : k < l.length) : uniqGo (l.take k) (l.drop k) = (decide (atN (l.take k) l[k] = -1) && uniqGo (l.take (k + 1)) (l.drop (k + 1))) := by
 rw [List.drop_eq_getElem_cons h, List.take_succ_eq_append_getElem h]; rfl
set_option maxRecDepth 100000 in
set_option maxHeartbeats 4000000 in
theorem specTableOk (x : Tb) (A1 : Option Addr) (n1 c1 : Nat) (A2 : Option Addr) (n2 c2 : Nat) (A3 : Option Addr) (n3 c3 : Nat) (A4 : Option Addr) (n4 c4 : Nat) (A5 : Option Addr) (n5 c5 : Nat) (ok : Nat → Prop) (w : World)
  (h1 : Sl ClR 6 ok w A1 n1 x.cols) (h2 : Sl IntR 1 ok w A2 n2 x.key) (h3 : Sl UqR 1 ok w A3 n3 x.uniqs) (h4 : Sl CkR 1 ok w A4 n4 x.checks) (h5 : Sl FkR 5 ok w A5 n5 x.fks) (hcp : n1 ≤ c1 ∧ n2 ≤ c2 ∧ n3 ≤ c3 ∧ n4 ≤ c4 ∧ n5 ≤ c5) (hs : x.sz ≤ 1048576) :
  Calls Tryz.prog 49 #[.agg #[.string x.name, .slice A1 n1 c1, .slice A2 n2 c2, .slice A3 n3 c3, .slice A4 n4 c4, .slice A5 n5 c5]] w fun e w' => e = .returned (.bool (tableB x)) ∧ Below w.heap.size w w' := by
 obtain rfl : x.cols.length = n1 := h1.1
 obtain rfl : x.key.length = n2 := h2.1
 have HNM := Lib.hid (show x.name.size ≤ maxLen by unfold Tb.sz at hs; unfold maxLen; omega)
 have HS1 := Lib.hid (show szL Cl.sz x.cols ≤ 1048576 by unfold Tb.sz at hs; omega)
 have HS3 := Lib.hid (show szL Uq.sz x.uniqs ≤ 1048576 by unfold Tb.sz at hs; omega)
 have HS4 := Lib.hid (show szL Ck.sz x.checks ≤ 1048576 by unfold Tb.sz at hs; omega)
 have HS5 := Lib.hid (show szL Fk.sz x.fks ≤ 1048576 by unfold Tb.sz at hs; omega)
 have hl1 : x.cols.length ≤ 1048576 := by unfold Tb.sz szL at hs; omega
 have hl2 : x.key.length ≤ 1048576 := by unfold Tb.sz at hs; omega
 obtain rfl : x.uniqs.length = n3 := h3.1
 obtain rfl : x.checks.length = n4 := h4.1
 obtain rfl : x.fks.length = n5 := h5.1
 have hl3 : x.uniqs.length ≤ 1048576 := by unfold Tb.sz szL at hs; omega
 have hl4 : x.checks.length ≤ 1048576 := by unfold Tb.sz szL at hs; omega
 have hl5 : x.fks.length ≤ 1048576 := by unfold Tb.sz szL at hs; omega
 have hcp2 := hcp.2.1
 have hcp1 := hcp.1
 clear hs hcp
 have hb0 := (Below.refl w.heap.size w).alloc (Nat.le_refl _) (.cells #[.string x.name, .slice A1 x.cols.length c1, .slice A2 x.key.length c2, .slice A3 x.uniqs.length c3, .slice A4 x.checks.length c4, .slice A5 x.fks.length c5] 57)
 have r0 := Row.new w 57 #[.string x.name, .slice A1 x.cols.length c1, .slice A2 x.key.length c2, .slice A3 x.uniqs.length c3, .slice A4 x.checks.length c4, .slice A5 x.fks.length c5]
 cases hN : nameB x.name
 ·skip
  have HN0 := Lib.hid hN
  have HF := Lib.hid (show tableB x = false by unfold tableB; rw [hN]; rfl)
  clear hN
  go_enter Tryz.func49, Tryz.ntmps49
  go_wp2_with fail
  refine (specName _ _ HNM.out).mono ?_
  rintro e w1 ⟨rfl, rfl⟩
  rw [HN0.out]
  go_wp2_with fail
  go_ret
  exact ⟨retB HF.out.symm, hb0⟩
 have HN0 := Lib.hid hN
 clear hN
 cases h8 : (decide (1 ≤ (x.cols.length : Int)) && decide ((x.cols.length : Int) ≤ 8))
 ·skip
  have H8 := Lib.hid h8
  have HF := Lib.hid (show tableB x = false by
   have : colsB x.cols = false := by
    unfold colsB
    by_cases e : 1 ≤ x.cols.length
    ·have e2 : ¬ x.cols.length ≤ 8 := by intro e3; simp [e3] at h8; omega
     rw [decide_eq_false e2]; simp
    ·rw [decide_eq_false e]; rfl
   unfold tableB; rw [this]; simp)
  clear h8
  go_enter Tryz.func49, Tryz.ntmps49
  go_wp2_with fail
  refine (specName _ _ HNM.out).mono ?_
  rintro e w1 ⟨rfl, rfl⟩
  rw [HN0.out]
  go_wp2_with fail
  refine (specIn _ _ _ _).mono ?_
  rintro e w1 ⟨rfl, rfl⟩
  rw [H8.out]
  go_wp2_with fail
  go_ret
  exact ⟨retB HF.out.symm, hb0⟩
 have H8 := Lib.hid h8
 have hlen8 : x.cols.length ≤ 8 := by simp at h8; omega
 clear h8
 cases hK : colsInB x.key x.cols.length
 ·skip
  have HK := Lib.hid hK
  have HF := Lib.hid (show tableB x = false by unfold tableB keyB; rw [hK]; simp)
  clear hK
  go_enter Tryz.func49, Tryz.ntmps49
  go_wp2_with fail
  refine (specName _ _ HNM.out).mono ?_
  rintro e w1 ⟨rfl, rfl⟩
  rw [HN0.out]
  go_wp2_with fail
  refine (specIn _ _ _ _).mono ?_
  rintro e w1 ⟨rfl, rfl⟩
  rw [H8.out]
  go_wp2_with fail
  refine (specCols A2 x.key.length c2 x.key x.cols.length ok _ (h2.below IntR.stays hb0) hcp2 hl2 (by omega) (by omega)).mono ?_
  rintro e w2 ⟨rfl, hq1⟩
  rw [HK.out]
  go_wp2_with fail
  go_ret
  exact ⟨retB HF.out.symm, hb0.trans (hq1.mono hb0.size)⟩
 have HK := Lib.hid hK
 have HIN := Lib.hid (colsInB_len hK).2
 clear hK
 by_cases hu : 3 < (x.uniqs.length : Int)
 ·skip
  have HF := Lib.hid (show tableB x = false by unfold tableB uqsB; rw [decide_eq_false (p := x.uniqs.length ≤ 3) (by have := h3.1; omega)]; simp)
  go_enter Tryz.func49, Tryz.ntmps49
  go_wp2_with fail
  refine (specName _ _ HNM.out).mono ?_
  rintro e w1 ⟨rfl, rfl⟩
  rw [HN0.out]
  go_wp2_with fail
  refine (specIn _ _ _ _).mono ?_
  rintro e w1 ⟨rfl, rfl⟩
  rw [H8.out]
  go_wp2_with fail
  refine (specCols A2 x.key.length c2 x.key x.cols.length ok _ (h2.below IntR.stays hb0) hcp2 hl2 (by omega) (by omega)).mono ?_
  rintro e w2 ⟨rfl, hq1⟩
  rw [HK.out]
  obtain ⟨⟨a0, a1, a2, a3, a4, a5⟩, -⟩ := (r0.below hq1).all6
  go_wp2_with fail
  go_ret
  exact ⟨retB HF.out.symm, hb0.trans (hq1.mono hb0.size)⟩
 have hu' : decide (3 < (x.uniqs.length : Int)) = false := by simpa using hu
 by_cases hc : 3 < (x.checks.length : Int)
 ·skip
  have HF := Lib.hid (show tableB x = false by unfold tableB cksB; rw [decide_eq_false (p := x.checks.length ≤ 3) (by have := h4.1; omega)]; simp)
  go_enter Tryz.func49, Tryz.ntmps49
  go_wp2_with fail
  refine (specName _ _ HNM.out).mono ?_
  rintro e w1 ⟨rfl, rfl⟩
  rw [HN0.out]
  go_wp2_with fail
  refine (specIn _ _ _ _).mono ?_
  rintro e w1 ⟨rfl, rfl⟩
  rw [H8.out]
  go_wp2_with fail
  refine (specCols A2 x.key.length c2 x.key x.cols.length ok _ (h2.below IntR.stays hb0) hcp2 hl2 (by omega) (by omega)).mono ?_
  rintro e w2 ⟨rfl, hq1⟩
  rw [HK.out]
  obtain ⟨⟨a0, a1, a2, a3, a4, a5⟩, -⟩ := (r0.below hq1).all6
  go_wp2_with fail
  go_ret
  exact ⟨retB HF.out.symm, hb0.trans (hq1.mono hb0.size)⟩
 have hc' : decide (3 < (x.checks.length : Int)) = false := by simpa using hc
 by_cases hf : 3 < (x.fks.length : Int)
 ·skip
  have HF := Lib.hid (show tableB x = false by unfold tableB fksB; rw [decide_eq_false (p := x.fks.length ≤ 3) (by have := h5.1; omega)]; simp)
  go_enter Tryz.func49, Tryz.ntmps49
  go_wp2_with fail
  refine (specName _ _ HNM.out).mono ?_
  rintro e w1 ⟨rfl, rfl⟩
  rw [HN0.out]
  go_wp2_with fail
  refine (specIn _ _ _ _).mono ?_
  rintro e w1 ⟨rfl, rfl⟩
  rw [H8.out]
  go_wp2_with fail
  refine (specCols A2 x.key.length c2 x.key x.cols.length ok _ (h2.below IntR.stays hb0) hcp2 hl2 (by omega) (by omega)).mono ?_
  rintro e w2 ⟨rfl, hq1⟩
  rw [HK.out]
  obtain ⟨⟨a0, a1, a2, a3, a4, a5⟩, -⟩ := (r0.below hq1).all6
  go_wp2_with fail
  go_ret
  exact ⟨retB HF.out.symm, hb0.trans (hq1.mono hb0.size)⟩
 have hf' : decide (3 < (x.fks.length : Int)) = false := by simpa using hf
 go_enter Tryz.func49, Tryz.ntmps49
 go_wp2_with fail
 refine (specName _ _ HNM.out).mono ?_
 rintro e w1 ⟨rfl, rfl⟩
 rw [HN0.out]
 go_wp2_with fail
 refine (specIn _ _ _ _).mono ?_
 rintro e w1 ⟨rfl, rfl⟩
 rw [H8.out]
 go_wp2_with fail
 refine (specCols A2 x.key.length c2 x.key x.cols.length ok _ (h2.below IntR.stays hb0) hcp2 hl2 (by omega) (by omega)).mono ?_
 rintro e w2 ⟨rfl, hq1⟩
 rw [HK.out]
 have hb1 := hb0.trans (hq1.mono hb0.size)
 have r1 := r0.below hq1
 obtain ⟨⟨a0, a1, a2, a3, a4, a5⟩, -⟩ := r1.all6
 go_wp2_with fail
 clear a0 a1 a2 a3 a4 a5 r0
 go_loopw [4] (fun i wr => ∃ k : Nat, k ≤ x.cols.length ∧ i = .int .i64 k ∧ Hid ((x.cols.take k).all colB = true) ∧ Hid (uniqGo [] (x.cols.map Cl.name) = uniqGo ((x.cols.map Cl.name).take k) ((x.cols.map Cl.name).drop k)) ∧ Row wr w.heap.size 57 #[.string x.name, .slice A1 x.cols.length c1, .slice A2 x.key.length c2, .slice A3 x.uniqs.length c3, .slice A4 x.checks.length c4, .slice A5 x.fks.length c5] ∧ Below w.heap.size w wr) (fun i _ => x.cols.length - (intOf i).toNat)
 case atStart => exact ⟨0, by omega, rfl, Lib.hid (by simp), Lib.hid (by simp), r1, hb1⟩
 case round =>
  obtain ⟨k, hk, rfl, hall, huq, hr, hb⟩ := hrel
  obtain ⟨⟨a0, a1, a2, a3, a4, a5⟩, -⟩ := hr.all6
  by_cases hlt : k < x.cols.length
  ·obtain ⟨b, off, -, rfl, q0, q1, q2, q3, q4, q5⟩ := ClR.at_ (h1.below ClR.stays hb) hlt
   have HZ := Lib.hid (cl_name_le HS1.out k hlt)
   have i0 : (0 : Int) ≤ k := by omega
   have i1 : (k : Int) < x.cols.length := by omega
   have i3 : (k : Int) ≤ c1 := by omega
   have hsl := (h1.below ClR.stays hb)
   have hsl := hsl.below ClR.stays ((Below.refl wr.heap.size wr).alloc (Nat.le_refl _) (.cells #[.string x.cols[k].name, .int .i64 x.cols[k].kind, .bool x.cols[k].nn, .int .i64 x.cols[k].d.k, .int .i64 x.cols[k].d.n, .string x.cols[k].d.s] 86))
   have hug := uniqGo_at (x.cols.map Cl.name) k (by simpa using hlt)
   rw [← huq.out, List.getElem_map, ← List.map_take] at hug
   have HNO := Lib.hid (fun hf : colB x.cols[k] = false => show tableB x = false by unfold tableB colsB; rw [all_no colB x.cols k hlt hf]; simp)
   have HDU := Lib.hid (fun hf : ¬ atN ((x.cols.take k).map Cl.name) x.cols[k].name = -1 => show tableB x = false by
    unfold tableB colsB; rw [hug, decide_eq_false hf]; simp)
   have HUN := Lib.hid (fun hf : atN ((x.cols.take k).map Cl.name) x.cols[k].name = -1 => show uniqGo [] (x.cols.map Cl.name) = uniqGo ((x.cols.map Cl.name).take (k + 1)) ((x.cols.map Cl.name).drop (k + 1)) by
    rw [hug, decide_eq_true hf, Bool.true_and])
   have HCN := Lib.hid (fun hf : colB x.cols[k] = true => show (x.cols.take (k + 1)).all colB = true by rw [all_take colB x.cols k hlt, hall.out, hf]; rfl)
   clear hug hall huq
   generalize x.cols[k] = cl at *
   have hbx := (Below.refl wr.heap.size wr).alloc (Nat.le_refl _) (.cells #[.string cl.name, .int .i64 cl.kind, .bool cl.nn, .int .i64 cl.d.k, .int .i64 cl.d.n, .string cl.d.s] 86)
   have hba := hb.trans (hbx.mono hb.size)
   have rk := Row.new wr 86 #[.string cl.name, .int .i64 cl.kind, .bool cl.nn, .int .i64 cl.d.k, .int .i64 cl.d.n, .string cl.d.s]
   have hr1 := hr.below hbx
   clear hr
   cases hn : nameB cl.name
   ·skip
    have HN := Lib.hid hn
    have HF := Lib.hid (HNO.out (by unfold colB; rw [hn]; rfl))
    clear hn
    go_wp2_with fail
    generalize wr.alloc (.cells #[.string cl.name, .int .i64 cl.kind, .bool cl.nn, .int .i64 cl.d.k, .int .i64 cl.d.n, .string cl.d.s] 86) = x1 at *
    obtain ⟨⟨k0, k1, k2, k3, k4, k5⟩, -⟩ := rk.all6
    obtain ⟨⟨t0, t1, t2, t3, t4, t5⟩, -⟩ := hr1.all6
    refine wp_region_noPanic ?_
    refine wp_region_held_drew (S := fun w' => w'.cell? ⟨wr.heap.size, 0, none⟩ = some (.string cl.name) ∧ w'.cell? ⟨wr.heap.size, 1, none⟩ = some (.int .i64 cl.kind) ∧ w'.cell? ⟨wr.heap.size, 2, none⟩ = some (.bool cl.nn) ∧ w'.cell? ⟨wr.heap.size, 3, none⟩ = some (.int .i64 cl.d.k) ∧ w'.cell? ⟨wr.heap.size, 4, none⟩ = some (.int .i64 cl.d.n) ∧ w'.cell? ⟨wr.heap.size, 5, none⟩ = some (.string cl.d.s) ∧ w'.cell? ⟨w.heap.size, 1, none⟩ = some (.slice (some ⟨b, off, none⟩) x.cols.length c1)) (by kernel_rfl) ⟨k0, k1, k2, k3, k4, k5, t1⟩ (fun hHeld => ?_)
    refine tk 0 ?_
    refine tk 1 ?_
    refine wpAnyH_ready (rs := [2]) (by kernel_rfl) (by simp) ?_
    refine AllReadyH.cons rfl (fun K hK => ?_) AllReadyH.nil
    go_simp
    refine (specName _ _ HZ.out).mono ?_
    rintro e wa ⟨rfl, rfl⟩
    rw [HN.out]
    go_wp2_with fail
    refine hK.out _ _ hHeld (fun hHeld => ?_)
    clear hK K
    (try simp only [Act.put, pz0, pz1, pz2, pz3, pz4, pz5])
    refine tk 3 ?_
    refine tk 4 ?_
    refine tu 5 ?_
    refine tu 6 ?_
    refine tu 7 ?_
    refine tu 8 ?_
    refine tu 9 ?_
    refine tu 10 ?_
    refine tu 11 ?_
    refine tu 12 ?_
    refine tu 13 ?_
    refine tk 14 ?_
    refine tk 15 ?_
    refine tu 16 ?_
    refine tu 17 ?_
    refine tu 18 ?_
    refine tu 19 ?_
    refine tk 20 ?_
    refine tk 21 ?_
    refine tu 22 ?_
    refine tu 23 ?_
    refine tu 24 ?_
    refine tu 25 ?_
    refine tk 26 ?_
    refine tk 27 ?_
    refine tu 28 ?_
    refine tu 29 ?_
    refine tu 30 ?_
    refine tu 31 ?_
    refine tu 32 ?_
    refine tu 33 ?_
    refine tu 34 ?_
    refine tu 35 ?_
    refine tu 36 ?_
    refine tu 37 ?_
    refine tu 38 ?_
    refine tu 39 ?_
    refine tk 40 ?_
    refine wpAnyH_done (by kernel_rfl) ?_ _
    refine NoPanic.normal ?_
    have hz0 := hba.drew
    have rz0 := hr1.drew
    clear hHeld k0 k1 k2 k3 k4 k5 t0 t1 t2 t3 t4 t5
    go_wp2_with fail
    go_ret
    exact ⟨retB HF.out.symm, hz0⟩
   have HN := Lib.hid hn
   by_cases hat : atN ((x.cols.take k).map Cl.name) cl.name = -1
   case neg =>
    have HF := Lib.hid (HDU.out hat)
    obtain ⟨j, hj, hj0⟩ : ∃ j : Int, j = atN ((x.cols.take k).map Cl.name) cl.name ∧ 0 ≤ j := ⟨_, rfl, by rcases atN_rng ((x.cols.take k).map Cl.name) cl.name with h | h; exact absurd h hat; exact h.1⟩
    have HJ := Lib.hid hj
    clear hat hj hn
    go_wp2_with fail
    generalize wr.alloc (.cells #[.string cl.name, .int .i64 cl.kind, .bool cl.nn, .int .i64 cl.d.k, .int .i64 cl.d.n, .string cl.d.s] 86) = x1 at *
    obtain ⟨⟨k0, k1, k2, k3, k4, k5⟩, -⟩ := rk.all6
    obtain ⟨⟨t0, t1, t2, t3, t4, t5⟩, -⟩ := hr1.all6
    refine wp_region_noPanic ?_
    refine wp_region_held_drew (S := fun w' => w'.cell? ⟨wr.heap.size, 0, none⟩ = some (.string cl.name) ∧ w'.cell? ⟨wr.heap.size, 1, none⟩ = some (.int .i64 cl.kind) ∧ w'.cell? ⟨wr.heap.size, 2, none⟩ = some (.bool cl.nn) ∧ w'.cell? ⟨wr.heap.size, 3, none⟩ = some (.int .i64 cl.d.k) ∧ w'.cell? ⟨wr.heap.size, 4, none⟩ = some (.int .i64 cl.d.n) ∧ w'.cell? ⟨wr.heap.size, 5, none⟩ = some (.string cl.d.s) ∧ w'.cell? ⟨w.heap.size, 1, none⟩ = some (.slice (some ⟨b, off, none⟩) x.cols.length c1)) (by kernel_rfl) ⟨k0, k1, k2, k3, k4, k5, t1⟩ (fun hHeld => ?_)
    refine tk 0 ?_
    refine tk 1 ?_
    refine wpAnyH_ready (rs := [2]) (by kernel_rfl) (by simp) ?_
    refine AllReadyH.cons rfl (fun K hK => ?_) AllReadyH.nil
    go_simp
    refine (specName _ _ HZ.out).mono ?_
    rintro e wa ⟨rfl, rfl⟩
    rw [HN.out]
    go_wp2_with fail
    refine hK.out _ _ hHeld (fun hHeld => ?_)
    clear hK K
    (try simp only [Act.put, pz0, pz1, pz2, pz3, pz4, pz5])
    refine tk 3 ?_
    refine tk 4 ?_
    refine tk 5 ?_
    refine tk 6 ?_
    refine tk 7 ?_
    refine tk 8 ?_
    refine tk 9 ?_
    refine tk 10 ?_
    refine tk 11 ?_
    refine wpAnyH_ready (rs := [12]) (by kernel_rfl) (by simp) ?_
    refine AllReadyH.cons rfl (fun K hK => ?_) AllReadyH.nil
    go_simp
    refine (specColAt _ k c1 _ _ _ _ _ (x.cols.take k) _ ok _ ((hsl.drew ClR.stays).take (m := k) (by omega)) (by omega)).mono ?_
    rintro e wb ⟨rfl, hqb⟩
    rw [← HJ.out]
    go_wp2_with fail
    refine hK.out _ _ ⟨below_keep hqb _ _ hHeld.1, below_keep hqb _ _ hHeld.2.1, below_keep hqb _ _ hHeld.2.2.1, below_keep hqb _ _ hHeld.2.2.2.1, below_keep hqb _ _ hHeld.2.2.2.2.1, below_keep hqb _ _ hHeld.2.2.2.2.2.1, below_keep hqb _ _ hHeld.2.2.2.2.2.2⟩ (fun hHeld => ?_)
    clear hK K
    (try simp only [Act.put, pz0, pz1, pz2, pz3, pz4, pz5])
    refine tk 13 ?_
    refine tk 14 ?_
    refine tk 15 ?_
    refine tu 16 ?_
    refine tu 17 ?_
    refine tu 18 ?_
    refine tu 19 ?_
    refine tk 20 ?_
    refine tk 21 ?_
    refine tu 22 ?_
    refine tu 23 ?_
    refine tu 24 ?_
    refine tu 25 ?_
    refine tk 26 ?_
    refine tk 27 ?_
    refine tu 28 ?_
    refine tu 29 ?_
    refine tu 30 ?_
    refine tu 31 ?_
    refine tu 32 ?_
    refine tu 33 ?_
    refine tu 34 ?_
    refine tu 35 ?_
    refine tu 36 ?_
    refine tu 37 ?_
    refine tu 38 ?_
    refine tu 39 ?_
    refine tk 40 ?_
    refine wpAnyH_done (by kernel_rfl) ?_ _
    refine NoPanic.normal ?_
    have hz0 := hba.drew
    have rz0 := hr1.drew
    have hz1 := hz0.trans (hqb.mono hz0.size)
    have rz1 := rz0.below hqb
    clear hHeld k0 k1 k2 k3 k4 k5 t0 t1 t2 t3 t4 t5
    go_wp2_with fail
    go_ret
    exact ⟨retB HF.out.symm, hz1⟩
   have HA := Lib.hid hat
   have HUQ := Lib.hid (HUN.out hat)
   clear hat
   cases hkd : (decide (1 ≤ cl.kind) && decide (cl.kind ≤ 2))
   ·skip
    have HKD := Lib.hid hkd
    have HF := Lib.hid (HNO.out (by unfold colB; rw [kind_in, hkd, Bool.false_and, Bool.and_false]))
    clear hkd hn
    go_wp2_with fail
    generalize wr.alloc (.cells #[.string cl.name, .int .i64 cl.kind, .bool cl.nn, .int .i64 cl.d.k, .int .i64 cl.d.n, .string cl.d.s] 86) = x1 at *
    obtain ⟨⟨k0, k1, k2, k3, k4, k5⟩, -⟩ := rk.all6
    obtain ⟨⟨t0, t1, t2, t3, t4, t5⟩, -⟩ := hr1.all6
    refine wp_region_noPanic ?_
    refine wp_region_held_drew (S := fun w' => w'.cell? ⟨wr.heap.size, 0, none⟩ = some (.string cl.name) ∧ w'.cell? ⟨wr.heap.size, 1, none⟩ = some (.int .i64 cl.kind) ∧ w'.cell? ⟨wr.heap.size, 2, none⟩ = some (.bool cl.nn) ∧ w'.cell? ⟨wr.heap.size, 3, none⟩ = some (.int .i64 cl.d.k) ∧ w'.cell? ⟨wr.heap.size, 4, none⟩ = some (.int .i64 cl.d.n) ∧ w'.cell? ⟨wr.heap.size, 5, none⟩ = some (.string cl.d.s) ∧ w'.cell? ⟨w.heap.size, 1, none⟩ = some (.slice (some ⟨b, off, none⟩) x.cols.length c1)) (by kernel_rfl) ⟨k0, k1, k2, k3, k4, k5, t1⟩ (fun hHeld => ?_)
    refine tk 0 ?_
    refine tk 1 ?_
    refine wpAnyH_ready (rs := [2]) (by kernel_rfl) (by simp) ?_
    refine AllReadyH.cons rfl (fun K hK => ?_) AllReadyH.nil
    go_simp
    refine (specName _ _ HZ.out).mono ?_
    rintro e wa ⟨rfl, rfl⟩
    rw [HN.out]
    go_wp2_with fail
    refine hK.out _ _ hHeld (fun hHeld => ?_)
    clear hK K
    (try simp only [Act.put, pz0, pz1, pz2, pz3, pz4, pz5])
    refine tk 3 ?_
    refine tk 4 ?_
    refine tk 5 ?_
    refine tk 6 ?_
    refine tk 7 ?_
    refine tk 8 ?_
    refine tk 9 ?_
    refine tk 10 ?_
    refine tk 11 ?_
    refine wpAnyH_ready (rs := [12]) (by kernel_rfl) (by simp) ?_
    refine AllReadyH.cons rfl (fun K hK => ?_) AllReadyH.nil
    go_simp
    refine (specColAt _ k c1 _ _ _ _ _ (x.cols.take k) _ ok _ ((hsl.drew ClR.stays).take (m := k) (by omega)) (by omega)).mono ?_
    rintro e wb ⟨rfl, hqb⟩
    rw [HA.out]
    go_wp2_with fail
    refine hK.out _ _ ⟨below_keep hqb _ _ hHeld.1, below_keep hqb _ _ hHeld.2.1, below_keep hqb _ _ hHeld.2.2.1, below_keep hqb _ _ hHeld.2.2.2.1, below_keep hqb _ _ hHeld.2.2.2.2.1, below_keep hqb _ _ hHeld.2.2.2.2.2.1, below_keep hqb _ _ hHeld.2.2.2.2.2.2⟩ (fun hHeld => ?_)
    clear hK K
    (try simp only [Act.put, pz0, pz1, pz2, pz3, pz4, pz5])
    refine tk 13 ?_
    refine tk 14 ?_
    refine tk 15 ?_
    refine tk 16 ?_
    refine tk 17 ?_
    refine wpAnyH_ready (rs := [18]) (by kernel_rfl) (by simp) ?_
    refine AllReadyH.cons rfl (fun K hK => ?_) AllReadyH.nil
    go_simp
    refine (specIn _ _ _ _).mono ?_
    rintro e wc ⟨rfl, rfl⟩
    rw [HKD.out]
    go_wp2_with fail
    refine hK.out _ _ hHeld (fun hHeld => ?_)
    clear hK K
    (try simp only [Act.put, pz0, pz1, pz2, pz3, pz4, pz5])
    refine tk 19 ?_
    refine tk 20 ?_
    refine tk 21 ?_
    refine tu 22 ?_
    refine tu 23 ?_
    refine tu 24 ?_
    refine tu 25 ?_
    refine tk 26 ?_
    refine tk 27 ?_
    refine tu 28 ?_
    refine tu 29 ?_
    refine tu 30 ?_
    refine tu 31 ?_
    refine tu 32 ?_
    refine tu 33 ?_
    refine tu 34 ?_
    refine tu 35 ?_
    refine tu 36 ?_
    refine tu 37 ?_
    refine tu 38 ?_
    refine tu 39 ?_
    refine tk 40 ?_
    refine wpAnyH_done (by kernel_rfl) ?_ _
    refine NoPanic.normal ?_
    have hz0 := hba.drew
    have rz0 := hr1.drew
    have hz1 := hz0.trans (hqb.mono hz0.size)
    have rz1 := rz0.below hqb
    clear hHeld k0 k1 k2 k3 k4 k5 t0 t1 t2 t3 t4 t5
    go_wp2_with fail
    go_ret
    exact ⟨retB HF.out.symm, hz1⟩
   have HKD := Lib.hid hkd
   cases hv : valOkB cl.d.k cl.d.n cl.d.s
   ·skip
    have HV := Lib.hid hv
    have HF := Lib.hid (HNO.out (by unfold colB fitsB; rw [hv, Bool.false_and, Bool.and_false, Bool.and_false]))
    clear hkd hn hv
    go_wp2_with fail
    generalize wr.alloc (.cells #[.string cl.name, .int .i64 cl.kind, .bool cl.nn, .int .i64 cl.d.k, .int .i64 cl.d.n, .string cl.d.s] 86) = x1 at *
    obtain ⟨⟨k0, k1, k2, k3, k4, k5⟩, -⟩ := rk.all6
    obtain ⟨⟨t0, t1, t2, t3, t4, t5⟩, -⟩ := hr1.all6
    refine wp_region_noPanic ?_
    refine wp_region_held_drew (S := fun w' => w'.cell? ⟨wr.heap.size, 0, none⟩ = some (.string cl.name) ∧ w'.cell? ⟨wr.heap.size, 1, none⟩ = some (.int .i64 cl.kind) ∧ w'.cell? ⟨wr.heap.size, 2, none⟩ = some (.bool cl.nn) ∧ w'.cell? ⟨wr.heap.size, 3, none⟩ = some (.int .i64 cl.d.k) ∧ w'.cell? ⟨wr.heap.size, 4, none⟩ = some (.int .i64 cl.d.n) ∧ w'.cell? ⟨wr.heap.size, 5, none⟩ = some (.string cl.d.s) ∧ w'.cell? ⟨w.heap.size, 1, none⟩ = some (.slice (some ⟨b, off, none⟩) x.cols.length c1)) (by kernel_rfl) ⟨k0, k1, k2, k3, k4, k5, t1⟩ (fun hHeld => ?_)
    refine tk 0 ?_
    refine tk 1 ?_
    refine wpAnyH_ready (rs := [2]) (by kernel_rfl) (by simp) ?_
    refine AllReadyH.cons rfl (fun K hK => ?_) AllReadyH.nil
    go_simp
    refine (specName _ _ HZ.out).mono ?_
    rintro e wa ⟨rfl, rfl⟩
    rw [HN.out]
    go_wp2_with fail
    refine hK.out _ _ hHeld (fun hHeld => ?_)
    clear hK K
    (try simp only [Act.put, pz0, pz1, pz2, pz3, pz4, pz5])
    refine tk 3 ?_
    refine tk 4 ?_
    refine tk 5 ?_
    refine tk 6 ?_
    refine tk 7 ?_
    refine tk 8 ?_
    refine tk 9 ?_
    refine tk 10 ?_
    refine tk 11 ?_
    refine wpAnyH_ready (rs := [12]) (by kernel_rfl) (by simp) ?_
    refine AllReadyH.cons rfl (fun K hK => ?_) AllReadyH.nil
    go_simp
    refine (specColAt _ k c1 _ _ _ _ _ (x.cols.take k) _ ok _ ((hsl.drew ClR.stays).take (m := k) (by omega)) (by omega)).mono ?_
    rintro e wb ⟨rfl, hqb⟩
    rw [HA.out]
    go_wp2_with fail
    refine hK.out _ _ ⟨below_keep hqb _ _ hHeld.1, below_keep hqb _ _ hHeld.2.1, below_keep hqb _ _ hHeld.2.2.1, below_keep hqb _ _ hHeld.2.2.2.1, below_keep hqb _ _ hHeld.2.2.2.2.1, below_keep hqb _ _ hHeld.2.2.2.2.2.1, below_keep hqb _ _ hHeld.2.2.2.2.2.2⟩ (fun hHeld => ?_)
    clear hK K
    (try simp only [Act.put, pz0, pz1, pz2, pz3, pz4, pz5])
    refine tk 13 ?_
    refine tk 14 ?_
    refine tk 15 ?_
    refine tk 16 ?_
    refine tk 17 ?_
    refine wpAnyH_ready (rs := [18]) (by kernel_rfl) (by simp) ?_
    refine AllReadyH.cons rfl (fun K hK => ?_) AllReadyH.nil
    go_simp
    refine (specIn _ _ _ _).mono ?_
    rintro e wc ⟨rfl, rfl⟩
    rw [HKD.out]
    go_wp2_with fail
    refine hK.out _ _ hHeld (fun hHeld => ?_)
    clear hK K
    (try simp only [Act.put, pz0, pz1, pz2, pz3, pz4, pz5])
    refine tk 19 ?_
    refine tk 20 ?_
    refine tk 21 ?_
    refine tk 22 ?_
    refine tk 23 ?_
    refine wpAnyH_ready (rs := [24]) (by kernel_rfl) (by simp) ?_
    refine AllReadyH.cons rfl (fun K hK => ?_) AllReadyH.nil
    go_simp
    refine (specValOk _ _ _ _).mono ?_
    rintro e wd ⟨rfl, hqd⟩
    rw [HV.out]
    go_wp2_with fail
    refine hK.out _ _ ⟨below_keep hqd _ _ hHeld.1, below_keep hqd _ _ hHeld.2.1, below_keep hqd _ _ hHeld.2.2.1, below_keep hqd _ _ hHeld.2.2.2.1, below_keep hqd _ _ hHeld.2.2.2.2.1, below_keep hqd _ _ hHeld.2.2.2.2.2.1, below_keep hqd _ _ hHeld.2.2.2.2.2.2⟩ (fun hHeld => ?_)
    clear hK K
    (try simp only [Act.put, pz0, pz1, pz2, pz3, pz4, pz5])
    refine tk 25 ?_
    refine tk 26 ?_
    refine tk 27 ?_
    refine tu 28 ?_
    refine tu 29 ?_
    refine tu 30 ?_
    refine tu 31 ?_
    refine tu 32 ?_
    refine tu 33 ?_
    refine tu 34 ?_
    refine tu 35 ?_
    refine tu 36 ?_
    refine tu 37 ?_
    refine tu 38 ?_
    refine tu 39 ?_
    refine tk 40 ?_
    refine wpAnyH_done (by kernel_rfl) ?_ _
    refine NoPanic.normal ?_
    have hz0 := hba.drew
    have rz0 := hr1.drew
    have hz1 := hz0.trans (hqb.mono hz0.size)
    have rz1 := rz0.below hqb
    have hz2 := hz1.trans (hqd.mono hz1.size)
    have rz2 := rz1.below hqd
    clear hHeld k0 k1 k2 k3 k4 k5 t0 t1 t2 t3 t4 t5
    go_wp2_with fail
    go_ret
    exact ⟨retB HF.out.symm, hz2⟩
   have HV := Lib.hid hv
   by_cases hd0 : cl.d.k = 0
   ·skip
    have HCA := Lib.hid (HCN.out (by unfold colB fitsB; rw [kind_in, hn, hkd, hv, hd0]; rfl))
    have e0 : (cl.d.k == 0) = true := by simpa using hd0
    have e1 : (cl.d.k != 0) = false := by simpa using hd0
    clear hkd hn hv hd0
    go_wp2_with fail
    generalize wr.alloc (.cells #[.string cl.name, .int .i64 cl.kind, .bool cl.nn, .int .i64 cl.d.k, .int .i64 cl.d.n, .string cl.d.s] 86) = x1 at *
    obtain ⟨⟨k0, k1, k2, k3, k4, k5⟩, -⟩ := rk.all6
    obtain ⟨⟨t0, t1, t2, t3, t4, t5⟩, -⟩ := hr1.all6
    refine wp_region_noPanic ?_
    refine wp_region_held_drew (S := fun w' => w'.cell? ⟨wr.heap.size, 0, none⟩ = some (.string cl.name) ∧ w'.cell? ⟨wr.heap.size, 1, none⟩ = some (.int .i64 cl.kind) ∧ w'.cell? ⟨wr.heap.size, 2, none⟩ = some (.bool cl.nn) ∧ w'.cell? ⟨wr.heap.size, 3, none⟩ = some (.int .i64 cl.d.k) ∧ w'.cell? ⟨wr.heap.size, 4, none⟩ = some (.int .i64 cl.d.n) ∧ w'.cell? ⟨wr.heap.size, 5, none⟩ = some (.string cl.d.s) ∧ w'.cell? ⟨w.heap.size, 1, none⟩ = some (.slice (some ⟨b, off, none⟩) x.cols.length c1)) (by kernel_rfl) ⟨k0, k1, k2, k3, k4, k5, t1⟩ (fun hHeld => ?_)
    refine tk 0 ?_
    refine tk 1 ?_
    refine wpAnyH_ready (rs := [2]) (by kernel_rfl) (by simp) ?_
    refine AllReadyH.cons rfl (fun K hK => ?_) AllReadyH.nil
    go_simp
    refine (specName _ _ HZ.out).mono ?_
    rintro e wa ⟨rfl, rfl⟩
    rw [HN.out]
    go_wp2_with fail
    refine hK.out _ _ hHeld (fun hHeld => ?_)
    clear hK K
    (try simp only [Act.put, pz0, pz1, pz2, pz3, pz4, pz5])
    refine tk 3 ?_
    refine tk 4 ?_
    refine tk 5 ?_
    refine tk 6 ?_
    refine tk 7 ?_
    refine tk 8 ?_
    refine tk 9 ?_
    refine tk 10 ?_
    refine tk 11 ?_
    refine wpAnyH_ready (rs := [12]) (by kernel_rfl) (by simp) ?_
    refine AllReadyH.cons rfl (fun K hK => ?_) AllReadyH.nil
    go_simp
    refine (specColAt _ k c1 _ _ _ _ _ (x.cols.take k) _ ok _ ((hsl.drew ClR.stays).take (m := k) (by omega)) (by omega)).mono ?_
    rintro e wb ⟨rfl, hqb⟩
    rw [HA.out]
    go_wp2_with fail
    refine hK.out _ _ ⟨below_keep hqb _ _ hHeld.1, below_keep hqb _ _ hHeld.2.1, below_keep hqb _ _ hHeld.2.2.1, below_keep hqb _ _ hHeld.2.2.2.1, below_keep hqb _ _ hHeld.2.2.2.2.1, below_keep hqb _ _ hHeld.2.2.2.2.2.1, below_keep hqb _ _ hHeld.2.2.2.2.2.2⟩ (fun hHeld => ?_)
    clear hK K
    (try simp only [Act.put, pz0, pz1, pz2, pz3, pz4, pz5])
    refine tk 13 ?_
    refine tk 14 ?_
    refine tk 15 ?_
    refine tk 16 ?_
    refine tk 17 ?_
    refine wpAnyH_ready (rs := [18]) (by kernel_rfl) (by simp) ?_
    refine AllReadyH.cons rfl (fun K hK => ?_) AllReadyH.nil
    go_simp
    refine (specIn _ _ _ _).mono ?_
    rintro e wc ⟨rfl, rfl⟩
    rw [HKD.out]
    go_wp2_with fail
    refine hK.out _ _ hHeld (fun hHeld => ?_)
    clear hK K
    (try simp only [Act.put, pz0, pz1, pz2, pz3, pz4, pz5])
    refine tk 19 ?_
    refine tk 20 ?_
    refine tk 21 ?_
    refine tk 22 ?_
    refine tk 23 ?_
    refine wpAnyH_ready (rs := [24]) (by kernel_rfl) (by simp) ?_
    refine AllReadyH.cons rfl (fun K hK => ?_) AllReadyH.nil
    go_simp
    refine (specValOk _ _ _ _).mono ?_
    rintro e wd ⟨rfl, hqd⟩
    rw [HV.out]
    go_wp2_with fail
    refine hK.out _ _ ⟨below_keep hqd _ _ hHeld.1, below_keep hqd _ _ hHeld.2.1, below_keep hqd _ _ hHeld.2.2.1, below_keep hqd _ _ hHeld.2.2.2.1, below_keep hqd _ _ hHeld.2.2.2.2.1, below_keep hqd _ _ hHeld.2.2.2.2.2.1, below_keep hqd _ _ hHeld.2.2.2.2.2.2⟩ (fun hHeld => ?_)
    clear hK K
    (try simp only [Act.put, pz0, pz1, pz2, pz3, pz4, pz5])
    refine tk 25 ?_
    refine tk 26 ?_
    refine tk 27 ?_
    refine tk 28 ?_
    refine tk 29 ?_
    refine tk 30 ?_
    refine tk 31 ?_
    refine tk 32 ?_
    refine tu 33 ?_
    refine tu 34 ?_
    refine tu 35 ?_
    refine tu 36 ?_
    refine tu 37 ?_
    refine tu 38 ?_
    refine tk 39 ?_
    refine tk 40 ?_
    refine wpAnyH_done (by kernel_rfl) ?_ _
    refine NoPanic.normal ?_
    have hz0 := hba.drew
    have rz0 := hr1.drew
    have hz1 := hz0.trans (hqb.mono hz0.size)
    have rz1 := rz0.below hqb
    have hz2 := hz1.trans (hqd.mono hz1.size)
    have rz2 := rz1.below hqd
    clear hHeld k0 k1 k2 k3 k4 k5 t0 t1 t2 t3 t4 t5
    go_wp2_with fail
    go_roundw
    case rel => exact ⟨k + 1, by omega, by go_num, HCA, HUQ, rz2, hz2⟩
    case measure => simp [intOf]; omega
   have e0 : (cl.d.k == 0) = false := by simpa using hd0
   have e1 : (cl.d.k != 0) = true := by simpa using hd0
   by_cases hdk : cl.d.k = cl.kind
   ·skip
    have HCA := Lib.hid (HCN.out (by unfold colB fitsB; rw [kind_in, hn, hkd, hv, hdk]; simp))
    have e2 : (cl.d.k == cl.kind) = true := by simpa using hdk
    have e3 : (cl.d.k != cl.kind) = false := by simpa using hdk
    clear hkd hn hv hd0 hdk
    go_wp2_with fail
    generalize wr.alloc (.cells #[.string cl.name, .int .i64 cl.kind, .bool cl.nn, .int .i64 cl.d.k, .int .i64 cl.d.n, .string cl.d.s] 86) = x1 at *
    obtain ⟨⟨k0, k1, k2, k3, k4, k5⟩, -⟩ := rk.all6
    obtain ⟨⟨t0, t1, t2, t3, t4, t5⟩, -⟩ := hr1.all6
    refine wp_region_noPanic ?_
    refine wp_region_held_drew (S := fun w' => w'.cell? ⟨wr.heap.size, 0, none⟩ = some (.string cl.name) ∧ w'.cell? ⟨wr.heap.size, 1, none⟩ = some (.int .i64 cl.kind) ∧ w'.cell? ⟨wr.heap.size, 2, none⟩ = some (.bool cl.nn) ∧ w'.cell? ⟨wr.heap.size, 3, none⟩ = some (.int .i64 cl.d.k) ∧ w'.cell? ⟨wr.heap.size, 4, none⟩ = some (.int .i64 cl.d.n) ∧ w'.cell? ⟨wr.heap.size, 5, none⟩ = some (.string cl.d.s) ∧ w'.cell? ⟨w.heap.size, 1, none⟩ = some (.slice (some ⟨b, off, none⟩) x.cols.length c1)) (by kernel_rfl) ⟨k0, k1, k2, k3, k4, k5, t1⟩ (fun hHeld => ?_)
    refine tk 0 ?_
    refine tk 1 ?_
    refine wpAnyH_ready (rs := [2]) (by kernel_rfl) (by simp) ?_
    refine AllReadyH.cons rfl (fun K hK => ?_) AllReadyH.nil
    go_simp
    refine (specName _ _ HZ.out).mono ?_
    rintro e wa ⟨rfl, rfl⟩
    rw [HN.out]
    go_wp2_with fail
    refine hK.out _ _ hHeld (fun hHeld => ?_)
    clear hK K
    (try simp only [Act.put, pz0, pz1, pz2, pz3, pz4, pz5])
    refine tk 3 ?_
    refine tk 4 ?_
    refine tk 5 ?_
    refine tk 6 ?_
    refine tk 7 ?_
    refine tk 8 ?_
    refine tk 9 ?_
    refine tk 10 ?_
    refine tk 11 ?_
    refine wpAnyH_ready (rs := [12]) (by kernel_rfl) (by simp) ?_
    refine AllReadyH.cons rfl (fun K hK => ?_) AllReadyH.nil
    go_simp
    refine (specColAt _ k c1 _ _ _ _ _ (x.cols.take k) _ ok _ ((hsl.drew ClR.stays).take (m := k) (by omega)) (by omega)).mono ?_
    rintro e wb ⟨rfl, hqb⟩
    rw [HA.out]
    go_wp2_with fail
    refine hK.out _ _ ⟨below_keep hqb _ _ hHeld.1, below_keep hqb _ _ hHeld.2.1, below_keep hqb _ _ hHeld.2.2.1, below_keep hqb _ _ hHeld.2.2.2.1, below_keep hqb _ _ hHeld.2.2.2.2.1, below_keep hqb _ _ hHeld.2.2.2.2.2.1, below_keep hqb _ _ hHeld.2.2.2.2.2.2⟩ (fun hHeld => ?_)
    clear hK K
    (try simp only [Act.put, pz0, pz1, pz2, pz3, pz4, pz5])
    refine tk 13 ?_
    refine tk 14 ?_
    refine tk 15 ?_
    refine tk 16 ?_
    refine tk 17 ?_
    refine wpAnyH_ready (rs := [18]) (by kernel_rfl) (by simp) ?_
    refine AllReadyH.cons rfl (fun K hK => ?_) AllReadyH.nil
    go_simp
    refine (specIn _ _ _ _).mono ?_
    rintro e wc ⟨rfl, rfl⟩
    rw [HKD.out]
    go_wp2_with fail
    refine hK.out _ _ hHeld (fun hHeld => ?_)
    clear hK K
    (try simp only [Act.put, pz0, pz1, pz2, pz3, pz4, pz5])
    refine tk 19 ?_
    refine tk 20 ?_
    refine tk 21 ?_
    refine tk 22 ?_
    refine tk 23 ?_
    refine wpAnyH_ready (rs := [24]) (by kernel_rfl) (by simp) ?_
    refine AllReadyH.cons rfl (fun K hK => ?_) AllReadyH.nil
    go_simp
    refine (specValOk _ _ _ _).mono ?_
    rintro e wd ⟨rfl, hqd⟩
    rw [HV.out]
    go_wp2_with fail
    refine hK.out _ _ ⟨below_keep hqd _ _ hHeld.1, below_keep hqd _ _ hHeld.2.1, below_keep hqd _ _ hHeld.2.2.1, below_keep hqd _ _ hHeld.2.2.2.1, below_keep hqd _ _ hHeld.2.2.2.2.1, below_keep hqd _ _ hHeld.2.2.2.2.2.1, below_keep hqd _ _ hHeld.2.2.2.2.2.2⟩ (fun hHeld => ?_)
    clear hK K
    (try simp only [Act.put, pz0, pz1, pz2, pz3, pz4, pz5])
    refine tk 25 ?_
    refine tk 26 ?_
    refine tk 27 ?_
    refine tk 28 ?_
    refine tk 29 ?_
    refine tk 30 ?_
    refine tk 31 ?_
    refine tk 32 ?_
    refine tk 33 ?_
    refine tk 34 ?_
    refine tk 35 ?_
    refine tk 36 ?_
    refine tk 37 ?_
    refine tk 38 ?_
    refine tk 39 ?_
    refine tk 40 ?_
    refine wpAnyH_done (by kernel_rfl) ?_ _
    refine NoPanic.normal ?_
    have hz0 := hba.drew
    have rz0 := hr1.drew
    have hz1 := hz0.trans (hqb.mono hz0.size)
    have rz1 := rz0.below hqb
    have hz2 := hz1.trans (hqd.mono hz1.size)
    have rz2 := rz1.below hqd
    clear hHeld k0 k1 k2 k3 k4 k5 t0 t1 t2 t3 t4 t5
    go_wp2_with fail
    go_roundw
    case rel => exact ⟨k + 1, by omega, by go_num, HCA, HUQ, rz2, hz2⟩
    case measure => simp [intOf]; omega
   ·skip
    have HF := Lib.hid (HNO.out (by unfold colB fitsB; rw [e0, show (cl.d.k == cl.kind) = false by simpa using hdk]; simp))
    have e2 : (cl.d.k == cl.kind) = false := by simpa using hdk
    have e3 : (cl.d.k != cl.kind) = true := by simpa using hdk
    clear hkd hn hv hd0 hdk
    go_wp2_with fail
    generalize wr.alloc (.cells #[.string cl.name, .int .i64 cl.kind, .bool cl.nn, .int .i64 cl.d.k, .int .i64 cl.d.n, .string cl.d.s] 86) = x1 at *
    obtain ⟨⟨k0, k1, k2, k3, k4, k5⟩, -⟩ := rk.all6
    obtain ⟨⟨t0, t1, t2, t3, t4, t5⟩, -⟩ := hr1.all6
    refine wp_region_noPanic ?_
    refine wp_region_held_drew (S := fun w' => w'.cell? ⟨wr.heap.size, 0, none⟩ = some (.string cl.name) ∧ w'.cell? ⟨wr.heap.size, 1, none⟩ = some (.int .i64 cl.kind) ∧ w'.cell? ⟨wr.heap.size, 2, none⟩ = some (.bool cl.nn) ∧ w'.cell? ⟨wr.heap.size, 3, none⟩ = some (.int .i64 cl.d.k) ∧ w'.cell? ⟨wr.heap.size, 4, none⟩ = some (.int .i64 cl.d.n) ∧ w'.cell? ⟨wr.heap.size, 5, none⟩ = some (.string cl.d.s) ∧ w'.cell? ⟨w.heap.size, 1, none⟩ = some (.slice (some ⟨b, off, none⟩) x.cols.length c1)) (by kernel_rfl) ⟨k0, k1, k2, k3, k4, k5, t1⟩ (fun hHeld => ?_)
    refine tk 0 ?_
    refine tk 1 ?_
    refine wpAnyH_ready (rs := [2]) (by kernel_rfl) (by simp) ?_
    refine AllReadyH.cons rfl (fun K hK => ?_) AllReadyH.nil
    go_simp
    refine (specName _ _ HZ.out).mono ?_
    rintro e wa ⟨rfl, rfl⟩
    rw [HN.out]
    go_wp2_with fail
    refine hK.out _ _ hHeld (fun hHeld => ?_)
    clear hK K
    (try simp only [Act.put, pz0, pz1, pz2, pz3, pz4, pz5])
    refine tk 3 ?_
    refine tk 4 ?_
    refine tk 5 ?_
    refine tk 6 ?_
    refine tk 7 ?_
    refine tk 8 ?_
    refine tk 9 ?_
    refine tk 10 ?_
    refine tk 11 ?_
    refine wpAnyH_ready (rs := [12]) (by kernel_rfl) (by simp) ?_
    refine AllReadyH.cons rfl (fun K hK => ?_) AllReadyH.nil
    go_simp
    refine (specColAt _ k c1 _ _ _ _ _ (x.cols.take k) _ ok _ ((hsl.drew ClR.stays).take (m := k) (by omega)) (by omega)).mono ?_
    rintro e wb ⟨rfl, hqb⟩
    rw [HA.out]
    go_wp2_with fail
    refine hK.out _ _ ⟨below_keep hqb _ _ hHeld.1, below_keep hqb _ _ hHeld.2.1, below_keep hqb _ _ hHeld.2.2.1, below_keep hqb _ _ hHeld.2.2.2.1, below_keep hqb _ _ hHeld.2.2.2.2.1, below_keep hqb _ _ hHeld.2.2.2.2.2.1, below_keep hqb _ _ hHeld.2.2.2.2.2.2⟩ (fun hHeld => ?_)
    clear hK K
    (try simp only [Act.put, pz0, pz1, pz2, pz3, pz4, pz5])
    refine tk 13 ?_
    refine tk 14 ?_
    refine tk 15 ?_
    refine tk 16 ?_
    refine tk 17 ?_
    refine wpAnyH_ready (rs := [18]) (by kernel_rfl) (by simp) ?_
    refine AllReadyH.cons rfl (fun K hK => ?_) AllReadyH.nil
    go_simp
    refine (specIn _ _ _ _).mono ?_
    rintro e wc ⟨rfl, rfl⟩
    rw [HKD.out]
    go_wp2_with fail
    refine hK.out _ _ hHeld (fun hHeld => ?_)
    clear hK K
    (try simp only [Act.put, pz0, pz1, pz2, pz3, pz4, pz5])
    refine tk 19 ?_
    refine tk 20 ?_
    refine tk 21 ?_
    refine tk 22 ?_
    refine tk 23 ?_
    refine wpAnyH_ready (rs := [24]) (by kernel_rfl) (by simp) ?_
    refine AllReadyH.cons rfl (fun K hK => ?_) AllReadyH.nil
    go_simp
    refine (specValOk _ _ _ _).mono ?_
    rintro e wd ⟨rfl, hqd⟩
    rw [HV.out]
    go_wp2_with fail
    refine hK.out _ _ ⟨below_keep hqd _ _ hHeld.1, below_keep hqd _ _ hHeld.2.1, below_keep hqd _ _ hHeld.2.2.1, below_keep hqd _ _ hHeld.2.2.2.1, below_keep hqd _ _ hHeld.2.2.2.2.1, below_keep hqd _ _ hHeld.2.2.2.2.2.1, below_keep hqd _ _ hHeld.2.2.2.2.2.2⟩ (fun hHeld => ?_)
    clear hK K
    (try simp only [Act.put, pz0, pz1, pz2, pz3, pz4, pz5])
    refine tk 25 ?_
    refine tk 26 ?_
    refine tk 27 ?_
    refine tk 28 ?_
    refine tk 29 ?_
    refine tk 30 ?_
    refine tk 31 ?_
    refine tk 32 ?_
    refine tk 33 ?_
    refine tk 34 ?_
    refine tk 35 ?_
    refine tk 36 ?_
    refine tk 37 ?_
    refine tk 38 ?_
    refine tk 39 ?_
    refine tk 40 ?_
    refine wpAnyH_done (by kernel_rfl) ?_ _
    refine NoPanic.normal ?_
    have hz0 := hba.drew
    have rz0 := hr1.drew
    have hz1 := hz0.trans (hqb.mono hz0.size)
    have rz1 := rz0.below hqb
    have hz2 := hz1.trans (hqd.mono hz1.size)
    have rz2 := rz1.below hqd
    clear hHeld k0 k1 k2 k3 k4 k5 t0 t1 t2 t3 t4 t5
    go_wp2_with fail
    go_ret
    exact ⟨retB HF.out.symm, hz2⟩
  ·have e : x.cols.take k = x.cols := List.take_of_length_le (by omega)
   have e2 : (x.cols.map Cl.name).drop k = [] := List.drop_eq_nil_of_le (by simp; omega)
   have g1 := hall.out
   have g2 := huq.out
   rw [e] at g1
   rw [e2] at g2
   have HC := Lib.hid (show colsB x.cols = true by
    unfold colsB; rw [g1, g2]
    have := H8.out
    simp at this
    simp [uniqGo]; omega)
   clear e e2 g1 g2 hall huq a0 a1 a2 a3 a4 a5
   obtain ⟨⟨a0, a1, a2, a3, a4, a5⟩, -⟩ := hr.all6
   go_wp2_with fail
   clear a0 a1 a2 a3 a4 a5
   go_loopw [6] (fun i wr => ∃ k : Nat, k ≤ x.key.length ∧ i = .int .i64 k ∧ Hid ((x.key.take k).all (nnAt x.cols) = true) ∧ Row wr w.heap.size 57 #[.string x.name, .slice A1 x.cols.length c1, .slice A2 x.key.length c2, .slice A3 x.uniqs.length c3, .slice A4 x.checks.length c4, .slice A5 x.fks.length c5] ∧ Below w.heap.size w wr) (fun i _ => x.key.length - (intOf i).toNat)
   case atStart => exact ⟨0, by omega, rfl, Lib.hid (by simp), hr, hb⟩
   case round =>
    clear hr hb hlt
    obtain ⟨k, hk, rfl, hall, hr, hb⟩ := hrel
    obtain ⟨⟨a0, a1, a2, a3, a4, a5⟩, -⟩ := hr.all6
    by_cases hlt : k < x.key.length
    ·obtain ⟨bk, offk, -, ek, q0⟩ := IntR.at_ (h2.below IntR.stays hb) hlt
     rw [ek] at a2
     have hin := HIN.out _ (List.getElem_mem hlt)
     have hsn := all_take (nnAt x.cols) x.key k hlt
     rw [hall.out, Bool.true_and] at hsn
     have hno := fun hf => all_no (nnAt x.cols) x.key k hlt hf
     obtain ⟨j, hj⟩ : ∃ j : Nat, x.key[k] = (j : Int) := ⟨x.key[k].toNat, by omega⟩
     rw [hj] at q0 hsn hno hin
     have hjl : j < x.cols.length := by omega
     obtain ⟨bc, offc, -, ec, p0, p1, p2, p3, p4, p5⟩ := ClR.at_ (h1.below ClR.stays hb) hjl
     rw [ec] at a1
     have hnn : nnAt x.cols j = x.cols[j].nn := by unfold nnAt; simp [List.getElem?_eq_getElem hjl]
     have i0 : (0 : Int) ≤ j := by omega
     have i1 : (j : Int) < x.cols.length := by omega
     have i2 : (0 : Int) ≤ k := by omega
     have i3 : (k : Int) < x.key.length := by omega
     cases hnb : x.cols[j].nn
     ·rw [hnb] at p2
      have HF := Lib.hid (show tableB x = false by unfold tableB keyB; rw [hno (hnn.trans hnb)]; simp)
      clear hsn hno hnn hnb hj hall ek ec
      go_wp2_with fail
      go_quiet (fail)
      go_wp2_with fail
      go_ret
      exact ⟨retB HF.out.symm, below_drewN hb _⟩
     ·rw [hnb] at p2
      have HA := Lib.hid (hsn.trans (hnn.trans hnb))
      clear hsn hno hnn hnb hj hall ek ec
      go_wp2_with fail
      go_quiet (fail)
      go_wp2_with fail
      go_roundw
      case rel => exact ⟨k + 1, by omega, by go_num, HA, hr.drewN _, below_drewN hb _⟩
      case measure => simp [intOf]; omega
    ·have e : x.key.take k = x.key := List.take_of_length_le (by omega)
     have g1 := hall.out
     rw [e] at g1
     have HKB := Lib.hid (show keyB x.cols x.key = true by unfold keyB; rw [g1, HK.out]; rfl)
     clear e g1 hall
     go_wp2_with fail
     clear a0 a1 a2 a3 a4 a5
     go_loopw [7] (fun i wr => ∃ k : Nat, k ≤ x.uniqs.length ∧ i = .int .i64 k ∧ Hid ((x.uniqs.take k).all (fun u : Uq => colsInB u.cols x.cols.length) = true) ∧ Row wr w.heap.size 57 #[.string x.name, .slice A1 x.cols.length c1, .slice A2 x.key.length c2, .slice A3 x.uniqs.length c3, .slice A4 x.checks.length c4, .slice A5 x.fks.length c5] ∧ Below w.heap.size w wr) (fun i _ => x.uniqs.length - (intOf i).toNat)
     case atStart => exact ⟨0, by omega, rfl, Lib.hid (by simp), hr, hb⟩
     case round =>
      clear hr hb hlt
      obtain ⟨k, hk, rfl, hall, hr, hb⟩ := hrel
      obtain ⟨⟨a0, a1, a2, a3, a4, a5⟩, -⟩ := hr.all6
      by_cases hlt : k < x.uniqs.length
      ·obtain ⟨b, off, A9, n9, c9, -, ea, q0, s0, hcp9⟩ := UqR.at_ (h3.below UqR.stays hb) hlt
       rw [ea] at a3
       obtain rfl : x.uniqs[k].cols.length = n9 := s0.1
       have hsn := all_take (fun u : Uq => colsInB u.cols x.cols.length) x.uniqs k hlt
       rw [hall.out, Bool.true_and] at hsn
       have hno := fun hf => all_no (fun u : Uq => colsInB u.cols x.cols.length) x.uniqs k hlt hf
       have hk9 : x.uniqs[k].cols.length ≤ 1048576 := by have := HS3.out; have := sum_mem_le Uq.sz x.uniqs k hlt; unfold szL at *; simp only [Uq.sz] at *; (try unfold szL at *); omega
       have i2 : (0 : Int) ≤ k := by omega
       have i3 : (k : Int) < x.uniqs.length := by omega
       cases hc : colsInB x.uniqs[k].cols x.cols.length
       ·have HC9 := Lib.hid hc
        have HF := Lib.hid (show tableB x = false by unfold tableB uqsB; rw [hno hc]; simp)
        clear hsn hno hc hall ea
        go_wp2_with fail
        refine (specCols A9 x.uniqs[k].cols.length c9 x.uniqs[k].cols x.cols.length ok _ s0 hcp9 hk9 (by omega) (by omega)).mono ?_
        rintro e w1 ⟨rfl, hq⟩
        rw [HC9.out]
        go_wp2_with fail
        go_ret
        exact ⟨retB HF.out.symm, hb.trans (hq.mono hb.size)⟩
       ·have HC9 := Lib.hid hc
        have HA := Lib.hid (hsn.trans hc)
        clear hsn hno hc hall ea
        go_wp2_with fail
        refine (specCols A9 x.uniqs[k].cols.length c9 x.uniqs[k].cols x.cols.length ok _ s0 hcp9 hk9 (by omega) (by omega)).mono ?_
        rintro e w1 ⟨rfl, hq⟩
        rw [HC9.out]
        go_wp2_with fail
        go_roundw
        case rel => exact ⟨k + 1, by omega, by go_num, HA, hr.below hq, hb.trans (hq.mono hb.size)⟩
        case measure => simp [intOf]; omega
      ·have e : x.uniqs.take k = x.uniqs := List.take_of_length_le (by omega)
       have g1 := hall.out
       rw [e] at g1
       have HUB := Lib.hid (show uqsB x.cols x.uniqs = true by unfold uqsB; rw [g1, decide_eq_true (by omega)]; rfl)
       clear e g1 hall
       go_wp2_with fail
       clear a0 a1 a2 a3 a4 a5
       go_loopw [8] (fun i wr => ∃ k : Nat, k ≤ x.checks.length ∧ i = .int .i64 k ∧ Hid ((x.checks.take k).all (fun u : Ck => exprB u.expr x.cols.length) = true) ∧ Row wr w.heap.size 57 #[.string x.name, .slice A1 x.cols.length c1, .slice A2 x.key.length c2, .slice A3 x.uniqs.length c3, .slice A4 x.checks.length c4, .slice A5 x.fks.length c5] ∧ Below w.heap.size w wr) (fun i _ => x.checks.length - (intOf i).toNat)
       case atStart => exact ⟨0, by omega, rfl, Lib.hid (by simp), hr, hb⟩
       case round =>
        clear hr hb hlt
        obtain ⟨k, hk, rfl, hall, hr, hb⟩ := hrel
        obtain ⟨⟨a0, a1, a2, a3, a4, a5⟩, -⟩ := hr.all6
        by_cases hlt : k < x.checks.length
        ·obtain ⟨b, off, A9, n9, c9, -, ea, q0, s0, hcp9⟩ := CkR.at_ (h4.below CkR.stays hb) hlt
         rw [ea] at a4
         obtain rfl : x.checks[k].expr.length = n9 := s0.1
         have hsn := all_take (fun u : Ck => exprB u.expr x.cols.length) x.checks k hlt
         rw [hall.out, Bool.true_and] at hsn
         have hno := fun hf => all_no (fun u : Ck => exprB u.expr x.cols.length) x.checks k hlt hf
         have hk9 : x.checks[k].expr.length ≤ 1048576 := by have := HS4.out; have := sum_mem_le Ck.sz x.checks k hlt; unfold szL at *; simp only [Ck.sz] at *; (try unfold szL at *); omega
         have i2 : (0 : Int) ≤ k := by omega
         have i3 : (k : Int) < x.checks.length := by omega
         cases hc : l2B x.checks[k].expr x.cols.length
         ·have HC9 := Lib.hid hc
          have HF := Lib.hid (show tableB x = false by unfold tableB cksB; rw [hno ((exprB_l2n (by omega)).trans hc)]; simp)
          clear hsn hno hc hall ea
          go_wp2_with fail
          refine (specL2Expr A9 x.checks[k].expr.length c9 x.checks[k].expr x.cols.length _ (Sl.cellz (fun _ => rfl) s0) (by unfold maxLen; omega) (by omega) (by omega)).mono ?_
          rintro e w1 ⟨rfl, hq⟩
          rw [HC9.out]
          go_wp2_with fail
          go_ret
          exact ⟨retB HF.out.symm, hb.trans (hq.mono hb.size)⟩
         ·have HC9 := Lib.hid hc
          have HA := Lib.hid (hsn.trans ((exprB_l2n (by omega)).trans hc))
          clear hsn hno hc hall ea
          go_wp2_with fail
          refine (specL2Expr A9 x.checks[k].expr.length c9 x.checks[k].expr x.cols.length _ (Sl.cellz (fun _ => rfl) s0) (by unfold maxLen; omega) (by omega) (by omega)).mono ?_
          rintro e w1 ⟨rfl, hq⟩
          rw [HC9.out]
          go_wp2_with fail
          go_roundw
          case rel => exact ⟨k + 1, by omega, by go_num, HA, hr.below hq, hb.trans (hq.mono hb.size)⟩
          case measure => simp [intOf]; omega
        ·have e : x.checks.take k = x.checks := List.take_of_length_le (by omega)
         have g1 := hall.out
         rw [e] at g1
         have HEB := Lib.hid (show cksB x.cols x.checks = true by unfold cksB; rw [g1, decide_eq_true (by omega)]; rfl)
         clear e g1 hall
         go_wp2_with fail
         clear a0 a1 a2 a3 a4 a5
         go_loopw [9] (fun i wr => ∃ k : Nat, k ≤ x.fks.length ∧ i = .int .i64 k ∧ Hid ((x.fks.take k).all (fkB x.cols.length) = true) ∧ Row wr w.heap.size 57 #[.string x.name, .slice A1 x.cols.length c1, .slice A2 x.key.length c2, .slice A3 x.uniqs.length c3, .slice A4 x.checks.length c4, .slice A5 x.fks.length c5] ∧ Below w.heap.size w wr) (fun i _ => x.fks.length - (intOf i).toNat)
         case atStart => exact ⟨0, by omega, rfl, Lib.hid (by simp), hr, hb⟩
         case round =>
          clear hr hb hlt
          obtain ⟨k, hk, rfl, hall, hr, hb⟩ := hrel
          obtain ⟨⟨a0, a1, a2, a3, a4, a5⟩, -⟩ := hr.all6
          by_cases hlt : k < x.fks.length
          ·obtain ⟨b, off, A9, n9, c9, -, ea, q0, q1, q2, q3, q4, s0, hcp9⟩ := FkR.at_ (h5.below FkR.stays hb) hlt
           rw [ea] at a5
           obtain rfl : x.fks[k].cols.length = n9 := s0.1
           have hsn := all_take (fkB x.cols.length) x.fks k hlt
           rw [hall.out, Bool.true_and] at hsn
           have hno := fun hf => all_no (fkB x.cols.length) x.fks k hlt hf
           obtain ⟨hk9, hk8⟩ : x.fks[k].cols.length ≤ 1048576 ∧ x.fks[k].table.size ≤ 1048576 := by have := HS5.out; have := sum_mem_le Fk.sz x.fks k hlt; unfold szL at *; simp only [Fk.sz] at *; omega
           have HK9 := Lib.hid hk9
           have HK8 := Lib.hid (show x.fks[k].table.size ≤ maxLen by unfold maxLen; omega)
           have i2 : (0 : Int) ≤ k := by omega
           have i3 : (k : Int) < x.fks.length := by omega
           have hbx := (Below.refl wr.heap.size wr).alloc (Nat.le_refl _) (.cells #[.slice A9 x.fks[k].cols.length c9, .string x.fks[k].table, .int .i64 x.fks[k].del, .int .i64 x.fks[k].upd, .bool x.fks[k].dfr] 66)
           have hba := hb.trans (hbx.mono hb.size)
           have s1 := s0.below IntR.stays hbx
           have hr1 := hr.below hbx
           have rf := Row.new wr 66 #[.slice A9 x.fks[k].cols.length c9, .string x.fks[k].table, .int .i64 x.fks[k].del, .int .i64 x.fks[k].upd, .bool x.fks[k].dfr]
           have HNO := Lib.hid (fun hf => show tableB x = false by unfold tableB fksB; rw [hno hf]; simp)
           have HSN := Lib.hid hsn
           clear hsn hno hall ea hk9 hk8
           cases hc9 : colsInB x.fks[k].cols x.cols.length
           ·have HC9 := Lib.hid hc9
            have HF := Lib.hid (HNO.out (by unfold fkB; rw [act_in, act_in, hc9]; simp))
            clear hc9
            go_wp2_with fail
            refine (specCols A9 x.fks[k].cols.length c9 x.fks[k].cols x.cols.length ok _ s1 hcp9 HK9.out (by omega) (by omega)).mono ?_
            rintro e w1 ⟨rfl, hq⟩
            obtain ⟨⟨f0, f1, f2, f3, f4⟩, -⟩ := (rf.below hq).five
            rw [HC9.out]
            go_wp2_with fail
            go_ret
            exact ⟨retB HF.out.symm, hba.trans (hq.mono hba.size)⟩
           have HC9 := Lib.hid hc9
           clear hc9
           cases hn9 : nameB x.fks[k].table
           ·have HN9 := Lib.hid hn9
            have HF := Lib.hid (HNO.out (by unfold fkB; rw [act_in, act_in, HC9.out, hn9]; simp))
            clear hn9
            go_wp2_with fail
            refine (specCols A9 x.fks[k].cols.length c9 x.fks[k].cols x.cols.length ok _ s1 hcp9 HK9.out (by omega) (by omega)).mono ?_
            rintro e w1 ⟨rfl, hq⟩
            obtain ⟨⟨f0, f1, f2, f3, f4⟩, -⟩ := (rf.below hq).five
            rw [HC9.out]
            go_wp2_with fail
            refine (specName _ _ HK8.out).mono ?_
            rintro e w2 ⟨rfl, rfl⟩
            rw [HN9.out]
            go_wp2_with fail
            go_ret
            exact ⟨retB HF.out.symm, hba.trans (hq.mono hba.size)⟩
           have HN9 := Lib.hid hn9
           clear hn9
           cases hd9 : (decide (0 ≤ x.fks[k].del) && decide (x.fks[k].del ≤ 2))
           ·have HD9 := Lib.hid hd9
            have HF := Lib.hid (HNO.out (by unfold fkB; rw [act_in, act_in, HC9.out, HN9.out, hd9]; simp))
            clear hd9
            go_wp2_with fail
            refine (specCols A9 x.fks[k].cols.length c9 x.fks[k].cols x.cols.length ok _ s1 hcp9 HK9.out (by omega) (by omega)).mono ?_
            rintro e w1 ⟨rfl, hq⟩
            obtain ⟨⟨f0, f1, f2, f3, f4⟩, -⟩ := (rf.below hq).five
            rw [HC9.out]
            go_wp2_with fail
            refine (specName _ _ HK8.out).mono ?_
            rintro e w2 ⟨rfl, rfl⟩
            rw [HN9.out]
            go_wp2_with fail
            refine (specIn _ _ _ _).mono ?_
            rintro e w2 ⟨rfl, rfl⟩
            rw [HD9.out]
            go_wp2_with fail
            go_ret
            exact ⟨retB HF.out.symm, hba.trans (hq.mono hba.size)⟩
           have HD9 := Lib.hid hd9
           clear hd9
           cases hu9 : (decide (0 ≤ x.fks[k].upd) && decide (x.fks[k].upd ≤ 2))
           ·have HU9 := Lib.hid hu9
            have HF := Lib.hid (HNO.out (by unfold fkB; rw [act_in, act_in, HC9.out, HN9.out, HD9.out, hu9]; simp))
            clear hu9
            go_wp2_with fail
            refine (specCols A9 x.fks[k].cols.length c9 x.fks[k].cols x.cols.length ok _ s1 hcp9 HK9.out (by omega) (by omega)).mono ?_
            rintro e w1 ⟨rfl, hq⟩
            obtain ⟨⟨f0, f1, f2, f3, f4⟩, -⟩ := (rf.below hq).five
            rw [HC9.out]
            go_wp2_with fail
            refine (specName _ _ HK8.out).mono ?_
            rintro e w2 ⟨rfl, rfl⟩
            rw [HN9.out]
            go_wp2_with fail
            refine (specIn _ _ _ _).mono ?_
            rintro e w2 ⟨rfl, rfl⟩
            rw [HD9.out]
            go_wp2_with fail
            refine (specIn _ _ _ _).mono ?_
            rintro e w2 ⟨rfl, rfl⟩
            rw [HU9.out]
            go_wp2_with fail
            go_ret
            exact ⟨retB HF.out.symm, hba.trans (hq.mono hba.size)⟩
           have HU9 := Lib.hid hu9
           clear hu9
           have HA := Lib.hid (HSN.out.trans (show fkB x.cols.length x.fks[k] = true by unfold fkB; rw [act_in, act_in, HC9.out, HN9.out, HD9.out, HU9.out]; rfl))
           go_wp2_with fail
           refine (specCols A9 x.fks[k].cols.length c9 x.fks[k].cols x.cols.length ok _ s1 hcp9 HK9.out (by omega) (by omega)).mono ?_
           rintro e w1 ⟨rfl, hq⟩
           obtain ⟨⟨f0, f1, f2, f3, f4⟩, -⟩ := (rf.below hq).five
           rw [HC9.out]
           go_wp2_with fail
           refine (specName _ _ HK8.out).mono ?_
           rintro e w2 ⟨rfl, rfl⟩
           rw [HN9.out]
           go_wp2_with fail
           refine (specIn _ _ _ _).mono ?_
           rintro e w2 ⟨rfl, rfl⟩
           rw [HD9.out]
           go_wp2_with fail
           refine (specIn _ _ _ _).mono ?_
           rintro e w2 ⟨rfl, rfl⟩
           rw [HU9.out]
           go_wp2_with fail
           go_roundw
           case rel => exact ⟨k + 1, by omega, by go_num, HA, hr1.below hq, hba.trans (hq.mono hba.size)⟩
           case measure => simp [intOf]; omega
          ·have e : x.fks.take k = x.fks := List.take_of_length_le (by omega)
           have g1 := hall.out
           rw [e] at g1
           have HFB := Lib.hid (show fksB x.cols x.fks = true by unfold fksB; rw [g1, decide_eq_true (by omega)]; rfl)
           clear e g1 hall
           go_wp2_with fail
           go_ret
           exact ⟨retB (by unfold tableB; rw [HN0.out, HC.out, HKB.out, HUB.out, HEB.out, HFB.out]; rfl), hb⟩
set_option maxRecDepth 100000 in
set_option maxHeartbeats 4000000 in
theorem specSchemaOk (AS : Option Addr) (nS cS : Nat) (s : List Tb) (ok : Nat → Prop) (w : World) (hs : Sl TbR 6 ok w AS nS s) (hcp : nS ≤ cS) (hsz : szL Tb.sz s ≤ 1048576) :
  Calls Tryz.prog 28 #[.slice AS nS cS] w fun e w' => e = .returned (.bool (schemaB s)) ∧ Below w.heap.size w w' := by
 obtain rfl : s.length = nS := hs.1
 have hn : s.length ≤ 1048576 := by unfold szL at hsz; omega
 have HSZ := Lib.hid hsz
 have HT := Lib.hid (fun k (hlt : k < s.length) => show s[k].sz ≤ 1048576 by have := HSZ.out; have := sum_mem_le Tb.sz s k hlt; unfold szL at *; omega)
 clear hsz
 go_enter Tryz.func28, Tryz.ntmps28
 go_wp2_with fail
 go_loopw [3] (fun i wr => ∃ k : Nat, k ≤ s.length ∧ i = .int .i64 k ∧ Hid ((s.take k).all tableB = true) ∧ Hid (uniqGo [] (s.map Tb.name) = uniqGo ((s.map Tb.name).take k) ((s.map Tb.name).drop k)) ∧ Below w.heap.size w wr) (fun i _ => s.length - (intOf i).toNat)
 case atStart => exact ⟨0, by omega, rfl, Lib.hid (by simp), Lib.hid (by simp), Below.refl _ _⟩
 case round =>
  obtain ⟨k, hk, rfl, hall, huq, hb⟩ := hrel
  by_cases hlt : k < s.length
  ·have hsw := hs.below TbR.stays hb
   obtain ⟨b, off, A1, n1, c1, A2, n2, c2, A3, n3, c3, A4, n4, c4, A5, n5, c5, -, ea, q0, q1, q2, q3, q4, q5, s1, s2, s3, s4, s5, hcps⟩ := TbR.at_ hsw hlt
   subst ea
   have HCP := Lib.hid hcps
   clear hcps
   have hsn := all_take tableB s k hlt
   rw [hall.out, Bool.true_and] at hsn
   have hno := fun hf => all_no tableB s k hlt hf
   have hug := uniqGo_at (s.map Tb.name) k (by simpa using hlt)
   rw [← huq.out, List.getElem_map, ← List.map_take] at hug
   have HX := Lib.hid (HT.out k hlt)
   have i0 : (0 : Int) ≤ k := by omega
   have i1 : (k : Int) < s.length := by omega
   have i3 : (k : Int) ≤ cS := by omega
   cases hc : tableB s[k]
   ·skip
    have HTB := Lib.hid hc
    have HF := Lib.hid (show schemaB s = false by unfold schemaB; rw [hno hc]; simp)
    clear hc hno hsn hug hall huq
    go_wp2_with fail
    refine wp_region_noPanic ?_
    refine wp_region_held_drew (S := fun w' => w'.cell? ⟨b, off + k * 6, none⟩ = some (.string s[k].name) ∧ w'.cell? ⟨b, off + k * 6 + 1, none⟩ = some (.slice A1 n1 c1) ∧ w'.cell? ⟨b, off + k * 6 + 2, none⟩ = some (.slice A2 n2 c2) ∧ w'.cell? ⟨b, off + k * 6 + 3, none⟩ = some (.slice A3 n3 c3) ∧ w'.cell? ⟨b, off + k * 6 + 4, none⟩ = some (.slice A4 n4 c4) ∧ w'.cell? ⟨b, off + k * 6 + 5, none⟩ = some (.slice A5 n5 c5)) (by kernel_rfl) ⟨q0, q1, q2, q3, q4, q5⟩ (fun hHeld => ?_)
    refine tk 0 ?_
    refine tk 1 ?_
    refine tk 2 ?_
    refine tk 3 ?_
    refine wpAnyH_ready (rs := [4]) (by kernel_rfl) (by simp) ?_
    refine AllReadyH.cons rfl (fun K hK => ?_) AllReadyH.nil
    go_simp
    refine (specTableOk s[k] A1 n1 c1 A2 n2 c2 A3 n3 c3 A4 n4 c4 A5 n5 c5 ok _ (s1.drew ClR.stays) (s2.drew IntR.stays) (s3.drew UqR.stays) (s4.drew CkR.stays) (s5.drew FkR.stays) HCP.out HX.out).mono ?_
    rintro e wc ⟨rfl, hqc⟩
    rw [HTB.out]
    go_wp2_with fail
    refine hK.out _ _ ⟨below_keep hqc _ _ hHeld.1, below_keep hqc _ _ hHeld.2.1, below_keep hqc _ _ hHeld.2.2.1, below_keep hqc _ _ hHeld.2.2.2.1, below_keep hqc _ _ hHeld.2.2.2.2.1, below_keep hqc _ _ hHeld.2.2.2.2.2⟩ (fun hHeld => ?_)
    clear hK K
    (try simp only [Act.put, pz0, pz1, pz2, pz3, pz4, pz5])
    refine tk 5 ?_
    refine tk 6 ?_
    refine tu 7 ?_
    refine tu 8 ?_
    refine tu 9 ?_
    refine tu 10 ?_
    refine tu 11 ?_
    refine tu 12 ?_
    refine tu 13 ?_
    refine tu 14 ?_
    refine tu 15 ?_
    refine tu 16 ?_
    refine tk 17 ?_
    refine wpAnyH_done (by kernel_rfl) ?_ _
    refine NoPanic.normal ?_
    have hz := hb.drew.trans (hqc.mono hb.drew.size)
    clear hHeld q0 q1 q2 q3 q4 q5
    go_wp2_with fail
    go_ret
    exact ⟨retB HF.out.symm, hz⟩
   have HTB := Lib.hid hc
   by_cases hat : atN ((s.take k).map Tb.name) s[k].name = -1
   case neg =>
    obtain ⟨j, hj, hj0⟩ : ∃ j : Int, j = atN ((s.take k).map Tb.name) s[k].name ∧ 0 ≤ j := ⟨_, rfl, by rcases atN_rng ((s.take k).map Tb.name) s[k].name with h | h; exact absurd h hat; exact h.1⟩
    have HJ := Lib.hid hj
    have HF := Lib.hid (show schemaB s = false by unfold schemaB; rw [hug, decide_eq_false hat]; simp)
    clear hc hno hsn hug hall huq hat hj
    go_wp2_with fail
    refine wp_region_noPanic ?_
    refine wp_region_held_drew (S := fun w' => w'.cell? ⟨b, off + k * 6, none⟩ = some (.string s[k].name) ∧ w'.cell? ⟨b, off + k * 6 + 1, none⟩ = some (.slice A1 n1 c1) ∧ w'.cell? ⟨b, off + k * 6 + 2, none⟩ = some (.slice A2 n2 c2) ∧ w'.cell? ⟨b, off + k * 6 + 3, none⟩ = some (.slice A3 n3 c3) ∧ w'.cell? ⟨b, off + k * 6 + 4, none⟩ = some (.slice A4 n4 c4) ∧ w'.cell? ⟨b, off + k * 6 + 5, none⟩ = some (.slice A5 n5 c5)) (by kernel_rfl) ⟨q0, q1, q2, q3, q4, q5⟩ (fun hHeld => ?_)
    refine tk 0 ?_
    refine tk 1 ?_
    refine tk 2 ?_
    refine tk 3 ?_
    refine wpAnyH_ready (rs := [4]) (by kernel_rfl) (by simp) ?_
    refine AllReadyH.cons rfl (fun K hK => ?_) AllReadyH.nil
    go_simp
    refine (specTableOk s[k] A1 n1 c1 A2 n2 c2 A3 n3 c3 A4 n4 c4 A5 n5 c5 ok _ (s1.drew ClR.stays) (s2.drew IntR.stays) (s3.drew UqR.stays) (s4.drew CkR.stays) (s5.drew FkR.stays) HCP.out HX.out).mono ?_
    rintro e wc ⟨rfl, hqc⟩
    rw [HTB.out]
    go_wp2_with fail
    refine hK.out _ _ ⟨below_keep hqc _ _ hHeld.1, below_keep hqc _ _ hHeld.2.1, below_keep hqc _ _ hHeld.2.2.1, below_keep hqc _ _ hHeld.2.2.2.1, below_keep hqc _ _ hHeld.2.2.2.2.1, below_keep hqc _ _ hHeld.2.2.2.2.2⟩ (fun hHeld => ?_)
    clear hK K
    (try simp only [Act.put, pz0, pz1, pz2, pz3, pz4, pz5])
    refine tk 5 ?_
    refine tk 6 ?_
    refine tk 7 ?_
    refine tk 8 ?_
    refine tk 9 ?_
    refine tk 10 ?_
    refine tk 11 ?_
    refine tk 12 ?_
    refine tk 13 ?_
    refine tk 14 ?_
    refine wpAnyH_ready (rs := [15]) (by kernel_rfl) (by simp) ?_
    refine AllReadyH.cons rfl (fun K hK => ?_) AllReadyH.nil
    go_simp
    refine (specL3At _ k cS (s.take k) _ ok _ (((hsw.drew TbR.stays).below TbR.stays hqc).take (m := k) (by omega)) (by omega)).mono ?_
    rintro e wd ⟨rfl, hqd⟩
    rw [← HJ.out]
    go_wp2_with fail
    refine hK.out _ _ ⟨below_keep hqd _ _ hHeld.1, below_keep hqd _ _ hHeld.2.1, below_keep hqd _ _ hHeld.2.2.1, below_keep hqd _ _ hHeld.2.2.2.1, below_keep hqd _ _ hHeld.2.2.2.2.1, below_keep hqd _ _ hHeld.2.2.2.2.2⟩ (fun hHeld => ?_)
    clear hK K
    (try simp only [Act.put, pz0, pz1, pz2, pz3, pz4, pz5])
    refine tk 16 ?_
    refine tk 17 ?_
    refine wpAnyH_done (by kernel_rfl) ?_ _
    refine NoPanic.normal ?_
    have hz := hb.drew.trans (hqc.mono hb.drew.size)
    have hz := hz.trans (hqd.mono hz.size)
    clear hHeld q0 q1 q2 q3 q4 q5
    go_wp2_with fail
    go_ret
    exact ⟨retB HF.out.symm, hz⟩
   case pos =>
    have HA := Lib.hid hat
    have HUQ := Lib.hid (show uniqGo [] (s.map Tb.name) = uniqGo ((s.map Tb.name).take (k + 1)) ((s.map Tb.name).drop (k + 1)) by rw [hug, decide_eq_true hat, Bool.true_and])
    have HAL := Lib.hid (hsn.trans hc)
    clear hc hno hsn hug hall huq hat
    go_wp2_with fail
    refine wp_region_noPanic ?_
    refine wp_region_held_drew (S := fun w' => w'.cell? ⟨b, off + k * 6, none⟩ = some (.string s[k].name) ∧ w'.cell? ⟨b, off + k * 6 + 1, none⟩ = some (.slice A1 n1 c1) ∧ w'.cell? ⟨b, off + k * 6 + 2, none⟩ = some (.slice A2 n2 c2) ∧ w'.cell? ⟨b, off + k * 6 + 3, none⟩ = some (.slice A3 n3 c3) ∧ w'.cell? ⟨b, off + k * 6 + 4, none⟩ = some (.slice A4 n4 c4) ∧ w'.cell? ⟨b, off + k * 6 + 5, none⟩ = some (.slice A5 n5 c5)) (by kernel_rfl) ⟨q0, q1, q2, q3, q4, q5⟩ (fun hHeld => ?_)
    refine tk 0 ?_
    refine tk 1 ?_
    refine tk 2 ?_
    refine tk 3 ?_
    refine wpAnyH_ready (rs := [4]) (by kernel_rfl) (by simp) ?_
    refine AllReadyH.cons rfl (fun K hK => ?_) AllReadyH.nil
    go_simp
    refine (specTableOk s[k] A1 n1 c1 A2 n2 c2 A3 n3 c3 A4 n4 c4 A5 n5 c5 ok _ (s1.drew ClR.stays) (s2.drew IntR.stays) (s3.drew UqR.stays) (s4.drew CkR.stays) (s5.drew FkR.stays) HCP.out HX.out).mono ?_
    rintro e wc ⟨rfl, hqc⟩
    rw [HTB.out]
    go_wp2_with fail
    refine hK.out _ _ ⟨below_keep hqc _ _ hHeld.1, below_keep hqc _ _ hHeld.2.1, below_keep hqc _ _ hHeld.2.2.1, below_keep hqc _ _ hHeld.2.2.2.1, below_keep hqc _ _ hHeld.2.2.2.2.1, below_keep hqc _ _ hHeld.2.2.2.2.2⟩ (fun hHeld => ?_)
    clear hK K
    (try simp only [Act.put, pz0, pz1, pz2, pz3, pz4, pz5])
    refine tk 5 ?_
    refine tk 6 ?_
    refine tk 7 ?_
    refine tk 8 ?_
    refine tk 9 ?_
    refine tk 10 ?_
    refine tk 11 ?_
    refine tk 12 ?_
    refine tk 13 ?_
    refine tk 14 ?_
    refine wpAnyH_ready (rs := [15]) (by kernel_rfl) (by simp) ?_
    refine AllReadyH.cons rfl (fun K hK => ?_) AllReadyH.nil
    go_simp
    refine (specL3At _ k cS (s.take k) _ ok _ (((hsw.drew TbR.stays).below TbR.stays hqc).take (m := k) (by omega)) (by omega)).mono ?_
    rintro e wd ⟨rfl, hqd⟩
    rw [HA.out]
    go_wp2_with fail
    refine hK.out _ _ ⟨below_keep hqd _ _ hHeld.1, below_keep hqd _ _ hHeld.2.1, below_keep hqd _ _ hHeld.2.2.1, below_keep hqd _ _ hHeld.2.2.2.1, below_keep hqd _ _ hHeld.2.2.2.2.1, below_keep hqd _ _ hHeld.2.2.2.2.2⟩ (fun hHeld => ?_)
    clear hK K
    (try simp only [Act.put, pz0, pz1, pz2, pz3, pz4, pz5])
    refine tk 16 ?_
    refine tk 17 ?_
    refine wpAnyH_done (by kernel_rfl) ?_ _
    refine NoPanic.normal ?_
    have hz := hb.drew.trans (hqc.mono hb.drew.size)
    have hz := hz.trans (hqd.mono hz.size)
    clear hHeld q0 q1 q2 q3 q4 q5
    go_wp2_with fail
    go_roundw
    case rel => exact ⟨k + 1, by omega, by go_num, Lib.hid HAL.out, Lib.hid HUQ.out, hz⟩
    case measure => simp [intOf]; omega
  ·have e : s.take k = s := List.take_of_length_le (by omega)
   have e2 : (s.map Tb.name).drop k = [] := List.drop_eq_nil_of_le (by simp; omega)
   have g1 := hall.out
   have g2 := huq.out
   rw [e] at g1
   rw [e2] at g2
   have HALL := Lib.hid g1
   have HU := Lib.hid (show uniqGo [] (s.map Tb.name) = true by rw [g2]; simp [uniqGo])
   clear e e2 g1 g2 hall huq
   go_wp2_with fail
   clear hk hlt
   go_loopw [4] (fun i wr => ∃ k : Nat, k ≤ s.length ∧ i = .int .i64 k ∧ Hid ((s.take k).all (leadsB s) = true) ∧ Below w.heap.size w wr) (fun i _ => s.length - (intOf i).toNat)
   case atStart => exact ⟨0, by omega, rfl, Lib.hid (by simp), hb⟩
   case round =>
    clear hb
    obtain ⟨k, hk, rfl, hall, hb⟩ := hrel
    by_cases hlt : k < s.length
    case neg =>
     have e : s.take k = s := List.take_of_length_le (by omega)
     have g1 := hall.out
     rw [e] at g1
     by_cases h5 : (s.length : Int) ≤ 5
     ·have HF := Lib.hid (show schemaB s = true by unfold schemaB; rw [decide_eq_true (by omega), HALL.out, HU.out, g1]; rfl)
      have h5' : decide ((s.length : Int) ≤ 5) = true := by simpa using h5
      clear e g1 hall
      go_wp2_with fail
      go_ret
      exact ⟨retB HF.out.symm, hb⟩
     ·have HF := Lib.hid (show schemaB s = false by unfold schemaB; rw [decide_eq_false (by omega)]; rfl)
      have h5' : decide ((s.length : Int) ≤ 5) = false := by simpa using h5
      clear e g1 hall
      go_wp2_with fail
      go_ret
      exact ⟨retB HF.out.symm, hb⟩
    case pos =>
     have hsn := all_take (leadsB s) s k hlt
     rw [hall.out, Bool.true_and] at hsn
     have HNO := Lib.hid (fun hf : leadsB s s[k] = false => show schemaB s = false by unfold schemaB; rw [all_no (leadsB s) s k hlt hf]; simp)
     have HSN := Lib.hid hsn
     have HX := Lib.hid (HT.out k hlt)
     have HTK := Lib.hid (show tableB s[k] = true from List.all_eq_true.1 HALL.out _ (List.getElem_mem hlt))
     clear hsn hall
     have i0 : (0 : Int) ≤ k := by omega
     have i1 : (k : Int) < s.length := by omega
     go_wp2_with fail
     go_loopw [5] (fun i wr => ∃ m : Nat, m ≤ s[k].fks.length ∧ i = .int .i64 m ∧ Hid ((s[k].fks.take m).all (leadB s s[k]) = true) ∧ Below w.heap.size w wr) (fun i _ => s[k].fks.length - (intOf i).toNat)
     case atStart => exact ⟨0, by omega, rfl, Lib.hid (by simp), hb⟩
     case round =>
      clear hb
      obtain ⟨m, hm, rfl, hall, hb⟩ := hrel
      obtain ⟨b, off, A1, n1, c1, A2, n2, c2, A3, n3, c3, A4, n4, c4, A5, n5, c5, -, ea, q0, q1, q2, q3, q4, q5, s1, s2, -, -, s5, -⟩ := TbR.at_ (hs.below TbR.stays hb) hlt
      subst ea
      obtain rfl : s[k].fks.length = n5 := s5.1
      by_cases hlm : m < s[k].fks.length
      case neg =>
       have e : s[k].fks.take m = s[k].fks := List.take_of_length_le (by omega)
       have g1 := hall.out
       rw [e] at g1
       have HA := Lib.hid (HSN.out.trans g1)
       clear e g1 hall
       go_wp2_with fail
       go_roundw
       case rel => exact ⟨k + 1, by omega, by go_num, Lib.hid HA.out, hb⟩
       case measure => simp [intOf]; omega
      case pos =>
       have hsn := all_take (leadB s s[k]) s[k].fks m hlm
       rw [hall.out, Bool.true_and] at hsn
       have hno := fun hf : leadB s s[k] s[k].fks[m] = false => HNO.out (show leadsB s s[k] = false from all_no (leadB s s[k]) s[k].fks m hlm hf)
       have HI1 := Lib.hid (show ∀ y ∈ s[k].fks[m].cols, 0 ≤ y ∧ y < s[k].cols.length from fk_cols HTK.out hlm)
       obtain ⟨bf, offf, A9, n9, c9, -, ef, y0, y1, y2, y3, y4, hfc, -⟩ := FkR.at_ s5 hlm
       subst ef
       obtain rfl : s[k].fks[m].cols.length = n9 := hfc.1
       have HSN3 := Lib.hid hsn
       have HNO3 := Lib.hid hno
       clear hsn hno hall
       have hfin : s[k].fks[m].cols.length ≤ 1048576 := by have h1 := HX.out; have := sum_mem_le Fk.sz s[k].fks m hlm; simp only [Tb.sz, Fk.sz, szL] at *; omega
       have hfl : s[k].fks.length ≤ 1048576 := by have := HX.out; simp only [Tb.sz, szL] at this; omega
       generalize s[k].fks[m] = f at *
       have j0 : (0 : Int) ≤ m := by omega
       have j1' : (m : Int) < s[k].fks.length := by omega
       have hbx := (Below.refl wr.heap.size wr).alloc (Nat.le_refl _) (.cells #[.slice A9 f.cols.length c9, .string f.table, .int .i64 f.del, .int .i64 f.upd, .bool f.dfr] 66)
       have hba := hb.trans (hbx.mono hb.size)
       have rf := Row.new wr 66 #[.slice A9 f.cols.length c9, .string f.table, .int .i64 f.del, .int .i64 f.upd, .bool f.dfr]
       have hfc1 := hfc.below IntR.stays hbx
       obtain ⟨⟨f0, f1, f2, f3, f4⟩, -⟩ := rf.five
       clear hfc
       go_wp2_with fail
       generalize wr.alloc (.cells #[.slice A9 f.cols.length c9, .string f.table, .int .i64 f.del, .int .i64 f.upd, .bool f.dfr] 66) = z1 at *
       generalize wr.heap.size = gz at *
       refine (specL3At _ s.length cS s f.table ok _ (hs.below TbR.stays hba) hn).mono ?_
       rintro e w1 ⟨rfl, hb1⟩
       have hbc := hba.trans (hb1.mono hba.size)
       have rf1 := rf.below hb1
       have hfc2 := hfc1.below IntR.stays hb1
       clear f0 f1 f2 f3 f4 q0 q1 q2 q3 q4 q5 y0 y1 y2 y3 y4 s1 s2 hbx hb rf hfc1 hba hb1 s5
       obtain ⟨⟨f0, f1, f2, f3, f4⟩, -⟩ := rf1.five
       by_cases hat : atN (s.map Tb.name) f.table = -1
       ·have HA := Lib.hid hat
        have HF := Lib.hid (HNO3.out (by unfold leadB; rw [decide_eq_false (by simp [hat])]; rfl))
        rw [hat]
        clear hat
        go_wp2_with fail
        go_quiet (fail)
        go_wp2_with fail
        go_ret
        exact ⟨retB HF.out.symm, below_drewN hbc _⟩
       obtain ⟨j, hj, hjl⟩ : ∃ j : Nat, atN (s.map Tb.name) f.table = (j : Int) ∧ j < s.length := by
        rcases atN_rng (s.map Tb.name) f.table with h | h
        ·exact absurd h hat
        ·rw [List.length_map] at h; exact ⟨(atN (s.map Tb.name) f.table).toNat, by omega, by omega⟩
       have hld : leadB s s[k] f = sameB s[k].cols f.cols s[j].cols s[j].key := by
        unfold leadB; rw [decide_eq_true hat, hj]; simp [List.getElem?_eq_getElem hjl]
       have HSN4 := Lib.hid (HSN3.out.trans hld)
       have HLD := Lib.hid hld
       have HTJ := Lib.hid (show tableB s[j] = true from List.all_eq_true.1 HALL.out _ (List.getElem_mem hjl))
       rw [hj]
       clear hat hj hld
       have k0 : (0 : Int) ≤ j := by omega
       have k1 : (j : Int) < s.length := by omega
       have k2 : ¬ ((j : Int) < 0) := by omega
       have k3 : decide ((j : Int) < 0) = false := decide_eq_false k2
       obtain ⟨bj, offj, B1, m1, d1, B2, m2, d2, B3, m3, d3, B4, m4, d4, B5, m5, d5, -, ej, z0, z1', z2, z3, z4, z5, t1, t2, -, -, -, -⟩ := TbR.at_ (hs.below TbR.stays hbc) hjl
       cases ej
       obtain rfl : s[j].key.length = m2 := t2.1
       cases hl : (s[j].key.length == f.cols.length)
       ·have hne := beq_eq_false_iff_ne.1 hl
        have hl' : ¬ ((s[j].key.length : Int) = f.cols.length) := by omega
        have HF := Lib.hid (HNO3.out (by rw [HLD.out]; unfold sameB; rw [decide_eq_false (fun h => hne h.symm)]; rfl))
        clear hl hne
        go_wp2_with fail
        go_quiet (fail)
        go_wp2_with fail
        go_ret
        exact ⟨retB HF.out.symm, below_drewN hbc _⟩
       have hlen : s[j].key.length = f.cols.length := by simpa using hl
       have hl' : ((s[j].key.length : Int) = f.cols.length) := by omega
       have hz : (f.cols.zip s[j].key).length = f.cols.length := by simp [hlen]
       have HZ := Lib.hid hz
       have HL := Lib.hid hlen
       have HE := Lib.hid (show sameB s[k].cols f.cols s[j].cols s[j].key = (f.cols.zip s[j].key).all (kindV s[k].cols s[j].cols) by unfold sameB; rw [decide_eq_true hlen.symm]; rfl)
       clear hl hz hlen
       go_wp2_with fail
       go_quiet (fail)
       go_wp2_with fail
       clear f0 f1 f2 f3 f4 z0 z1' z2 z3 z4 z5 t1 t2 hl'
       have hbd := fun n => below_drewN hbc n
       go_loopw [8] (fun i wr => ∃ r : Nat, r ≤ f.cols.length ∧ i = .int .i64 r ∧ Hid (((f.cols.zip s[j].key).take r).all (kindV s[k].cols s[j].cols) = true) ∧ Row wr gz 66 #[.slice A9 f.cols.length c9, .string f.table, .int .i64 f.del, .int .i64 f.upd, .bool f.dfr] ∧ Sl IntR 1 ok wr A9 f.cols.length f.cols ∧ Below w.heap.size w wr) (fun i _ => f.cols.length - (intOf i).toNat)
       case atStart => exact ⟨0, by omega, rfl, Lib.hid (by simp), rf1.drewN _, hfc2.drewN IntR.stays _, hbd _⟩
       case round =>
        clear hbd hbc rf1 hfc2
        obtain ⟨r, hr', rfl, hall, hrf, hfc, hb⟩ := hrel
        obtain ⟨⟨f0, f1, f2, f3, f4⟩, -⟩ := hrf.five
        by_cases hlr : r < f.cols.length
        case neg =>
         have e : (f.cols.zip s[j].key).take r = f.cols.zip s[j].key := List.take_of_length_le (by rw [HZ.out]; omega)
         have g1 := hall.out
         rw [e] at g1
         have HA := Lib.hid (HSN4.out.trans (HE.out.trans g1))
         clear e g1 hall
         go_wp2_with fail
         go_roundw
         case rel => exact ⟨m + 1, by omega, by go_num, Lib.hid HA.out, hb⟩
         case measure => simp [intOf]; omega
        case pos =>
         have hlr2 : r < s[j].key.length := by have := HL.out; omega
         obtain ⟨bq, offq, C1, e1, g1, C2, e2, g2, C3, e3, g3, C4, e4, g4, C5, e5, g5, -, eq, q0, q1, q2, q3, q4, q5, s1, -, -, -, -, -⟩ := TbR.at_ (hs.below TbR.stays hb) hlt
         cases eq
         obtain ⟨bj, offj, D1, m1, d1, D2, m2, d2, D3, m3, d3, D4, m4, d4, D5, m5, d5, -, ej, z0, z1', z2, z3, z4, z5, t1, t2, -, -, -, -⟩ := TbR.at_ (hs.below TbR.stays hb) hjl
         cases ej
         obtain rfl : s[j].key.length = m2 := t2.1
         obtain rfl : s[k].cols.length = e1 := s1.1
         obtain rfl : s[j].cols.length = m1 := t1.1
         obtain ⟨bk, offk, -, ek, p0⟩ := IntR.at_ hfc hlr
         subst ek
         obtain ⟨bl, offl, -, el, p1⟩ := IntR.at_ t2 hlr2
         subst el
         have hi1 := HI1.out _ (List.getElem_mem hlr)
         have hi2 := key_cols HTJ.out _ (List.getElem_mem hlr2)
         have hsn := all_take (kindV s[k].cols s[j].cols) (f.cols.zip s[j].key) r (by rw [HZ.out]; exact hlr)
         have hno := fun hf : kindV s[k].cols s[j].cols ((f.cols.zip s[j].key)[r]'(by rw [HZ.out]; exact hlr)) = false => all_no (kindV s[k].cols s[j].cols) (f.cols.zip s[j].key) r (by rw [HZ.out]; exact hlr) hf
         obtain ⟨u1, hu1⟩ : ∃ j : Nat, f.cols[r] = (j : Int) := ⟨f.cols[r].toNat, by omega⟩
         obtain ⟨u2, hu2⟩ : ∃ i : Nat, s[j].key[r] = (i : Int) := ⟨s[j].key[r].toNat, by omega⟩
         rw [hu1] at p0 hi1
         rw [hu2] at p1 hi2
         have hjl1 : u1 < s[k].cols.length := by omega
         have hjl2 : u2 < s[j].cols.length := by omega
         have eg : kindV s[k].cols s[j].cols ((f.cols.zip s[j].key)[r]'(by rw [HZ.out]; exact hlr)) = (s[k].cols[u1].kind == s[j].cols[u2].kind) := by
          rw [List.getElem_zip]; unfold kindV; simp only [hu1, hu2, kindAt_nat hjl1, kindAt_nat hjl2]
         rw [hall.out, Bool.true_and, eg] at hsn
         rw [eg] at hno
         obtain ⟨bv, offv, -, ev, v0, v1, v2, v3, v4, v5⟩ := ClR.at_ s1 hjl1
         subst ev
         obtain ⟨bx, offx, -, ex, x0, x1, x2, x3, x4, x5⟩ := ClR.at_ t1 hjl2
         subst ex
         have r0 : (0 : Int) ≤ r := by omega
         have r1 : (r : Int) < f.cols.length := by omega
         have r2 : (r : Int) < s[j].key.length := by omega
         have r3 : (0 : Int) ≤ u1 := by omega
         have r4 : (u1 : Int) < s[k].cols.length := by omega
         have r5 : (0 : Int) ≤ u2 := by omega
         have r6 : (u2 : Int) < s[j].cols.length := by omega
         clear eg hu1 hu2 hi1 hi2
         cases hc : (s[k].cols[u1].kind == s[j].cols[u2].kind)
         ·have HF := Lib.hid (HNO3.out (by rw [HLD.out, HE.out]; exact hno hc))
          have hc2 : (s[k].cols[u1].kind != s[j].cols[u2].kind) = true := by rw [bne, hc]; rfl
          clear hsn hno hall
          go_wp2_with fail
          go_quiet (fail)
          go_wp2_with fail
          go_ret
          exact ⟨retB HF.out.symm, below_drewN hb _⟩
         ·have HA := Lib.hid (hsn.trans hc)
          have hc2 : (s[k].cols[u1].kind != s[j].cols[u2].kind) = false := by rw [bne, hc]; rfl
          clear hsn hno hall
          go_wp2_with fail
          go_quiet (fail)
          go_wp2_with fail
          go_roundw
          case rel => exact ⟨r + 1, by omega, by go_num, Lib.hid HA.out, hrf.drewN _, hfc.drewN IntR.stays _, below_drewN hb _⟩
          case measure => simp [intOf]; omega
def EmR : Rd Unit := FlatR fun _ => [.slice none 0 0]
theorem EmR.stays : Stays EmR := FlatR.stays _
def ems (b : Bool) (n : Nat) : List Unit := if b then List.replicate n () else []
def dts (l : List Unit) : List Dt := l.map fun _ => ⟨[]⟩
theorem dts_sz (l : List Unit) : szL Dt.sz (dts l) = l.length := by
 unfold dts szL
 rw [List.map_map]
 have e : (Dt.sz ∘ fun _ : Unit => (⟨[]⟩ : Dt)) = fun _ => 0 := by funext x; simp [Dt.sz, szL]
 rw [e, List.length_map]
 have : (l.map fun _ => 0).sum = 0 := by
  induction l with
  | nil => rfl
  | cons x l ih => rw [List.map_cons, List.sum_cons, ih]
 omega
theorem Em.toDt {ok : Nat → Prop} {w : World} {A : Option Addr} {n : Nat} {l : List Unit} (h : Sl EmR 1 ok w A n l) : Sl DtR 1 ok w A n (dts l) := by
 refine ⟨by simpa [dts] using h.1, fun hn => ?_⟩
 obtain ⟨b, off, e, hb, hi⟩ := h.2 hn
 refine ⟨b, off, e, hb, fun i hlt => ?_⟩
 obtain ⟨cs, h1, h2, h3⟩ := hi i (by simpa [dts] using hlt)
 have e2 : cs = _ := h2
 subst e2
 refine ⟨_, h1, ⟨none, 0, 0, rfl, ?_, Nat.le_refl _⟩, h3⟩
 simp only [dts, List.getElem_map]
 exact ⟨rfl, fun h => by omega⟩
theorem em_made (w : World) (n : Nat) (T : TypeId) : Sl EmR 1 (okF w.heap.size (w.alloc (.cells (madeCells #[.slice none 0 0] n) T))) (w.alloc (.cells (madeCells #[.slice none 0 0] n) T)) (some ⟨w.heap.size, 0, none⟩) n (List.replicate n ()) := by
 have row := Row.new w T (madeCells #[.slice none 0 0] n)
 refine ⟨by simp, fun hn => ⟨w.heap.size, 0, rfl, ⟨Nat.le_refl _, by simp, fun off => row.free off⟩, fun i hi => ⟨_, rfl, rfl, fun j v hv => ?_⟩⟩⟩
 have hj : j = 0 := by have := (List.getElem?_eq_some_iff.1 hv).1; simpa using this
 subst hj
 obtain rfl := Option.some.inj hv
 have hi' : i < n := by simpa using hi
 rw [row.cell]
 simp [madeCells, hi', Nat.mod_one]
def MadeT {α : Type} (R : Rd α) (sz : Nat) (xs : List α) (b : Bool) (w : World) (e : Ending) (w' : World) : Prop := ∃ A c, e = .returned (.tuple #[.slice A xs.length c, .bool b]) ∧ xs.length ≤ c ∧ Sl R sz (okF w.heap.size w') w' A xs.length xs ∧ Below w.heap.size w w'
theorem infoDataT' : (Tryz.prog.info? 69).map (fun i => (i.zero, i.size, i.bytes)) = some (some (.agg #[.slice none 0 0]), 1, 24) := by kernel_rfl
set_option maxRecDepth 100000 in
set_option maxHeartbeats 1000000 in
theorem implDbNew (A : Option Addr) (n c : Nat) (s : List Tb) (ok : Nat → Prop) (w : World) (h : Sl TbR 6 ok w A n s) (hs : szL Tb.sz s ≤ 1048576) :
  Calls Tryz.prog 12 #[.slice A n c] w (MadeT EmR 1 (ems (schemaB s) s.length) (schemaB s) w) := by
 obtain rfl : s.length = n := h.1
 have hn : s.length ≤ 1048576 := by unfold szL at hs; omega
 have HS := Lib.hid hs
 clear hs
 cases hB : schemaB s
 ·have HB := Lib.hid hB
  clear hB
  go_enter Tryz.func12, Tryz.ntmps12
  go_wp2_with fail
  refine (implSchemaOk A s.length c s ok _ h HS.out).mono ?_
  rintro e w1 ⟨rfl, hb1⟩
  rw [HB.out]
  go_wp2_with fail
  go_ret2
  exact ⟨none, 0, rfl, Nat.le_refl _, ⟨rfl, fun h => by simp [ems] at h⟩, hb1⟩
 have HB := Lib.hid hB
 clear hB
 have hmk := fun w => mk_rows (P := Tryz.prog) Tryz.underlying26 infoDataT' (by omega) s.length hn w
 simp only [Nat.mul_one] at hmk
 go_enter Tryz.func12, Tryz.ntmps12
 go_wp2_with fail
 refine (implSchemaOk A s.length c s ok _ h HS.out).mono ?_
 rintro e w1 ⟨rfl, hb1⟩
 rw [HB.out]
 have hem := em_made w1 s.length 69
 have hbz := hb1.alloc hb1.size (.cells (madeCells #[.slice none 0 0] s.length) 69)
 have HEM := Lib.hid (hem.stays EmR.stays (ok' := okF w.heap.size _) (fun b hb => hb.mono hb1.size) (fun _ _ _ h => h))
 clear hem
 go_wp2_with fail
 go_ret2
 exact ⟨some ⟨w1.heap.size, 0, none⟩, s.length, by simp [ems], by simp [ems], by simpa [ems] using HEM.out, hbz⟩
set_option maxRecDepth 100000 in
set_option maxHeartbeats 1000000 in
theorem specDbNew (A : Option Addr) (n c : Nat) (s : List Tb) (ok : Nat → Prop) (w : World) (h : Sl TbR 6 ok w A n s) (hcp : n ≤ c) (hs : szL Tb.sz s ≤ 1048576) :
  Calls Tryz.prog 14 #[.slice A n c] w (MadeT EmR 1 (ems (schemaB s) s.length) (schemaB s) w) := by
 obtain rfl : s.length = n := h.1
 have hn : s.length ≤ 1048576 := by unfold szL at hs; omega
 have HS := Lib.hid hs
 have HCP := Lib.hid hcp
 clear hs hcp
 cases hB : schemaB s
 ·have HB := Lib.hid hB
  clear hB
  go_enter Tryz.func14, Tryz.ntmps14
  go_wp2_with fail
  refine (specSchemaOk A s.length c s ok _ h HCP.out HS.out).mono ?_
  rintro e w1 ⟨rfl, hb1⟩
  rw [HB.out]
  go_wp2_with fail
  go_ret2
  exact ⟨none, 0, rfl, Nat.le_refl _, ⟨rfl, fun h => by simp [ems] at h⟩, hb1⟩
 have HB := Lib.hid hB
 clear hB
 have hmk := fun w => mk_rows (P := Tryz.prog) Tryz.underlying26 infoDataT' (by omega) s.length hn w
 simp only [Nat.mul_one] at hmk
 go_enter Tryz.func14, Tryz.ntmps14
 go_wp2_with fail
 refine (specSchemaOk A s.length c s ok _ h HCP.out HS.out).mono ?_
 rintro e w1 ⟨rfl, hb1⟩
 rw [HB.out]
 have hem := em_made w1 s.length 69
 have hbz := hb1.alloc hb1.size (.cells (madeCells #[.slice none 0 0] s.length) 69)
 have HEM := Lib.hid (hem.stays EmR.stays (ok' := okF w.heap.size _) (fun b hb => hb.mono hb1.size) (fun _ _ _ h => h))
 clear hem
 go_wp2_with fail
 go_ret2
 exact ⟨some ⟨w1.heap.size, 0, none⟩, s.length, by simp [ems], by simp [ems], by simpa [ems] using HEM.out, hbz⟩
end Go.Proofs.YtkehfilmpdoglaaGreat
namespace Go.Proofs.YtkehfilmpdoglaaGreat
open Go.RowKit Go.Maps Go.Shelf
def EzR : Rd Unit := fun _ _ cs _ => ∃ (A : Option Addr) (c : Nat), cs = [.slice A 0 c]
theorem EzR.stays : Stays EzR := fun _ _ _ _ _ _ h _ _ => h
theorem Ez.at_ {ok : Nat → Prop} {w : World} {A : Option Addr} {n : Nat} {l : List Unit} (h : Sl EzR 1 ok w A n l) {i : Nat} (hi : i < l.length) : ∃ b off Ar cr, A = some ⟨b, off, none⟩ ∧ w.cell? ⟨b, off + i, none⟩ = some (.slice Ar 0 cr) := by
 have hl := h.1
 obtain ⟨b, off, rfl, hb, hc⟩ := h.2 (by omega)
 obtain ⟨cs, -, ⟨Ar, cr, rfl⟩, g⟩ := hc i hi
 exact ⟨b, off, Ar, cr, rfl, by have := g 0 _ rfl; rwa [Nat.mul_one] at this⟩
theorem Ez.toDt {ok : Nat → Prop} {w : World} {A : Option Addr} {n : Nat} {l : List Unit} (h : Sl EzR 1 ok w A n l) : Sl DtR 1 ok w A n (dts l) := by
 refine ⟨by simpa [dts] using h.1, fun hn => ?_⟩
 obtain ⟨b, off, e, hb, hi⟩ := h.2 hn
 refine ⟨b, off, e, hb, fun i hlt => ?_⟩
 obtain ⟨cs, h1, ⟨Ar, cr, rfl⟩, h3⟩ := hi i (by simpa [dts] using hlt)
 refine ⟨_, h1, ?_, h3⟩
 have e2 : (dts l)[i] = ⟨[]⟩ := by simp [dts]
 rw [e2]
 exact ⟨Ar, 0, cr, rfl, ⟨rfl, fun hn => by omega⟩, Nat.zero_le _⟩
theorem Ez.ofDt {ok : Nat → Prop} {w : World} {A : Option Addr} {n : Nat} {l : List Unit} (h : Sl DtR 1 ok w A n (dts l)) : Sl EzR 1 ok w A n l := by
 refine ⟨by simpa [dts] using h.1, fun hn => ?_⟩
 obtain ⟨b, off, e, hb, hi⟩ := h.2 hn
 refine ⟨b, off, e, hb, fun i hlt => ?_⟩
 obtain ⟨cs, h1, hR, h3⟩ := hi i (by simpa [dts] using hlt)
 have e2 : (dts l)[i]'(by simpa [dts] using hlt) = ⟨[]⟩ := by simp [dts]
 rw [e2] at hR
 obtain ⟨A0, n0, c0, rfl, h4, -⟩ := hR
 have h5 : n0 = 0 := by have := h4.1; simpa using this.symm
 subst h5
 exact ⟨_, h1, ⟨A0, c0, rfl⟩, h3⟩
attribute [local go_sem] Oper.semAt_some
theorem ownFrom_rowZ {β : Type} (B b : Nat) (T : TypeId) (cs : Array Value) : OwnFrom B (fun (_ : β) W => Row W b T cs) := fun _ X Y row hs hg hr =>
 (hg.block b (lt_of_block hs) (fun e => by
  obtain ⟨o, ho, hc⟩ := (hr b e.symm).2
  unfold Row at hs
  rw [hs] at ho; cases ho; cases hc)).trans hs
theorem below_putZ {n0 D : Nat} {W : World} (o : Obj) (hn : n0 ≤ D) : Below n0 W (W.putObj D o) :=
 ⟨rfl, rfl, rfl, by simp [World.putObj_size], fun k hk => World.putObj_heap_other (by omega)⟩
theorem ownFrom_pureZ {β : Type} (B : Nat) (Q : β → Prop) : OwnFrom B (fun b (_ : World) => Q b) := fun _ _ _ _ hs _ _ => hs
set_option maxHeartbeats 1000000 in
theorem implEachFlawZ (AS AD : Option Addr) (nS cS nD cD : Nat) (fn : Fn) (w : World) :
  Calls Tryz.prog 34 #[.slice AS nS cS, .slice AD nD cD, .func fn #[] #[]] w fun e w' => e = .returned (.func (.func 52) #[] #[.pointer (some ⟨w.heap.size + 1, 0, none⟩), .pointer (some ⟨w.heap.size, 0, none⟩), .pointer (some ⟨w.heap.size + 2, 0, none⟩)]) ∧
   Row w' (w.heap.size + 1) 26 #[.slice AD nD cD] ∧ Below w.heap.size w w' := by
 have b0 := (Below.refl w.heap.size w).alloc (Nat.le_refl _) (.cells #[.slice AS nS cS] 24)
 have b1 := b0.alloc b0.size (.cells #[.slice AD nD cD] 26)
 have b2 := b1.alloc b1.size (.cells #[.func fn #[] #[]] 45)
 have r1 := (Row.newAt (w.alloc (.cells #[.slice AS nS cS] 24)) 26 #[.slice AD nD cD] (w.heap.size + 1) (by simp)).alloc (.cells #[.func fn #[] #[]] 45)
 have HR := Lib.hid (And.intro r1 b2)
 clear b0 b1 b2 r1
 go_enter Tryz.func34, Tryz.ntmps34
 go_wp2
 go_ret
 exact ⟨rfl, HR.out⟩
set_option maxRecDepth 100000 in
set_option maxHeartbeats 4000000 in
theorem eachFlawZ_in (n l : Nat) (AD : Option Addr) (nD cD b c d : Nat) (db : List Unit) (J : World → Prop) (W : World)
  (s1 : Row W (b + 1) 26 #[.slice AD nD cD]) (hd : Sl EzR 1 (fun _ => True) W AD nD db) (hdn : nD ≤ 1048576) (hJ : ∀ W', Below W.heap.size W W' → J W') :
  CallsIn Fence.wide n Tryz.prog 52 #[.func (.yield l) #[] #[], .pointer (some ⟨b + 1, 0, none⟩), .pointer (some ⟨c, 0, none⟩), .pointer (some ⟨d, 0, none⟩)] W fun e W' => (∃ v, e = .returned v) ∧ J W' := by
 obtain rfl : db.length = nD := hd.1
 have HJ := Lib.hid hJ
 have HD := Lib.hid hd
 have HS := Lib.hid s1
 have kW := (Below.refl W.heap.size W).alloc (Nat.le_refl _) (.cells #[.func (.yield l) #[] #[]] 105)
 have c1 := (s1.below kW).cell 0
 simp only [List.getElem?_toArray, List.getElem?_cons_zero] at c1
 have HK := Lib.hid kW
 clear hJ hd s1 kW
 refine callsIn_of_wp_marks Tryz.func52 rfl trivial ?_ rfl
 simp only [Tryz.ntmps52, List.size_toArray, List.length_cons, List.length_nil, Nat.reduceAdd, Nat.reduceSub, Array.replicate_succ, Array.replicate_zero, List.push_toArray, List.append_toArray, List.nil_append, List.cons_append]
 gi_wp2
 clear c1
 generalize W.alloc (.cells #[.func (.yield l) #[] #[]] 105) = W1 at *
 refine wpIn_loop (fun a' wr => ∃ (i : Nat) (u5 u6 u7 u8 u11 u12 u13 u14 u15 u16 u17 u18 u19 u20 u21 u22 u23 u24 u25 u26 u27 u28 u29 u30 u31 u32 u33 u34 u35 u36 u37 u38 u39 u40 u41 u42 u43 u44 u45 u46 u47 u48 : Value), i ≤ db.length ∧ u11 = .int .i64 i ∧ Below W.heap.size W wr ∧ a' = { tmps := #[.func (.yield l) #[] #[], .pointer (some ⟨b + 1, 0, none⟩), .pointer (some ⟨c, 0, none⟩), .pointer (some ⟨d, 0, none⟩), .pointer (some ⟨W.heap.size, 0, none⟩), u5, u6, u7, u8, .slice AD db.length cD, .int .i64 db.length, u11, u12, u13, u14, u15, u16, u17, u18, u19, u20, u21, u22, u23, u24, u25, u26, u27, u28, u29, u30, u31, u32, u33, u34, u35, u36, u37, u38, u39, u40, u41, u42, u43, u44, u45, u46, u47, u48], defers := [] }) (fun a' _ => db.length - (intOf (a'.tmps.getD 11 undef)).toNat) ?_ ?_
 ·exact ⟨0, _, _, _, _, _, _, _, _, _, _, _, _, _, _, _, _, _, _, _, _, _, _, _, _, _, _, _, _, _, _, _, _, _, _, _, _, _, _, _, _, _, _, by omega, rfl, HK.out, rfl⟩
 rintro a' wr ⟨i, u5, u6, u7, u8, u11, u12, u13, u14, u15, u16, u17, u18, u19, u20, u21, u22, u23, u24, u25, u26, u27, u28, u29, u30, u31, u32, u33, u34, u35, u36, u37, u38, u39, u40, u41, u42, u43, u44, u45, u46, u47, u48, hi', rfl, hb, rfl⟩
 dsimp only
 by_cases hlt : i < db.length
 ·have hi0 : (0 : Int) ≤ i := by omega
  have hi1 : (i : Int) < db.length := by omega
  obtain ⟨bd, od, Ar, cr, eAD, p0⟩ := Ez.at_ (HD.out.below EzR.stays hb) hlt
  subst eAD
  have k2 := (Below.refl wr.heap.size wr).alloc (Nat.le_refl _) (.cells #[.int .i64 i] 3)
  have b5 := Row.newAt wr 3 #[.int .i64 i] wr.heap.size rfl
  have c1 := ((HS.out.below hb).below k2).cell 0
  have c5 := b5.cell 0
  have p2 := (k2.cell (p := ⟨bd, od + i, none⟩) (cell_lt p0)).trans p0
  simp only [List.getElem?_toArray, List.getElem?_cons_zero] at c1 c5
  have HB2 := Lib.hid (hb.trans (k2.mono hb.size))
  clear hb b5 k2 p0
  gi_wp2
  clear c1 c5 p2
  generalize wr.alloc (.cells #[.int .i64 i] 3) = w2 at *
  generalize wr.heap.size = B5 at *
  refine wpIn_loop (fun a' wq => ∃ (u6 u7 u8 u12 u13 u14 u15 u16 u17 u21 u22 u23 u24 u25 u26 u27 u28 u29 u30 u31 u32 u33 u34 u35 u36 u37 u38 u39 u40 u41 u42 u43 u44 u45 u46 u47 u48 : Value), wq = w2 ∧ a' = { tmps := #[.func (.yield l) #[] #[], .pointer (some ⟨b + 1, 0, none⟩), .pointer (some ⟨c, 0, none⟩), .pointer (some ⟨d, 0, none⟩), .pointer (some ⟨W.heap.size, 0, none⟩), .pointer (some ⟨B5, 0, none⟩), u6, u7, u8, .slice (some ⟨bd, od, none⟩) db.length cD, .int .i64 db.length, .int .i64 i, u12, u13, u14, u15, u16, u17, .slice Ar 0 cr, .int .i64 0, .int .i64 0, u21, u22, u23, u24, u25, u26, u27, u28, u29, u30, u31, u32, u33, u34, u35, u36, u37, u38, u39, u40, u41, u42, u43, u44, u45, u46, u47, u48], defers := [] }) (fun _ _ => 0) ?_ ?_
  ·exact ⟨_, _, _, _, _, _, _, _, _, _, _, _, _, _, _, _, _, _, _, _, _, _, _, _, _, _, _, _, _, _, _, _, _, _, _, _, _, rfl, rfl⟩
  rintro a' wq ⟨u6, u7, u8, u12, u13, u14, u15, u16, u17, u21, u22, u23, u24, u25, u26, u27, u28, u29, u30, u31, u32, u33, u34, u35, u36, u37, u38, u39, u40, u41, u42, u43, u44, u45, u46, u47, u48, rfl, rfl⟩
  dsimp only
  gi_wp2
  refine ⟨⟨i + 1, _, _, _, _, _, _, _, _, _, _, _, _, _, _, _, _, _, _, _, _, _, _, _, _, _, _, _, _, _, _, _, _, _, _, _, _, _, _, _, _, _, _, by omega, by go_num, HB2.out, rfl⟩, ?_⟩
  simp [intOf]; omega
 ·obtain rfl : i = db.length := by omega
  have HJ5 := Lib.hid (HJ.out _ hb)
  clear hb
  gi_wp2_with fail
  exact ⟨_, results_none rfl _ _ _, ⟨_, rfl⟩, HJ5.out⟩
theorem ownFrom_belowZ' {β : Type} {B : Nat} {J : β → World → Prop} (hJ : OwnFrom B J) {s : β} {W W' : World} (h : J s W) (hb : Below W.heap.size W W') : J s W' :=
 hJ s W W' none h ⟨hb.os, hb.tape, hb.output, hb.size, fun k hk _ => hb.block k hk⟩ (fun r e => by cases e)
theorem eachFlawZ_seq {α : Type} (encs : α → Array Value) (n : Nat) (AD : Option Addr) (nD cD b c d : Nat) (db : List Unit) (w : World)
  (s1 : Row w (b + 1) 26 #[.slice AD nD cD]) (hd : Sl EzR 1 (fun _ => True) w AD nD db) (hdn : nD ≤ 1048576) :
  SeqX Tryz.prog n 52 #[.pointer (some ⟨b + 1, 0, none⟩), .pointer (some ⟨c, 0, none⟩), .pointer (some ⟨d, 0, none⟩)] encs (fun A B => Below w.heap.size A B) (fun xs => xs = []) (fun _ => False) 0 w := fun l J Jx W hW hJ hJx hY h0 =>
 (eachFlawZ_in n l AD nD cD b c d db (J []) W (s1.below hW) (hd.below EzR.stays hW) hdn (fun W' hb => ownFrom_belowZ' hJ h0 hb)).mono fun e W' h => ⟨h.1, .inl ⟨[], rfl, h.2⟩⟩
set_option maxRecDepth 100000 in
set_option maxHeartbeats 4000000 in
theorem implIsFlawlessZ (AS AD : Option Addr) (nS cS nD cD : Nat) (fn : Fn) (db : List Unit) (w : World) (hd : Sl EzR 1 (fun _ => True) w AD nD db) (hdn : nD ≤ 1048576) :
  Calls Tryz.prog 21 #[.slice AS nS cS, .slice AD nD cD, .func fn #[] #[]] w fun e w' => e = .returned (.bool true) ∧ Below w.heap.size w w' := by
 have HD := Lib.hid hd
 clear hd
 refine (callsIn_wide (n := 8)).1 ?_
 refine callsIn_of_wp_marks Tryz.func21 rfl trivial ?_ rfl
 simp only [Tryz.ntmps21, List.size_toArray, List.length_cons, List.length_nil, Nat.reduceAdd, Nat.reduceSub, Array.replicate_succ, Array.replicate_zero, List.push_toArray, List.append_toArray, List.nil_append, List.cons_append]
 have hb0 := (Below.refl w.heap.size w).alloc (Nat.le_refl _) (.cells #[.bool false] 4)
 have r0 := Row.newAt w 4 #[.bool false] w.heap.size rfl
 gi_wp2_with fail
 refine ⟨trivial, (callsIn_wide.2 (implEachFlawZ AS AD nS cS nD cD fn _)).mono ?_⟩
 rintro e w2 ⟨rfl, e1, hb2⟩
 have hb3 := hb0.trans (hb2.mono hb0.size)
 have r2 := r0.below hb2
 have hsz : (w.alloc (.cells #[.bool false] 4)).heap.size = w.heap.size + 1 := by simp
 have hlt2 := lt_of_block e1
 rw [hsz] at e1 hlt2
 have HE := Lib.hid e1
 have HD2 := Lib.hid (HD.out.below EzR.stays hb3)
 clear e1 r0 hb0 hb2
 gi_wp2
 refine wp_rangeX (α := Value) (gf := 52) (lb := #[.pointer (some ⟨w.heap.size + 1 + 1, 0, none⟩), .pointer (some ⟨w.heap.size + 1, 0, none⟩), .pointer (some ⟨w.heap.size + 1 + 2, 0, none⟩)]) rfl (enters_of Tryz.func52 (by kernel_rfl) rfl)
  (eachFlawZ_seq (fun x => #[x]) _ AD nD cD (w.heap.size + 1) _ _ db w2 HE.out HD2.out hdn) (fun h k => Below.trans h k) (fun W l o o' hl h hc => below_putZ o' hl) (fun _ => rfl)
  (fun pre W => (pre = [] ∧ Row W w.heap.size 4 #[.bool false]) ∧ Below w.heap.size w W)
  (fun c pre W => False)
  (OwnFrom.and (OwnFrom.and (ownFrom_pureZ _ _) (ownFrom_rowZ _ _ _ _)) (ownFrom_below (Nat.le_refl _) (by omega)))
  (fun c => ownFrom_pureZ _ _)
  ⟨⟨rfl, r2⟩, hb3⟩
  (fun x a' _ => True)
  (fun _ _ _ _ _ _ hs _ _ => hs)
  ?assign ?body ?done ?stop
 case assign =>
  rintro l pre x W K hi hK
  gi_wp2
  exact hK _ _ (KeepsFrom.refl _ _) (Below.refl _ _) hi trivial
 case body =>
  rintro l pre x a' W - - hlt
  exact absurd hlt (Nat.not_lt_zero _)
 case done =>
  rintro D xs W hD rfl ⟨⟨hnil, hr⟩, hb⟩ hK
  clear hnil
  have c0 := hr.cell 0
  have f0 := hr.free 0
  simp only [List.getElem?_toArray, List.getElem?_cons_zero] at c0
  gi_wp2
  have hr' : Row (W.setCell ⟨w.heap.size, 0, none⟩ (.bool true)) w.heap.size 4 #[.bool true] := by simpa using hr.set 0 (.bool true)
  have hK' := (KeepsOthers.setCell W ⟨w.heap.size, 0, none⟩ (.bool true)).same D _ hK rfl
  have hr'' := (World.putObj_heap_other (o := .deferred none) (show w.heap.size ≠ D by omega)).trans hr'
  refine ⟨by simp, .inl ⟨_, _, rfl, run_takeDeferred hK', ?_⟩⟩
  have hc5 := Row.cell hr'' 0
  simp only [List.getElem?_toArray, List.getElem?_cons_zero] at hc5
  refine ⟨.bool true, ?_, rfl, (hb.setCell (p := ⟨w.heap.size, 0, none⟩) (Nat.le_refl _) _).trans (below_putZ _ (by omega))⟩
  simp [results, Tryz.f21, go_sem, hc5]
 case stop =>
  rintro D c pre W hD hpre
  exact absurd hpre id
set_option maxRecDepth 100000 in
set_option maxHeartbeats 1000000 in
theorem implSoundZ (AS AD : Option Addr) (nS cS nD cD : Nat) (s : List Tb) (l : List Unit) (w : World) (hs : Sl TbR 6 (fun _ => True) w AS nS s) (hd : Sl EzR 1 (fun _ => True) w AD nD l) (hss : szL Tb.sz s ≤ 1048576) (hdn : l.length ≤ 1048576) (hB : dbB s (dts l) = true) :
  Calls Tryz.prog 10 #[.slice AS nS cS, .slice AD nD cD] w fun e w' => e = .returned (.bool true) ∧ Below w.heap.size w w' := by
 have hnd : nD ≤ 1048576 := by rw [← hd.1]; exact hdn
 have HB := Lib.hid hB
 have HNR : ∀ d ∈ dts l, ∀ r ∈ d.rows, r.vals.length ≤ 1048576 := fun d hd r hr => by
  obtain ⟨u, -, e⟩ := List.mem_map.1 hd
  rw [← e] at hr
  cases hr
 have HC := Lib.hid (implDbOk AS AD nS cS nD cD s (dts l) _ w hs (Ez.toDt hd) hss (by rw [dts_sz]; exact hdn) HNR)
 have HD := Lib.hid hd
 have HN := Lib.hid hnd
 clear hB HNR hd hs hnd
 go_enter Tryz.func10, Tryz.ntmps10
 go_wp2_with fail
 refine HC.out.mono ?_
 rintro e w1 ⟨rfl, hb1⟩
 rw [HB.out]
 clear HC
 go_wp2_with fail
 refine (implIsFlawlessZ AS AD nS cS nD cD (.func 22) l w1 (HD.out.below EzR.stays hb1) HN.out).mono ?_
 rintro e w2 ⟨rfl, hb2⟩
 go_wp2_with fail
 go_ret
 exact ⟨rfl, hb1.trans (hb2.mono hb1.size)⟩
set_option maxRecDepth 100000 in
set_option maxHeartbeats 1000000 in
theorem implSoundNowZ (AS AD : Option Addr) (nS cS nD cD : Nat) (s : List Tb) (l : List Unit) (w : World) (hs : Sl TbR 6 (fun _ => True) w AS nS s) (hd : Sl EzR 1 (fun _ => True) w AD nD l) (hss : szL Tb.sz s ≤ 1048576) (hdn : l.length ≤ 1048576) (hB : dbB s (dts l) = true) :
  Calls Tryz.prog 18 #[.slice AS nS cS, .slice AD nD cD] w fun e w' => e = .returned (.bool true) ∧ Below w.heap.size w w' := by
 have hnd : nD ≤ 1048576 := by rw [← hd.1]; exact hdn
 have HB := Lib.hid hB
 have HNR : ∀ d ∈ dts l, ∀ r ∈ d.rows, r.vals.length ≤ 1048576 := fun d hd r hr => by
  obtain ⟨u, -, e⟩ := List.mem_map.1 hd
  rw [← e] at hr
  cases hr
 have HC := Lib.hid (implDbOk AS AD nS cS nD cD s (dts l) _ w hs (Ez.toDt hd) hss (by rw [dts_sz]; exact hdn) HNR)
 have HD := Lib.hid hd
 have HN := Lib.hid hnd
 clear hB HNR hd hs hnd
 go_enter Tryz.func18, Tryz.ntmps18
 go_wp2_with fail
 refine HC.out.mono ?_
 rintro e w1 ⟨rfl, hb1⟩
 rw [HB.out]
 clear HC
 go_wp2_with fail
 refine (implIsFlawlessZ AS AD nS cS nD cD (.func 32) l w1 (HD.out.below EzR.stays hb1) HN.out).mono ?_
 rintro e w2 ⟨rfl, hb2⟩
 go_wp2_with fail
 go_ret
 exact ⟨rfl, hb1.trans (hb2.mono hb1.size)⟩
end Go.Proofs.YtkehfilmpdoglaaGreat
namespace Go.Proofs.YtkehfilmpdoglaaGreat
open Go.RowKit
theorem OwnG.toB {α : Type} {T : TypeId} {sz : Nat} {f : α → List Value} (hf : ∀ x, (f x).length = sz) {w : World} {base : Nat} {v : Value} {xs : List α} (h : OwnG T sz f w base v xs) : OwnTr (FlatO f) T sz w base v xs (blkN v) :=
 OwnTr.flat hf h (by simp) fun i hi hi' => by rw [List.getElem_map]
theorem infoL1Copy : (Tryz.prog.info? 2).map (fun i => (i.zero, i.size, i.bytes)) = some (some (.int .i64 0), 1, 8) := by kernel_rfl
theorem oneL1Copy (xs : List Int) : ∀ u ∈ (xs.map (fun n : Int => [Value.int .i64 n])).flatten, u.oneCell' = true := fun u hu => by
 obtain ⟨l, hl, hu⟩ := List.mem_flatten.1 hu
 obtain ⟨t, -, rfl⟩ := List.mem_map.1 hl
 simp at hu
 try rcases hu with rfl
 all_goals first | rfl | (subst hu; rfl)
theorem flatL1Copy (xs : List Int) : ((xs.map (fun n : Int => [Value.int .i64 n])).flatten).length = xs.length * 1 := by
 rw [flat_len (sz := 1) _ (fun c hc => by obtain ⟨t, -, rfl⟩ := List.mem_map.1 hc; rfl), List.length_map]
set_option maxRecDepth 100000 in
set_option maxHeartbeats 1000000 in
theorem specL1Copy (A : Option Addr) (n c : Nat) (xs : List Int) (ok : Nat → Prop) (w : World) (h : Sl IntR 1 ok w A n xs) (hl : n ≤ 1073741824) :
  Calls Tryz.prog 29 #[.slice A n c] w fun e w' => ∃ v' bs, e = .returned v' ∧ OwnTr IntO 2 1 w' w.heap.size v' xs bs ∧ Below w.heap.size w w' := by
 obtain ⟨i0, hi, hz0, hz1, hz2⟩ := info_parts infoL1Copy
 have H1 := Lib.hid hi
 have H2 := Lib.hid hz0
 have H3 := Lib.hid hz1
 have H4 := Lib.hid hz2
 clear hi hz0 hz1 hz2
 have HO0 := Lib.hid (OwnG.lit (T := 2) (sz := 1) (f := (fun n : Int => [Value.int .i64 n])) w (Nat.le_refl w.heap.size))
 have hb0 := (Below.refl w.heap.size w).alloc (Nat.le_refl _) (.cells #[] 2)
 have h0 := h.below IntR.stays hb0
 obtain rfl : xs.length = n := h.1
 go_enter Tryz.func29, Tryz.ntmps29
 cases A with
 | none =>
  have hn : xs.length = 0 := by
   rcases Nat.eq_zero_or_pos xs.length with h | h
   ·exact h
   ·obtain ⟨b, off, e, -⟩ := h0.2 h
    cases e
  obtain rfl : xs = [] := List.length_eq_zero_iff.1 hn
  simp only [List.length_nil] at *
  go_wp2_with (at_builtin; refine wpList_append_own_0 rfl _ _ 52 rfl w.heap.size 2 i0 1 Tryz.underlying52 H1.out _ _ _ rfl HO0.out _ rfl ?_)
  go_ret
  exact ⟨_, _, rfl, OwnG.toB (f := (fun n : Int => [Value.int .i64 n])) (fun _ => rfl) HO0.out, hb0⟩
 | some ad =>
  have HX := Lib.hid (Sl.flat_cells (f := (fun n : Int => [Value.int .i64 n])) (sz := 1) (by decide) (fun _ => rfl) h0)
  clear h0
  go_wp2_with (at_builtin; refine wpList_append_own _ rfl _ _ 52 rfl w.heap.size 2 i0 (.int .i64 0) 1 8 Tryz.underlying52 H1.out H2.out H3.out H4.out rfl (by decide) _ _ _ rfl HO0.out ad xs.length c ((xs.map (fun n : Int => [Value.int .i64 n])).flatten) rfl ?c0 ?c1 ?c2 ?c3 ?c4 ?c5 ?_)
  case c0 => exact flatL1Copy xs
  case c1 => exact HX.out
  case c2 => exact oneL1Copy xs
  case c3 => unfold maxLen; simp; omega
  case c4 => simp; omega
  case c5 => simp
  intro v9 w9 hown9 hgrow9 _
  go_wp2_with fail
  go_ret
  refine ⟨_, _, rfl, OwnG.toB (f := (fun n : Int => [Value.int .i64 n])) (fun _ => rfl) (by unfold OwnG; simpa using hown9), ?_⟩
  exact ((Below.refl w.heap.size w).alloc (Nat.le_refl _) _).grown hgrow9 (by simp) (by intro k hk; simp [Value.ownBlock] at hk; omega)
theorem infoL3Toks : (Tryz.prog.info? 90).map (fun i => (i.zero, i.size, i.bytes)) = some (some (.agg #[.int .i64 0, .int .i64 0, .int .i64 0, .int .i64 0, .string ⟨#[]⟩]), 5, 48) := by kernel_rfl
theorem oneL3Toks (xs : List Tk) : ∀ u ∈ (xs.map (Tk.cells)).flatten, u.oneCell' = true := fun u hu => by
 obtain ⟨l, hl, hu⟩ := List.mem_flatten.1 hu
 obtain ⟨t, -, rfl⟩ := List.mem_map.1 hl
 simp [Tk.cells] at hu
 try rcases hu with rfl | rfl | rfl | rfl | rfl
 all_goals first | rfl | (subst hu; rfl)
theorem flatL3Toks (xs : List Tk) : ((xs.map (Tk.cells)).flatten).length = xs.length * 5 := by
 rw [flat_len (sz := 5) _ (fun c hc => by obtain ⟨t, -, rfl⟩ := List.mem_map.1 hc; rfl), List.length_map]
set_option maxRecDepth 100000 in
set_option maxHeartbeats 1000000 in
theorem specL3Toks (A : Option Addr) (n c : Nat) (xs : List Tk) (ok : Nat → Prop) (w : World) (h : Sl TkR 5 ok w A n xs) (hl : n ≤ 1073741824) :
  Calls Tryz.prog 30 #[.slice A n c] w fun e w' => ∃ v' bs, e = .returned v' ∧ OwnTr TkO 90 5 w' w.heap.size v' xs bs ∧ Below w.heap.size w w' := by
 obtain ⟨i0, hi, hz0, hz1, hz2⟩ := info_parts infoL3Toks
 have H1 := Lib.hid hi
 have H2 := Lib.hid hz0
 have H3 := Lib.hid hz1
 have H4 := Lib.hid hz2
 clear hi hz0 hz1 hz2
 have HO0 := Lib.hid (OwnG.lit (T := 90) (sz := 5) (f := (Tk.cells)) w (Nat.le_refl w.heap.size))
 have hb0 := (Below.refl w.heap.size w).alloc (Nat.le_refl _) (.cells #[] 90)
 have h0 := h.below TkR.stays hb0
 obtain rfl : xs.length = n := h.1
 go_enter Tryz.func30, Tryz.ntmps30
 cases A with
 | none =>
  have hn : xs.length = 0 := by
   rcases Nat.eq_zero_or_pos xs.length with h | h
   ·exact h
   ·obtain ⟨b, off, e, -⟩ := h0.2 h
    cases e
  obtain rfl : xs = [] := List.length_eq_zero_iff.1 hn
  simp only [List.length_nil] at *
  go_wp2_with (at_builtin; refine wpList_append_own_0 rfl _ _ 61 rfl w.heap.size 90 i0 5 Tryz.underlying61 H1.out _ _ _ rfl HO0.out _ rfl ?_)
  go_ret
  exact ⟨_, _, rfl, OwnG.toB (f := (Tk.cells)) (fun _ => rfl) HO0.out, hb0⟩
 | some ad =>
  have HX := Lib.hid (Sl.flat_cells (f := (Tk.cells)) (sz := 5) (by decide) (fun _ => rfl) h0)
  clear h0
  go_wp2_with (at_builtin; refine wpList_append_own _ rfl _ _ 61 rfl w.heap.size 90 i0 (.agg #[.int .i64 0, .int .i64 0, .int .i64 0, .int .i64 0, .string ⟨#[]⟩]) 5 48 Tryz.underlying61 H1.out H2.out H3.out H4.out rfl (by decide) _ _ _ rfl HO0.out ad xs.length c ((xs.map (Tk.cells)).flatten) rfl ?c0 ?c1 ?c2 ?c3 ?c4 ?c5 ?_)
  case c0 => exact flatL3Toks xs
  case c1 => exact HX.out
  case c2 => exact oneL3Toks xs
  case c3 => unfold maxLen; simp; omega
  case c4 => simp; omega
  case c5 => simp
  intro v9 w9 hown9 hgrow9 _
  go_wp2_with fail
  go_ret
  refine ⟨_, _, rfl, OwnG.toB (f := (Tk.cells)) (fun _ => rfl) (by unfold OwnG; simpa using hown9), ?_⟩
  exact ((Below.refl w.heap.size w).alloc (Nat.le_refl _) _).grown hgrow9 (by simp) (by intro k hk; simp [Value.ownBlock] at hk; omega)
end Go.Proofs.YtkehfilmpdoglaaGreat
namespace Go.Proofs.YtkehfilmpdoglaaGreat
open Go.RowKit
theorem step_append_runT {P : Program} {ops : Array Oper} {o : Oper} {a : Act} {w w' : World} {K : Act → World → Prop} {Q : Exit → Act → World → Prop} {E : Prop} (hg : o.guard = none) (s x : Operand) (t u : TypeId) (ho : o.op = .call { callee := .builtin .append, args := #[s, x], argTypes := #[t, u] })
  {v y v' : Value} (hs : a.eval s = v) (hx : a.eval x = y) (hr : (Builtin.append_ #[t, u] o.type #[v, y]).run P w = .ok v' w') (hK : K (a.put o.dst v') w') : if Region.wanted o (yielded ops a.tmps) = true then Oper.wp P o a w K Q else E := by
 have hw : Region.wanted o (yielded ops a.tmps) = true := by simp [Region.wanted, hg]
 rw [if_pos hw]
 unfold Oper.wp execOp
 simp only [ho, resolve, invoke, builtin, Sem.run_bind, Sem.run_pure, Result.andThen_ok, List.map_toArray, List.map_cons, List.map_nil, hs, hx, hr]
 exact hK
theorem run_append_flat {P : Program} {α : Type} {f : α → List Value} {sz bytes : Nat} {ok : Nat → Prop} {w : World} {A : Option Addr} {n c : Nat} {xs : List α} (hf : ∀ d, (f d).length = sz) (h1 : ∀ d, ∀ u ∈ f d, u.oneCell' = true) (t ty e : TypeId) (i : TypeInfo) (z : Value) (ht : P.underlying t = some (.slice e)) (hi : P.info? e = some i) (hz : i.zero = some z)
  (hsize : i.size = sz) (hby : i.bytes = bytes) (hzs : z.cells.size = sz) (hsz : 0 < sz) (h : Sl (FlatR f) sz ok w A n xs) (v : Value) (base : Nat) (hown : w.ownsRow base e sz v 0 []) (h63 : n ≤ maxLen) (hbytes : n * bytes ≤ 140737488355328) (hbase : base ≤ w.heap.size) :
  ∃ v' w', (Builtin.append_ #[t, t] ty #[v, .slice A n c]).run P w = .ok v' w' ∧ w'.ownsRow base e sz v' xs.length ((xs.map f).flatten) ∧ w.grownBy w' v.ownBlock := by
 obtain rfl : xs.length = n := h.1
 cases A with
 | none =>
  have hn : xs.length = 0 := by
   rcases Nat.eq_zero_or_pos xs.length with h' | h'
   ·exact h'
   ·obtain ⟨b, off, e, -⟩ := h.2 h'
    cases e
  obtain rfl : xs = [] := List.length_eq_zero_iff.1 hn
  exact ⟨v, w, run_append_own_0 base t ty e i sz ht hi v 0 [] hown c, hown, ⟨rfl, rfl, rfl, Nat.le_refl _, fun _ _ _ => rfl⟩⟩
 | some ad =>
  have hl : ((xs.map f).flatten).length = xs.length * sz := by rw [flat_len (sz := sz) _ (fun c hc => by obtain ⟨t, -, rfl⟩ := List.mem_map.1 hc; exact hf t), List.length_map]
  obtain ⟨v', w', h2, h3, h4, -⟩ := run_append_own (P := P) w base t ty e i z sz bytes ht hi hz hsize hby hzs hsz v 0 [] hown ad xs.length c ((xs.map f).flatten) hl (Sl.flat_cells hsz hf h) (fun u hu => by
   obtain ⟨l, hl', hu⟩ := List.mem_flatten.1 hu
   obtain ⟨d, -, rfl⟩ := List.mem_map.1 hl'
   exact h1 d u hu) (by omega) (by simpa using hbytes) hbase
  exact ⟨v', w', h2, by simpa using h3, h4⟩
section
variable {α : Type} {Ts : List TypeId} {sz : Nat} {E : ElO α} {T : TypeId}
theorem OwnTr.butN (G : GoodO Ts sz E) {w w' : World} {base R : Nat} {v : Value} {xs : List α} {bs : List Nat} (h : OwnTr E T sz w base v xs bs) (hb : But R w w') (hR : R ∉ bs) : OwnTr E T sz w' base v xs bs := h.dep G fun b hb' => hb.block b (h.lt G b hb').2 (fun e => hR (e ▸ hb'))
theorem OwnN.app2 (G : GoodO Ts sz E) (hT : T ∉ Ts) {w w' : World} {base : Nat} {v v' : Value} {xs : List α} {css : List (List Value)} {bss : List (List Nat)} {x : α} {cs : List Value} {bs : List Nat} (h : OwnN E T sz w base v xs css bss) (hE : E w base cs x bs) (hn : ∀ b ∈ bs, b ∉ bss.flatten)
  (h' : w'.ownsRow base T sz v' (xs.length + 1) (css.flatten ++ cs)) (hg : w.grownBy w' v.ownBlock) : OwnN E T sz w' base v' (xs ++ [x]) (css ++ [cs]) (bss ++ [bs]) := by
 have hal : ∀ b, b < w.heap.size → some b ≠ v.ownBlock → w'.heap[b]? = w.heap[b]? := fun b hb ho => hg.block b hb ho
 have hne : ∀ b ∈ bs, some b ≠ v.ownBlock := fun b hb e => by
  obtain ⟨-, cur, U, h2, h3⟩ := G.typed hE b hb
  obtain ⟨-, cur', h4⟩ := ownsRow_typed h.row e.symm
  rw [h2] at h4
  injection h4 with h4
  injection h4 with _ h5
  exact hT (h5 ▸ h3)
 refine ⟨by simp [h.l1], by simp [h.l2], by rw [List.length_append, List.flatten_append]; simpa using h', fun i hi => ?_, ?_⟩
 ·by_cases e : i < xs.length
  ·rw [List.getD_eq_getElem?_getD, List.getD_eq_getElem?_getD, List.getElem?_append_left (by rw [h.l1]; exact e), List.getElem?_append_left (by rw [h.l2]; exact e), List.getElem_append_left e, ← List.getD_eq_getElem?_getD, ← List.getD_eq_getElem?_getD]
   refine G.dep (h.el i e) fun b hb => hal b (G.lt (h.el i e) hb).2 fun e' => ?_
   exact h.out G hT e'.symm (mem_flatten_getD hb)
  ·simp only [List.length_append, List.length_cons, List.length_nil] at hi
   obtain rfl : i = xs.length := by omega
   rw [List.getD_eq_getElem?_getD, List.getD_eq_getElem?_getD, List.getElem?_append_right (by rw [h.l1]; exact Nat.le_refl _), List.getElem?_append_right (by rw [h.l2]; exact Nat.le_refl _), List.getElem_append_right (Nat.le_refl _)]
   simp only [h.l1, h.l2, Nat.sub_self]
   exact G.dep hE fun b hb => hal b (G.lt hE hb).2 (hne b hb)
 ·rw [List.flatten_append]
  refine List.nodup_append.2 ⟨h.apart, by simpa using G.nodup hE, fun a ha b hb => ?_⟩
  rintro rfl
  exact hn a (by simpa using hb) ha
theorem OwnTr.app2 (G : GoodO Ts sz E) (hT : T ∉ Ts) {w : World} {base : Nat} {v : Value} {xs : List α} {bs : List Nat} (h : OwnTr E T sz w base v xs bs) : ∃ ds : List Value, w.ownsRow base T sz v xs.length ds ∧
  ∀ {w' : World} {v' : Value} {x : α} {cs : List Value} {bx : List Nat}, E w base cs x bx → (∀ b ∈ bx, b ∉ bs) → w'.ownsRow base T sz v' (xs.length + 1) (ds ++ cs) → w.grownBy w' v.ownBlock → ∃ bs', OwnTr E T sz w' base v' (xs ++ [x]) bs' := by
 obtain ⟨css, bss, h, rfl⟩ := h
 exact ⟨css.flatten, h.row, fun {w' v' x cs bx} hE hn h' hg => ⟨_, _, _, h.app2 G hT hE (fun b hb hh => hn b hb (List.mem_append_right _ hh)) h' hg, rfl⟩⟩
end
theorem But.grownNew {R : Nat} {a w w' : World} {r : Option Nat} (h : But R a w) (hg : w.grownBy w' r) (hr : ∀ k, r = some k → a.heap.size ≤ k) : But R a w' :=
 ⟨hg.os.trans h.os, hg.tape.trans h.tape, hg.output.trans h.output, Nat.le_trans h.size hg.size, fun k hk hR => (hg.block k (Nat.lt_of_lt_of_le hk h.size) (fun e => by have := hr k e.symm; omega)).trans (h.block k hk hR)⟩
theorem Row.grownC {w w' : World} {g : Nat} {T : TypeId} {cs : Array Value} {r : Option Nat} (h : Row w g T cs) (hg : w.grownBy w' r) (hr : r ≠ some g) : Row w' g T cs := (hg.block g (lt_of_block h) (fun e => hr e.symm)).trans h
def L3Box (a : World) (x : Tb) (g : Nat) (w : World) : Prop := ∃ (B1 : Option Addr) (d1 : Nat) (b1 : List Nat) (B2 : Option Addr) (d2 : Nat) (b2 : List Nat) (S2 : Nat), a.heap.size ≤ g ∧ Row w g 57 #[.string x.name, .slice B1 x.cols.length d1, .slice B2 x.key.length d2, .slice none 0 0, .slice none 0 0, .slice none 0 0] ∧
 OwnTr ClO 86 6 w a.heap.size (.slice B1 x.cols.length d1) x.cols b1 ∧ OwnTr IntO 2 1 w S2 (.slice B2 x.key.length d2) x.key b2 ∧ (∀ b ∈ b1, b < S2) ∧ (a.heap.size ≤ S2 ∧ S2 ≤ w.heap.size) ∧ g ∉ b1 ∧ g ∉ b2 ∧ Below a.heap.size a w
theorem cell_far1 {w : World} {g j b o : Nat} {u v : Value} (h : w.cell? ⟨b, o, none⟩ = some u) (hg : g ≠ b) : (w.setCell ⟨g, j, none⟩ v).cell? ⟨b, o, none⟩ = some u := (World.cell?_setCell_other _ _ _ _ (by intro hh; simp only [Addr.mk.injEq] at hh; omega)).trans h
theorem six_one {x : Cl} : ∀ u ∈ Cl.cells x, u.oneCell' = true := fun u hu => by
 simp [Cl.cells] at hu
 rcases hu with rfl | rfl | rfl | rfl | rfl | rfl <;> rfl
theorem Row.grownT {w w' : World} {g : Nat} {U T : TypeId} {cs : Array Value} {base sz n : Nat} {v : Value} {xs : List Value} (h : Row w g U cs) (ho : w.ownsRow base T sz v n xs) (hg : w.grownBy w' v.ownBlock) (hT : T ≠ U) : Row w' g U cs := h.grownC hg fun e => by
 obtain ⟨-, cur, h4⟩ := ownsRow_typed ho e
 rw [h] at h4
 injection h4 with h4
 injection h4 with _ h5
 exact hT h5.symm
theorem OwnTr.notBox {α : Type} {Ts : List TypeId} {sz : Nat} {E : ElO α} {T : TypeId} (G : GoodO Ts sz E) {w : World} {base g : Nat} {v : Value} {xs : List α} {bs : List Nat} {U : TypeId} {cs : Array Value} (h : OwnTr E T sz w base v xs bs) (hr : Row w g U cs) (hU : U ∉ T :: Ts) : g ∉ bs := fun hh => by
 obtain ⟨-, cur, V, h2, h3⟩ := h.typed G g hh
 rw [hr] at h2
 injection h2 with h2
 injection h2 with _ h5
 exact hU (h5 ▸ h3)
def sixC (w : World) (g : Nat) (a0 a1 a2 a3 a4 a5 : Value) : World := (((((w.setCell ⟨g, 0, none⟩ a0).setCell ⟨g, 1, none⟩ a1).setCell ⟨g, 2, none⟩ a2).setCell ⟨g, 3, none⟩ a3).setCell ⟨g, 4, none⟩ a4).setCell ⟨g, 5, none⟩ a5
theorem L3Box.done {a u : World} {x : Tb} {g S2 d1 d2 : Nat} {B1 B2 : Option Addr} {b1 b2 : List Nat} (hgs : a.heap.size ≤ g) (rg : Row u g 57 #[.string ⟨#[]⟩, .slice none 0 0, .slice none 0 0, .slice none 0 0, .slice none 0 0, .slice none 0 0])
  (o1 : OwnTr ClO 86 6 u a.heap.size (.slice B1 x.cols.length d1) x.cols b1) (o2 : OwnTr IntO 2 1 u S2 (.slice B2 x.key.length d2) x.key b2) (hS1 : ∀ b ∈ b1, b < S2) (hS2 : a.heap.size ≤ S2) (hS3 : S2 ≤ u.heap.size) (hc : Below a.heap.size a u) :
  L3Box a x g (sixC u g (.string x.name) (.slice B1 x.cols.length d1) (.slice B2 x.key.length d2) (.slice none 0 0) (.slice none 0 0) (.slice none 0 0)) := by
 have hg1 := o1.notBox ClO.good rg (by decide)
 have hg2 := o2.notBox IntO.good rg (by decide)
 have hB : But g u (sixC u g (.string x.name) (.slice B1 x.cols.length d1) (.slice B2 x.key.length d2) (.slice none 0 0) (.slice none 0 0) (.slice none 0 0)) := (((((((But.refl g u).setCell (p := ⟨g, 0, none⟩) rfl _).setCell (p := ⟨g, 1, none⟩) rfl _).setCell (p := ⟨g, 2, none⟩) rfl _).setCell (p := ⟨g, 3, none⟩) rfl _).setCell (p := ⟨g, 4, none⟩) rfl _).setCell (p := ⟨g, 5, none⟩) rfl _)
 exact ⟨B1, d1, b1, B2, d2, b2, S2, hgs, (((((rg.set 0 _).set 1 _).set 2 _).set 3 _).set 4 _).set 5 _, o1.butN ClO.good hB hg1, o2.butN IntO.good hB hg2, hS1, ⟨hS2, Nat.le_trans hS3 hB.size⟩, hg1, hg2,
  (((((hc.setCell (p := ⟨g, 0, none⟩) hgs _).setCell (p := ⟨g, 1, none⟩) hgs _).setCell (p := ⟨g, 2, none⟩) hgs _).setCell (p := ⟨g, 3, none⟩) hgs _).setCell (p := ⟨g, 4, none⟩) hgs _).setCell (p := ⟨g, 5, none⟩) hgs _⟩
theorem cell_far6 {w : World} {g b o : Nat} {u a0 a1 a2 a3 a4 a5 : Value} (h : w.cell? ⟨b, o, none⟩ = some u) (hg : g ≠ b) : (sixC w g a0 a1 a2 a3 a4 a5).cell? ⟨b, o, none⟩ = some u := cell_far1 (cell_far1 (cell_far1 (cell_far1 (cell_far1 (cell_far1 h hg) hg) hg) hg) hg) hg
end Go.Proofs.YtkehfilmpdoglaaGreat
namespace Go.Proofs.YtkehfilmpdoglaaGreat
open Go.RowKit
set_option maxRecDepth 100000 in
set_option maxHeartbeats 8000000 in
theorem specL3Copy (A : Option Addr) (n c : Nat) (xs : List Tb) (ok : Nat → Prop) (w : World) (h : Sl TbR 6 ok w A n xs) (hn : n ≤ 1048576) (hx : ∀ x ∈ xs, x.sz ≤ 1048576) :
  Calls Tryz.prog 15 #[.slice A n c] w fun e w' => ∃ v bs, e = .returned v ∧ OwnTr TbO 57 6 w' w.heap.size v xs bs ∧ Below w.heap.size w w' := by
 obtain rfl : xs.length = n := h.1
 have HX := Lib.hid hx
 clear hx
 obtain ⟨iH, hi, hz0, hz1, hz2⟩ := info_parts infoTableCl
 have H1 := Lib.hid hi
 have H2 := Lib.hid hz0
 have H3 := Lib.hid hz1
 have H4 := Lib.hid hz2
 clear hi hz0 hz1 hz2
 obtain ⟨iC, hi, hz0, hz1, hz2⟩ := info_parts infoColCl
 have C1 := Lib.hid hi
 have C2 := Lib.hid hz0
 have C3 := Lib.hid hz1
 have C4 := Lib.hid hz2
 clear hi hz0 hz1 hz2
 obtain ⟨iU, hi, hz0, hz1, hz2⟩ := info_parts infoUniqueCl
 have U1 := Lib.hid hi
 have U2 := Lib.hid hz0
 have U3 := Lib.hid hz1
 have U4 := Lib.hid hz2
 clear hi hz0 hz1 hz2
 obtain ⟨iK, hi, hz0, hz1, hz2⟩ := info_parts infoCheckCl
 have K1 := Lib.hid hi
 have K2 := Lib.hid hz0
 have K3 := Lib.hid hz1
 have K4 := Lib.hid hz2
 clear hi hz0 hz1 hz2
 obtain ⟨iF, hi, hz0, hz1, hz2⟩ := info_parts infoFkCl
 have F1 := Lib.hid hi
 have F2 := Lib.hid hz0
 have F3 := Lib.hid hz1
 have F4 := Lib.hid hz2
 clear hi hz0 hz1 hz2
 have hb0 := (Below.refl w.heap.size w).alloc (Nat.le_refl _) (.cells #[] 57)
 obtain ⟨bs0, ho0⟩ := OwnL.b (OwnL.lit (E := TbO) (T := 57) (sz := 6) w (Nat.le_refl w.heap.size))
 have HO0 := Lib.hid (Exists.intro bs0 ho0)
 clear ho0
 go_enter Tryz.func15, Tryz.ntmps15
 go_wp2_with fail
 generalize w.alloc (.cells #[] 57) = z0 at *
 go_loopw [3, 4] (fun v iv wr => ∃ k : Nat, k ≤ xs.length ∧ iv = .int .i64 k ∧ Hid (∃ bs, OwnTr TbO 57 6 wr w.heap.size v (xs.take k) bs) ∧ Hid (Below w.heap.size w wr)) (fun _ iv _ => xs.length - (intOf iv).toNat)
 case atStart => exact ⟨0, by omega, rfl, by simpa using HO0, Lib.hid hb0⟩
 case round =>
 clear HO0 hb0
 obtain ⟨wo, hwo⟩ : ∃ wo, wo = wr := ⟨_, rfl⟩
 subst hwo
 obtain ⟨k, hk, rfl, hO, hB⟩ := hrel
 by_cases hlt : k < xs.length
 ·obtain ⟨bt, ot, A1, n1, c1, A2, n2, c2, A3, n3, c3, A4, n4, c4, A5, n5, c5, -, e3, q0, q1, q2, q3, q4, q5, h1, h2, h3, h4, h5, -⟩ := TbR.at_ h hlt
  subst e3
  have HXK := Lib.hid (HX.out _ (List.getElem_mem hlt))
  have HTK := Lib.hid (show xs.take (k + 1) = xs.take k ++ [xs[k]] from List.take_succ_eq_append_getElem hlt)
  have HKL := Lib.hid (show (xs.take k).length = k by rw [List.length_take]; omega)
  generalize hek : xs[k] = x at *
  clear hek
  obtain rfl : x.cols.length = n1 := h1.1
  obtain rfl : x.key.length = n2 := h2.1
  obtain rfl : x.uniqs.length = n3 := h3.1
  obtain rfl : x.checks.length = n4 := h4.1
  obtain rfl : x.fks.length = n5 := h5.1
  have i0' : (0 : Int) ≤ k := by omega
  have i1 : (k : Int) < xs.length := by omega
  have hbt := cell_lt q0
  simp only at hbt
  have L1 : x.cols.length ≤ 1048576 := by have := HXK.out; unfold Tb.sz szL at this; omega
  have L2 : x.key.length ≤ 1048576 := by have := HXK.out; unfold Tb.sz szL at this; omega
  have L3 : x.uniqs.length ≤ 1048576 := by have := HXK.out; unfold Tb.sz szL at this; omega
  have L4 : x.checks.length ≤ 1048576 := by have := HXK.out; unfold Tb.sz szL at this; omega
  have L5 : x.fks.length ≤ 1048576 := by have := HXK.out; unfold Tb.sz szL at this; omega
  have G3 := Lib.hid (show ∀ y ∈ x.uniqs, y.cols.length ≤ 1048576 from fun y hy => by have k1 := szL_mem Uq.sz x.uniqs y hy; have k2 : y.cols.length ≤ y.sz := (by unfold Uq.sz; omega); have k3 := HXK.out; unfold Tb.sz at k3; omega)
  have G4 := Lib.hid (show ∀ y ∈ x.checks, y.expr.length ≤ 1048576 from fun y hy => by have k1 := szL_mem Ck.sz x.checks y hy; have k2 : y.expr.length ≤ y.sz := (by unfold Ck.sz; unfold szL; omega); have k3 := HXK.out; unfold Tb.sz at k3; omega)
  have G5 := Lib.hid (show ∀ y ∈ x.fks, y.cols.length ≤ 1048576 from fun y hy => by have k1 := szL_mem Fk.sz x.fks y hy; have k2 : y.cols.length ≤ y.sz := (by unfold Fk.sz; omega); have k3 := HXK.out; unfold Tb.sz at k3; omega)
  have s0 := Lib.hid q0
  have s1 := Lib.hid q1
  have s2 := Lib.hid q2
  have s3 := Lib.hid q3
  have s4 := Lib.hid q4
  have s5 := Lib.hid q5
  have hs1 := Lib.hid h1
  have hs2 := Lib.hid h2
  have hs3 := Lib.hid h3
  have hs4 := Lib.hid h4
  have hs5 := Lib.hid h5
  have hb := hB.out
  replace q0 := below_keep hb _ _ q0
  replace q1 := below_keep hb _ _ q1
  replace q2 := below_keep hb _ _ q2
  clear q3 q4 q5 h1 h2 h3 h4 h5
  go_upto_region 5 with fail
  go_cut [5] from 17 to 35 (fun s0 wx => ∃ g : Nat, s0 = .pointer (some ⟨g, 0, none⟩) ∧ Hid (L3Box wo x g wx))
  case first =>
   have hc0 : Below wo.heap.size wo wo.drew := (Below.refl wo.heap.size wo).drew
   refine wp_region_noPanic ?_
   refine wp_region_held_drew (S := (fun w' => w'.cell? ⟨bt, ot + k * 6, none⟩ = some (.string x.name) ∧ w'.cell? ⟨bt, ot + k * 6 + 1, none⟩ = some (.slice A1 x.cols.length c1) ∧ w'.cell? ⟨bt, ot + k * 6 + 2, none⟩ = some (.slice A2 x.key.length c2))) (by kernel_rfl) ⟨q0, q1, q2⟩ (fun hHeld => ?_)
   generalize wo.drew = u0 at *
   refine tk 0 ?_
   refine tk 1 ?_
   refine tk 2 ?_
   refine tk 3 ?_
   refine tk 4 ?_
   refine tk 6 ?_
   refine tk 7 ?_
   refine tk 8 ?_
   refine tk 9 ?_
   refine tk 10 ?_
   refine tk 12 ?_
   refine tk 13 ?_
   refine tk 14 ?_
   refine tk 15 ?_
   refine tk 16 ?_
   refine wpAnyH_ready (rs := [5, 19]) (by kernel_rfl) (by simp) ?_
   refine AllReadyH.cons rfl (fun K hK => ?_) ?_
   ·go_simp
    have hal : Below u0.heap.size u0 (u0.alloc (.cells #[] 86)) := (Below.refl _ _).alloc (Nat.le_refl _) _
    have hE0 : World.ownsRow (u0.alloc (.cells #[] 86)) wo.heap.size 86 6 (.slice (some ⟨u0.heap.size, 0, none⟩) 0 0) 0 [] := ⟨by simp, .inr ⟨u0.heap.size, 0, #[], rfl, hc0.size, Go.heap_alloc_last _ _, Nat.le_refl _, by simp [maxLen], by simp, by simp⟩⟩
    have hc1 := hc0.alloc hc0.size (.cells #[] 86)
    have hE := hE0
    clear hE0 hal
    generalize u0.alloc (.cells #[] 86) = u1 at *
    generalize u0.heap.size = ge at *
    refine hK.out _ _ ⟨below_keep hc1 _ _ q0, below_keep hc1 _ _ q1, below_keep hc1 _ _ q2⟩ (fun hHeld => ?_)
    clear hK K
    (try simp only [Act.put, pz0, pz1, pz2, pz3, pz4, pz5])
    refine wpAnyH_ready (rs := [11, 19]) (by kernel_rfl) (by simp) ?_
    refine AllReadyH.cons rfl (fun K hK => ?_) ?_
    ·obtain ⟨v1, u2, hr, hw1, hg⟩ := run_append_flat (P := Tryz.prog) (f := Cl.cells) (sz := 6) (bytes := 64) (fun _ => rfl) (fun _ => six_one) 51 51 86 iC (.agg #[.string ⟨#[]⟩, .int .i64 0, .bool false, .int .i64 0, .int .i64 0, .string ⟨#[]⟩]) Tryz.underlying51 C1.out C2.out C3.out C4.out rfl (by decide) ((hs1.out.below ClR.stays (hb.trans (hc1.mono hb.size)))) (c := c1) _ wo.heap.size hE (by unfold maxLen; omega) (by omega) hc1.size
     have hq : Below wo.heap.size u1 u2 := (Below.refl _ _).grown hg hc1.size (fun q hq => (World.ownsRow.lt hE q hq).1)
     have o1 : OwnTr ClO 86 6 u2 wo.heap.size v1 x.cols (blkN v1) := OwnTr.flat (f := Cl.cells) (fun _ => rfl) hw1 (by simp) (fun i hi hi' => by rw [List.getElem_map])
     obtain ⟨b1, hb1⟩ : ∃ b1, b1 = blkN v1 := ⟨_, rfl⟩
     rw [← hb1] at o1
     obtain ⟨B1, d1, rfl⟩ := o1.shape
     refine step_append_runT rfl (.tmp 22) (.tmp 27) 51 51 rfl rfl rfl hr ?_
     have hc2 := hc1.trans hq
     clear hr hw1 hg hq hE hb1
     refine hK.out _ _ ⟨below_keep hc2 _ _ q0, below_keep hc2 _ _ q1, below_keep hc2 _ _ q2⟩ (fun hHeld => ?_)
     clear hK K
     (try simp only [Act.put, pz0, pz1, pz2, pz3, pz4, pz5])
     refine wpAnyH_ready (rs := [17, 19]) (by kernel_rfl) (by simp) ?_
     refine AllReadyH.cons rfl (fun K hK => ?_) ?_
     ·go_simp
      go_at_call 29
      refine (specL1Copy A2 _ c2 x.key ok _ (hs2.out.below IntR.stays (hb.trans (hc2.mono hb.size))) (by omega)).mono ?_
      rintro e u3 ⟨v2, b2, rfl, o2, hq⟩
      obtain ⟨B2, d2, rfl⟩ := o2.shape
      have hS1 : ∀ b ∈ b1, b < u2.heap.size := fun b hb => (o1.lt ClO.good b hb).2
      have hS2 : wo.heap.size ≤ u2.heap.size := hc2.size
      have o1 := o1.below ClO.good hq
      have hS3 : u2.heap.size ≤ u3.heap.size := hq.size
      generalize u2.heap.size = S2 at o2 hS1 hS2 hS3
      have hc3 := hc2.trans (hq.mono hc2.size)
      clear hq
      refine hK.out _ _ ⟨below_keep hc3 _ _ q0, below_keep hc3 _ _ q1, below_keep hc3 _ _ q2⟩ (fun hHeld => ?_)
      clear hK K
      (try simp only [Act.put, pz0, pz1, pz2, pz3, pz4, pz5])
      refine tk 18 ?_
      refine wpAnyH_ready (rs := [19]) (by kernel_rfl) (by simp) ?_
      refine AllReadyH.cons rfl (fun K hK => ?_) AllReadyH.nil
      go_simp
      have hal : Below u3.heap.size u3 (u3.alloc (.cells #[.string ⟨#[]⟩, .slice none 0 0, .slice none 0 0, .slice none 0 0, .slice none 0 0, .slice none 0 0] 57)) := (Below.refl _ _).alloc (Nat.le_refl _) _
      have o1 := o1.below ClO.good hal
      have o2 := o2.below IntO.good hal
      replace hS3 := Nat.le_trans hS3 hal.size
      have rg := Row.new u3 57 #[.string ⟨#[]⟩, .slice none 0 0, .slice none 0 0, .slice none 0 0, .slice none 0 0, .slice none 0 0]
      have hgs : wo.heap.size ≤ u3.heap.size := hc3.size
      have hc4 := hc3.alloc hc3.size (.cells #[.string ⟨#[]⟩, .slice none 0 0, .slice none 0 0, .slice none 0 0, .slice none 0 0, .slice none 0 0] 57)
      clear hal
      generalize u3.alloc (.cells #[.string ⟨#[]⟩, .slice none 0 0, .slice none 0 0, .slice none 0 0, .slice none 0 0, .slice none 0 0] 57) = u4 at *
      generalize u3.heap.size = g at *
      refine hK.out _ _ ⟨below_keep hc4 _ _ q0, below_keep hc4 _ _ q1, below_keep hc4 _ _ q2⟩ (fun hHeld => ?_)
      clear hK K
      (try simp only [Act.put, pz0, pz1, pz2, pz3, pz4, pz5])
      refine wpAnyH_ready (rs := [20]) (by kernel_rfl) (by simp) ?_
      refine AllReadyH.cons rfl (fun K hK => ?_) AllReadyH.nil
      have hgt : g ≠ bt := by have := hb.size; omega
      obtain ⟨⟨r0, r1, r2, r3, r4, r5⟩, ⟨f0, f1, f2, f3, f4, f5⟩⟩ := rg.all6
      go_simp
      refine hK.out _ _ ⟨cell_far6 (below_keep hc4 _ _ q0) hgt, cell_far6 (below_keep hc4 _ _ q1) hgt, cell_far6 (below_keep hc4 _ _ q2) hgt⟩ (fun hHeld => ?_)
      clear hK K
      (try simp only [Act.put, pz0, pz1, pz2, pz3, pz4, pz5])
      refine wpAnyH_done (by kernel_rfl) ?_ _
      refine NoPanic.normal ?_
      clear hHeld
      go_wp2_with fail
      go_meet
      case rel => exact ⟨g, rfl, Lib.hid (L3Box.done hgs rg o1 o2 hS1 hS2 hS3 hc4)⟩
     refine AllReadyH.cons rfl (fun K hK => ?_) AllReadyH.nil
     go_simp
     have hal : Below u2.heap.size u2 (u2.alloc (.cells #[.string ⟨#[]⟩, .slice none 0 0, .slice none 0 0, .slice none 0 0, .slice none 0 0, .slice none 0 0] 57)) := (Below.refl _ _).alloc (Nat.le_refl _) _
     have o1 := o1.below ClO.good hal
     have rg := Row.new u2 57 #[.string ⟨#[]⟩, .slice none 0 0, .slice none 0 0, .slice none 0 0, .slice none 0 0, .slice none 0 0]
     have hgs : wo.heap.size ≤ u2.heap.size := hc2.size
     have hc3 := hc2.alloc hc2.size (.cells #[.string ⟨#[]⟩, .slice none 0 0, .slice none 0 0, .slice none 0 0, .slice none 0 0, .slice none 0 0] 57)
     clear hal
     generalize u2.alloc (.cells #[.string ⟨#[]⟩, .slice none 0 0, .slice none 0 0, .slice none 0 0, .slice none 0 0, .slice none 0 0] 57) = u3 at *
     generalize u2.heap.size = g at *
     refine hK.out _ _ ⟨below_keep hc3 _ _ q0, below_keep hc3 _ _ q1, below_keep hc3 _ _ q2⟩ (fun hHeld => ?_)
     clear hK K
     (try simp only [Act.put, pz0, pz1, pz2, pz3, pz4, pz5])
     refine wpAnyH_ready (rs := [17]) (by kernel_rfl) (by simp) ?_
     refine AllReadyH.cons rfl (fun K hK => ?_) AllReadyH.nil
     go_simp
     go_at_call 29
     refine (specL1Copy A2 _ c2 x.key ok _ (hs2.out.below IntR.stays (hb.trans (hc3.mono hb.size))) (by omega)).mono ?_
     rintro e u4 ⟨v2, b2, rfl, o2, hq⟩
     obtain ⟨B2, d2, rfl⟩ := o2.shape
     have hS1 : ∀ b ∈ b1, b < u3.heap.size := fun b hb => (o1.lt ClO.good b hb).2
     have hS2 : wo.heap.size ≤ u3.heap.size := hc3.size
     have o1 := o1.below ClO.good hq
     have rg := rg.below hq
     have hS3 : u3.heap.size ≤ u4.heap.size := hq.size
     generalize u3.heap.size = S2 at o2 hS1 hS2 hS3
     have hc4 := hc3.trans (hq.mono hc3.size)
     clear hq
     refine hK.out _ _ ⟨below_keep hc4 _ _ q0, below_keep hc4 _ _ q1, below_keep hc4 _ _ q2⟩ (fun hHeld => ?_)
     clear hK K
     (try simp only [Act.put, pz0, pz1, pz2, pz3, pz4, pz5])
     refine tk 18 ?_
     refine wpAnyH_ready (rs := [20]) (by kernel_rfl) (by simp) ?_
     refine AllReadyH.cons rfl (fun K hK => ?_) AllReadyH.nil
     have hgt : g ≠ bt := by have := hb.size; omega
     obtain ⟨⟨r0, r1, r2, r3, r4, r5⟩, ⟨f0, f1, f2, f3, f4, f5⟩⟩ := rg.all6
     go_simp
     refine hK.out _ _ ⟨cell_far6 (below_keep hc4 _ _ q0) hgt, cell_far6 (below_keep hc4 _ _ q1) hgt, cell_far6 (below_keep hc4 _ _ q2) hgt⟩ (fun hHeld => ?_)
     clear hK K
     (try simp only [Act.put, pz0, pz1, pz2, pz3, pz4, pz5])
     refine wpAnyH_done (by kernel_rfl) ?_ _
     refine NoPanic.normal ?_
     clear hHeld
     go_wp2_with fail
     go_meet
     case rel => exact ⟨g, rfl, Lib.hid (L3Box.done hgs rg o1 o2 hS1 hS2 hS3 hc4)⟩
    refine AllReadyH.cons rfl (fun K hK => ?_) AllReadyH.nil
    go_simp
    have hal : Below u1.heap.size u1 (u1.alloc (.cells #[.string ⟨#[]⟩, .slice none 0 0, .slice none 0 0, .slice none 0 0, .slice none 0 0, .slice none 0 0] 57)) := (Below.refl _ _).alloc (Nat.le_refl _) _
    have hE := ownsRow_below hE hal
    have rg := Row.new u1 57 #[.string ⟨#[]⟩, .slice none 0 0, .slice none 0 0, .slice none 0 0, .slice none 0 0, .slice none 0 0]
    have hgs : wo.heap.size ≤ u1.heap.size := hc1.size
    have hc2 := hc1.alloc hc1.size (.cells #[.string ⟨#[]⟩, .slice none 0 0, .slice none 0 0, .slice none 0 0, .slice none 0 0, .slice none 0 0] 57)
    clear hal
    generalize u1.alloc (.cells #[.string ⟨#[]⟩, .slice none 0 0, .slice none 0 0, .slice none 0 0, .slice none 0 0, .slice none 0 0] 57) = u2 at *
    generalize u1.heap.size = g at *
    refine hK.out _ _ ⟨below_keep hc2 _ _ q0, below_keep hc2 _ _ q1, below_keep hc2 _ _ q2⟩ (fun hHeld => ?_)
    clear hK K
    (try simp only [Act.put, pz0, pz1, pz2, pz3, pz4, pz5])
    refine wpAnyH_ready (rs := [11]) (by kernel_rfl) (by simp) ?_
    refine AllReadyH.cons rfl (fun K hK => ?_) AllReadyH.nil
    obtain ⟨v1, u3, hr, hw1, hg⟩ := run_append_flat (P := Tryz.prog) (f := Cl.cells) (sz := 6) (bytes := 64) (fun _ => rfl) (fun _ => six_one) 51 51 86 iC (.agg #[.string ⟨#[]⟩, .int .i64 0, .bool false, .int .i64 0, .int .i64 0, .string ⟨#[]⟩]) Tryz.underlying51 C1.out C2.out C3.out C4.out rfl (by decide) ((hs1.out.below ClR.stays (hb.trans (hc2.mono hb.size)))) (c := c1) _ wo.heap.size hE (by unfold maxLen; omega) (by omega) hc2.size
    have hq : Below wo.heap.size u2 u3 := (Below.refl _ _).grown hg hc2.size (fun q hq => (World.ownsRow.lt hE q hq).1)
    have o1 : OwnTr ClO 86 6 u3 wo.heap.size v1 x.cols (blkN v1) := OwnTr.flat (f := Cl.cells) (fun _ => rfl) hw1 (by simp) (fun i hi hi' => by rw [List.getElem_map])
    obtain ⟨b1, hb1⟩ : ∃ b1, b1 = blkN v1 := ⟨_, rfl⟩
    rw [← hb1] at o1
    obtain ⟨B1, d1, rfl⟩ := o1.shape
    have rg := Row.grownT rg hE hg (by decide)
    refine step_append_runT rfl (.tmp 22) (.tmp 27) 51 51 rfl rfl rfl hr ?_
    have hc3 := hc2.trans hq
    clear hr hw1 hg hq hE hb1
    refine hK.out _ _ ⟨below_keep hc3 _ _ q0, below_keep hc3 _ _ q1, below_keep hc3 _ _ q2⟩ (fun hHeld => ?_)
    clear hK K
    (try simp only [Act.put, pz0, pz1, pz2, pz3, pz4, pz5])
    refine wpAnyH_ready (rs := [17]) (by kernel_rfl) (by simp) ?_
    refine AllReadyH.cons rfl (fun K hK => ?_) AllReadyH.nil
    go_simp
    go_at_call 29
    refine (specL1Copy A2 _ c2 x.key ok _ (hs2.out.below IntR.stays (hb.trans (hc3.mono hb.size))) (by omega)).mono ?_
    rintro e u4 ⟨v2, b2, rfl, o2, hq⟩
    obtain ⟨B2, d2, rfl⟩ := o2.shape
    have hS1 : ∀ b ∈ b1, b < u3.heap.size := fun b hb => (o1.lt ClO.good b hb).2
    have hS2 : wo.heap.size ≤ u3.heap.size := hc3.size
    have o1 := o1.below ClO.good hq
    have rg := rg.below hq
    have hS3 : u3.heap.size ≤ u4.heap.size := hq.size
    generalize u3.heap.size = S2 at o2 hS1 hS2 hS3
    have hc4 := hc3.trans (hq.mono hc3.size)
    clear hq
    refine hK.out _ _ ⟨below_keep hc4 _ _ q0, below_keep hc4 _ _ q1, below_keep hc4 _ _ q2⟩ (fun hHeld => ?_)
    clear hK K
    (try simp only [Act.put, pz0, pz1, pz2, pz3, pz4, pz5])
    refine tk 18 ?_
    refine wpAnyH_ready (rs := [20]) (by kernel_rfl) (by simp) ?_
    refine AllReadyH.cons rfl (fun K hK => ?_) AllReadyH.nil
    have hgt : g ≠ bt := by have := hb.size; omega
    obtain ⟨⟨r0, r1, r2, r3, r4, r5⟩, ⟨f0, f1, f2, f3, f4, f5⟩⟩ := rg.all6
    go_simp
    refine hK.out _ _ ⟨cell_far6 (below_keep hc4 _ _ q0) hgt, cell_far6 (below_keep hc4 _ _ q1) hgt, cell_far6 (below_keep hc4 _ _ q2) hgt⟩ (fun hHeld => ?_)
    clear hK K
    (try simp only [Act.put, pz0, pz1, pz2, pz3, pz4, pz5])
    refine wpAnyH_done (by kernel_rfl) ?_ _
    refine NoPanic.normal ?_
    clear hHeld
    go_wp2_with fail
    go_meet
    case rel => exact ⟨g, rfl, Lib.hid (L3Box.done hgs rg o1 o2 hS1 hS2 hS3 hc4)⟩
   refine AllReadyH.cons rfl (fun K hK => ?_) AllReadyH.nil
   go_simp
   have hal : Below u0.heap.size u0 (u0.alloc (.cells #[.string ⟨#[]⟩, .slice none 0 0, .slice none 0 0, .slice none 0 0, .slice none 0 0, .slice none 0 0] 57)) := (Below.refl _ _).alloc (Nat.le_refl _) _
   have rg := Row.new u0 57 #[.string ⟨#[]⟩, .slice none 0 0, .slice none 0 0, .slice none 0 0, .slice none 0 0, .slice none 0 0]
   have hgs : wo.heap.size ≤ u0.heap.size := hc0.size
   have hc1 := hc0.alloc hc0.size (.cells #[.string ⟨#[]⟩, .slice none 0 0, .slice none 0 0, .slice none 0 0, .slice none 0 0, .slice none 0 0] 57)
   clear hal
   generalize u0.alloc (.cells #[.string ⟨#[]⟩, .slice none 0 0, .slice none 0 0, .slice none 0 0, .slice none 0 0, .slice none 0 0] 57) = u1 at *
   generalize u0.heap.size = g at *
   refine hK.out _ _ ⟨below_keep hc1 _ _ q0, below_keep hc1 _ _ q1, below_keep hc1 _ _ q2⟩ (fun hHeld => ?_)
   clear hK K
   (try simp only [Act.put, pz0, pz1, pz2, pz3, pz4, pz5])
   refine wpAnyH_ready (rs := [5]) (by kernel_rfl) (by simp) ?_
   refine AllReadyH.cons rfl (fun K hK => ?_) AllReadyH.nil
   go_simp
   have hal : Below u1.heap.size u1 (u1.alloc (.cells #[] 86)) := (Below.refl _ _).alloc (Nat.le_refl _) _
   have hE0 : World.ownsRow (u1.alloc (.cells #[] 86)) wo.heap.size 86 6 (.slice (some ⟨u1.heap.size, 0, none⟩) 0 0) 0 [] := ⟨by simp, .inr ⟨u1.heap.size, 0, #[], rfl, hc1.size, Go.heap_alloc_last _ _, Nat.le_refl _, by simp [maxLen], by simp, by simp⟩⟩
   have hc2 := hc1.alloc hc1.size (.cells #[] 86)
   have rg := rg.below hal
   have hE := hE0
   clear hE0 hal
   generalize u1.alloc (.cells #[] 86) = u2 at *
   generalize u1.heap.size = ge at *
   refine hK.out _ _ ⟨below_keep hc2 _ _ q0, below_keep hc2 _ _ q1, below_keep hc2 _ _ q2⟩ (fun hHeld => ?_)
   clear hK K
   (try simp only [Act.put, pz0, pz1, pz2, pz3, pz4, pz5])
   refine wpAnyH_ready (rs := [11]) (by kernel_rfl) (by simp) ?_
   refine AllReadyH.cons rfl (fun K hK => ?_) AllReadyH.nil
   obtain ⟨v1, u3, hr, hw1, hg⟩ := run_append_flat (P := Tryz.prog) (f := Cl.cells) (sz := 6) (bytes := 64) (fun _ => rfl) (fun _ => six_one) 51 51 86 iC (.agg #[.string ⟨#[]⟩, .int .i64 0, .bool false, .int .i64 0, .int .i64 0, .string ⟨#[]⟩]) Tryz.underlying51 C1.out C2.out C3.out C4.out rfl (by decide) ((hs1.out.below ClR.stays (hb.trans (hc2.mono hb.size)))) (c := c1) _ wo.heap.size hE (by unfold maxLen; omega) (by omega) hc2.size
   have hq : Below wo.heap.size u2 u3 := (Below.refl _ _).grown hg hc2.size (fun q hq => (World.ownsRow.lt hE q hq).1)
   have o1 : OwnTr ClO 86 6 u3 wo.heap.size v1 x.cols (blkN v1) := OwnTr.flat (f := Cl.cells) (fun _ => rfl) hw1 (by simp) (fun i hi hi' => by rw [List.getElem_map])
   obtain ⟨b1, hb1⟩ : ∃ b1, b1 = blkN v1 := ⟨_, rfl⟩
   rw [← hb1] at o1
   obtain ⟨B1, d1, rfl⟩ := o1.shape
   have rg := Row.grownT rg hE hg (by decide)
   refine step_append_runT rfl (.tmp 22) (.tmp 27) 51 51 rfl rfl rfl hr ?_
   have hc3 := hc2.trans hq
   clear hr hw1 hg hq hE hb1
   refine hK.out _ _ ⟨below_keep hc3 _ _ q0, below_keep hc3 _ _ q1, below_keep hc3 _ _ q2⟩ (fun hHeld => ?_)
   clear hK K
   (try simp only [Act.put, pz0, pz1, pz2, pz3, pz4, pz5])
   refine wpAnyH_ready (rs := [17]) (by kernel_rfl) (by simp) ?_
   refine AllReadyH.cons rfl (fun K hK => ?_) AllReadyH.nil
   go_simp
   go_at_call 29
   refine (specL1Copy A2 _ c2 x.key ok _ (hs2.out.below IntR.stays (hb.trans (hc3.mono hb.size))) (by omega)).mono ?_
   rintro e u4 ⟨v2, b2, rfl, o2, hq⟩
   obtain ⟨B2, d2, rfl⟩ := o2.shape
   have hS1 : ∀ b ∈ b1, b < u3.heap.size := fun b hb => (o1.lt ClO.good b hb).2
   have hS2 : wo.heap.size ≤ u3.heap.size := hc3.size
   have o1 := o1.below ClO.good hq
   have rg := rg.below hq
   have hS3 : u3.heap.size ≤ u4.heap.size := hq.size
   generalize u3.heap.size = S2 at o2 hS1 hS2 hS3
   have hc4 := hc3.trans (hq.mono hc3.size)
   clear hq
   refine hK.out _ _ ⟨below_keep hc4 _ _ q0, below_keep hc4 _ _ q1, below_keep hc4 _ _ q2⟩ (fun hHeld => ?_)
   clear hK K
   (try simp only [Act.put, pz0, pz1, pz2, pz3, pz4, pz5])
   refine tk 18 ?_
   refine wpAnyH_ready (rs := [20]) (by kernel_rfl) (by simp) ?_
   refine AllReadyH.cons rfl (fun K hK => ?_) AllReadyH.nil
   have hgt : g ≠ bt := by have := hb.size; omega
   obtain ⟨⟨r0, r1, r2, r3, r4, r5⟩, ⟨f0, f1, f2, f3, f4, f5⟩⟩ := rg.all6
   go_simp
   refine hK.out _ _ ⟨cell_far6 (below_keep hc4 _ _ q0) hgt, cell_far6 (below_keep hc4 _ _ q1) hgt, cell_far6 (below_keep hc4 _ _ q2) hgt⟩ (fun hHeld => ?_)
   clear hK K
   (try simp only [Act.put, pz0, pz1, pz2, pz3, pz4, pz5])
   refine wpAnyH_done (by kernel_rfl) ?_ _
   refine NoPanic.normal ?_
   clear hHeld
   go_wp2_with fail
   go_meet
   case rel => exact ⟨g, rfl, Lib.hid (L3Box.done hgs rg o1 o2 hS1 hS2 hS3 hc4)⟩
  case rest =>
  clear q0 q1 q2
  obtain ⟨g, rfl, hL⟩ := hcut
  obtain ⟨B1, d1, b1, B2, d2, b2, S2, hgs, hr, o1, o2, hS1, hS2, hg1, hg2, hcb⟩ := hL.out
  clear hL
  obtain ⟨a2, ha2⟩ : ∃ z, z = wc := ⟨_, rfl⟩
  subst ha2
  have HB2 := Lib.hid (hb.trans (hcb.mono hb.size))
  have HR2 := Lib.hid hr
  have HRA2 := HR2
  have HO1 := Lib.hid o1
  have HO2 := Lib.hid o2
  have HS1 := Lib.hid hS1
  have HS2 := Lib.hid hS2.1
  have HS22 := Lib.hid hS2.2
  have hgw : w.heap.size ≤ g := Nat.le_trans hb.size hgs
  have hgt : g ≠ bt := by omega
  have HGS := Lib.hid hgs
  have HCB := Lib.hid hcb.size
  have HCBB := Lib.hid hcb
  have HGW := Lib.hid hgw
  have HOB := Lib.hid hb.size
  clear hr o1 o2 hS1 hS2 hg1 hg2 hcb hgs hb hB
  obtain ⟨S3, hS3⟩ : ∃ s, s = a2.heap.size := ⟨_, rfl⟩
  have HS3 := Lib.hid hS3
  have HNL3 := Lib.hid (OwnTr.nil (E := UqO) (T := 60) (sz := 1) a2 S3)
  clear hS3
  have qn := below_keep HB2.out _ _ s3.out
  go_wp2_with fail
  clear qn
  go_loopw [6] (fun kv wr => ∃ kk : Nat, kk ≤ x.uniqs.length ∧ kv = .int .i64 kk ∧ Hid (∃ (vj : Value) (bs : List Nat), Row wr g 57 #[.string x.name, .slice B1 x.cols.length d1, .slice B2 x.key.length d2, vj, .slice none 0 0, .slice none 0 0] ∧ OwnTr UqO 60 1 wr S3 vj (x.uniqs.take kk) bs) ∧ Hid (But g a2 wr) ∧ Hid (Below w.heap.size w wr)) (fun kv _ => x.uniqs.length - (intOf kv).toNat)
  case atStart => exact ⟨0, by omega, rfl, Lib.hid ⟨_, [], HR2.out, HNL3.out⟩, Lib.hid (But.refl _ _), HB2⟩
  case round =>
  clear HNL3 HR2 HB2
  obtain ⟨kk, hkk, rfl, hV, hBt, hBw⟩ := hrel
  have qh := below_keep hBw.out _ _ s3.out
  by_cases hkl : kk < x.uniqs.length
  ·obtain ⟨bu, ou, Au, nu, cu, -, e3, qu, hu, hcap⟩ := UqR.at_ hs3.out hkl
   subst e3
   obtain rfl : x.uniqs[kk].cols.length = nu := hu.1
   have k0 : (0 : Int) ≤ kk := by omega
   have k1 : (kk : Int) < x.uniqs.length := by omega
   obtain ⟨vj, bs3, rg, hV3⟩ := hV.out
   have hfr : ∀ b ∈ bs3, b < wr.heap.size := fun b hb => (hV3.lt UqO.good b hb).2
   have HKK := Lib.hid (show (x.uniqs.take kk).length = kk by rw [List.length_take]; omega)
   have HTT := Lib.hid (show x.uniqs.take (kk + 1) = x.uniqs.take kk ++ [x.uniqs[kk]] from List.take_succ_eq_append_getElem hkl)
   have hbu := cell_lt qu
   simp only at hbu
   have hgu : g ≠ bu := by omega
   have hul : x.uniqs[kk].cols.length ≤ 1073741824 := by have := G3.out _ (List.getElem_mem hkl); omega
   have hbt := hBt.out
   have hw0 := hBw.out
   have HSA := Lib.hid (show S3 ≤ wr.heap.size by have h1 := HS3.out; have h2 := hbt.size; omega)
   have SU := Lib.hid qu
   have hwS : w.heap.size ≤ S3 := by have h1 := HS3.out; have h2 := HCB.out; have h3 := HOB.out; omega
   clear hV hBt
   have qi := below_keep hw0 _ _ qu
   go_wp2_with fail
   have hw0 : Below w.heap.size w wr.drew := hw0.drew
   have hc0 : Below wr.heap.size wr wr.drew := (Below.refl _ _).drew
   have rg : Row wr.drew g 57 #[.string x.name, .slice B1 x.cols.length d1, .slice B2 x.key.length d2, vj, .slice none 0 0, .slice none 0 0] := rg
   have hV3 := hV3.below UqO.good hc0
   have hbt := hbt.trans (But.ofBelow hc0)
   refine wp_region_noPanic ?_
   refine wp_region_held_drew (S := (fun w' => w'.cell? ⟨bt, ot + k * 6 + 3, none⟩ = some (.slice (some ⟨bu, ou, none⟩) x.uniqs.length c3) ∧ w'.cell? ⟨bu, ou + kk, none⟩ = some (.slice Au x.uniqs[kk].cols.length cu))) (by kernel_rfl) ⟨qh, qi⟩ (fun hHeld => ?_)
   generalize wr.drew = u0 at *
   refine tk 0 ?_
   refine tk 2 ?_
   refine tk 3 ?_
   refine tk 4 ?_
   refine tk 5 ?_
   refine tk 6 ?_
   refine tk 7 ?_
   refine tk 8 ?_
   refine tk 9 ?_
   refine tk 10 ?_
   refine wpAnyH_ready (rs := [1, 11]) (by kernel_rfl) (by simp) ?_
   refine AllReadyH.cons rfl (fun K hK => ?_) ?_
   ·have p3 : u0.cell? ⟨g, 3, none⟩ = some vj := Row.cell rg 3
    go_simp
    clear p3
    refine hK.out _ _ ⟨below_keep hw0 _ _ s3.out, below_keep hw0 _ _ SU.out⟩ (fun hHeld => ?_)
    clear hK K
    (try simp only [Act.put, pz0, pz1, pz2, pz3, pz4, pz5])
    refine wpAnyH_ready (rs := [11]) (by kernel_rfl) (by simp) ?_
    refine AllReadyH.cons rfl (fun K hK => ?_) AllReadyH.nil
    go_simp
    go_at_call 29
    refine (specL1Copy Au _ cu x.uniqs[kk].cols ok _ (hu.below IntR.stays hw0) hul).mono ?_
    rintro e u1 ⟨v9, b4, rfl, o4, hq⟩
    obtain ⟨B9, d9, rfl⟩ := o4.shape
    have h4l : ∀ b ∈ b4, wr.heap.size ≤ b := fun b hb => by have h1 := (o4.lt IntO.good b hb).1; have h2 := hc0.size; omega
    have o4 := o4.mono IntO.good (Nat.le_trans HSA.out hc0.size)
    have rg := Row.below rg hq
    have hV3 := hV3.below UqO.good hq
    have hbt := hbt.trans (But.ofBelow hq)
    have hw1 := hw0.trans (hq.mono hw0.size)
    have hc1 := hc0.trans (hq.mono hc0.size)
    clear hq
    refine hK.out _ _ ⟨below_keep hw1 _ _ s3.out, below_keep hw1 _ _ SU.out⟩ (fun hHeld => ?_)
    clear hK K
    (try simp only [Act.put, pz0, pz1, pz2, pz3, pz4, pz5])
    refine tk 12 ?_
    refine wpAnyH_ready (rs := [13]) (by kernel_rfl) (by simp) ?_
    refine AllReadyH.cons rfl (fun K hK => ?_) AllReadyH.nil
    go_simp
    have hal : Below u1.heap.size u1 (u1.alloc (.cells #[.slice B9 x.uniqs[kk].cols.length d9] 60)) := (Below.refl _ _).alloc (Nat.le_refl _) _
    have rt := Row.new u1 60 #[.slice B9 x.uniqs[kk].cols.length d9]
    have rg := Row.below rg hal
    have hV3 := hV3.below UqO.good hal
    have o4 := o4.below IntO.good hal
    have hbt := hbt.trans (But.ofBelow hal)
    have hw2 := hw1.trans (hal.mono hw1.size)
    have hc2 := hc1.trans (hal.mono hc1.size)
    clear hal
    generalize u1.alloc (.cells #[.slice B9 x.uniqs[kk].cols.length d9] 60) = u2 at *
    generalize u1.heap.size = gt at *
    refine hK.out _ _ ⟨below_keep hw2 _ _ s3.out, below_keep hw2 _ _ SU.out⟩ (fun hHeld => ?_)
    clear hK K
    (try simp only [Act.put, pz0, pz1, pz2, pz3, pz4, pz5])
    refine wpAnyH_ready (rs := [14]) (by kernel_rfl) (by simp) ?_
    refine AllReadyH.cons rfl (fun K hK => ?_) AllReadyH.nil
    obtain ⟨ds, hds, happ⟩ := hV3.app2 UqO.good UqO.out
    have hE : UqO u2 S3 [.slice B9 x.uniqs[kk].cols.length d9] x.uniqs[kk] b4 := ⟨_, b4, rfl, o4, by simp, o4.nodup IntO.good IntO.out⟩
    have hds' : u2.ownsRow S3 60 1 vj kk ds := by rw [← HKK.out]; exact hds
    have hsz9 : S3 ≤ u2.heap.size := Nat.le_trans HSA.out hc2.size
    refine step_append_lies u2 rfl (.tmp 47) (.tmp 59) 53 rfl S3 60 iU (.agg #[.slice none 0 0]) 1 24 Tryz.underlying53 U1.out U2.out U3.out U4.out rfl (by decide) vj kk ds rfl hds' ⟨gt, 0, none⟩ 1 1 [.slice B9 x.uniqs[kk].cols.length d9] rfl rfl (fun j y hj => by rw [addr_add, Nat.zero_add, Row.cell rt]; simpa using hj) (fun y hy => by simp at hy; subst hy; rfl) (by omega) (by unfold maxLen; omega) (by omega) hsz9 _ rfl ?_
    intro g4 c4 u3 hown4 hgrow hloc hlt4
    obtain ⟨bs4, hV4⟩ := happ hE (fun b hb hh => by have h1 := h4l b hb; have h2 := hfr b hh; omega) (by rw [HKK.out]; exact hown4) hgrow
    have hq3 : ∀ q, vj.ownBlock = some q → S3 ≤ q := fun q hq => (World.ownsRow.lt hds q hq).1
    have rg := Row.grownT rg hds hgrow (by decide)
    have hw3 := hw2.grown hgrow hw2.size (fun q hq => Nat.le_trans hwS (hq3 q hq))
    have hbt := hbt.grownNew hgrow (fun q hq => by have h1 := hq3 q hq; have h2 := HS3.out; omega)
    clear hds hds' happ hE hown4 hgrow hloc hq3 hV3 o4 rt hsz9
    refine hK.out _ _ ⟨below_keep hw3 _ _ s3.out, below_keep hw3 _ _ SU.out⟩ (fun hHeld => ?_)
    clear hK K
    (try simp only [Act.put, pz0, pz1, pz2, pz3, pz4, pz5])
    refine tk 15 ?_
    refine wpAnyH_ready (rs := [16]) (by kernel_rfl) (by simp) ?_
    refine AllReadyH.cons rfl (fun K hK => ?_) AllReadyH.nil
    have p3 : u3.cell? ⟨g, 3, none⟩ = some vj := Row.cell rg 3
    have f3 := Row.free rg 3
    go_simp
    clear p3 f3
    refine hK.out _ _ ⟨cell_far1 (below_keep hw3 _ _ s3.out) hgt, cell_far1 (below_keep hw3 _ _ SU.out) hgu⟩ (fun hHeld => ?_)
    clear hK K
    (try simp only [Act.put, pz0, pz1, pz2, pz3, pz4, pz5])
    refine wpAnyH_done (by kernel_rfl) ?_ _
    refine NoPanic.normal ?_
    clear hHeld
    have hX := hV4.butN UqO.good ((But.refl g u3).setCell (p := ⟨g, 3, none⟩) rfl (.slice (some ⟨g4, 0, none⟩) (kk + 1) c4)) (hV4.notBox UqO.good rg (by decide))
    have hrow := Row.set rg 3 (.slice (some ⟨g4, 0, none⟩) (kk + 1) c4)
    have hbt9 := Lib.hid (hbt.setCell (p := ⟨g, 3, none⟩) rfl (.slice (some ⟨g4, 0, none⟩) (kk + 1) c4))
    have hw9 := Lib.hid (hw3.setCell (p := ⟨g, 3, none⟩) hgw (.slice (some ⟨g4, 0, none⟩) (kk + 1) c4))
    have HX9 := Lib.hid hX
    have HRW := Lib.hid hrow
    clear hX hrow hbt hw3 hw2 hw1 hc0 hc1 hc2 hV4 rg h4l qh qi
    go_wp2_with fail
    go_roundw
    case rel => exact ⟨kk + 1, by omega, by go_num, Lib.hid ⟨_, bs4, HRW.out, by rw [HTT.out]; exact HX9.out⟩, hbt9, hw9⟩
    case measure => simp [intOf]; omega
   refine AllReadyH.cons rfl (fun K hK => ?_) AllReadyH.nil
   go_simp
   go_at_call 29
   refine (specL1Copy Au _ cu x.uniqs[kk].cols ok _ (hu.below IntR.stays hw0) hul).mono ?_
   rintro e u1 ⟨v9, b4, rfl, o4, hq⟩
   obtain ⟨B9, d9, rfl⟩ := o4.shape
   have h4l : ∀ b ∈ b4, wr.heap.size ≤ b := fun b hb => by have h1 := (o4.lt IntO.good b hb).1; have h2 := hc0.size; omega
   have o4 := o4.mono IntO.good (Nat.le_trans HSA.out hc0.size)
   have rg := Row.below rg hq
   have hV3 := hV3.below UqO.good hq
   have hbt := hbt.trans (But.ofBelow hq)
   have hw1 := hw0.trans (hq.mono hw0.size)
   have hc1 := hc0.trans (hq.mono hc0.size)
   clear hq
   refine hK.out _ _ ⟨below_keep hw1 _ _ s3.out, below_keep hw1 _ _ SU.out⟩ (fun hHeld => ?_)
   clear hK K
   (try simp only [Act.put, pz0, pz1, pz2, pz3, pz4, pz5])
   refine tk 12 ?_
   refine wpAnyH_ready (rs := [1, 13]) (by kernel_rfl) (by simp) ?_
   refine AllReadyH.cons rfl (fun K hK => ?_) ?_
   ·have p3 : u1.cell? ⟨g, 3, none⟩ = some vj := Row.cell rg 3
    go_simp
    clear p3
    refine hK.out _ _ ⟨below_keep hw1 _ _ s3.out, below_keep hw1 _ _ SU.out⟩ (fun hHeld => ?_)
    clear hK K
    (try simp only [Act.put, pz0, pz1, pz2, pz3, pz4, pz5])
    refine wpAnyH_ready (rs := [13]) (by kernel_rfl) (by simp) ?_
    refine AllReadyH.cons rfl (fun K hK => ?_) AllReadyH.nil
    go_simp
    have hal : Below u1.heap.size u1 (u1.alloc (.cells #[.slice B9 x.uniqs[kk].cols.length d9] 60)) := (Below.refl _ _).alloc (Nat.le_refl _) _
    have rt := Row.new u1 60 #[.slice B9 x.uniqs[kk].cols.length d9]
    have rg := Row.below rg hal
    have hV3 := hV3.below UqO.good hal
    have o4 := o4.below IntO.good hal
    have hbt := hbt.trans (But.ofBelow hal)
    have hw2 := hw1.trans (hal.mono hw1.size)
    have hc2 := hc1.trans (hal.mono hc1.size)
    clear hal
    generalize u1.alloc (.cells #[.slice B9 x.uniqs[kk].cols.length d9] 60) = u2 at *
    generalize u1.heap.size = gt at *
    refine hK.out _ _ ⟨below_keep hw2 _ _ s3.out, below_keep hw2 _ _ SU.out⟩ (fun hHeld => ?_)
    clear hK K
    (try simp only [Act.put, pz0, pz1, pz2, pz3, pz4, pz5])
    refine wpAnyH_ready (rs := [14]) (by kernel_rfl) (by simp) ?_
    refine AllReadyH.cons rfl (fun K hK => ?_) AllReadyH.nil
    obtain ⟨ds, hds, happ⟩ := hV3.app2 UqO.good UqO.out
    have hE : UqO u2 S3 [.slice B9 x.uniqs[kk].cols.length d9] x.uniqs[kk] b4 := ⟨_, b4, rfl, o4, by simp, o4.nodup IntO.good IntO.out⟩
    have hds' : u2.ownsRow S3 60 1 vj kk ds := by rw [← HKK.out]; exact hds
    have hsz9 : S3 ≤ u2.heap.size := Nat.le_trans HSA.out hc2.size
    refine step_append_lies u2 rfl (.tmp 47) (.tmp 59) 53 rfl S3 60 iU (.agg #[.slice none 0 0]) 1 24 Tryz.underlying53 U1.out U2.out U3.out U4.out rfl (by decide) vj kk ds rfl hds' ⟨gt, 0, none⟩ 1 1 [.slice B9 x.uniqs[kk].cols.length d9] rfl rfl (fun j y hj => by rw [addr_add, Nat.zero_add, Row.cell rt]; simpa using hj) (fun y hy => by simp at hy; subst hy; rfl) (by omega) (by unfold maxLen; omega) (by omega) hsz9 _ rfl ?_
    intro g4 c4 u3 hown4 hgrow hloc hlt4
    obtain ⟨bs4, hV4⟩ := happ hE (fun b hb hh => by have h1 := h4l b hb; have h2 := hfr b hh; omega) (by rw [HKK.out]; exact hown4) hgrow
    have hq3 : ∀ q, vj.ownBlock = some q → S3 ≤ q := fun q hq => (World.ownsRow.lt hds q hq).1
    have rg := Row.grownT rg hds hgrow (by decide)
    have hw3 := hw2.grown hgrow hw2.size (fun q hq => Nat.le_trans hwS (hq3 q hq))
    have hbt := hbt.grownNew hgrow (fun q hq => by have h1 := hq3 q hq; have h2 := HS3.out; omega)
    clear hds hds' happ hE hown4 hgrow hloc hq3 hV3 o4 rt hsz9
    refine hK.out _ _ ⟨below_keep hw3 _ _ s3.out, below_keep hw3 _ _ SU.out⟩ (fun hHeld => ?_)
    clear hK K
    (try simp only [Act.put, pz0, pz1, pz2, pz3, pz4, pz5])
    refine tk 15 ?_
    refine wpAnyH_ready (rs := [16]) (by kernel_rfl) (by simp) ?_
    refine AllReadyH.cons rfl (fun K hK => ?_) AllReadyH.nil
    have p3 : u3.cell? ⟨g, 3, none⟩ = some vj := Row.cell rg 3
    have f3 := Row.free rg 3
    go_simp
    clear p3 f3
    refine hK.out _ _ ⟨cell_far1 (below_keep hw3 _ _ s3.out) hgt, cell_far1 (below_keep hw3 _ _ SU.out) hgu⟩ (fun hHeld => ?_)
    clear hK K
    (try simp only [Act.put, pz0, pz1, pz2, pz3, pz4, pz5])
    refine wpAnyH_done (by kernel_rfl) ?_ _
    refine NoPanic.normal ?_
    clear hHeld
    have hX := hV4.butN UqO.good ((But.refl g u3).setCell (p := ⟨g, 3, none⟩) rfl (.slice (some ⟨g4, 0, none⟩) (kk + 1) c4)) (hV4.notBox UqO.good rg (by decide))
    have hrow := Row.set rg 3 (.slice (some ⟨g4, 0, none⟩) (kk + 1) c4)
    have hbt9 := Lib.hid (hbt.setCell (p := ⟨g, 3, none⟩) rfl (.slice (some ⟨g4, 0, none⟩) (kk + 1) c4))
    have hw9 := Lib.hid (hw3.setCell (p := ⟨g, 3, none⟩) hgw (.slice (some ⟨g4, 0, none⟩) (kk + 1) c4))
    have HX9 := Lib.hid hX
    have HRW := Lib.hid hrow
    clear hX hrow hbt hw3 hw2 hw1 hc0 hc1 hc2 hV4 rg h4l qh qi
    go_wp2_with fail
    go_roundw
    case rel => exact ⟨kk + 1, by omega, by go_num, Lib.hid ⟨_, bs4, HRW.out, by rw [HTT.out]; exact HX9.out⟩, hbt9, hw9⟩
    case measure => simp [intOf]; omega
   refine AllReadyH.cons rfl (fun K hK => ?_) AllReadyH.nil
   go_simp
   have hal : Below u1.heap.size u1 (u1.alloc (.cells #[.slice B9 x.uniqs[kk].cols.length d9] 60)) := (Below.refl _ _).alloc (Nat.le_refl _) _
   have rt := Row.new u1 60 #[.slice B9 x.uniqs[kk].cols.length d9]
   have rg := Row.below rg hal
   have hV3 := hV3.below UqO.good hal
   have o4 := o4.below IntO.good hal
   have hbt := hbt.trans (But.ofBelow hal)
   have hw2 := hw1.trans (hal.mono hw1.size)
   have hc2 := hc1.trans (hal.mono hc1.size)
   clear hal
   generalize u1.alloc (.cells #[.slice B9 x.uniqs[kk].cols.length d9] 60) = u2 at *
   generalize u1.heap.size = gt at *
   refine hK.out _ _ ⟨below_keep hw2 _ _ s3.out, below_keep hw2 _ _ SU.out⟩ (fun hHeld => ?_)
   clear hK K
   (try simp only [Act.put, pz0, pz1, pz2, pz3, pz4, pz5])
   refine wpAnyH_ready (rs := [1]) (by kernel_rfl) (by simp) ?_
   refine AllReadyH.cons rfl (fun K hK => ?_) AllReadyH.nil
   have p3 : u2.cell? ⟨g, 3, none⟩ = some vj := Row.cell rg 3
   go_simp
   clear p3
   refine hK.out _ _ ⟨below_keep hw2 _ _ s3.out, below_keep hw2 _ _ SU.out⟩ (fun hHeld => ?_)
   clear hK K
   (try simp only [Act.put, pz0, pz1, pz2, pz3, pz4, pz5])
   refine wpAnyH_ready (rs := [14]) (by kernel_rfl) (by simp) ?_
   refine AllReadyH.cons rfl (fun K hK => ?_) AllReadyH.nil
   obtain ⟨ds, hds, happ⟩ := hV3.app2 UqO.good UqO.out
   have hE : UqO u2 S3 [.slice B9 x.uniqs[kk].cols.length d9] x.uniqs[kk] b4 := ⟨_, b4, rfl, o4, by simp, o4.nodup IntO.good IntO.out⟩
   have hds' : u2.ownsRow S3 60 1 vj kk ds := by rw [← HKK.out]; exact hds
   have hsz9 : S3 ≤ u2.heap.size := Nat.le_trans HSA.out hc2.size
   refine step_append_lies u2 rfl (.tmp 47) (.tmp 59) 53 rfl S3 60 iU (.agg #[.slice none 0 0]) 1 24 Tryz.underlying53 U1.out U2.out U3.out U4.out rfl (by decide) vj kk ds rfl hds' ⟨gt, 0, none⟩ 1 1 [.slice B9 x.uniqs[kk].cols.length d9] rfl rfl (fun j y hj => by rw [addr_add, Nat.zero_add, Row.cell rt]; simpa using hj) (fun y hy => by simp at hy; subst hy; rfl) (by omega) (by unfold maxLen; omega) (by omega) hsz9 _ rfl ?_
   intro g4 c4 u3 hown4 hgrow hloc hlt4
   obtain ⟨bs4, hV4⟩ := happ hE (fun b hb hh => by have h1 := h4l b hb; have h2 := hfr b hh; omega) (by rw [HKK.out]; exact hown4) hgrow
   have hq3 : ∀ q, vj.ownBlock = some q → S3 ≤ q := fun q hq => (World.ownsRow.lt hds q hq).1
   have rg := Row.grownT rg hds hgrow (by decide)
   have hw3 := hw2.grown hgrow hw2.size (fun q hq => Nat.le_trans hwS (hq3 q hq))
   have hbt := hbt.grownNew hgrow (fun q hq => by have h1 := hq3 q hq; have h2 := HS3.out; omega)
   clear hds hds' happ hE hown4 hgrow hloc hq3 hV3 o4 rt hsz9
   refine hK.out _ _ ⟨below_keep hw3 _ _ s3.out, below_keep hw3 _ _ SU.out⟩ (fun hHeld => ?_)
   clear hK K
   (try simp only [Act.put, pz0, pz1, pz2, pz3, pz4, pz5])
   refine tk 15 ?_
   refine wpAnyH_ready (rs := [16]) (by kernel_rfl) (by simp) ?_
   refine AllReadyH.cons rfl (fun K hK => ?_) AllReadyH.nil
   have p3 : u3.cell? ⟨g, 3, none⟩ = some vj := Row.cell rg 3
   have f3 := Row.free rg 3
   go_simp
   clear p3 f3
   refine hK.out _ _ ⟨cell_far1 (below_keep hw3 _ _ s3.out) hgt, cell_far1 (below_keep hw3 _ _ SU.out) hgu⟩ (fun hHeld => ?_)
   clear hK K
   (try simp only [Act.put, pz0, pz1, pz2, pz3, pz4, pz5])
   refine wpAnyH_done (by kernel_rfl) ?_ _
   refine NoPanic.normal ?_
   clear hHeld
   have hX := hV4.butN UqO.good ((But.refl g u3).setCell (p := ⟨g, 3, none⟩) rfl (.slice (some ⟨g4, 0, none⟩) (kk + 1) c4)) (hV4.notBox UqO.good rg (by decide))
   have hrow := Row.set rg 3 (.slice (some ⟨g4, 0, none⟩) (kk + 1) c4)
   have hbt9 := Lib.hid (hbt.setCell (p := ⟨g, 3, none⟩) rfl (.slice (some ⟨g4, 0, none⟩) (kk + 1) c4))
   have hw9 := Lib.hid (hw3.setCell (p := ⟨g, 3, none⟩) hgw (.slice (some ⟨g4, 0, none⟩) (kk + 1) c4))
   have HX9 := Lib.hid hX
   have HRW := Lib.hid hrow
   clear hX hrow hbt hw3 hw2 hw1 hc0 hc1 hc2 hV4 rg h4l qh qi
   go_wp2_with fail
   go_roundw
   case rel => exact ⟨kk + 1, by omega, by go_num, Lib.hid ⟨_, bs4, HRW.out, by rw [HTT.out]; exact HX9.out⟩, hbt9, hw9⟩
   case measure => simp [intOf]; omega
  obtain rfl : kk = x.uniqs.length := by omega
  obtain ⟨v3, bs3, rg3, hV3⟩ := hV.out
  rw [List.take_length] at hV3
  obtain ⟨a3, ha3⟩ : ∃ z, z = wr := ⟨_, rfl⟩
  subst ha3
  have HO3 := Lib.hid hV3
  have HR3 := Lib.hid rg3
  have HRA3 := HR3
  have BT3 := hBt
  have HB3 := hBw
  clear hV rg3 hV3 hBt hBw hkl hkk
  obtain ⟨S4, hS4⟩ : ∃ s, s = a3.heap.size := ⟨_, rfl⟩
  have HS4 := Lib.hid hS4
  have HNL4 := Lib.hid (OwnTr.nil (E := CkO) (T := 64) (sz := 1) a3 S4)
  clear hS4
  have qn := below_keep HB3.out _ _ s4.out
  go_wp2_with fail
  clear qn qh
  go_loopw [7] (fun kv wr => ∃ kk : Nat, kk ≤ x.checks.length ∧ kv = .int .i64 kk ∧ Hid (∃ (vj : Value) (bs : List Nat), Row wr g 57 #[.string x.name, .slice B1 x.cols.length d1, .slice B2 x.key.length d2, v3, vj, .slice none 0 0] ∧ OwnTr CkO 64 1 wr S4 vj (x.checks.take kk) bs) ∧ Hid (But g a3 wr) ∧ Hid (Below w.heap.size w wr)) (fun kv _ => x.checks.length - (intOf kv).toNat)
  case atStart => exact ⟨0, by omega, rfl, Lib.hid ⟨_, [], HR3.out, HNL4.out⟩, Lib.hid (But.refl _ _), HB3⟩
  case round =>
  clear HNL4 HR3 HB3
  obtain ⟨kk, hkk, rfl, hV, hBt, hBw⟩ := hrel
  have qh := below_keep hBw.out _ _ s4.out
  by_cases hkl : kk < x.checks.length
  ·obtain ⟨bu, ou, Au, nu, cu, -, e3, qu, hu, hcap⟩ := CkR.at_ hs4.out hkl
   subst e3
   obtain rfl : x.checks[kk].expr.length = nu := hu.1
   have k0 : (0 : Int) ≤ kk := by omega
   have k1 : (kk : Int) < x.checks.length := by omega
   obtain ⟨vj, bs3, rg, hV3⟩ := hV.out
   have hfr : ∀ b ∈ bs3, b < wr.heap.size := fun b hb => (hV3.lt CkO.good b hb).2
   have HKK := Lib.hid (show (x.checks.take kk).length = kk by rw [List.length_take]; omega)
   have HTT := Lib.hid (show x.checks.take (kk + 1) = x.checks.take kk ++ [x.checks[kk]] from List.take_succ_eq_append_getElem hkl)
   have hbu := cell_lt qu
   simp only at hbu
   have hgu : g ≠ bu := by omega
   have hul : x.checks[kk].expr.length ≤ 1073741824 := by have := G4.out _ (List.getElem_mem hkl); omega
   have hbt := hBt.out
   have hw0 := hBw.out
   have HSA := Lib.hid (show S4 ≤ wr.heap.size by have h1 := HS4.out; have h2 := hbt.size; omega)
   have SU := Lib.hid qu
   have hwS : w.heap.size ≤ S4 := by have h1 := HS4.out; have h2 := HCB.out; have h3 := HOB.out; have h4 := BT3.out.size; omega
   clear hV hBt
   have qi := below_keep hw0 _ _ qu
   go_wp2_with fail
   have hw0 : Below w.heap.size w wr.drew := hw0.drew
   have hc0 : Below wr.heap.size wr wr.drew := (Below.refl _ _).drew
   have rg : Row wr.drew g 57 #[.string x.name, .slice B1 x.cols.length d1, .slice B2 x.key.length d2, v3, vj, .slice none 0 0] := rg
   have hV3 := hV3.below CkO.good hc0
   have hbt := hbt.trans (But.ofBelow hc0)
   refine wp_region_noPanic ?_
   refine wp_region_held_drew (S := (fun w' => w'.cell? ⟨bt, ot + k * 6 + 4, none⟩ = some (.slice (some ⟨bu, ou, none⟩) x.checks.length c4) ∧ w'.cell? ⟨bu, ou + kk, none⟩ = some (.slice Au x.checks[kk].expr.length cu))) (by kernel_rfl) ⟨qh, qi⟩ (fun hHeld => ?_)
   generalize wr.drew = u0 at *
   refine tk 0 ?_
   refine tk 2 ?_
   refine tk 3 ?_
   refine tk 4 ?_
   refine tk 5 ?_
   refine tk 6 ?_
   refine tk 7 ?_
   refine tk 8 ?_
   refine tk 9 ?_
   refine tk 10 ?_
   refine wpAnyH_ready (rs := [1, 11]) (by kernel_rfl) (by simp) ?_
   refine AllReadyH.cons rfl (fun K hK => ?_) ?_
   ·have p3 : u0.cell? ⟨g, 4, none⟩ = some vj := Row.cell rg 4
    go_simp
    clear p3
    refine hK.out _ _ ⟨below_keep hw0 _ _ s4.out, below_keep hw0 _ _ SU.out⟩ (fun hHeld => ?_)
    clear hK K
    (try simp only [Act.put, pz0, pz1, pz2, pz3, pz4, pz5])
    refine wpAnyH_ready (rs := [11]) (by kernel_rfl) (by simp) ?_
    refine AllReadyH.cons rfl (fun K hK => ?_) AllReadyH.nil
    go_simp
    go_at_call 30
    refine (specL3Toks Au _ cu x.checks[kk].expr ok _ (hu.below TkR.stays hw0) hul).mono ?_
    rintro e u1 ⟨v9, b4, rfl, o4, hq⟩
    obtain ⟨B9, d9, rfl⟩ := o4.shape
    have h4l : ∀ b ∈ b4, wr.heap.size ≤ b := fun b hb => by have h1 := (o4.lt TkO.good b hb).1; have h2 := hc0.size; omega
    have o4 := o4.mono TkO.good (Nat.le_trans HSA.out hc0.size)
    have rg := Row.below rg hq
    have hV3 := hV3.below CkO.good hq
    have hbt := hbt.trans (But.ofBelow hq)
    have hw1 := hw0.trans (hq.mono hw0.size)
    have hc1 := hc0.trans (hq.mono hc0.size)
    clear hq
    refine hK.out _ _ ⟨below_keep hw1 _ _ s4.out, below_keep hw1 _ _ SU.out⟩ (fun hHeld => ?_)
    clear hK K
    (try simp only [Act.put, pz0, pz1, pz2, pz3, pz4, pz5])
    refine tk 12 ?_
    refine wpAnyH_ready (rs := [13]) (by kernel_rfl) (by simp) ?_
    refine AllReadyH.cons rfl (fun K hK => ?_) AllReadyH.nil
    go_simp
    have hal : Below u1.heap.size u1 (u1.alloc (.cells #[.slice B9 x.checks[kk].expr.length d9] 64)) := (Below.refl _ _).alloc (Nat.le_refl _) _
    have rt := Row.new u1 64 #[.slice B9 x.checks[kk].expr.length d9]
    have rg := Row.below rg hal
    have hV3 := hV3.below CkO.good hal
    have o4 := o4.below TkO.good hal
    have hbt := hbt.trans (But.ofBelow hal)
    have hw2 := hw1.trans (hal.mono hw1.size)
    have hc2 := hc1.trans (hal.mono hc1.size)
    clear hal
    generalize u1.alloc (.cells #[.slice B9 x.checks[kk].expr.length d9] 64) = u2 at *
    generalize u1.heap.size = gt at *
    refine hK.out _ _ ⟨below_keep hw2 _ _ s4.out, below_keep hw2 _ _ SU.out⟩ (fun hHeld => ?_)
    clear hK K
    (try simp only [Act.put, pz0, pz1, pz2, pz3, pz4, pz5])
    refine wpAnyH_ready (rs := [14]) (by kernel_rfl) (by simp) ?_
    refine AllReadyH.cons rfl (fun K hK => ?_) AllReadyH.nil
    obtain ⟨ds, hds, happ⟩ := hV3.app2 CkO.good CkO.out
    have hE : CkO u2 S4 [.slice B9 x.checks[kk].expr.length d9] x.checks[kk] b4 := ⟨_, b4, rfl, o4, by simp, o4.nodup TkO.good TkO.out⟩
    have hds' : u2.ownsRow S4 64 1 vj kk ds := by rw [← HKK.out]; exact hds
    have hsz9 : S4 ≤ u2.heap.size := Nat.le_trans HSA.out hc2.size
    refine step_append_lies u2 rfl (.tmp 73) (.tmp 85) 54 rfl S4 64 iK (.agg #[.slice none 0 0]) 1 24 Tryz.underlying54 K1.out K2.out K3.out K4.out rfl (by decide) vj kk ds rfl hds' ⟨gt, 0, none⟩ 1 1 [.slice B9 x.checks[kk].expr.length d9] rfl rfl (fun j y hj => by rw [addr_add, Nat.zero_add, Row.cell rt]; simpa using hj) (fun y hy => by simp at hy; subst hy; rfl) (by omega) (by unfold maxLen; omega) (by omega) hsz9 _ rfl ?_
    intro g4 c4 u3 hown4 hgrow hloc hlt4
    obtain ⟨bs4, hV4⟩ := happ hE (fun b hb hh => by have h1 := h4l b hb; have h2 := hfr b hh; omega) (by rw [HKK.out]; exact hown4) hgrow
    have hq3 : ∀ q, vj.ownBlock = some q → S4 ≤ q := fun q hq => (World.ownsRow.lt hds q hq).1
    have rg := Row.grownT rg hds hgrow (by decide)
    have hw3 := hw2.grown hgrow hw2.size (fun q hq => Nat.le_trans hwS (hq3 q hq))
    have hbt := hbt.grownNew hgrow (fun q hq => by have h1 := hq3 q hq; have h2 := HS4.out; omega)
    clear hds hds' happ hE hown4 hgrow hloc hq3 hV3 o4 rt hsz9
    refine hK.out _ _ ⟨below_keep hw3 _ _ s4.out, below_keep hw3 _ _ SU.out⟩ (fun hHeld => ?_)
    clear hK K
    (try simp only [Act.put, pz0, pz1, pz2, pz3, pz4, pz5])
    refine tk 15 ?_
    refine wpAnyH_ready (rs := [16]) (by kernel_rfl) (by simp) ?_
    refine AllReadyH.cons rfl (fun K hK => ?_) AllReadyH.nil
    have p3 : u3.cell? ⟨g, 4, none⟩ = some vj := Row.cell rg 4
    have f3 := Row.free rg 4
    go_simp
    clear p3 f3
    refine hK.out _ _ ⟨cell_far1 (below_keep hw3 _ _ s4.out) hgt, cell_far1 (below_keep hw3 _ _ SU.out) hgu⟩ (fun hHeld => ?_)
    clear hK K
    (try simp only [Act.put, pz0, pz1, pz2, pz3, pz4, pz5])
    refine wpAnyH_done (by kernel_rfl) ?_ _
    refine NoPanic.normal ?_
    clear hHeld
    have hX := hV4.butN CkO.good ((But.refl g u3).setCell (p := ⟨g, 4, none⟩) rfl (.slice (some ⟨g4, 0, none⟩) (kk + 1) c4)) (hV4.notBox CkO.good rg (by decide))
    have hrow := Row.set rg 4 (.slice (some ⟨g4, 0, none⟩) (kk + 1) c4)
    have hbt9 := Lib.hid (hbt.setCell (p := ⟨g, 4, none⟩) rfl (.slice (some ⟨g4, 0, none⟩) (kk + 1) c4))
    have hw9 := Lib.hid (hw3.setCell (p := ⟨g, 4, none⟩) hgw (.slice (some ⟨g4, 0, none⟩) (kk + 1) c4))
    have HX9 := Lib.hid hX
    have HRW := Lib.hid hrow
    clear hX hrow hbt hw3 hw2 hw1 hc0 hc1 hc2 hV4 rg h4l qh qi
    go_wp2_with fail
    go_roundw
    case rel => exact ⟨kk + 1, by omega, by go_num, Lib.hid ⟨_, bs4, HRW.out, by rw [HTT.out]; exact HX9.out⟩, hbt9, hw9⟩
    case measure => simp [intOf]; omega
   refine AllReadyH.cons rfl (fun K hK => ?_) AllReadyH.nil
   go_simp
   go_at_call 30
   refine (specL3Toks Au _ cu x.checks[kk].expr ok _ (hu.below TkR.stays hw0) hul).mono ?_
   rintro e u1 ⟨v9, b4, rfl, o4, hq⟩
   obtain ⟨B9, d9, rfl⟩ := o4.shape
   have h4l : ∀ b ∈ b4, wr.heap.size ≤ b := fun b hb => by have h1 := (o4.lt TkO.good b hb).1; have h2 := hc0.size; omega
   have o4 := o4.mono TkO.good (Nat.le_trans HSA.out hc0.size)
   have rg := Row.below rg hq
   have hV3 := hV3.below CkO.good hq
   have hbt := hbt.trans (But.ofBelow hq)
   have hw1 := hw0.trans (hq.mono hw0.size)
   have hc1 := hc0.trans (hq.mono hc0.size)
   clear hq
   refine hK.out _ _ ⟨below_keep hw1 _ _ s4.out, below_keep hw1 _ _ SU.out⟩ (fun hHeld => ?_)
   clear hK K
   (try simp only [Act.put, pz0, pz1, pz2, pz3, pz4, pz5])
   refine tk 12 ?_
   refine wpAnyH_ready (rs := [1, 13]) (by kernel_rfl) (by simp) ?_
   refine AllReadyH.cons rfl (fun K hK => ?_) ?_
   ·have p3 : u1.cell? ⟨g, 4, none⟩ = some vj := Row.cell rg 4
    go_simp
    clear p3
    refine hK.out _ _ ⟨below_keep hw1 _ _ s4.out, below_keep hw1 _ _ SU.out⟩ (fun hHeld => ?_)
    clear hK K
    (try simp only [Act.put, pz0, pz1, pz2, pz3, pz4, pz5])
    refine wpAnyH_ready (rs := [13]) (by kernel_rfl) (by simp) ?_
    refine AllReadyH.cons rfl (fun K hK => ?_) AllReadyH.nil
    go_simp
    have hal : Below u1.heap.size u1 (u1.alloc (.cells #[.slice B9 x.checks[kk].expr.length d9] 64)) := (Below.refl _ _).alloc (Nat.le_refl _) _
    have rt := Row.new u1 64 #[.slice B9 x.checks[kk].expr.length d9]
    have rg := Row.below rg hal
    have hV3 := hV3.below CkO.good hal
    have o4 := o4.below TkO.good hal
    have hbt := hbt.trans (But.ofBelow hal)
    have hw2 := hw1.trans (hal.mono hw1.size)
    have hc2 := hc1.trans (hal.mono hc1.size)
    clear hal
    generalize u1.alloc (.cells #[.slice B9 x.checks[kk].expr.length d9] 64) = u2 at *
    generalize u1.heap.size = gt at *
    refine hK.out _ _ ⟨below_keep hw2 _ _ s4.out, below_keep hw2 _ _ SU.out⟩ (fun hHeld => ?_)
    clear hK K
    (try simp only [Act.put, pz0, pz1, pz2, pz3, pz4, pz5])
    refine wpAnyH_ready (rs := [14]) (by kernel_rfl) (by simp) ?_
    refine AllReadyH.cons rfl (fun K hK => ?_) AllReadyH.nil
    obtain ⟨ds, hds, happ⟩ := hV3.app2 CkO.good CkO.out
    have hE : CkO u2 S4 [.slice B9 x.checks[kk].expr.length d9] x.checks[kk] b4 := ⟨_, b4, rfl, o4, by simp, o4.nodup TkO.good TkO.out⟩
    have hds' : u2.ownsRow S4 64 1 vj kk ds := by rw [← HKK.out]; exact hds
    have hsz9 : S4 ≤ u2.heap.size := Nat.le_trans HSA.out hc2.size
    refine step_append_lies u2 rfl (.tmp 73) (.tmp 85) 54 rfl S4 64 iK (.agg #[.slice none 0 0]) 1 24 Tryz.underlying54 K1.out K2.out K3.out K4.out rfl (by decide) vj kk ds rfl hds' ⟨gt, 0, none⟩ 1 1 [.slice B9 x.checks[kk].expr.length d9] rfl rfl (fun j y hj => by rw [addr_add, Nat.zero_add, Row.cell rt]; simpa using hj) (fun y hy => by simp at hy; subst hy; rfl) (by omega) (by unfold maxLen; omega) (by omega) hsz9 _ rfl ?_
    intro g4 c4 u3 hown4 hgrow hloc hlt4
    obtain ⟨bs4, hV4⟩ := happ hE (fun b hb hh => by have h1 := h4l b hb; have h2 := hfr b hh; omega) (by rw [HKK.out]; exact hown4) hgrow
    have hq3 : ∀ q, vj.ownBlock = some q → S4 ≤ q := fun q hq => (World.ownsRow.lt hds q hq).1
    have rg := Row.grownT rg hds hgrow (by decide)
    have hw3 := hw2.grown hgrow hw2.size (fun q hq => Nat.le_trans hwS (hq3 q hq))
    have hbt := hbt.grownNew hgrow (fun q hq => by have h1 := hq3 q hq; have h2 := HS4.out; omega)
    clear hds hds' happ hE hown4 hgrow hloc hq3 hV3 o4 rt hsz9
    refine hK.out _ _ ⟨below_keep hw3 _ _ s4.out, below_keep hw3 _ _ SU.out⟩ (fun hHeld => ?_)
    clear hK K
    (try simp only [Act.put, pz0, pz1, pz2, pz3, pz4, pz5])
    refine tk 15 ?_
    refine wpAnyH_ready (rs := [16]) (by kernel_rfl) (by simp) ?_
    refine AllReadyH.cons rfl (fun K hK => ?_) AllReadyH.nil
    have p3 : u3.cell? ⟨g, 4, none⟩ = some vj := Row.cell rg 4
    have f3 := Row.free rg 4
    go_simp
    clear p3 f3
    refine hK.out _ _ ⟨cell_far1 (below_keep hw3 _ _ s4.out) hgt, cell_far1 (below_keep hw3 _ _ SU.out) hgu⟩ (fun hHeld => ?_)
    clear hK K
    (try simp only [Act.put, pz0, pz1, pz2, pz3, pz4, pz5])
    refine wpAnyH_done (by kernel_rfl) ?_ _
    refine NoPanic.normal ?_
    clear hHeld
    have hX := hV4.butN CkO.good ((But.refl g u3).setCell (p := ⟨g, 4, none⟩) rfl (.slice (some ⟨g4, 0, none⟩) (kk + 1) c4)) (hV4.notBox CkO.good rg (by decide))
    have hrow := Row.set rg 4 (.slice (some ⟨g4, 0, none⟩) (kk + 1) c4)
    have hbt9 := Lib.hid (hbt.setCell (p := ⟨g, 4, none⟩) rfl (.slice (some ⟨g4, 0, none⟩) (kk + 1) c4))
    have hw9 := Lib.hid (hw3.setCell (p := ⟨g, 4, none⟩) hgw (.slice (some ⟨g4, 0, none⟩) (kk + 1) c4))
    have HX9 := Lib.hid hX
    have HRW := Lib.hid hrow
    clear hX hrow hbt hw3 hw2 hw1 hc0 hc1 hc2 hV4 rg h4l qh qi
    go_wp2_with fail
    go_roundw
    case rel => exact ⟨kk + 1, by omega, by go_num, Lib.hid ⟨_, bs4, HRW.out, by rw [HTT.out]; exact HX9.out⟩, hbt9, hw9⟩
    case measure => simp [intOf]; omega
   refine AllReadyH.cons rfl (fun K hK => ?_) AllReadyH.nil
   go_simp
   have hal : Below u1.heap.size u1 (u1.alloc (.cells #[.slice B9 x.checks[kk].expr.length d9] 64)) := (Below.refl _ _).alloc (Nat.le_refl _) _
   have rt := Row.new u1 64 #[.slice B9 x.checks[kk].expr.length d9]
   have rg := Row.below rg hal
   have hV3 := hV3.below CkO.good hal
   have o4 := o4.below TkO.good hal
   have hbt := hbt.trans (But.ofBelow hal)
   have hw2 := hw1.trans (hal.mono hw1.size)
   have hc2 := hc1.trans (hal.mono hc1.size)
   clear hal
   generalize u1.alloc (.cells #[.slice B9 x.checks[kk].expr.length d9] 64) = u2 at *
   generalize u1.heap.size = gt at *
   refine hK.out _ _ ⟨below_keep hw2 _ _ s4.out, below_keep hw2 _ _ SU.out⟩ (fun hHeld => ?_)
   clear hK K
   (try simp only [Act.put, pz0, pz1, pz2, pz3, pz4, pz5])
   refine wpAnyH_ready (rs := [1]) (by kernel_rfl) (by simp) ?_
   refine AllReadyH.cons rfl (fun K hK => ?_) AllReadyH.nil
   have p3 : u2.cell? ⟨g, 4, none⟩ = some vj := Row.cell rg 4
   go_simp
   clear p3
   refine hK.out _ _ ⟨below_keep hw2 _ _ s4.out, below_keep hw2 _ _ SU.out⟩ (fun hHeld => ?_)
   clear hK K
   (try simp only [Act.put, pz0, pz1, pz2, pz3, pz4, pz5])
   refine wpAnyH_ready (rs := [14]) (by kernel_rfl) (by simp) ?_
   refine AllReadyH.cons rfl (fun K hK => ?_) AllReadyH.nil
   obtain ⟨ds, hds, happ⟩ := hV3.app2 CkO.good CkO.out
   have hE : CkO u2 S4 [.slice B9 x.checks[kk].expr.length d9] x.checks[kk] b4 := ⟨_, b4, rfl, o4, by simp, o4.nodup TkO.good TkO.out⟩
   have hds' : u2.ownsRow S4 64 1 vj kk ds := by rw [← HKK.out]; exact hds
   have hsz9 : S4 ≤ u2.heap.size := Nat.le_trans HSA.out hc2.size
   refine step_append_lies u2 rfl (.tmp 73) (.tmp 85) 54 rfl S4 64 iK (.agg #[.slice none 0 0]) 1 24 Tryz.underlying54 K1.out K2.out K3.out K4.out rfl (by decide) vj kk ds rfl hds' ⟨gt, 0, none⟩ 1 1 [.slice B9 x.checks[kk].expr.length d9] rfl rfl (fun j y hj => by rw [addr_add, Nat.zero_add, Row.cell rt]; simpa using hj) (fun y hy => by simp at hy; subst hy; rfl) (by omega) (by unfold maxLen; omega) (by omega) hsz9 _ rfl ?_
   intro g4 c4 u3 hown4 hgrow hloc hlt4
   obtain ⟨bs4, hV4⟩ := happ hE (fun b hb hh => by have h1 := h4l b hb; have h2 := hfr b hh; omega) (by rw [HKK.out]; exact hown4) hgrow
   have hq3 : ∀ q, vj.ownBlock = some q → S4 ≤ q := fun q hq => (World.ownsRow.lt hds q hq).1
   have rg := Row.grownT rg hds hgrow (by decide)
   have hw3 := hw2.grown hgrow hw2.size (fun q hq => Nat.le_trans hwS (hq3 q hq))
   have hbt := hbt.grownNew hgrow (fun q hq => by have h1 := hq3 q hq; have h2 := HS4.out; omega)
   clear hds hds' happ hE hown4 hgrow hloc hq3 hV3 o4 rt hsz9
   refine hK.out _ _ ⟨below_keep hw3 _ _ s4.out, below_keep hw3 _ _ SU.out⟩ (fun hHeld => ?_)
   clear hK K
   (try simp only [Act.put, pz0, pz1, pz2, pz3, pz4, pz5])
   refine tk 15 ?_
   refine wpAnyH_ready (rs := [16]) (by kernel_rfl) (by simp) ?_
   refine AllReadyH.cons rfl (fun K hK => ?_) AllReadyH.nil
   have p3 : u3.cell? ⟨g, 4, none⟩ = some vj := Row.cell rg 4
   have f3 := Row.free rg 4
   go_simp
   clear p3 f3
   refine hK.out _ _ ⟨cell_far1 (below_keep hw3 _ _ s4.out) hgt, cell_far1 (below_keep hw3 _ _ SU.out) hgu⟩ (fun hHeld => ?_)
   clear hK K
   (try simp only [Act.put, pz0, pz1, pz2, pz3, pz4, pz5])
   refine wpAnyH_done (by kernel_rfl) ?_ _
   refine NoPanic.normal ?_
   clear hHeld
   have hX := hV4.butN CkO.good ((But.refl g u3).setCell (p := ⟨g, 4, none⟩) rfl (.slice (some ⟨g4, 0, none⟩) (kk + 1) c4)) (hV4.notBox CkO.good rg (by decide))
   have hrow := Row.set rg 4 (.slice (some ⟨g4, 0, none⟩) (kk + 1) c4)
   have hbt9 := Lib.hid (hbt.setCell (p := ⟨g, 4, none⟩) rfl (.slice (some ⟨g4, 0, none⟩) (kk + 1) c4))
   have hw9 := Lib.hid (hw3.setCell (p := ⟨g, 4, none⟩) hgw (.slice (some ⟨g4, 0, none⟩) (kk + 1) c4))
   have HX9 := Lib.hid hX
   have HRW := Lib.hid hrow
   clear hX hrow hbt hw3 hw2 hw1 hc0 hc1 hc2 hV4 rg h4l qh qi
   go_wp2_with fail
   go_roundw
   case rel => exact ⟨kk + 1, by omega, by go_num, Lib.hid ⟨_, bs4, HRW.out, by rw [HTT.out]; exact HX9.out⟩, hbt9, hw9⟩
   case measure => simp [intOf]; omega
  obtain rfl : kk = x.checks.length := by omega
  obtain ⟨v4, bs4, rg4, hV4⟩ := hV.out
  rw [List.take_length] at hV4
  obtain ⟨a4, ha4⟩ : ∃ z, z = wr := ⟨_, rfl⟩
  subst ha4
  have HO4 := Lib.hid hV4
  have HR4 := Lib.hid rg4
  have HRA4 := HR4
  have BT4 := hBt
  have HB4 := hBw
  clear hV rg4 hV4 hBt hBw hkl hkk
  obtain ⟨S5, hS5⟩ : ∃ s, s = a4.heap.size := ⟨_, rfl⟩
  have HS5 := Lib.hid hS5
  have HNL5 := Lib.hid (OwnTr.nil (E := FkO) (T := 66) (sz := 5) a4 S5)
  clear hS5
  have qn := below_keep HB4.out _ _ s5.out
  go_wp2_with fail
  clear qn qh
  go_loopw [8] (fun kv wr => ∃ kk : Nat, kk ≤ x.fks.length ∧ kv = .int .i64 kk ∧ Hid (∃ (vj : Value) (bs : List Nat), Row wr g 57 #[.string x.name, .slice B1 x.cols.length d1, .slice B2 x.key.length d2, v3, v4, vj] ∧ OwnTr FkO 66 5 wr S5 vj (x.fks.take kk) bs) ∧ Hid (But g a4 wr) ∧ Hid (Below w.heap.size w wr)) (fun kv _ => x.fks.length - (intOf kv).toNat)
  case atStart => exact ⟨0, by omega, rfl, Lib.hid ⟨_, [], HR4.out, HNL5.out⟩, Lib.hid (But.refl _ _), HB4⟩
  case round =>
  clear HNL5 HR4 HB4
  obtain ⟨kk, hkk, rfl, hV, hBt, hBw⟩ := hrel
  have qh := below_keep hBw.out _ _ s5.out
  by_cases hkl : kk < x.fks.length
  ·obtain ⟨bu, ou, Au, nu, cu, -, e3, qu, qu1, qu2, qu3, qu4, hu, hcap⟩ := FkR.at_ hs5.out hkl
   subst e3
   obtain rfl : x.fks[kk].cols.length = nu := hu.1
   have k0 : (0 : Int) ≤ kk := by omega
   have k1 : (kk : Int) < x.fks.length := by omega
   obtain ⟨vj, bs3, rg, hV3⟩ := hV.out
   have hfr : ∀ b ∈ bs3, b < wr.heap.size := fun b hb => (hV3.lt FkO.good b hb).2
   have HKK := Lib.hid (show (x.fks.take kk).length = kk by rw [List.length_take]; omega)
   have HTT := Lib.hid (show x.fks.take (kk + 1) = x.fks.take kk ++ [x.fks[kk]] from List.take_succ_eq_append_getElem hkl)
   have hbu := cell_lt qu
   simp only at hbu
   have hgu : g ≠ bu := by omega
   have hul : x.fks[kk].cols.length ≤ 1073741824 := by have := G5.out _ (List.getElem_mem hkl); omega
   have hbt := hBt.out
   have hw0 := hBw.out
   have HSA := Lib.hid (show S5 ≤ wr.heap.size by have h1 := HS5.out; have h2 := hbt.size; omega)
   have SU := Lib.hid qu
   have hwS : w.heap.size ≤ S5 := by have h1 := HS5.out; have h2 := HCB.out; have h3 := HOB.out; have h4 := BT3.out.size; have h5 := BT4.out.size; omega
   clear hV hBt
   have qi0 := below_keep hw0 _ _ qu
   have qi1 := below_keep hw0 _ _ qu1
   have qi2 := below_keep hw0 _ _ qu2
   have qi3 := below_keep hw0 _ _ qu3
   have qi4 := below_keep hw0 _ _ qu4
   have hal : Below wr.heap.size wr (wr.alloc (.cells #[.slice Au x.fks[kk].cols.length cu, .string x.fks[kk].table, .int .i64 x.fks[kk].del, .int .i64 x.fks[kk].upd, .bool x.fks[kk].dfr] 66)) := (Below.refl _ _).alloc (Nat.le_refl _) _
   have rh := Row.new wr 66 #[.slice Au x.fks[kk].cols.length cu, .string x.fks[kk].table, .int .i64 x.fks[kk].del, .int .i64 x.fks[kk].upd, .bool x.fks[kk].dfr]
   obtain ⟨⟨x0, x1, x2, x3, x4⟩, -⟩ := rh.five
   go_wp2_with fail
   clear qi0 qi1 qi2 qi3 qi4 x0 x1 x2 x3 x4
   generalize hz1 : wr.alloc (.cells #[.slice Au x.fks[kk].cols.length cu, .string x.fks[kk].table, .int .i64 x.fks[kk].del, .int .i64 x.fks[kk].upd, .bool x.fks[kk].dfr] 66) = z1 at *
   clear hz1
   have rg := Row.below rg hal
   have hV3 := hV3.below FkO.good hal
   have hbt := hbt.trans (But.ofBelow hal)
   have hw1 := hw0.trans (hal.mono hw0.size)
   have hhl : wr.heap.size < z1.heap.size := lt_of_block rh
   refine (specL1Copy Au _ cu x.fks[kk].cols ok _ (hu.below IntR.stays hw1) hul).mono ?_
   rintro e u1 ⟨v9, b4, rfl, o4, hq⟩
   obtain ⟨B9, d9, rfl⟩ := o4.shape
   have h4l : ∀ b ∈ b4, wr.heap.size < b := fun b hb => by have h1 := (o4.lt IntO.good b hb).1; omega
   have o4 := o4.mono IntO.good (show S5 ≤ z1.heap.size by have := HSA.out; omega)
   have rg := Row.below rg hq
   have rh := Row.below rh hq
   have hV3 := hV3.below FkO.good hq
   have hbt := hbt.trans (But.ofBelow hq)
   have hw2 := hw1.trans (hq.mono hw1.size)
   have hgh : wr.heap.size ≠ g := by have h1 := lt_of_block rg; intro e; rw [← e] at rg; have h2 := rg; have h3 := rh; unfold Row at h2 h3; rw [h2] at h3; injection h3 with h3; injection h3 with _ h5; exact absurd h5 (by decide)
   have hS9 : S5 ≤ wr.heap.size := HSA.out
   obtain ⟨⟨y0, y1, y2, y3, y4⟩, ⟨g0, g1, g2, g3, g4⟩⟩ := rh.five
   go_upto_region 19 with fail
   clear y0 y1 y2 y3 y4 g0 g1 g2 g3 g4
   have hst : But wr.heap.size u1 (u1.setCell ⟨wr.heap.size, 0, none⟩ (.slice B9 x.fks[kk].cols.length d9)) := (But.refl _ _).setCell (p := ⟨wr.heap.size, 0, none⟩) rfl _
   have rh := Row.set rh 0 (.slice B9 x.fks[kk].cols.length d9)
   have rg := Row.far rg (p := ⟨wr.heap.size, 0, none⟩) (fun e => hgh e.symm) (.slice B9 x.fks[kk].cols.length d9)
   have hV3 := hV3.butN FkO.good hst (fun hh => by have := hfr _ hh; omega)
   have o4 := o4.butN IntO.good hst (fun hh => by have := h4l _ hh; omega)
   have hbt := hbt.setNew (p := ⟨wr.heap.size, 0, none⟩) (by have h1 := HS5.out; show _ ≤ wr.heap.size; omega) (.slice B9 x.fks[kk].cols.length d9)
   have hw3 := hw2.setCell (p := ⟨wr.heap.size, 0, none⟩) (show w.heap.size ≤ wr.heap.size from hw0.size) (.slice B9 x.fks[kk].cols.length d9)
   generalize hu2 : u1.setCell ⟨wr.heap.size, 0, none⟩ (.slice B9 x.fks[kk].cols.length d9) = u2 at *
   clear hu2 hst
   have rh : Row u2 wr.heap.size 66 #[.slice B9 x.fks[kk].cols.length d9, .string x.fks[kk].table, .int .i64 x.fks[kk].del, .int .i64 x.fks[kk].upd, .bool x.fks[kk].dfr] := rh
   obtain ⟨⟨y0, y1, y2, y3, y4⟩, -⟩ := rh.five
   have p5 : u2.cell? ⟨g, 5, none⟩ = some vj := Row.cell rg 5
   have hal2 : Below u2.heap.size u2 (u2.alloc (.cells #[.slice B9 x.fks[kk].cols.length d9, .string x.fks[kk].table, .int .i64 x.fks[kk].del, .int .i64 x.fks[kk].upd, .bool x.fks[kk].dfr] 66)) := (Below.refl _ _).alloc (Nat.le_refl _) _
   have rt := Row.new u2 66 #[.slice B9 x.fks[kk].cols.length d9, .string x.fks[kk].table, .int .i64 x.fks[kk].del, .int .i64 x.fks[kk].upd, .bool x.fks[kk].dfr]
   have hV3 := hV3.below FkO.good hal2
   have o4 := o4.below IntO.good hal2
   have rg := Row.below rg hal2
   have hbt := hbt.trans (But.ofBelow hal2)
   have hw4 := hw3.trans (hal2.mono hw3.size)
   obtain ⟨ds, hds, happ⟩ := hV3.app2 FkO.good FkO.out
   have hE : FkO (u2.alloc (.cells #[.slice B9 x.fks[kk].cols.length d9, .string x.fks[kk].table, .int .i64 x.fks[kk].del, .int .i64 x.fks[kk].upd, .bool x.fks[kk].dfr] 66)) S5 [.slice B9 x.fks[kk].cols.length d9, .string x.fks[kk].table, .int .i64 x.fks[kk].del, .int .i64 x.fks[kk].upd, .bool x.fks[kk].dfr] x.fks[kk] b4 := ⟨_, b4, rfl, o4, by simp, o4.nodup IntO.good IntO.out⟩
   have hds' := hds
   rw [HKK.out] at hds'
   have hsz9 : S5 ≤ (u2.alloc (.cells #[.slice B9 x.fks[kk].cols.length d9, .string x.fks[kk].table, .int .i64 x.fks[kk].del, .int .i64 x.fks[kk].upd, .bool x.fks[kk].dfr] 66)).heap.size := by have h1 := HS5.out; have h2 := hbt.size; omega
   go_wp2_with (at_builtin; refine wpList_append_lies _ rfl _ _ 55 rfl S5 66 iF (.agg #[.slice none 0 0, .string ⟨#[]⟩, .int .i64 0, .int .i64 0, .bool false]) 5 64 Tryz.underlying55 F1.out F2.out F3.out F4.out rfl (by decide) _ kk ds rfl hds' ⟨_, 0, none⟩ 1 1 [.slice B9 x.fks[kk].cols.length d9, .string x.fks[kk].table, .int .i64 x.fks[kk].del, .int .i64 x.fks[kk].upd, .bool x.fks[kk].dfr] rfl rfl ?c1 ?c2 (by omega) ?c3 ?c4 hsz9 _ rfl ?_)
   case c1 => exact fun j y hj => by rw [addr_add, Nat.zero_add, Row.cell rt]; simpa using hj
   case c2 => exact fun y hy => by simp at hy; rcases hy with rfl | rfl | rfl | rfl | rfl <;> rfl
   case c3 => unfold maxLen; omega
   case c4 => omega
   intro g4 c4 u3 hown4 hgrow hloc hlt4
   obtain ⟨bs4, hV4⟩ := happ hE (fun b hb hh => by have h1 := h4l b hb; have h2 := hfr b hh; omega) (by rw [HKK.out]; exact hown4) hgrow
   have hq3 : ∀ q, vj.ownBlock = some q → S5 ≤ q := fun q hq => (World.ownsRow.lt hds q hq).1
   have rg := Row.grownT rg hds hgrow (by decide)
   have hw5 := hw4.grown hgrow hw4.size (fun q hq => Nat.le_trans hwS (hq3 q hq))
   have hbt := hbt.grownNew hgrow (fun q hq => by have h1 := hq3 q hq; have h2 := HS5.out; omega)
   have hX := hV4.butN FkO.good ((But.refl g u3).setCell (p := ⟨g, 5, none⟩) rfl (.slice (some ⟨g4, 0, none⟩) (kk + 1) c4)) (hV4.notBox FkO.good rg (by decide))
   have hrow := Row.set rg 5 (.slice (some ⟨g4, 0, none⟩) (kk + 1) c4)
   have hbt9 := Lib.hid (hbt.setCell (p := ⟨g, 5, none⟩) rfl (.slice (some ⟨g4, 0, none⟩) (kk + 1) c4))
   have hw9 := Lib.hid (hw5.setCell (p := ⟨g, 5, none⟩) hgw (.slice (some ⟨g4, 0, none⟩) (kk + 1) c4))
   have HX9 := Lib.hid hX
   have HRW := Lib.hid hrow
   have p3 : u3.cell? ⟨g, 5, none⟩ = some vj := Row.cell rg 5
   have f3 := Row.free rg 5
   clear hX hrow hbt hw5 hw4 hw3 hw2 hw1 hV4 rg rh rt h4l qh hds hds' happ hE hown4 hgrow hloc hq3 hV3 o4 hsz9 hal hal2 hq y0 y1 y2 y3 y4 p5
   go_wp2_with fail
   go_roundw
   case rel => exact ⟨kk + 1, by omega, by go_num, Lib.hid ⟨_, bs4, HRW.out, by rw [HTT.out]; exact HX9.out⟩, hbt9, hw9⟩
   case measure => simp [intOf]; omega
  obtain rfl : kk = x.fks.length := by omega
  obtain ⟨v5, bs5, rg5, hV5⟩ := hV.out
  rw [List.take_length] at hV5
  obtain ⟨a5, ha5⟩ : ∃ z, z = wr := ⟨_, rfl⟩
  subst ha5
  have HO5 := Lib.hid hV5
  have HR5 := Lib.hid rg5
  have HRA5 := HR5
  have BT5 := hBt
  have HB5 := hBw
  clear hV rg5 hV5 hBt hBw hkl hkk
  obtain ⟨⟨p0, p1, p2, p3, p4, p5⟩, -⟩ := Row.all6 HR5.out
  obtain ⟨bs, hO'⟩ := hO.out
  have z3 := HS3.out
  have z4 := HS4.out
  have z5 := HS5.out
  have y2 := HCB.out
  have y0 := HOB.out
  have y1 := HGS.out
  have m3 := BT3.out.size
  have m4 := BT4.out.size
  have m5 := BT5.out.size
  have hal : Below a5.heap.size a5 (a5.alloc (.cells #[.string x.name, .slice B1 x.cols.length d1, .slice B2 x.key.length d2, v3, v4, v5] 57)) := (Below.refl _ _).alloc (Nat.le_refl _) _
  have rt := Row.new a5 57 #[.string x.name, .slice B1 x.cols.length d1, .slice B2 x.key.length d2, v3, v4, v5]
  have ng1 := HO1.out.notBox ClO.good HRA2.out (by decide)
  have ng2 := HO2.out.notBox IntO.good HRA2.out (by decide)
  have ng3 := HO3.out.notBox UqO.good HRA3.out (by decide)
  have ng4 := HO4.out.notBox CkO.good HRA4.out (by decide)
  have o1 := (((HO1.out.butN ClO.good BT3.out ng1).butN ClO.good BT4.out ng1).butN ClO.good BT5.out ng1).below ClO.good hal
  have o2 := (((HO2.out.butN IntO.good BT3.out ng2).butN IntO.good BT4.out ng2).butN IntO.good BT5.out ng2).below IntO.good hal
  have o3 := ((HO3.out.butN UqO.good BT4.out ng3).butN UqO.good BT5.out ng3).below UqO.good hal
  have o4 := (HO4.out.butN CkO.good BT5.out ng4).below CkO.good hal
  have o5 := HO5.out.below FkO.good hal
  have hS22 := HS22.out
  have hE0 := TbO.mk5 (x := x) o1 o2 o3 o4 o5 HS1.out (fun b hb => by have := (HO2.out.lt IntO.good b hb).2; omega) (fun b hb => by have := (HO3.out.lt UqO.good b hb).2; omega) (fun b hb => by have := (HO4.out.lt CkO.good b hb).2; omega) HS2.out (by omega) (by omega) (by omega)
  have hE := TbO.good.mono hE0 y0
  have hBW : Below wo.heap.size wo (a5.alloc (.cells #[.string x.name, .slice B1 x.cols.length d1, .slice B2 x.key.length d2, v3, v4, v5] 57)) := (HCBB.out.trans ((BT3.out.belowAll y1 y2).trans ((BT4.out.belowAll y1 (by omega)).trans (BT5.out.belowAll y1 (by omega))))).trans (hal.mono (by omega))
  have hO2 := hO'.below TbO.good hBW
  obtain ⟨ds, hds, happ⟩ := hO2.app2 TbO.good TbO.out
  have hds' := hds
  rw [HKL.out] at hds'
  have hw4 := HB5.out.trans (hal.mono HB5.out.size)
  have hsz9 : w.heap.size ≤ (a5.alloc (.cells #[.string x.name, .slice B1 x.cols.length d1, .slice B2 x.key.length d2, v3, v4, v5] 57)).heap.size := hw4.size
  have ho3 := o3.one
  have ho4 := o4.one
  have ho5 := o5.one
  have hh9 := hn
  have hk9 := hlt
  clear o1 o2 o3 o4 o5
  go_wp2_with (at_builtin; refine wpList_append_lies _ rfl _ _ 24 rfl w.heap.size 57 iH (.agg #[.string ⟨#[]⟩, .slice none 0 0, .slice none 0 0, .slice none 0 0, .slice none 0 0, .slice none 0 0]) 6 136 Tryz.underlying24 H1.out H2.out H3.out H4.out rfl (by decide) _ k ds rfl hds' ⟨_, 0, none⟩ 1 1 [.string x.name, .slice B1 x.cols.length d1, .slice B2 x.key.length d2, v3, v4, v5] rfl rfl ?c1 ?c2 (by omega) ?c3 ?c4 hsz9 _ rfl ?_)
  case c1 => exact fun j y hj => by rw [addr_add, Nat.zero_add, Row.cell rt]; simpa using hj
  case c2 => exact fun y hy => by simp at hy; rcases hy with rfl | rfl | rfl | rfl | rfl | rfl <;> first | rfl | assumption
  case c3 => unfold maxLen; omega
  case c4 => omega
  intro g4 c4 u3 hown4 hgrow hloc hlt4
  obtain ⟨bs9, hV9⟩ := happ hE (fun b hb hh => by have h1 := (TbO.good.lt hE0 hb).1; have h2 := (hO'.lt TbO.good b hh).2; omega) (by rw [HKL.out]; exact hown4) hgrow
  have hw5 := hw4.grown hgrow hw4.size (fun q hq => (World.ownsRow.lt hds q hq).1)
  rw [← HTK.out] at hV9
  have HV9 := Lib.hid hV9
  have HW5 := Lib.hid hw5
  clear hV9 hw5 hw4 hgrow hown4 hloc happ hds hds' hO2 hO' hE hE0 hBW rt hal
  go_wp2_with fail
  go_roundw
  case rel => exact ⟨k + 1, by omega, by go_num, Lib.hid ⟨_, HV9.out⟩, HW5⟩
  case measure => simp [intOf]; omega
 ·obtain rfl : k = xs.length := by omega
  obtain ⟨bs, hO'⟩ := hO.out
  rw [List.take_length] at hO'
  go_wp2_with fail
  go_ret
  exact ⟨_, bs, rfl, hO', hB.out⟩
theorem infoSs : (Tryz.prog.info? 29).map (fun i => (i.zero, i.size, i.bytes)) = some (some (.agg #[.slice none 0 0, .slice none 0 0, .bool false, .slice none 0 0, .slice none 0 0]), 5, 104) := by kernel_rfl
set_option maxRecDepth 100000 in
set_option maxHeartbeats 2000000 in
theorem implClosedWith (A : Option Addr) (n c : Nat) (xs : List Tb) (B : Option Addr) (m d : Nat) (db : List Dt) (ok ok' : Nat → Prop) (w : World) (h : Sl TbR 6 ok w A n xs) (h' : Sl DtR 1 ok' w B m db) (hn : n ≤ 1073741824) (hx : ∀ x ∈ xs, x.sz ≤ 1048576) (hm : m ≤ 1048576) (hrn : ∀ d ∈ db, d.rows.length ≤ 1048576) (hvn : ∀ d ∈ db, ∀ r ∈ d.rows, r.vals.length ≤ 1048576) :
  Calls Tryz.prog 13 #[.slice A n c, .slice B m d] w fun e w' => ∃ (cs : Array Value) (bs : List Nat), e = .returned (.agg cs) ∧ SsO w' w.heap.size cs.toList ⟨xs, db, false, [], []⟩ bs ∧ Below w.heap.size w w' := by
 obtain ⟨i0, hi, hz0, hz1, hz2⟩ := info_parts infoSs
 have HGI := Lib.hid (show (Tryz.prog.info? 29).map (·.size) = some 5 by rw [hi]; simp [hz1])
 clear hi hz0 hz1 hz2
 have hb0 := (Below.refl w.heap.size w).alloc (Nat.le_refl _) (.cells #[.slice none 0 0, .slice none 0 0, .bool false, .slice none 0 0, .slice none 0 0] 29)
 have r0 := Row.new w 29 #[.slice none 0 0, .slice none 0 0, .bool false, .slice none 0 0, .slice none 0 0]
 have HZ := Lib.hid (show w.heap.size + 1 ≤ (w.alloc (.cells #[.slice none 0 0, .slice none 0 0, .bool false, .slice none 0 0, .slice none 0 0] 29)).heap.size by simp)
 go_enter Tryz.func13, Tryz.ntmps13
 go_wp2_with fail
 generalize w.alloc (.cells #[.slice none 0 0, .slice none 0 0, .bool false, .slice none 0 0, .slice none 0 0] 29) = z at *
 refine (implCopySchema A n c xs ok z (h.below TbR.stays hb0) hn hx).mono ?_
 rintro e w1 ⟨v1, b1, rfl, o1, k1⟩
 obtain ⟨D1, a1, rfl⟩ := o1.shape
 have hb1 := hb0.trans (k1.mono hb0.size)
 have r1 := r0.below k1
 go_wp2_with fail
 refine (implCopyDb B m d db ok' w1 (h'.below DtR.stays hb1) hm hrn hvn).mono ?_
 rintro e w2 ⟨v2, b2, rfl, o2, k2⟩
 obtain ⟨D2, a2, rfl⟩ := o2.shape
 have hb2 := hb1.trans (k2.mono hb1.size)
 have r2 := r1.below k2
 have o1' := o1.below TbO.good k2
 obtain ⟨⟨p0, p1, p2, p3, p4⟩, ⟨f0, f1, f2, f3, f4⟩⟩ := r2.five
 go_wp2_with fail
 have hB : But w.heap.size w2 (((((w2.setCell ⟨w.heap.size, 0, none⟩ (.slice D1 xs.length a1)).setCell ⟨w.heap.size, 1, none⟩ (.slice D2 db.length a2)).setCell ⟨w.heap.size, 2, none⟩ (.bool false)).setCell ⟨w.heap.size, 3, none⟩ (.slice none 0 0)).setCell ⟨w.heap.size, 4, none⟩ (.slice none 0 0)) :=
  (((((But.refl _ w2).setCell (p := ⟨w.heap.size, 0, none⟩) rfl _).setCell (p := ⟨w.heap.size, 1, none⟩) rfl _).setCell (p := ⟨w.heap.size, 2, none⟩) rfl _).setCell (p := ⟨w.heap.size, 3, none⟩) rfl _).setCell (p := ⟨w.heap.size, 4, none⟩) rfl _
 have hF : Below w.heap.size w (((((w2.setCell ⟨w.heap.size, 0, none⟩ (.slice D1 xs.length a1)).setCell ⟨w.heap.size, 1, none⟩ (.slice D2 db.length a2)).setCell ⟨w.heap.size, 2, none⟩ (.bool false)).setCell ⟨w.heap.size, 3, none⟩ (.slice none 0 0)).setCell ⟨w.heap.size, 4, none⟩ (.slice none 0 0)) :=
  ((((hb2.setCell (p := ⟨w.heap.size, 0, none⟩) (Nat.le_refl _) _).setCell (p := ⟨w.heap.size, 1, none⟩) (Nat.le_refl _) _).setCell (p := ⟨w.heap.size, 2, none⟩) (Nat.le_refl _) _).setCell (p := ⟨w.heap.size, 3, none⟩) (Nat.le_refl _) _).setCell (p := ⟨w.heap.size, 4, none⟩) (Nat.le_refl _) _
 have hr : Row (((((w2.setCell ⟨w.heap.size, 0, none⟩ (.slice D1 xs.length a1)).setCell ⟨w.heap.size, 1, none⟩ (.slice D2 db.length a2)).setCell ⟨w.heap.size, 2, none⟩ (.bool false)).setCell ⟨w.heap.size, 3, none⟩ (.slice none 0 0)).setCell ⟨w.heap.size, 4, none⟩ (.slice none 0 0)) w.heap.size 29 #[.slice D1 xs.length a1, .slice D2 db.length a2, .bool false, .slice none 0 0, .slice none 0 0] := ((((r2.set 0 _).set 1 _).set 2 _).set 3 _).set 4 _
 have hzz := HZ.out
 have u1 := o1'.but TbO.good hB (by omega)
 have u2 := o2.but DtO.good hB (by have := k1.size; omega)
 have hn : ([b1, b2, [], []] : List (List Nat)).flatten.Nodup := by
  simp only [List.flatten_cons, List.flatten_nil, List.append_nil]
  refine List.nodup_append.2 ⟨o1.nodup TbO.good TbO.out, o2.nodup DtO.good DtO.out, fun a ha b hb => ?_⟩
  have h1 := (o1.lt TbO.good a ha).2
  have h2 := (o2.lt DtO.good b hb).1
  omega
 have hS : SsO _ w.heap.size [.slice D1 xs.length a1, .slice D2 db.length a2, .bool false, .slice none 0 0, .slice none 0 0] ⟨xs, db, false, [], []⟩ [b1, b2, [], []].flatten := ⟨_, b1, _, b2, _, [], _, [], rfl, u1.mono TbO.good (by omega), u2.mono DtO.good (by have := k1.size; omega), OwnTr.nil _ _, OwnTr.nil _ _, rfl, hn⟩
 refine bodyPost_ret (results_cell_row (p := 4) (ty := 29) rfl _ _ w.heap.size 29 #[.slice D1 xs.length a1, .slice D2 db.length a2, .bool false, .slice none 0 0, .slice none 0 0] (0, 0) _ rfl hr Tryz.underlying29 rfl HGI.out) rfl ⟨_, _, rfl, hS, hF⟩
def sessNew (s : List Tb) : Ss := ⟨s, dts (List.replicate s.length ()), false, [], []⟩
def Ss.none : Ss := ⟨[], [], false, [], []⟩
def sessIf (b : Bool) (s : List Tb) : Ss := if b then sessNew s else Ss.none
theorem results_cell_row2S {P : Program} {fn : Func} {p u : Tmp} {ty : TypeId} (h : fn.results = #[.cell p ty, .tmp u]) (tmps : Array Value) (w : World) (g : Nat) (t : TypeId) (cs : Array Value) (fr : Nat × Nat) (d : TypeDesc)
  (hp : tmps.getD p undef = .pointer (some ⟨g, 0, none⟩)) {r : Value} (hr : tmps.getD u undef = r) (hg : w.heap[g]? = some (.cells cs t fr))
  (hu : P.underlying ty = some d) (hd : (match d with | .struct _ | .array _ _ => true | _ => false) = true) (hi : (P.info? ty).map (·.size) = some cs.size) :
  (results fn tmps).run P w = .ok (.tuple #[.agg cs, r]) w := by
 rw [results_cell_tmp h, hp, hr]
 simp [asAddr, run_loadVar_row w g t ty cs fr d hg hu hd hi]
theorem box5 {w0 w : World} {v1 v2 v3 v4 v5 : Value} {a1 a2 a3 a4 a5 : Value} (r : Row w w0.heap.size 29 #[a1, a2, a3, a4, a5]) (hb : Below w0.heap.size w0 w) :
  ∃ w', w' = ((((w.setCell ⟨w0.heap.size, 0, none⟩ v1).setCell ⟨w0.heap.size, 1, none⟩ v2).setCell ⟨w0.heap.size, 2, none⟩ v3).setCell ⟨w0.heap.size, 3, none⟩ v4).setCell ⟨w0.heap.size, 4, none⟩ v5 ∧ Row w' w0.heap.size 29 #[v1, v2, v3, v4, v5] ∧ But w0.heap.size w w' ∧ Below w0.heap.size w0 w' :=
 ⟨_, rfl, ((((r.set 0 _).set 1 _).set 2 _).set 3 _).set 4 _, (((((But.refl _ w).setCell (p := ⟨w0.heap.size, 0, none⟩) rfl _).setCell (p := ⟨w0.heap.size, 1, none⟩) rfl _).setCell (p := ⟨w0.heap.size, 2, none⟩) rfl _).setCell (p := ⟨w0.heap.size, 3, none⟩) rfl _).setCell (p := ⟨w0.heap.size, 4, none⟩) rfl _,
  ((((hb.setCell (p := ⟨w0.heap.size, 0, none⟩) (Nat.le_refl _) _).setCell (p := ⟨w0.heap.size, 1, none⟩) (Nat.le_refl _) _).setCell (p := ⟨w0.heap.size, 2, none⟩) (Nat.le_refl _) _).setCell (p := ⟨w0.heap.size, 3, none⟩) (Nat.le_refl _) _).setCell (p := ⟨w0.heap.size, 4, none⟩) (Nat.le_refl _) _⟩
theorem SsO.empty (w : World) (base : Nat) : SsO w base [.slice none 0 0, .slice none 0 0, .bool false, .slice none 0 0, .slice none 0 0] Ss.none [] := ⟨_, [], _, [], _, [], _, [], rfl, OwnTr.nil _ _, OwnTr.nil _ _, OwnTr.nil _ _, OwnTr.nil _ _, rfl, List.nodup_nil⟩
theorem dts_rows {l : List Unit} {d : Dt} (h : d ∈ dts l) : d.rows = [] := by
 unfold dts at h
 obtain ⟨u, -, rfl⟩ := List.mem_map.1 h
 rfl
set_option maxRecDepth 100000 in
set_option maxHeartbeats 2000000 in
theorem implSessionNew (A : Option Addr) (n c : Nat) (s : List Tb) (ok : Nat → Prop) (w : World) (h : Sl TbR 6 ok w A n s) (hs : szL Tb.sz s ≤ 1048576) :
  Calls Tryz.prog 6 #[.slice A n c] w fun e w' => ∃ (cs : Array Value) (bs : List Nat), e = .returned (.tuple #[.agg cs, .bool (schemaB s)]) ∧ SsO w' w.heap.size cs.toList (sessIf (schemaB s) s) bs ∧ Below w.heap.size w w' := by
 obtain rfl : s.length = n := h.1
 have hsl : s.length ≤ 1048576 := by unfold szL at hs; omega
 obtain ⟨i0, hi, hz0, hz1, hz2⟩ := info_parts infoSs
 have HGI := Lib.hid (show (Tryz.prog.info? 29).map (·.size) = some 5 by rw [hi]; simp [hz1])
 clear hi hz0 hz1 hz2
 have hb0 := (Below.refl w.heap.size w).alloc (Nat.le_refl _) (.cells #[.slice none 0 0, .slice none 0 0, .bool false, .slice none 0 0, .slice none 0 0] 29)
 have r0 := Row.new w 29 #[.slice none 0 0, .slice none 0 0, .bool false, .slice none 0 0, .slice none 0 0]
 have HZ := Lib.hid (show w.heap.size + 1 ≤ (w.alloc (.cells #[.slice none 0 0, .slice none 0 0, .bool false, .slice none 0 0, .slice none 0 0] 29)).heap.size by simp)
 go_enter Tryz.func6, Tryz.ntmps6
 go_wp2_with fail
 generalize w.alloc (.cells #[.slice none 0 0, .slice none 0 0, .bool false, .slice none 0 0, .slice none 0 0] 29) = z at *
 refine (implDbNew A _ c s ok z (h.below TbR.stays hb0) hs).mono ?_
 rintro e w1 ⟨Ad, cd, rfl, hcd, td, k1⟩
 have hb1 := hb0.trans (k1.mono hb0.size)
 have r1 := r0.below k1
 have HS := Lib.hid hs
 cases hsc : schemaB s with
 | false =>
  obtain ⟨⟨p0, p1, p2, p3, p4⟩, ⟨f0, f1, f2, f3, f4⟩⟩ := r1.five
  obtain ⟨w2, e2, g1, g2, g3⟩ := box5 (v1 := .slice none 0 0) (v2 := .slice none 0 0) (v3 := .bool false) (v4 := .slice none 0 0) (v5 := .slice none 0 0) r1 hb1
  go_wp2_with fail
  rw [← e2, hsc]
  refine bodyPost_ret (results_cell_row2S (p := 2) (u := 3) (ty := 29) rfl _ _ w.heap.size 29 #[.slice none 0 0, .slice none 0 0, .bool false, .slice none 0 0, .slice none 0 0] (0, 0) _ rfl rfl g1 Tryz.underlying29 rfl HGI.out) rfl ⟨_, [], rfl, SsO.empty _ _, g3⟩
 | true =>
  have he : ems true s.length = List.replicate s.length () := rfl
  rw [hsc, he] at td
  have hl : (List.replicate s.length ()).length = s.length := by simp
  rw [he, hl]
  rw [hl] at td
  have tdd := Em.toDt td
  go_wp2_with fail
  refine (implClosedWith A _ c s Ad _ cd (dts (List.replicate s.length ())) ok _ w1 (h.below TbR.stays hb1) tdd (by omega) (fun x hx => by have := szL_mem Tb.sz s x hx; have := HS.out; omega) hsl (fun d hd => by rw [dts_rows hd]; simp) (fun d hd r hr => by rw [dts_rows hd] at hr; cases hr)).mono ?_
  rintro e w2 ⟨cs, bs, rfl, hS, k2⟩
  have r2 := r1.below k2
  have hb2 := hb1.trans (k2.mono hb1.size)
  have hS0 := hS
  obtain ⟨v0, t0, v1, t1, v3, t3, v4, t4, ec, h0, h1, h3, h4, -⟩ := hS0
  obtain ⟨A0, c0, rfl⟩ := h0.shape
  obtain ⟨A1, c1, rfl⟩ := h1.shape
  obtain ⟨A3, c3, rfl⟩ := h3.shape
  obtain ⟨A4, c4, rfl⟩ := h4.shape
  have ec2 := Array.toList_inj.1 (ec.trans (show _ = (#[_, _, _, _, _] : Array Value).toList from rfl))
  subst ec2
  obtain ⟨⟨p0, p1, p2, p3, p4⟩, ⟨f0, f1, f2, f3, f4⟩⟩ := r2.five
  obtain ⟨w3, e3, g1, g2, g3⟩ := box5 (v1 := .slice A0 s.length c0) (v2 := .slice A1 (dts (List.replicate s.length ())).length c1) (v3 := .bool false) (v4 := .slice A3 0 c3) (v5 := .slice A4 0 c4) r2 hb2
  clear h0 h1 h3 h4
  simp only [List.length_nil] at *
  go_wp2_with fail
  rw [← e3, hsc]
  have hw0 := HZ.out
  have hk1 := k1.size
  have hS9 : SsO w3 w.heap.size [.slice A0 s.length c0, .slice A1 (dts (List.replicate s.length ())).length c1, .bool false, .slice A3 0 c3, .slice A4 0 c4] (sessIf true s) bs := (hS.dep (fun b hb => g2.block b (hS.lt b hb).2 (by have := (hS.lt b hb).1; omega))).mono (by omega)
  refine bodyPost_ret (results_cell_row2S (p := 2) (u := 3) (ty := 29) rfl _ _ w.heap.size 29 #[.slice A0 s.length c0, .slice A1 (dts (List.replicate s.length ())).length c1, .bool false, .slice A3 0 c3, .slice A4 0 c4] (0, 0) _ rfl rfl g1 Tryz.underlying29 rfl HGI.out) rfl ⟨_, bs, rfl, hS9, g3⟩
set_option maxRecDepth 100000 in
set_option maxHeartbeats 2000000 in
theorem specSessionNew (A : Option Addr) (n c : Nat) (s : List Tb) (ok : Nat → Prop) (w : World) (h : Sl TbR 6 ok w A n s) (hcp : n ≤ c) (hs : szL Tb.sz s ≤ 1048576) :
  Calls Tryz.prog 7 #[.slice A n c] w fun e w' => ∃ (A0 : Option Addr) (n0 c0 : Nat) (A1 : Option Addr) (n1 c1 : Nat), e = .returned (.tuple #[.agg #[.slice A0 n0 c0, .slice A1 n1 c1, .bool false, .slice none 0 0, .slice none 0 0], .bool (schemaB s)]) ∧ Sl TbR 6 (okF w.heap.size w') w' A0 n0 (sessIf (schemaB s) s).schema ∧ Sl DtR 1 (okF w.heap.size w') w' A1 n1 (sessIf (schemaB s) s).db ∧ Below w.heap.size w w' := by
 obtain rfl : s.length = n := h.1
 have hsl : s.length ≤ 1048576 := by unfold szL at hs; omega
 obtain ⟨i0, hi, hz0, hz1, hz2⟩ := info_parts infoSs
 have HGI := Lib.hid (show (Tryz.prog.info? 29).map (·.size) = some 5 by rw [hi]; simp [hz1])
 clear hi hz0 hz1 hz2
 have hb0 := (Below.refl w.heap.size w).alloc (Nat.le_refl _) (.cells #[.slice none 0 0, .slice none 0 0, .bool false, .slice none 0 0, .slice none 0 0] 29)
 have r0 := Row.new w 29 #[.slice none 0 0, .slice none 0 0, .bool false, .slice none 0 0, .slice none 0 0]
 have HZ := Lib.hid (show w.heap.size + 1 ≤ (w.alloc (.cells #[.slice none 0 0, .slice none 0 0, .bool false, .slice none 0 0, .slice none 0 0] 29)).heap.size by simp)
 go_enter Tryz.func7, Tryz.ntmps7
 go_wp2_with fail
 generalize w.alloc (.cells #[.slice none 0 0, .slice none 0 0, .bool false, .slice none 0 0, .slice none 0 0] 29) = z at *
 refine (specDbNew A _ c s ok z (h.below TbR.stays hb0) hcp hs).mono ?_
 rintro e w1 ⟨Ad, cd, rfl, hcd, td, k1⟩
 have hb1 := hb0.trans (k1.mono hb0.size)
 have r1 := r0.below k1
 have HS := Lib.hid hs
 cases hsc : schemaB s with
 | false =>
  obtain ⟨⟨p0, p1, p2, p3, p4⟩, ⟨f0, f1, f2, f3, f4⟩⟩ := r1.five
  obtain ⟨w2, e2, g1, g2, g3⟩ := box5 (v1 := .slice none 0 0) (v2 := .slice none 0 0) (v3 := .bool false) (v4 := .slice none 0 0) (v5 := .slice none 0 0) r1 hb1
  go_wp2_with fail
  rw [← e2, hsc]
  refine bodyPost_ret (results_cell_row2S (p := 2) (u := 3) (ty := 29) rfl _ _ w.heap.size 29 #[.slice none 0 0, .slice none 0 0, .bool false, .slice none 0 0, .slice none 0 0] (0, 0) _ rfl rfl g1 Tryz.underlying29 rfl HGI.out) rfl ⟨none, 0, 0, none, 0, 0, rfl, ⟨rfl, fun hn => by omega⟩, ⟨rfl, fun hn => by omega⟩, g3⟩
 | true =>
  have he : ems true s.length = List.replicate s.length () := rfl
  rw [hsc, he] at td
  have hl : (List.replicate s.length ()).length = s.length := by simp
  rw [he, hl]
  rw [hl] at td
  have tdd := Em.toDt td
  go_wp2_with fail
  refine (specL3Copy A _ c s ok w1 (h.below TbR.stays hb1) hsl (fun x hx => by have := szL_mem Tb.sz s x hx; have := HS.out; omega)).mono ?_
  rintro e w2 ⟨v, bs, rfl, hO, k2⟩
  have r2 := r1.below k2
  have hb2 := hb1.trans (k2.mono hb1.size)
  have td2 := tdd.below DtR.stays k2
  obtain ⟨A0, c0, rfl, -, -, hsl0⟩ := hO.sl TbO.good (fun cs x bs h => TbO.toR h)
  obtain ⟨⟨p0, p1, p2, p3, p4⟩, ⟨f0, f1, f2, f3, f4⟩⟩ := r2.five
  obtain ⟨w3, e3, g1, g2, g3⟩ := box5 (v1 := .slice A0 s.length c0) (v2 := .slice Ad s.length cd) (v3 := .bool false) (v4 := .slice none 0 0) (v5 := .slice none 0 0) r2 hb2
  have hw0 := HZ.out
  have hk1 := k1.size
  have hgo : ∀ (b : Nat), okF z.heap.size w2 b → okF w.heap.size w3 b := fun b ⟨h1, h2, h3⟩ => ⟨by omega, Nat.lt_of_lt_of_le h2 g2.size, fun off => (g2.frozen (p := ⟨b, off, none⟩) h2 (by show b ≠ _; omega)).trans (h3 off)⟩
  have hgo1 : ∀ (b : Nat), okF w1.heap.size w2 b → okF w.heap.size w3 b := fun b ⟨h1, h2, h3⟩ => hgo b ⟨by omega, h2, h3⟩
  have hkk : ∀ (p : Addr) (v : Value), okF z.heap.size w2 p.block → w2.cell? p = some v → w3.cell? p = some v := fun p v ⟨h1, h2, _⟩ hc => (g2.cell h2 (by omega)).trans hc
  have hA := hsl0.stays TbR.stays hgo1 (fun p v ⟨h1, h2, h3⟩ hc => hkk p v ⟨by omega, h2, h3⟩ hc)
  have hD : Sl DtR 1 (okF w.heap.size w3) w3 Ad s.length (dts (List.replicate s.length ())) := td2.stays DtR.stays (fun b ⟨h1, h2, h3⟩ => hgo b ⟨h1, Nat.lt_of_lt_of_le h2 k2.size, fun off => (World.frozen?_of_block (w := w1) (a := ⟨b, off, none⟩) (k2.block b h2)).trans (h3 off)⟩) (fun p v ⟨h1, h2, h3⟩ hc => (g2.cell (Nat.lt_of_lt_of_le h2 k2.size) (by omega)).trans hc)
  go_wp2_with fail
  rw [← e3, hsc]
  refine bodyPost_ret (results_cell_row2S (p := 2) (u := 3) (ty := 29) rfl _ _ w.heap.size 29 #[.slice A0 s.length c0, .slice Ad s.length cd, .bool false, .slice none 0 0, .slice none 0 0] (0, 0) _ rfl rfl g1 Tryz.underlying29 rfl HGI.out) rfl ⟨_, _, _, _, _, _, rfl, hA, hD, g3⟩
end Go.Proofs.YtkehfilmpdoglaaGreat
namespace Go.Proofs.YtkehfilmpdoglaaGreat
open Go.RowKit
section
variable {A0 A1 A3 A4 : Option Addr} {n0 c0 n1 c1 n3 c3 n4 c4 : Nat} {o : Bool} {w : World} {base : Nat} {x : Ss} {bs : List Nat}
theorem SsO.reads (h : SsO w base [.slice A0 n0 c0, .slice A1 n1 c1, .bool o, .slice A3 n3 c3, .slice A4 n4 c4] x bs) (hf : x.fits) : Sl TbR 6 (okF base w) w A0 n0 x.schema ∧ Sl DtR 1 (okF base w) w A1 n1 x.db ∧ Sl DtR 1 (okF base w) w A3 n3 x.start ∧ Sl SvR 2 (okF base w) w A4 n4 x.saves := by
 obtain ⟨B0, d0, B1, d1, B3, d3, B4, d4, b0, b1, b3, b4, e, hr, -⟩ := h.open_ hf
 cases e
 exact hr
end
theorem SsO.form {w : World} {base : Nat} {cs : Array Value} {x : Ss} {bs : List Nat} (h : SsO w base cs.toList x bs) (hf : x.fits) : ∃ (A0 : Option Addr) (c0 : Nat) (A1 : Option Addr) (c1 : Nat) (A3 : Option Addr) (c3 : Nat) (A4 : Option Addr) (c4 : Nat), cs = #[.slice A0 x.schema.length c0, .slice A1 x.db.length c1, .bool x.isOpen, .slice A3 x.start.length c3, .slice A4 x.saves.length c4] := by
 obtain ⟨B0, d0, B1, d1, B3, d3, B4, d4, b0, b1, b3, b4, e, -⟩ := h.open_ hf
 exact ⟨B0, d0, B1, d1, B3, d3, B4, d4, Array.toList_inj.1 e⟩
theorem sessIf_open (b : Bool) (s : List Tb) : (sessIf b s).isOpen = false := by cases b <;> rfl
theorem sessIf_start (b : Bool) (s : List Tb) : (sessIf b s).start = [] := by cases b <;> rfl
theorem sessIf_saves (b : Bool) (s : List Tb) : (sessIf b s).saves = [] := by cases b <;> rfl
theorem sessIf_fits (b : Bool) (s : List Tb) (h : szL Tb.sz s ≤ 1048576) : (sessIf b s).fits := by
 cases b
 ·exact ⟨by simp [sessIf, Ss.none, szL], by simp [sessIf, Ss.none, szL], by simp [sessIf, Ss.none, szL], by simp [sessIf, Ss.none, szL]⟩
 ·refine ⟨h, ?_, by simp [sessIf, sessNew, szL], by simp [sessIf, sessNew, szL]⟩
  show szL Dt.sz (dts (List.replicate s.length ())) ≤ _
  rw [dts_sz]
  unfold szL at h
  simp
  omega
end Go.Proofs.YtkehfilmpdoglaaGreat
namespace Go.Proofs.YtkehfilmpdoglaaGreat
open Go.RowKit
theorem dbB_new {s : List Tb} (h : schemaB s = true) : dbB s (dts (ems true s.length)) = true := by
 unfold dbB
 rw [h]
 have hl : (dts (ems true s.length)).length = s.length := by unfold dts ems; simp
 rw [hl]
 simp only [Bool.true_and, decide_true, List.all_eq_true]
 intro p hp
 obtain ⟨hp1, hp2⟩ := List.of_mem_zip hp
 obtain ⟨u, hu, e⟩ := List.mem_map.1 hp2
 unfold dbV
 rw [← e]
 rfl
set_option maxRecDepth 100000 in
set_option maxHeartbeats 1000000 in
theorem drawDbNew (a : Option Addr) (len cap : Nat) (zs : List Int) (w : World) (h : IsRow .u8 w a len cap zs) :
  Calls Tryz.prog 11 #[.slice a len cap] w (Drawn isTbs w) := by
 have h0 := Rdr.new h 82
 have b0 := (Below.refl w.heap.size w).alloc (Nat.le_refl _) (.cells #[.slice a len cap, .int .i64 0] 82)
 go_enter Tryz.func11, Tryz.ntmps11
 go_wp2_with fail
 refine (specOpen _ _ _ _).mono ?_
 rintro e w1 ⟨rfl, rfl⟩
 have hRlt : w.heap.size < (w.alloc (.cells #[.slice a len cap, .int .i64 0] 82)).heap.size := by simp
 generalize w.alloc (.cells #[.slice a len cap, .int .i64 0] 82) = u at *
 go_wp2_with fail
 refine (rdSchema _ _ a len cap zs h0).mono ?_
 rintro e w2 ⟨v, rfl, hsch, hb, hr⟩
 have HT := Lib.hid (hsch.tbs (by omega))
 have HB := Lib.hid (b0.trans (hb.below (Nat.le_refl _) (Nat.le_of_lt hRlt)))
 clear hsch hb hr h0 b0
 obtain ⟨ok, A, n, c, ts, rfl, -⟩ := HT.out
 go_wp2_with fail
 go_ret
 exact ⟨_, rfl, HT.out, HB.out⟩
set_option maxRecDepth 100000 in
set_option maxHeartbeats 1000000 in
theorem lawsSameDbZ (A B : Option Addr) (n c d : Nat) (l : List Unit) (ok ok' : Nat → Prop) (w : World) (h : Sl EzR 1 ok w A n l) (h' : Sl EzR 1 ok' w B n l) (hn : n ≤ 1048576) :
  Calls Tryz.prog 16 #[.slice A n c, .slice B n d] w fun e w' => e = .returned (.bool true) ∧ Below w.heap.size w w' := by
 obtain rfl : l.length = n := h.1
 go_enter Tryz.func16, Tryz.ntmps16
 go_wp2
 go_loopw [5] (fun i wr => ∃ k : Nat, k ≤ l.length ∧ i = .int .i64 k ∧ Below w.heap.size w wr) (fun i _ => l.length - (intOf i).toNat)
 case atStart => exact ⟨0, by omega, rfl, Below.refl _ _⟩
 case round =>
  obtain ⟨k, hk, rfl, hb⟩ := hrel
  by_cases hlt : k < l.length
  ·obtain ⟨b, off, Ar, cr, eA, q0⟩ := Ez.at_ (h.below EzR.stays hb) hlt
   obtain ⟨b', off', Br, dr, eB, r0⟩ := Ez.at_ (h'.below EzR.stays hb) hlt
   subst eA eB
   have i0 : (0 : Int) ≤ k := by omega
   have i1 : (k : Int) < l.length := by omega
   go_wp2_with fail
   go_quiet (fail)
   have q1 : (wr.drewN nq).cell? ⟨b, off + k, none⟩ = some (.slice Ar 0 cr) := q0
   have hbd : Below wr.heap.size wr (wr.drewN nq) := ⟨rfl, rfl, rfl, Nat.le_refl _, fun _ _ => rfl⟩
   have hb2 := hb.trans (hbd.mono hb.size)
   clear hbd
   generalize wr.drewN nq = w2 at *
   go_wp2
   go_loopw [6] (fun i wq => i = .int .i64 0 ∧ wq = w2) (fun _ _ => 0)
   case atStart => exact ⟨rfl, rfl⟩
   case round =>
    obtain ⟨rfl, rfl⟩ := hrel
    go_wp2
    go_roundw
    case rel => exact ⟨k + 1, by omega, by go_num, hb2⟩
    case measure => simp [intOf]; omega
  ·go_wp2
   go_ret
   exact ⟨rfl, hb⟩
set_option maxRecDepth 100000 in
set_option maxHeartbeats 1000000 in
theorem lawsSameSavesN (A B : Option Addr) (c d : Nat) (w : World) :
  Calls Tryz.prog 17 #[.slice A 0 c, .slice B 0 d] w fun e w' => e = .returned (.bool true) ∧ Below w.heap.size w w' := by
 go_enter Tryz.func17, Tryz.ntmps17
 go_wp2
 go_loopw [5] (fun i wr => i = .int .i64 0 ∧ Below w.heap.size w wr) (fun _ _ => 0)
 case atStart => exact ⟨rfl, Below.refl _ _⟩
 case round =>
  obtain ⟨rfl, hb⟩ := hrel
  go_wp2
  go_ret
  exact ⟨rfl, hb⟩
set_option maxRecDepth 100000 in
set_option maxHeartbeats 1000000 in
theorem lawsSameSess (A0 B0 A1 B1 A3 B3 A4 B4 : Option Addr) (n0 n1 c0 d0 c1 d1 c3 d3 c4 d4 : Nat) (l : List Unit) (ok ok' : Nat → Prop) (w : World) (h : Sl EzR 1 ok w A1 n1 l) (h' : Sl EzR 1 ok' w B1 n1 l) (hn : n1 ≤ 1048576) :
  Calls Tryz.prog 8 #[.agg #[.slice A0 n0 c0, .slice A1 n1 c1, .bool false, .slice A3 0 c3, .slice A4 0 c4], .agg #[.slice B0 n0 d0, .slice B1 n1 d1, .bool false, .slice B3 0 d3, .slice B4 0 d4]] w fun e w' => e = .returned (.bool true) ∧ Below w.heap.size w w' := by
 have ra := (Row.new w 29 #[.slice A0 n0 c0, .slice A1 n1 c1, .bool false, .slice A3 0 c3, .slice A4 0 c4]).alloc (.cells #[.slice B0 n0 d0, .slice B1 n1 d1, .bool false, .slice B3 0 d3, .slice B4 0 d4] 29)
 have rb := Row.newAt (w.alloc (.cells #[.slice A0 n0 c0, .slice A1 n1 c1, .bool false, .slice A3 0 c3, .slice A4 0 c4] 29)) 29 #[.slice B0 n0 d0, .slice B1 n1 d1, .bool false, .slice B3 0 d3, .slice B4 0 d4] (w.heap.size + 1) (by simp)
 have hb0 := ((Below.refl w.heap.size w).alloc (Nat.le_refl _) (.cells #[.slice A0 n0 c0, .slice A1 n1 c1, .bool false, .slice A3 0 c3, .slice A4 0 c4] 29)).alloc (by simp) (.cells #[.slice B0 n0 d0, .slice B1 n1 d1, .bool false, .slice B3 0 d3, .slice B4 0 d4] 29)
 obtain ⟨⟨a0, a1, a2, a3, a4⟩, -⟩ := ra.five
 obtain ⟨⟨b0, b1, b2, b3, b4⟩, -⟩ := rb.five
 go_enter Tryz.func8, Tryz.ntmps8
 go_wp2_with fail
 clear a0 a1 a2 a3 a4 b0 b1 b2 b3 b4
 generalize (w.alloc (.cells #[.slice A0 n0 c0, .slice A1 n1 c1, .bool false, .slice A3 0 c3, .slice A4 0 c4] 29)).alloc (.cells #[.slice B0 n0 d0, .slice B1 n1 d1, .bool false, .slice B3 0 d3, .slice B4 0 d4] 29) = z at *
 refine (lawsSameDbZ A1 B1 n1 c1 d1 l _ _ _ (h.below EzR.stays hb0) (h'.below EzR.stays hb0) hn).mono ?_
 rintro e w1 ⟨rfl, hq1⟩
 have ra := ra.below hq1
 have rb := rb.below hq1
 have hb1 := hb0.trans (hq1.mono hb0.size)
 obtain ⟨⟨a0, a1, a2, a3, a4⟩, -⟩ := ra.five
 obtain ⟨⟨b0, b1, b2, b3, b4⟩, -⟩ := rb.five
 go_wp2_with fail
 clear a0 a1 a2 a3 a4 b0 b1 b2 b3 b4
 refine (lawsSameDbZ A3 B3 0 c3 d3 [] (fun _ => True) (fun _ => True) _ ⟨rfl, fun hn => by omega⟩ ⟨rfl, fun hn => by omega⟩ (by omega)).mono ?_
 rintro e w2 ⟨rfl, hq2⟩
 have ra := ra.below hq2
 have rb := rb.below hq2
 have hb2 := hb1.trans (hq2.mono hb1.size)
 obtain ⟨⟨a0, a1, a2, a3, a4⟩, -⟩ := ra.five
 obtain ⟨⟨b0, b1, b2, b3, b4⟩, -⟩ := rb.five
 go_wp2_with fail
 clear a0 a1 a2 a3 a4 b0 b1 b2 b3 b4
 refine (lawsSameSavesN A4 B4 c4 d4 _).mono ?_
 rintro e w3 ⟨rfl, hq3⟩
 go_wp2_with fail
 go_ret
 exact ⟨rfl, hb2.trans (hq3.mono hb2.size)⟩
set_option maxRecDepth 100000 in
set_option maxHeartbeats 1000000 in
theorem implSessionOkZ (A0 A1 A3 A4 : Option Addr) (n0 c0 n1 c1 c3 c4 : Nat) (s : List Tb) (l : List Unit) (w : World) (hs : Sl TbR 6 (fun _ => True) w A0 n0 s) (hd : Sl EzR 1 (fun _ => True) w A1 n1 l) (hss : szL Tb.sz s ≤ 1048576) (hdn : l.length ≤ 1048576) (hB : dbB s (dts l) = true) :
  Calls Tryz.prog 9 #[.agg #[.slice A0 n0 c0, .slice A1 n1 c1, .bool false, .slice A3 0 c3, .slice A4 0 c4]] w fun e w' => e = .returned (.bool true) ∧ Below w.heap.size w w' := by
 have ra := Row.new w 29 #[.slice A0 n0 c0, .slice A1 n1 c1, .bool false, .slice A3 0 c3, .slice A4 0 c4]
 have hb0 := (Below.refl w.heap.size w).alloc (Nat.le_refl _) (.cells #[.slice A0 n0 c0, .slice A1 n1 c1, .bool false, .slice A3 0 c3, .slice A4 0 c4] 29)
 have HSS := Lib.hid hss
 have HDN := Lib.hid hdn
 have HBB := Lib.hid hB
 clear hss hdn hB
 obtain ⟨⟨a0, a1, a2, a3, a4⟩, -⟩ := ra.five
 go_enter Tryz.func9, Tryz.ntmps9
 go_wp2_with fail
 clear a0 a1 a2 a3 a4
 generalize w.alloc (.cells #[.slice A0 n0 c0, .slice A1 n1 c1, .bool false, .slice A3 0 c3, .slice A4 0 c4] 29) = z at *
 refine (implSoundNowZ A0 A1 n0 c0 n1 c1 s l _ (hs.below TbR.stays hb0) (hd.below EzR.stays hb0) HSS.out HDN.out HBB.out).mono ?_
 rintro e w1 ⟨rfl, hq1⟩
 have ra := ra.below hq1
 have hb1 := hb0.trans (hq1.mono hb0.size)
 obtain ⟨⟨a0, a1, a2, a3, a4⟩, -⟩ := ra.five
 go_wp2_with fail
 clear a0 a1 a2 a3 a4
 refine (implSoundZ A0 A1 n0 c0 n1 c1 s l _ (hs.below TbR.stays hb1) (hd.below EzR.stays hb1) HSS.out HDN.out HBB.out).mono ?_
 rintro e w2 ⟨rfl, hq2⟩
 have ra := ra.below hq2
 have hb2 := hb1.trans (hq2.mono hb1.size)
 obtain ⟨⟨a0, a1, a2, a3, a4⟩, -⟩ := ra.five
 go_wp2_with fail
 go_ret
 exact ⟨rfl, hb2⟩
set_option maxRecDepth 100000 in
set_option maxHeartbeats 1000000 in
theorem drawSessionNew (a : Option Addr) (len cap : Nat) (zs : List Int) (w : World) (h : IsRow .u8 w a len cap zs) :
  Calls Tryz.prog 5 #[.slice a len cap] w (Drawn isTbs w) := by
 go_enter Tryz.func5, Tryz.ntmps5
 go_wp2_with fail
 refine (drawDbNew a len cap zs w h).mono ?_
 rintro e w1 ⟨v, rfl, ⟨ok, A, n, c, ts, rfl, hnc, hsl0, hsz⟩, hb⟩
 have HT := Lib.hid (And.intro hnc (And.intro hsl0 hsz))
 clear hnc hsl0 hsz
 go_wp2_with fail
 go_ret
 exact ⟨_, rfl, ⟨ok, A, n, c, ts, rfl, HT.out⟩, hb⟩
end Go.Proofs.YtkehfilmpdoglaaGreat
