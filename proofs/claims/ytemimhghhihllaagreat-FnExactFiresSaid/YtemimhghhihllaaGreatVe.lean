/-
  Several texts in one: what the proof leans on, part 5.
-/
import Derived.Test.YtemimhghhihllaaGreatVb
import Derived.Test.YtemimhghhihllaaGreatVc
import Derived.Test.YtemimhghhihllaaGreatVa
import Derived.Maps.AppendAt
import Derived.Deep.RegionHeld3
import Derived.Deep.DeepCutAuto
import Derived.Deep.CutRange
import Derived.IntWalk
set_option linter.unusedVariables false
set_option linter.unusedSimpArgs false
namespace Go.Proofs.YtemimhghhihllaaGreat
open Go.RowKit Go.Maps
theorem act_in (a : Int) : actB a = (decide (0 ≤ a) && decide (a ≤ 2)) := by
  unfold actB; rw [Bool.eq_iff_iff]; simp; omega
theorem exprB_l2n {ts : List Tk} {n : Nat} (hn : n ≤ 16) : exprB ts n = l2B ts n := by
  have h0 : (0 : Int) ≤ n := by omega
  have h1 : (n : Int) ≤ 16 := by omega
  simp only [exprB, l2B, h0, h1, decide_true, Bool.true_and]
  exact Bool.and_comm _ _
theorem kind_in (k : Int) : (k == 1 || k == 2) = (decide (1 ≤ k) && decide (k ≤ 2)) := by
  rw [Bool.eq_iff_iff]; simp; omega
theorem uniqGo_at (l : List ByteArray) (k : Nat) (h : k < l.length) : uniqGo (l.take k) (l.drop k) = (decide (atN (l.take k) l[k] = -1) && uniqGo (l.take (k + 1)) (l.drop (k + 1))) := by
  rw [List.drop_eq_getElem_cons h, List.take_succ_eq_append_getElem h]; rfl
set_option maxRecDepth 100000 in
set_option maxHeartbeats 4000000 in
theorem specTableOk (x : Tb) (A1 : Option Addr) (n1 c1 : Nat) (A2 : Option Addr) (n2 c2 : Nat) (A3 : Option Addr) (n3 c3 : Nat) (A4 : Option Addr) (n4 c4 : Nat) (A5 : Option Addr) (n5 c5 : Nat) (ok : Nat → Prop) (w : World)
    (h1 : Sl ClR 6 ok w A1 n1 x.cols) (h2 : Sl IntR 1 ok w A2 n2 x.key) (h3 : Sl UqR 1 ok w A3 n3 x.uniqs) (h4 : Sl CkR 1 ok w A4 n4 x.checks) (h5 : Sl FkR 5 ok w A5 n5 x.fks) (hcp : n1 ≤ c1 ∧ n2 ≤ c2 ∧ n3 ≤ c3 ∧ n4 ≤ c4 ∧ n5 ≤ c5) (hs : x.sz ≤ 1048576) :
    Calls Tryz.prog 133 #[.agg #[.string x.name, .slice A1 n1 c1, .slice A2 n2 c2, .slice A3 n3 c3, .slice A4 n4 c4, .slice A5 n5 c5]] w fun e w' => e = .returned (.bool (tableB x)) ∧ Below w.heap.size w w' := by
  obtain rfl : x.cols.length = n1 := h1.1
  obtain rfl : x.key.length = n2 := h2.1
  have HNM := Lib.hid (show x.name.size ≤ maxLen by unfold Tb.sz at hs; unfold maxLen; omega)
  have HS1 := Lib.hid (show szL Cl.sz x.cols ≤ 1048576 by unfold Tb.sz at hs; omega)
  have HS3 := Lib.hid (show szL Uq.sz x.uniqs ≤ 1048576 by unfold Tb.sz at hs; omega)
  have HS4 := Lib.hid (show szL Ck.sz x.checks ≤ 1048576 by unfold Tb.sz at hs; omega)
  have HS5 := Lib.hid (show szL Fk.sz x.fks ≤ 1048576 by unfold Tb.sz at hs; omega)
  have hl1 : x.cols.length ≤ 1048576 := by unfold Tb.sz szL at hs; omega
  have hl2 : x.key.length ≤ 1048576 := by unfold Tb.sz at hs; omega
  obtain rfl : x.uniqs.length = n3 := h3.1
  obtain rfl : x.checks.length = n4 := h4.1
  obtain rfl : x.fks.length = n5 := h5.1
  have hl3 : x.uniqs.length ≤ 1048576 := by unfold Tb.sz szL at hs; omega
  have hl4 : x.checks.length ≤ 1048576 := by unfold Tb.sz szL at hs; omega
  have hl5 : x.fks.length ≤ 1048576 := by unfold Tb.sz szL at hs; omega
  have hcp2 := hcp.2.1
  have hcp1 := hcp.1
  clear hs hcp
  have hb0 := (Below.refl w.heap.size w).alloc (Nat.le_refl _) (.cells #[.string x.name, .slice A1 x.cols.length c1, .slice A2 x.key.length c2, .slice A3 x.uniqs.length c3, .slice A4 x.checks.length c4, .slice A5 x.fks.length c5] 86)
  have r0 := Row.new w 86 #[.string x.name, .slice A1 x.cols.length c1, .slice A2 x.key.length c2, .slice A3 x.uniqs.length c3, .slice A4 x.checks.length c4, .slice A5 x.fks.length c5]
  cases hN : nameB x.name
  · skip
    have HN0 := Lib.hid hN
    have HF := Lib.hid (show tableB x = false by unfold tableB; rw [hN]; rfl)
    clear hN
    go_enter Tryz.func133, Tryz.ntmps133
    go_wp2_with fail
    refine (specName _ _ HNM.out).mono ?_
    rintro e w1 ⟨rfl, rfl⟩
    rw [HN0.out]
    go_wp2_with fail
    go_ret
    exact ⟨retB HF.out.symm, hb0⟩
  have HN0 := Lib.hid hN
  clear hN
  cases h8 : (decide (1 ≤ (x.cols.length : Int)) && decide ((x.cols.length : Int) ≤ 8))
  · skip
    have H8 := Lib.hid h8
    have HF := Lib.hid (show tableB x = false by
      have : colsB x.cols = false := by
        unfold colsB
        by_cases e : 1 ≤ x.cols.length
        · have e2 : ¬ x.cols.length ≤ 8 := by intro e3; simp [e3] at h8; omega
          rw [decide_eq_false e2]; simp
        · rw [decide_eq_false e]; rfl
      unfold tableB; rw [this]; simp)
    clear h8
    go_enter Tryz.func133, Tryz.ntmps133
    go_wp2_with fail
    refine (specName _ _ HNM.out).mono ?_
    rintro e w1 ⟨rfl, rfl⟩
    rw [HN0.out]
    go_wp2_with fail
    refine (specIn _ _ _ _).mono ?_
    rintro e w1 ⟨rfl, rfl⟩
    rw [H8.out]
    go_wp2_with fail
    go_ret
    exact ⟨retB HF.out.symm, hb0⟩
  have H8 := Lib.hid h8
  have hlen8 : x.cols.length ≤ 8 := by simp at h8; omega
  clear h8
  cases hK : colsInB x.key x.cols.length
  · skip
    have HK := Lib.hid hK
    have HF := Lib.hid (show tableB x = false by unfold tableB keyB; rw [hK]; simp)
    clear hK
    go_enter Tryz.func133, Tryz.ntmps133
    go_wp2_with fail
    refine (specName _ _ HNM.out).mono ?_
    rintro e w1 ⟨rfl, rfl⟩
    rw [HN0.out]
    go_wp2_with fail
    refine (specIn _ _ _ _).mono ?_
    rintro e w1 ⟨rfl, rfl⟩
    rw [H8.out]
    go_wp2_with fail
    refine (specCols A2 x.key.length c2 x.key x.cols.length ok _ (h2.below IntR.stays hb0) hcp2 hl2 (by omega) (by omega)).mono ?_
    rintro e w2 ⟨rfl, hq1⟩
    rw [HK.out]
    go_wp2_with fail
    go_ret
    exact ⟨retB HF.out.symm, hb0.trans (hq1.mono hb0.size)⟩
  have HK := Lib.hid hK
  have HIN := Lib.hid (colsInB_len hK).2
  clear hK
  by_cases hu : 3 < (x.uniqs.length : Int)
  · skip
    have HF := Lib.hid (show tableB x = false by unfold tableB uqsB; rw [decide_eq_false (p := x.uniqs.length ≤ 3) (by have := h3.1; omega)]; simp)
    go_enter Tryz.func133, Tryz.ntmps133
    go_wp2_with fail
    refine (specName _ _ HNM.out).mono ?_
    rintro e w1 ⟨rfl, rfl⟩
    rw [HN0.out]
    go_wp2_with fail
    refine (specIn _ _ _ _).mono ?_
    rintro e w1 ⟨rfl, rfl⟩
    rw [H8.out]
    go_wp2_with fail
    refine (specCols A2 x.key.length c2 x.key x.cols.length ok _ (h2.below IntR.stays hb0) hcp2 hl2 (by omega) (by omega)).mono ?_
    rintro e w2 ⟨rfl, hq1⟩
    rw [HK.out]
    obtain ⟨⟨a0, a1, a2, a3, a4, a5⟩, -⟩ := (r0.below hq1).all6
    go_wp2_with fail
    go_ret
    exact ⟨retB HF.out.symm, hb0.trans (hq1.mono hb0.size)⟩
  have hu' : decide (3 < (x.uniqs.length : Int)) = false := by simpa using hu
  by_cases hc : 3 < (x.checks.length : Int)
  · skip
    have HF := Lib.hid (show tableB x = false by unfold tableB cksB; rw [decide_eq_false (p := x.checks.length ≤ 3) (by have := h4.1; omega)]; simp)
    go_enter Tryz.func133, Tryz.ntmps133
    go_wp2_with fail
    refine (specName _ _ HNM.out).mono ?_
    rintro e w1 ⟨rfl, rfl⟩
    rw [HN0.out]
    go_wp2_with fail
    refine (specIn _ _ _ _).mono ?_
    rintro e w1 ⟨rfl, rfl⟩
    rw [H8.out]
    go_wp2_with fail
    refine (specCols A2 x.key.length c2 x.key x.cols.length ok _ (h2.below IntR.stays hb0) hcp2 hl2 (by omega) (by omega)).mono ?_
    rintro e w2 ⟨rfl, hq1⟩
    rw [HK.out]
    obtain ⟨⟨a0, a1, a2, a3, a4, a5⟩, -⟩ := (r0.below hq1).all6
    go_wp2_with fail
    go_ret
    exact ⟨retB HF.out.symm, hb0.trans (hq1.mono hb0.size)⟩
  have hc' : decide (3 < (x.checks.length : Int)) = false := by simpa using hc
  by_cases hf : 3 < (x.fks.length : Int)
  · skip
    have HF := Lib.hid (show tableB x = false by unfold tableB fksB; rw [decide_eq_false (p := x.fks.length ≤ 3) (by have := h5.1; omega)]; simp)
    go_enter Tryz.func133, Tryz.ntmps133
    go_wp2_with fail
    refine (specName _ _ HNM.out).mono ?_
    rintro e w1 ⟨rfl, rfl⟩
    rw [HN0.out]
    go_wp2_with fail
    refine (specIn _ _ _ _).mono ?_
    rintro e w1 ⟨rfl, rfl⟩
    rw [H8.out]
    go_wp2_with fail
    refine (specCols A2 x.key.length c2 x.key x.cols.length ok _ (h2.below IntR.stays hb0) hcp2 hl2 (by omega) (by omega)).mono ?_
    rintro e w2 ⟨rfl, hq1⟩
    rw [HK.out]
    obtain ⟨⟨a0, a1, a2, a3, a4, a5⟩, -⟩ := (r0.below hq1).all6
    go_wp2_with fail
    go_ret
    exact ⟨retB HF.out.symm, hb0.trans (hq1.mono hb0.size)⟩
  have hf' : decide (3 < (x.fks.length : Int)) = false := by simpa using hf
  go_enter Tryz.func133, Tryz.ntmps133
  go_wp2_with fail
  refine (specName _ _ HNM.out).mono ?_
  rintro e w1 ⟨rfl, rfl⟩
  rw [HN0.out]
  go_wp2_with fail
  refine (specIn _ _ _ _).mono ?_
  rintro e w1 ⟨rfl, rfl⟩
  rw [H8.out]
  go_wp2_with fail
  refine (specCols A2 x.key.length c2 x.key x.cols.length ok _ (h2.below IntR.stays hb0) hcp2 hl2 (by omega) (by omega)).mono ?_
  rintro e w2 ⟨rfl, hq1⟩
  rw [HK.out]
  have hb1 := hb0.trans (hq1.mono hb0.size)
  have r1 := r0.below hq1
  obtain ⟨⟨a0, a1, a2, a3, a4, a5⟩, -⟩ := r1.all6
  go_wp2_with fail
  clear a0 a1 a2 a3 a4 a5 r0
  go_loopw [4] (fun i wr => ∃ k : Nat, k ≤ x.cols.length ∧ i = .int .i64 k ∧ Hid ((x.cols.take k).all colB = true) ∧ Hid (uniqGo [] (x.cols.map Cl.name) = uniqGo ((x.cols.map Cl.name).take k) ((x.cols.map Cl.name).drop k)) ∧ Row wr w.heap.size 86 #[.string x.name, .slice A1 x.cols.length c1, .slice A2 x.key.length c2, .slice A3 x.uniqs.length c3, .slice A4 x.checks.length c4, .slice A5 x.fks.length c5] ∧ Below w.heap.size w wr) (fun i _ => x.cols.length - (intOf i).toNat)
  case atStart => exact ⟨0, by omega, rfl, Lib.hid (by simp), Lib.hid (by simp), r1, hb1⟩
  case round =>
    obtain ⟨k, hk, rfl, hall, huq, hr, hb⟩ := hrel
    obtain ⟨⟨a0, a1, a2, a3, a4, a5⟩, -⟩ := hr.all6
    by_cases hlt : k < x.cols.length
    · obtain ⟨b, off, -, rfl, q0, q1, q2, q3, q4, q5⟩ := ClR.at_ (h1.below ClR.stays hb) hlt
      have HZ := Lib.hid (cl_name_le HS1.out k hlt)
      have i0 : (0 : Int) ≤ k := by omega
      have i1 : (k : Int) < x.cols.length := by omega
      have i3 : (k : Int) ≤ c1 := by omega
      have hsl := (h1.below ClR.stays hb)
      have hsl := hsl.below ClR.stays ((Below.refl wr.heap.size wr).alloc (Nat.le_refl _) (.cells #[.string x.cols[k].name, .int .i64 x.cols[k].kind, .bool x.cols[k].nn, .int .i64 x.cols[k].d.k, .int .i64 x.cols[k].d.n, .string x.cols[k].d.s] 172))
      have hug := uniqGo_at (x.cols.map Cl.name) k (by simpa using hlt)
      rw [← huq.out, List.getElem_map, ← List.map_take] at hug
      have HNO := Lib.hid (fun hf : colB x.cols[k] = false => show tableB x = false by unfold tableB colsB; rw [all_no colB x.cols k hlt hf]; simp)
      have HDU := Lib.hid (fun hf : ¬ atN ((x.cols.take k).map Cl.name) x.cols[k].name = -1 => show tableB x = false by
        unfold tableB colsB; rw [hug, decide_eq_false hf]; simp)
      have HUN := Lib.hid (fun hf : atN ((x.cols.take k).map Cl.name) x.cols[k].name = -1 => show uniqGo [] (x.cols.map Cl.name) = uniqGo ((x.cols.map Cl.name).take (k + 1)) ((x.cols.map Cl.name).drop (k + 1)) by
        rw [hug, decide_eq_true hf, Bool.true_and])
      have HCN := Lib.hid (fun hf : colB x.cols[k] = true => show (x.cols.take (k + 1)).all colB = true by rw [all_take colB x.cols k hlt, hall.out, hf]; rfl)
      clear hug hall huq
      generalize x.cols[k] = cl at *
      have hbx := (Below.refl wr.heap.size wr).alloc (Nat.le_refl _) (.cells #[.string cl.name, .int .i64 cl.kind, .bool cl.nn, .int .i64 cl.d.k, .int .i64 cl.d.n, .string cl.d.s] 172)
      have hba := hb.trans (hbx.mono hb.size)
      have rk := Row.new wr 172 #[.string cl.name, .int .i64 cl.kind, .bool cl.nn, .int .i64 cl.d.k, .int .i64 cl.d.n, .string cl.d.s]
      have hr1 := hr.below hbx
      clear hr
      cases hn : nameB cl.name
      · skip
        have HN := Lib.hid hn
        have HF := Lib.hid (HNO.out (by unfold colB; rw [hn]; rfl))
        clear hn
        go_wp2_with fail
        generalize wr.alloc (.cells #[.string cl.name, .int .i64 cl.kind, .bool cl.nn, .int .i64 cl.d.k, .int .i64 cl.d.n, .string cl.d.s] 172) = x1 at *
        obtain ⟨⟨k0, k1, k2, k3, k4, k5⟩, -⟩ := rk.all6
        obtain ⟨⟨t0, t1, t2, t3, t4, t5⟩, -⟩ := hr1.all6
        refine wp_region_noPanic ?_
        refine wp_region_held_drew (S := fun w' => w'.cell? ⟨wr.heap.size, 0, none⟩ = some (.string cl.name) ∧ w'.cell? ⟨wr.heap.size, 1, none⟩ = some (.int .i64 cl.kind) ∧ w'.cell? ⟨wr.heap.size, 2, none⟩ = some (.bool cl.nn) ∧ w'.cell? ⟨wr.heap.size, 3, none⟩ = some (.int .i64 cl.d.k) ∧ w'.cell? ⟨wr.heap.size, 4, none⟩ = some (.int .i64 cl.d.n) ∧ w'.cell? ⟨wr.heap.size, 5, none⟩ = some (.string cl.d.s) ∧ w'.cell? ⟨w.heap.size, 1, none⟩ = some (.slice (some ⟨b, off, none⟩) x.cols.length c1)) (by kernel_rfl) ⟨k0, k1, k2, k3, k4, k5, t1⟩ (fun hHeld => ?_)
        refine wpAnyH_take (i := 0) (v := ?v1) rfl (by kernel_rfl) (by kernel_rfl) (by kernel_rfl) (fun _ _ _ h => h) (Or.inl ⟨by rfl, ?hy1⟩) hHeld ?rest1
        case hy1 => (intro w' hSw; (try dsimp only at hSw); first | (go_simp; done) | (go_simp; with_reducible rfl))
        simp only [Act.put, pz0, pz1, pz2, pz3, pz4, pz5]
        refine wpAnyH_take (i := 1) (v := ?v2) rfl (by kernel_rfl) (by kernel_rfl) (by kernel_rfl) (fun _ _ _ h => h) (Or.inl ⟨by rfl, ?hy2⟩) hHeld ?rest2
        case hy2 => (intro w' hSw; (try dsimp only at hSw); first | (go_simp; done) | (go_simp; with_reducible rfl))
        simp only [Act.put, pz0, pz1, pz2, pz3, pz4, pz5]
        refine wpAnyH_ready (rs := [2]) (by kernel_rfl) (by simp) ?_
        refine AllReadyH.cons rfl (fun K hK => ?_) AllReadyH.nil
        go_simp
        refine (specName _ _ HZ.out).mono ?_
        rintro e wa ⟨rfl, rfl⟩
        rw [HN.out]
        go_wp2_with fail
        refine hK.out _ _ hHeld (fun hHeld => ?_)
        clear hK K
        (try simp only [Act.put, pz0, pz1, pz2, pz3, pz4, pz5])
        refine wpAnyH_take (i := 3) (v := ?v3) rfl (by kernel_rfl) (by kernel_rfl) (by kernel_rfl) (fun _ _ _ h => h) (Or.inl ⟨by rfl, ?hy3⟩) hHeld ?rest3
        case hy3 => (intro w' hSw; (try dsimp only at hSw); first | (go_simp; done) | (go_simp; with_reducible rfl))
        simp only [Act.put, pz0, pz1, pz2, pz3, pz4, pz5]
        refine wpAnyH_take (i := 4) (v := ?v4) rfl (by kernel_rfl) (by kernel_rfl) (by kernel_rfl) (fun _ _ _ h => h) (Or.inl ⟨by rfl, ?hy4⟩) hHeld ?rest4
        case hy4 => (intro w' hSw; (try dsimp only at hSw); first | (go_simp; done) | (go_simp; with_reducible rfl))
        simp only [Act.put, pz0, pz1, pz2, pz3, pz4, pz5]
        refine wpAnyH_take (i := 5) (v := undef) rfl (by kernel_rfl) (by kernel_rfl) (by kernel_rfl) (fun _ _ _ h => h) (Or.inr ⟨by rfl, rfl⟩) hHeld ?_
        simp only [Act.put, pz0, pz1, pz2, pz3, pz4, pz5]
        refine wpAnyH_take (i := 6) (v := undef) rfl (by kernel_rfl) (by kernel_rfl) (by kernel_rfl) (fun _ _ _ h => h) (Or.inr ⟨by rfl, rfl⟩) hHeld ?_
        simp only [Act.put, pz0, pz1, pz2, pz3, pz4, pz5]
        refine wpAnyH_take (i := 7) (v := undef) rfl (by kernel_rfl) (by kernel_rfl) (by kernel_rfl) (fun _ _ _ h => h) (Or.inr ⟨by rfl, rfl⟩) hHeld ?_
        simp only [Act.put, pz0, pz1, pz2, pz3, pz4, pz5]
        refine wpAnyH_take (i := 8) (v := undef) rfl (by kernel_rfl) (by kernel_rfl) (by kernel_rfl) (fun _ _ _ h => h) (Or.inr ⟨by rfl, rfl⟩) hHeld ?_
        simp only [Act.put, pz0, pz1, pz2, pz3, pz4, pz5]
        refine wpAnyH_take (i := 9) (v := undef) rfl (by kernel_rfl) (by kernel_rfl) (by kernel_rfl) (fun _ _ _ h => h) (Or.inr ⟨by rfl, rfl⟩) hHeld ?_
        simp only [Act.put, pz0, pz1, pz2, pz3, pz4, pz5]
        refine wpAnyH_take (i := 10) (v := undef) rfl (by kernel_rfl) (by kernel_rfl) (by kernel_rfl) (fun _ _ _ h => h) (Or.inr ⟨by rfl, rfl⟩) hHeld ?_
        simp only [Act.put, pz0, pz1, pz2, pz3, pz4, pz5]
        refine wpAnyH_take (i := 11) (v := undef) rfl (by kernel_rfl) (by kernel_rfl) (by kernel_rfl) (fun _ _ _ h => h) (Or.inr ⟨by rfl, rfl⟩) hHeld ?_
        simp only [Act.put, pz0, pz1, pz2, pz3, pz4, pz5]
        refine wpAnyH_take (i := 12) (v := undef) rfl (by kernel_rfl) (by kernel_rfl) (by kernel_rfl) (fun _ _ _ h => h) (Or.inr ⟨by rfl, rfl⟩) hHeld ?_
        simp only [Act.put, pz0, pz1, pz2, pz3, pz4, pz5]
        refine wpAnyH_take (i := 13) (v := undef) rfl (by kernel_rfl) (by kernel_rfl) (by kernel_rfl) (fun _ _ _ h => h) (Or.inr ⟨by rfl, rfl⟩) hHeld ?_
        simp only [Act.put, pz0, pz1, pz2, pz3, pz4, pz5]
        refine wpAnyH_take (i := 14) (v := ?v5) rfl (by kernel_rfl) (by kernel_rfl) (by kernel_rfl) (fun _ _ _ h => h) (Or.inl ⟨by rfl, ?hy5⟩) hHeld ?rest5
        case hy5 => (intro w' hSw; (try dsimp only at hSw); first | (go_simp; done) | (go_simp; with_reducible rfl))
        simp only [Act.put, pz0, pz1, pz2, pz3, pz4, pz5]
        refine wpAnyH_take (i := 15) (v := ?v6) rfl (by kernel_rfl) (by kernel_rfl) (by kernel_rfl) (fun _ _ _ h => h) (Or.inl ⟨by rfl, ?hy6⟩) hHeld ?rest6
        case hy6 => (intro w' hSw; (try dsimp only at hSw); first | (go_simp; done) | (go_simp; with_reducible rfl))
        simp only [Act.put, pz0, pz1, pz2, pz3, pz4, pz5]
        refine wpAnyH_take (i := 16) (v := undef) rfl (by kernel_rfl) (by kernel_rfl) (by kernel_rfl) (fun _ _ _ h => h) (Or.inr ⟨by rfl, rfl⟩) hHeld ?_
        simp only [Act.put, pz0, pz1, pz2, pz3, pz4, pz5]
        refine wpAnyH_take (i := 17) (v := undef) rfl (by kernel_rfl) (by kernel_rfl) (by kernel_rfl) (fun _ _ _ h => h) (Or.inr ⟨by rfl, rfl⟩) hHeld ?_
        simp only [Act.put, pz0, pz1, pz2, pz3, pz4, pz5]
        refine wpAnyH_take (i := 18) (v := undef) rfl (by kernel_rfl) (by kernel_rfl) (by kernel_rfl) (fun _ _ _ h => h) (Or.inr ⟨by rfl, rfl⟩) hHeld ?_
        simp only [Act.put, pz0, pz1, pz2, pz3, pz4, pz5]
        refine wpAnyH_take (i := 19) (v := undef) rfl (by kernel_rfl) (by kernel_rfl) (by kernel_rfl) (fun _ _ _ h => h) (Or.inr ⟨by rfl, rfl⟩) hHeld ?_
        simp only [Act.put, pz0, pz1, pz2, pz3, pz4, pz5]
        refine wpAnyH_take (i := 20) (v := ?v7) rfl (by kernel_rfl) (by kernel_rfl) (by kernel_rfl) (fun _ _ _ h => h) (Or.inl ⟨by rfl, ?hy7⟩) hHeld ?rest7
        case hy7 => (intro w' hSw; (try dsimp only at hSw); first | (go_simp; done) | (go_simp; with_reducible rfl))
        simp only [Act.put, pz0, pz1, pz2, pz3, pz4, pz5]
        refine wpAnyH_take (i := 21) (v := ?v8) rfl (by kernel_rfl) (by kernel_rfl) (by kernel_rfl) (fun _ _ _ h => h) (Or.inl ⟨by rfl, ?hy8⟩) hHeld ?rest8
        case hy8 => (intro w' hSw; (try dsimp only at hSw); first | (go_simp; done) | (go_simp; with_reducible rfl))
        simp only [Act.put, pz0, pz1, pz2, pz3, pz4, pz5]
        refine wpAnyH_take (i := 22) (v := undef) rfl (by kernel_rfl) (by kernel_rfl) (by kernel_rfl) (fun _ _ _ h => h) (Or.inr ⟨by rfl, rfl⟩) hHeld ?_
        simp only [Act.put, pz0, pz1, pz2, pz3, pz4, pz5]
        refine wpAnyH_take (i := 23) (v := undef) rfl (by kernel_rfl) (by kernel_rfl) (by kernel_rfl) (fun _ _ _ h => h) (Or.inr ⟨by rfl, rfl⟩) hHeld ?_
        simp only [Act.put, pz0, pz1, pz2, pz3, pz4, pz5]
        refine wpAnyH_take (i := 24) (v := undef) rfl (by kernel_rfl) (by kernel_rfl) (by kernel_rfl) (fun _ _ _ h => h) (Or.inr ⟨by rfl, rfl⟩) hHeld ?_
        simp only [Act.put, pz0, pz1, pz2, pz3, pz4, pz5]
        refine wpAnyH_take (i := 25) (v := undef) rfl (by kernel_rfl) (by kernel_rfl) (by kernel_rfl) (fun _ _ _ h => h) (Or.inr ⟨by rfl, rfl⟩) hHeld ?_
        simp only [Act.put, pz0, pz1, pz2, pz3, pz4, pz5]
        refine wpAnyH_take (i := 26) (v := ?v9) rfl (by kernel_rfl) (by kernel_rfl) (by kernel_rfl) (fun _ _ _ h => h) (Or.inl ⟨by rfl, ?hy9⟩) hHeld ?rest9
        case hy9 => (intro w' hSw; (try dsimp only at hSw); first | (go_simp; done) | (go_simp; with_reducible rfl))
        simp only [Act.put, pz0, pz1, pz2, pz3, pz4, pz5]
        refine wpAnyH_take (i := 27) (v := ?v10) rfl (by kernel_rfl) (by kernel_rfl) (by kernel_rfl) (fun _ _ _ h => h) (Or.inl ⟨by rfl, ?hy10⟩) hHeld ?rest10
        case hy10 => (intro w' hSw; (try dsimp only at hSw); first | (go_simp; done) | (go_simp; with_reducible rfl))
        simp only [Act.put, pz0, pz1, pz2, pz3, pz4, pz5]
        refine wpAnyH_take (i := 28) (v := undef) rfl (by kernel_rfl) (by kernel_rfl) (by kernel_rfl) (fun _ _ _ h => h) (Or.inr ⟨by rfl, rfl⟩) hHeld ?_
        simp only [Act.put, pz0, pz1, pz2, pz3, pz4, pz5]
        refine wpAnyH_take (i := 29) (v := undef) rfl (by kernel_rfl) (by kernel_rfl) (by kernel_rfl) (fun _ _ _ h => h) (Or.inr ⟨by rfl, rfl⟩) hHeld ?_
        simp only [Act.put, pz0, pz1, pz2, pz3, pz4, pz5]
        refine wpAnyH_take (i := 30) (v := undef) rfl (by kernel_rfl) (by kernel_rfl) (by kernel_rfl) (fun _ _ _ h => h) (Or.inr ⟨by rfl, rfl⟩) hHeld ?_
        simp only [Act.put, pz0, pz1, pz2, pz3, pz4, pz5]
        refine wpAnyH_take (i := 31) (v := undef) rfl (by kernel_rfl) (by kernel_rfl) (by kernel_rfl) (fun _ _ _ h => h) (Or.inr ⟨by rfl, rfl⟩) hHeld ?_
        simp only [Act.put, pz0, pz1, pz2, pz3, pz4, pz5]
        refine wpAnyH_take (i := 32) (v := undef) rfl (by kernel_rfl) (by kernel_rfl) (by kernel_rfl) (fun _ _ _ h => h) (Or.inr ⟨by rfl, rfl⟩) hHeld ?_
        simp only [Act.put, pz0, pz1, pz2, pz3, pz4, pz5]
        refine wpAnyH_take (i := 33) (v := undef) rfl (by kernel_rfl) (by kernel_rfl) (by kernel_rfl) (fun _ _ _ h => h) (Or.inr ⟨by rfl, rfl⟩) hHeld ?_
        simp only [Act.put, pz0, pz1, pz2, pz3, pz4, pz5]
        refine wpAnyH_take (i := 34) (v := undef) rfl (by kernel_rfl) (by kernel_rfl) (by kernel_rfl) (fun _ _ _ h => h) (Or.inr ⟨by rfl, rfl⟩) hHeld ?_
        simp only [Act.put, pz0, pz1, pz2, pz3, pz4, pz5]
        refine wpAnyH_take (i := 35) (v := undef) rfl (by kernel_rfl) (by kernel_rfl) (by kernel_rfl) (fun _ _ _ h => h) (Or.inr ⟨by rfl, rfl⟩) hHeld ?_
        simp only [Act.put, pz0, pz1, pz2, pz3, pz4, pz5]
        refine wpAnyH_take (i := 36) (v := undef) rfl (by kernel_rfl) (by kernel_rfl) (by kernel_rfl) (fun _ _ _ h => h) (Or.inr ⟨by rfl, rfl⟩) hHeld ?_
        simp only [Act.put, pz0, pz1, pz2, pz3, pz4, pz5]
        refine wpAnyH_take (i := 37) (v := undef) rfl (by kernel_rfl) (by kernel_rfl) (by kernel_rfl) (fun _ _ _ h => h) (Or.inr ⟨by rfl, rfl⟩) hHeld ?_
        simp only [Act.put, pz0, pz1, pz2, pz3, pz4, pz5]
        refine wpAnyH_take (i := 38) (v := undef) rfl (by kernel_rfl) (by kernel_rfl) (by kernel_rfl) (fun _ _ _ h => h) (Or.inr ⟨by rfl, rfl⟩) hHeld ?_
        simp only [Act.put, pz0, pz1, pz2, pz3, pz4, pz5]
        refine wpAnyH_take (i := 39) (v := undef) rfl (by kernel_rfl) (by kernel_rfl) (by kernel_rfl) (fun _ _ _ h => h) (Or.inr ⟨by rfl, rfl⟩) hHeld ?_
        simp only [Act.put, pz0, pz1, pz2, pz3, pz4, pz5]
        refine wpAnyH_take (i := 40) (v := ?v11) rfl (by kernel_rfl) (by kernel_rfl) (by kernel_rfl) (fun _ _ _ h => h) (Or.inl ⟨by rfl, ?hy11⟩) hHeld ?rest11
        case hy11 => (intro w' hSw; (try dsimp only at hSw); first | (go_simp; done) | (go_simp; with_reducible rfl))
        simp only [Act.put, pz0, pz1, pz2, pz3, pz4, pz5]
        refine wpAnyH_done (by kernel_rfl) ?_ _
        refine NoPanic.normal ?_
        have hz0 := hba.drew
        have rz0 := hr1.drew
        clear hHeld k0 k1 k2 k3 k4 k5 t0 t1 t2 t3 t4 t5
        go_wp2_with fail
        go_ret
        exact ⟨retB HF.out.symm, hz0⟩
      have HN := Lib.hid hn
      by_cases hat : atN ((x.cols.take k).map Cl.name) cl.name = -1
      case neg =>
        have HF := Lib.hid (HDU.out hat)
        obtain ⟨j, hj, hj0⟩ : ∃ j : Int, j = atN ((x.cols.take k).map Cl.name) cl.name ∧ 0 ≤ j := ⟨_, rfl, by rcases atN_rng ((x.cols.take k).map Cl.name) cl.name with h | h; exact absurd h hat; exact h.1⟩
        have HJ := Lib.hid hj
        clear hat hj hn
        go_wp2_with fail
        generalize wr.alloc (.cells #[.string cl.name, .int .i64 cl.kind, .bool cl.nn, .int .i64 cl.d.k, .int .i64 cl.d.n, .string cl.d.s] 172) = x1 at *
        obtain ⟨⟨k0, k1, k2, k3, k4, k5⟩, -⟩ := rk.all6
        obtain ⟨⟨t0, t1, t2, t3, t4, t5⟩, -⟩ := hr1.all6
        refine wp_region_noPanic ?_
        refine wp_region_held_drew (S := fun w' => w'.cell? ⟨wr.heap.size, 0, none⟩ = some (.string cl.name) ∧ w'.cell? ⟨wr.heap.size, 1, none⟩ = some (.int .i64 cl.kind) ∧ w'.cell? ⟨wr.heap.size, 2, none⟩ = some (.bool cl.nn) ∧ w'.cell? ⟨wr.heap.size, 3, none⟩ = some (.int .i64 cl.d.k) ∧ w'.cell? ⟨wr.heap.size, 4, none⟩ = some (.int .i64 cl.d.n) ∧ w'.cell? ⟨wr.heap.size, 5, none⟩ = some (.string cl.d.s) ∧ w'.cell? ⟨w.heap.size, 1, none⟩ = some (.slice (some ⟨b, off, none⟩) x.cols.length c1)) (by kernel_rfl) ⟨k0, k1, k2, k3, k4, k5, t1⟩ (fun hHeld => ?_)
        refine wpAnyH_take (i := 0) (v := ?v12) rfl (by kernel_rfl) (by kernel_rfl) (by kernel_rfl) (fun _ _ _ h => h) (Or.inl ⟨by rfl, ?hy12⟩) hHeld ?rest12
        case hy12 => (intro w' hSw; (try dsimp only at hSw); first | (go_simp; done) | (go_simp; with_reducible rfl))
        simp only [Act.put, pz0, pz1, pz2, pz3, pz4, pz5]
        refine wpAnyH_take (i := 1) (v := ?v13) rfl (by kernel_rfl) (by kernel_rfl) (by kernel_rfl) (fun _ _ _ h => h) (Or.inl ⟨by rfl, ?hy13⟩) hHeld ?rest13
        case hy13 => (intro w' hSw; (try dsimp only at hSw); first | (go_simp; done) | (go_simp; with_reducible rfl))
        simp only [Act.put, pz0, pz1, pz2, pz3, pz4, pz5]
        refine wpAnyH_ready (rs := [2]) (by kernel_rfl) (by simp) ?_
        refine AllReadyH.cons rfl (fun K hK => ?_) AllReadyH.nil
        go_simp
        refine (specName _ _ HZ.out).mono ?_
        rintro e wa ⟨rfl, rfl⟩
        rw [HN.out]
        go_wp2_with fail
        refine hK.out _ _ hHeld (fun hHeld => ?_)
        clear hK K
        (try simp only [Act.put, pz0, pz1, pz2, pz3, pz4, pz5])
        refine wpAnyH_take (i := 3) (v := ?v14) rfl (by kernel_rfl) (by kernel_rfl) (by kernel_rfl) (fun _ _ _ h => h) (Or.inl ⟨by rfl, ?hy14⟩) hHeld ?rest14
        case hy14 => (intro w' hSw; (try dsimp only at hSw); first | (go_simp; done) | (go_simp; with_reducible rfl))
        simp only [Act.put, pz0, pz1, pz2, pz3, pz4, pz5]
        refine wpAnyH_take (i := 4) (v := ?v15) rfl (by kernel_rfl) (by kernel_rfl) (by kernel_rfl) (fun _ _ _ h => h) (Or.inl ⟨by rfl, ?hy15⟩) hHeld ?rest15
        case hy15 => (intro w' hSw; (try dsimp only at hSw); first | (go_simp; done) | (go_simp; with_reducible rfl))
        simp only [Act.put, pz0, pz1, pz2, pz3, pz4, pz5]
        refine wpAnyH_take (i := 5) (v := ?v16) rfl (by kernel_rfl) (by kernel_rfl) (by kernel_rfl) (fun _ _ _ h => h) (Or.inl ⟨by rfl, ?hy16⟩) hHeld ?rest16
        case hy16 => (intro w' hSw; (try dsimp only at hSw); first | (go_simp; done) | (go_simp; with_reducible rfl))
        simp only [Act.put, pz0, pz1, pz2, pz3, pz4, pz5]
        refine wpAnyH_take (i := 6) (v := ?v17) rfl (by kernel_rfl) (by kernel_rfl) (by kernel_rfl) (fun _ _ _ h => h) (Or.inl ⟨by rfl, ?hy17⟩) hHeld ?rest17
        case hy17 => (intro w' hSw; (try dsimp only at hSw); first | (go_simp; done) | (go_simp; with_reducible rfl))
        simp only [Act.put, pz0, pz1, pz2, pz3, pz4, pz5]
        refine wpAnyH_take (i := 7) (v := ?v18) rfl (by kernel_rfl) (by kernel_rfl) (by kernel_rfl) (fun _ _ _ h => h) (Or.inl ⟨by rfl, ?hy18⟩) hHeld ?rest18
        case hy18 => (intro w' hSw; (try dsimp only at hSw); first | (go_simp; done) | (go_simp; with_reducible rfl))
        simp only [Act.put, pz0, pz1, pz2, pz3, pz4, pz5]
        refine wpAnyH_take (i := 8) (v := ?v19) rfl (by kernel_rfl) (by kernel_rfl) (by kernel_rfl) (fun _ _ _ h => h) (Or.inl ⟨by rfl, ?hy19⟩) hHeld ?rest19
        case hy19 => (intro w' hSw; (try dsimp only at hSw); first | (go_simp; done) | (go_simp; with_reducible rfl))
        simp only [Act.put, pz0, pz1, pz2, pz3, pz4, pz5]
        refine wpAnyH_take (i := 9) (v := ?v20) rfl (by kernel_rfl) (by kernel_rfl) (by kernel_rfl) (fun _ _ _ h => h) (Or.inl ⟨by rfl, ?hy20⟩) hHeld ?rest20
        case hy20 => (intro w' hSw; (try dsimp only at hSw); first | (go_simp; done) | (go_simp; with_reducible rfl))
        simp only [Act.put, pz0, pz1, pz2, pz3, pz4, pz5]
        refine wpAnyH_take (i := 10) (v := ?v21) rfl (by kernel_rfl) (by kernel_rfl) (by kernel_rfl) (fun _ _ _ h => h) (Or.inl ⟨by rfl, ?hy21⟩) hHeld ?rest21
        case hy21 => (intro w' hSw; (try dsimp only at hSw); first | (go_simp; done) | (go_simp; with_reducible rfl))
        simp only [Act.put, pz0, pz1, pz2, pz3, pz4, pz5]
        refine wpAnyH_take (i := 11) (v := ?v22) rfl (by kernel_rfl) (by kernel_rfl) (by kernel_rfl) (fun _ _ _ h => h) (Or.inl ⟨by rfl, ?hy22⟩) hHeld ?rest22
        case hy22 => (intro w' hSw; (try dsimp only at hSw); first | (go_simp; done) | (go_simp; with_reducible rfl))
        simp only [Act.put, pz0, pz1, pz2, pz3, pz4, pz5]
        refine wpAnyH_ready (rs := [12]) (by kernel_rfl) (by simp) ?_
        refine AllReadyH.cons rfl (fun K hK => ?_) AllReadyH.nil
        go_simp
        refine (specColAt _ k c1 _ _ _ _ _ (x.cols.take k) _ ok _ ((hsl.drew ClR.stays).take (m := k) (by omega)) (by omega)).mono ?_
        rintro e wb ⟨rfl, hqb⟩
        rw [← HJ.out]
        go_wp2_with fail
        refine hK.out _ _ ⟨below_keep hqb _ _ hHeld.1, below_keep hqb _ _ hHeld.2.1, below_keep hqb _ _ hHeld.2.2.1, below_keep hqb _ _ hHeld.2.2.2.1, below_keep hqb _ _ hHeld.2.2.2.2.1, below_keep hqb _ _ hHeld.2.2.2.2.2.1, below_keep hqb _ _ hHeld.2.2.2.2.2.2⟩ (fun hHeld => ?_)
        clear hK K
        (try simp only [Act.put, pz0, pz1, pz2, pz3, pz4, pz5])
        refine wpAnyH_take (i := 13) (v := ?v23) rfl (by kernel_rfl) (by kernel_rfl) (by kernel_rfl) (fun _ _ _ h => h) (Or.inl ⟨by rfl, ?hy23⟩) hHeld ?rest23
        case hy23 => (intro w' hSw; (try dsimp only at hSw); first | (go_simp; done) | (go_simp; with_reducible rfl))
        simp only [Act.put, pz0, pz1, pz2, pz3, pz4, pz5]
        refine wpAnyH_take (i := 14) (v := ?v24) rfl (by kernel_rfl) (by kernel_rfl) (by kernel_rfl) (fun _ _ _ h => h) (Or.inl ⟨by rfl, ?hy24⟩) hHeld ?rest24
        case hy24 => (intro w' hSw; (try dsimp only at hSw); first | (go_simp; done) | (go_simp; with_reducible rfl))
        simp only [Act.put, pz0, pz1, pz2, pz3, pz4, pz5]
        refine wpAnyH_take (i := 15) (v := ?v25) rfl (by kernel_rfl) (by kernel_rfl) (by kernel_rfl) (fun _ _ _ h => h) (Or.inl ⟨by rfl, ?hy25⟩) hHeld ?rest25
        case hy25 => (intro w' hSw; (try dsimp only at hSw); first | (go_simp; done) | (go_simp; with_reducible rfl))
        simp only [Act.put, pz0, pz1, pz2, pz3, pz4, pz5]
        refine wpAnyH_take (i := 16) (v := undef) rfl (by kernel_rfl) (by kernel_rfl) (by kernel_rfl) (fun _ _ _ h => h) (Or.inr ⟨by rfl, rfl⟩) hHeld ?_
        simp only [Act.put, pz0, pz1, pz2, pz3, pz4, pz5]
        refine wpAnyH_take (i := 17) (v := undef) rfl (by kernel_rfl) (by kernel_rfl) (by kernel_rfl) (fun _ _ _ h => h) (Or.inr ⟨by rfl, rfl⟩) hHeld ?_
        simp only [Act.put, pz0, pz1, pz2, pz3, pz4, pz5]
        refine wpAnyH_take (i := 18) (v := undef) rfl (by kernel_rfl) (by kernel_rfl) (by kernel_rfl) (fun _ _ _ h => h) (Or.inr ⟨by rfl, rfl⟩) hHeld ?_
        simp only [Act.put, pz0, pz1, pz2, pz3, pz4, pz5]
        refine wpAnyH_take (i := 19) (v := undef) rfl (by kernel_rfl) (by kernel_rfl) (by kernel_rfl) (fun _ _ _ h => h) (Or.inr ⟨by rfl, rfl⟩) hHeld ?_
        simp only [Act.put, pz0, pz1, pz2, pz3, pz4, pz5]
        refine wpAnyH_take (i := 20) (v := ?v26) rfl (by kernel_rfl) (by kernel_rfl) (by kernel_rfl) (fun _ _ _ h => h) (Or.inl ⟨by rfl, ?hy26⟩) hHeld ?rest26
        case hy26 => (intro w' hSw; (try dsimp only at hSw); first | (go_simp; done) | (go_simp; with_reducible rfl))
        simp only [Act.put, pz0, pz1, pz2, pz3, pz4, pz5]
        refine wpAnyH_take (i := 21) (v := ?v27) rfl (by kernel_rfl) (by kernel_rfl) (by kernel_rfl) (fun _ _ _ h => h) (Or.inl ⟨by rfl, ?hy27⟩) hHeld ?rest27
        case hy27 => (intro w' hSw; (try dsimp only at hSw); first | (go_simp; done) | (go_simp; with_reducible rfl))
        simp only [Act.put, pz0, pz1, pz2, pz3, pz4, pz5]
        refine wpAnyH_take (i := 22) (v := undef) rfl (by kernel_rfl) (by kernel_rfl) (by kernel_rfl) (fun _ _ _ h => h) (Or.inr ⟨by rfl, rfl⟩) hHeld ?_
        simp only [Act.put, pz0, pz1, pz2, pz3, pz4, pz5]
        refine wpAnyH_take (i := 23) (v := undef) rfl (by kernel_rfl) (by kernel_rfl) (by kernel_rfl) (fun _ _ _ h => h) (Or.inr ⟨by rfl, rfl⟩) hHeld ?_
        simp only [Act.put, pz0, pz1, pz2, pz3, pz4, pz5]
        refine wpAnyH_take (i := 24) (v := undef) rfl (by kernel_rfl) (by kernel_rfl) (by kernel_rfl) (fun _ _ _ h => h) (Or.inr ⟨by rfl, rfl⟩) hHeld ?_
        simp only [Act.put, pz0, pz1, pz2, pz3, pz4, pz5]
        refine wpAnyH_take (i := 25) (v := undef) rfl (by kernel_rfl) (by kernel_rfl) (by kernel_rfl) (fun _ _ _ h => h) (Or.inr ⟨by rfl, rfl⟩) hHeld ?_
        simp only [Act.put, pz0, pz1, pz2, pz3, pz4, pz5]
        refine wpAnyH_take (i := 26) (v := ?v28) rfl (by kernel_rfl) (by kernel_rfl) (by kernel_rfl) (fun _ _ _ h => h) (Or.inl ⟨by rfl, ?hy28⟩) hHeld ?rest28
        case hy28 => (intro w' hSw; (try dsimp only at hSw); first | (go_simp; done) | (go_simp; with_reducible rfl))
        simp only [Act.put, pz0, pz1, pz2, pz3, pz4, pz5]
        refine wpAnyH_take (i := 27) (v := ?v29) rfl (by kernel_rfl) (by kernel_rfl) (by kernel_rfl) (fun _ _ _ h => h) (Or.inl ⟨by rfl, ?hy29⟩) hHeld ?rest29
        case hy29 => (intro w' hSw; (try dsimp only at hSw); first | (go_simp; done) | (go_simp; with_reducible rfl))
        simp only [Act.put, pz0, pz1, pz2, pz3, pz4, pz5]
        refine wpAnyH_take (i := 28) (v := undef) rfl (by kernel_rfl) (by kernel_rfl) (by kernel_rfl) (fun _ _ _ h => h) (Or.inr ⟨by rfl, rfl⟩) hHeld ?_
        simp only [Act.put, pz0, pz1, pz2, pz3, pz4, pz5]
        refine wpAnyH_take (i := 29) (v := undef) rfl (by kernel_rfl) (by kernel_rfl) (by kernel_rfl) (fun _ _ _ h => h) (Or.inr ⟨by rfl, rfl⟩) hHeld ?_
        simp only [Act.put, pz0, pz1, pz2, pz3, pz4, pz5]
        refine wpAnyH_take (i := 30) (v := undef) rfl (by kernel_rfl) (by kernel_rfl) (by kernel_rfl) (fun _ _ _ h => h) (Or.inr ⟨by rfl, rfl⟩) hHeld ?_
        simp only [Act.put, pz0, pz1, pz2, pz3, pz4, pz5]
        refine wpAnyH_take (i := 31) (v := undef) rfl (by kernel_rfl) (by kernel_rfl) (by kernel_rfl) (fun _ _ _ h => h) (Or.inr ⟨by rfl, rfl⟩) hHeld ?_
        simp only [Act.put, pz0, pz1, pz2, pz3, pz4, pz5]
        refine wpAnyH_take (i := 32) (v := undef) rfl (by kernel_rfl) (by kernel_rfl) (by kernel_rfl) (fun _ _ _ h => h) (Or.inr ⟨by rfl, rfl⟩) hHeld ?_
        simp only [Act.put, pz0, pz1, pz2, pz3, pz4, pz5]
        refine wpAnyH_take (i := 33) (v := undef) rfl (by kernel_rfl) (by kernel_rfl) (by kernel_rfl) (fun _ _ _ h => h) (Or.inr ⟨by rfl, rfl⟩) hHeld ?_
        simp only [Act.put, pz0, pz1, pz2, pz3, pz4, pz5]
        refine wpAnyH_take (i := 34) (v := undef) rfl (by kernel_rfl) (by kernel_rfl) (by kernel_rfl) (fun _ _ _ h => h) (Or.inr ⟨by rfl, rfl⟩) hHeld ?_
        simp only [Act.put, pz0, pz1, pz2, pz3, pz4, pz5]
        refine wpAnyH_take (i := 35) (v := undef) rfl (by kernel_rfl) (by kernel_rfl) (by kernel_rfl) (fun _ _ _ h => h) (Or.inr ⟨by rfl, rfl⟩) hHeld ?_
        simp only [Act.put, pz0, pz1, pz2, pz3, pz4, pz5]
        refine wpAnyH_take (i := 36) (v := undef) rfl (by kernel_rfl) (by kernel_rfl) (by kernel_rfl) (fun _ _ _ h => h) (Or.inr ⟨by rfl, rfl⟩) hHeld ?_
        simp only [Act.put, pz0, pz1, pz2, pz3, pz4, pz5]
        refine wpAnyH_take (i := 37) (v := undef) rfl (by kernel_rfl) (by kernel_rfl) (by kernel_rfl) (fun _ _ _ h => h) (Or.inr ⟨by rfl, rfl⟩) hHeld ?_
        simp only [Act.put, pz0, pz1, pz2, pz3, pz4, pz5]
        refine wpAnyH_take (i := 38) (v := undef) rfl (by kernel_rfl) (by kernel_rfl) (by kernel_rfl) (fun _ _ _ h => h) (Or.inr ⟨by rfl, rfl⟩) hHeld ?_
        simp only [Act.put, pz0, pz1, pz2, pz3, pz4, pz5]
        refine wpAnyH_take (i := 39) (v := undef) rfl (by kernel_rfl) (by kernel_rfl) (by kernel_rfl) (fun _ _ _ h => h) (Or.inr ⟨by rfl, rfl⟩) hHeld ?_
        simp only [Act.put, pz0, pz1, pz2, pz3, pz4, pz5]
        refine wpAnyH_take (i := 40) (v := ?v30) rfl (by kernel_rfl) (by kernel_rfl) (by kernel_rfl) (fun _ _ _ h => h) (Or.inl ⟨by rfl, ?hy30⟩) hHeld ?rest30
        case hy30 => (intro w' hSw; (try dsimp only at hSw); first | (go_simp; done) | (go_simp; with_reducible rfl))
        simp only [Act.put, pz0, pz1, pz2, pz3, pz4, pz5]
        refine wpAnyH_done (by kernel_rfl) ?_ _
        refine NoPanic.normal ?_
        have hz0 := hba.drew
        have rz0 := hr1.drew
        have hz1 := hz0.trans (hqb.mono hz0.size)
        have rz1 := rz0.below hqb
        clear hHeld k0 k1 k2 k3 k4 k5 t0 t1 t2 t3 t4 t5
        go_wp2_with fail
        go_ret
        exact ⟨retB HF.out.symm, hz1⟩
      have HA := Lib.hid hat
      have HUQ := Lib.hid (HUN.out hat)
      clear hat
      cases hkd : (decide (1 ≤ cl.kind) && decide (cl.kind ≤ 2))
      · skip
        have HKD := Lib.hid hkd
        have HF := Lib.hid (HNO.out (by unfold colB; rw [kind_in, hkd, Bool.false_and, Bool.and_false]))
        clear hkd hn
        go_wp2_with fail
        generalize wr.alloc (.cells #[.string cl.name, .int .i64 cl.kind, .bool cl.nn, .int .i64 cl.d.k, .int .i64 cl.d.n, .string cl.d.s] 172) = x1 at *
        obtain ⟨⟨k0, k1, k2, k3, k4, k5⟩, -⟩ := rk.all6
        obtain ⟨⟨t0, t1, t2, t3, t4, t5⟩, -⟩ := hr1.all6
        refine wp_region_noPanic ?_
        refine wp_region_held_drew (S := fun w' => w'.cell? ⟨wr.heap.size, 0, none⟩ = some (.string cl.name) ∧ w'.cell? ⟨wr.heap.size, 1, none⟩ = some (.int .i64 cl.kind) ∧ w'.cell? ⟨wr.heap.size, 2, none⟩ = some (.bool cl.nn) ∧ w'.cell? ⟨wr.heap.size, 3, none⟩ = some (.int .i64 cl.d.k) ∧ w'.cell? ⟨wr.heap.size, 4, none⟩ = some (.int .i64 cl.d.n) ∧ w'.cell? ⟨wr.heap.size, 5, none⟩ = some (.string cl.d.s) ∧ w'.cell? ⟨w.heap.size, 1, none⟩ = some (.slice (some ⟨b, off, none⟩) x.cols.length c1)) (by kernel_rfl) ⟨k0, k1, k2, k3, k4, k5, t1⟩ (fun hHeld => ?_)
        refine wpAnyH_take (i := 0) (v := ?v31) rfl (by kernel_rfl) (by kernel_rfl) (by kernel_rfl) (fun _ _ _ h => h) (Or.inl ⟨by rfl, ?hy31⟩) hHeld ?rest31
        case hy31 => (intro w' hSw; (try dsimp only at hSw); first | (go_simp; done) | (go_simp; with_reducible rfl))
        simp only [Act.put, pz0, pz1, pz2, pz3, pz4, pz5]
        refine wpAnyH_take (i := 1) (v := ?v32) rfl (by kernel_rfl) (by kernel_rfl) (by kernel_rfl) (fun _ _ _ h => h) (Or.inl ⟨by rfl, ?hy32⟩) hHeld ?rest32
        case hy32 => (intro w' hSw; (try dsimp only at hSw); first | (go_simp; done) | (go_simp; with_reducible rfl))
        simp only [Act.put, pz0, pz1, pz2, pz3, pz4, pz5]
        refine wpAnyH_ready (rs := [2]) (by kernel_rfl) (by simp) ?_
        refine AllReadyH.cons rfl (fun K hK => ?_) AllReadyH.nil
        go_simp
        refine (specName _ _ HZ.out).mono ?_
        rintro e wa ⟨rfl, rfl⟩
        rw [HN.out]
        go_wp2_with fail
        refine hK.out _ _ hHeld (fun hHeld => ?_)
        clear hK K
        (try simp only [Act.put, pz0, pz1, pz2, pz3, pz4, pz5])
        refine wpAnyH_take (i := 3) (v := ?v33) rfl (by kernel_rfl) (by kernel_rfl) (by kernel_rfl) (fun _ _ _ h => h) (Or.inl ⟨by rfl, ?hy33⟩) hHeld ?rest33
        case hy33 => (intro w' hSw; (try dsimp only at hSw); first | (go_simp; done) | (go_simp; with_reducible rfl))
        simp only [Act.put, pz0, pz1, pz2, pz3, pz4, pz5]
        refine wpAnyH_take (i := 4) (v := ?v34) rfl (by kernel_rfl) (by kernel_rfl) (by kernel_rfl) (fun _ _ _ h => h) (Or.inl ⟨by rfl, ?hy34⟩) hHeld ?rest34
        case hy34 => (intro w' hSw; (try dsimp only at hSw); first | (go_simp; done) | (go_simp; with_reducible rfl))
        simp only [Act.put, pz0, pz1, pz2, pz3, pz4, pz5]
        refine wpAnyH_take (i := 5) (v := ?v35) rfl (by kernel_rfl) (by kernel_rfl) (by kernel_rfl) (fun _ _ _ h => h) (Or.inl ⟨by rfl, ?hy35⟩) hHeld ?rest35
        case hy35 => (intro w' hSw; (try dsimp only at hSw); first | (go_simp; done) | (go_simp; with_reducible rfl))
        simp only [Act.put, pz0, pz1, pz2, pz3, pz4, pz5]
        refine wpAnyH_take (i := 6) (v := ?v36) rfl (by kernel_rfl) (by kernel_rfl) (by kernel_rfl) (fun _ _ _ h => h) (Or.inl ⟨by rfl, ?hy36⟩) hHeld ?rest36
        case hy36 => (intro w' hSw; (try dsimp only at hSw); first | (go_simp; done) | (go_simp; with_reducible rfl))
        simp only [Act.put, pz0, pz1, pz2, pz3, pz4, pz5]
        refine wpAnyH_take (i := 7) (v := ?v37) rfl (by kernel_rfl) (by kernel_rfl) (by kernel_rfl) (fun _ _ _ h => h) (Or.inl ⟨by rfl, ?hy37⟩) hHeld ?rest37
        case hy37 => (intro w' hSw; (try dsimp only at hSw); first | (go_simp; done) | (go_simp; with_reducible rfl))
        simp only [Act.put, pz0, pz1, pz2, pz3, pz4, pz5]
        refine wpAnyH_take (i := 8) (v := ?v38) rfl (by kernel_rfl) (by kernel_rfl) (by kernel_rfl) (fun _ _ _ h => h) (Or.inl ⟨by rfl, ?hy38⟩) hHeld ?rest38
        case hy38 => (intro w' hSw; (try dsimp only at hSw); first | (go_simp; done) | (go_simp; with_reducible rfl))
        simp only [Act.put, pz0, pz1, pz2, pz3, pz4, pz5]
        refine wpAnyH_take (i := 9) (v := ?v39) rfl (by kernel_rfl) (by kernel_rfl) (by kernel_rfl) (fun _ _ _ h => h) (Or.inl ⟨by rfl, ?hy39⟩) hHeld ?rest39
        case hy39 => (intro w' hSw; (try dsimp only at hSw); first | (go_simp; done) | (go_simp; with_reducible rfl))
        simp only [Act.put, pz0, pz1, pz2, pz3, pz4, pz5]
        refine wpAnyH_take (i := 10) (v := ?v40) rfl (by kernel_rfl) (by kernel_rfl) (by kernel_rfl) (fun _ _ _ h => h) (Or.inl ⟨by rfl, ?hy40⟩) hHeld ?rest40
        case hy40 => (intro w' hSw; (try dsimp only at hSw); first | (go_simp; done) | (go_simp; with_reducible rfl))
        simp only [Act.put, pz0, pz1, pz2, pz3, pz4, pz5]
        refine wpAnyH_take (i := 11) (v := ?v41) rfl (by kernel_rfl) (by kernel_rfl) (by kernel_rfl) (fun _ _ _ h => h) (Or.inl ⟨by rfl, ?hy41⟩) hHeld ?rest41
        case hy41 => (intro w' hSw; (try dsimp only at hSw); first | (go_simp; done) | (go_simp; with_reducible rfl))
        simp only [Act.put, pz0, pz1, pz2, pz3, pz4, pz5]
        refine wpAnyH_ready (rs := [12]) (by kernel_rfl) (by simp) ?_
        refine AllReadyH.cons rfl (fun K hK => ?_) AllReadyH.nil
        go_simp
        refine (specColAt _ k c1 _ _ _ _ _ (x.cols.take k) _ ok _ ((hsl.drew ClR.stays).take (m := k) (by omega)) (by omega)).mono ?_
        rintro e wb ⟨rfl, hqb⟩
        rw [HA.out]
        go_wp2_with fail
        refine hK.out _ _ ⟨below_keep hqb _ _ hHeld.1, below_keep hqb _ _ hHeld.2.1, below_keep hqb _ _ hHeld.2.2.1, below_keep hqb _ _ hHeld.2.2.2.1, below_keep hqb _ _ hHeld.2.2.2.2.1, below_keep hqb _ _ hHeld.2.2.2.2.2.1, below_keep hqb _ _ hHeld.2.2.2.2.2.2⟩ (fun hHeld => ?_)
        clear hK K
        (try simp only [Act.put, pz0, pz1, pz2, pz3, pz4, pz5])
        refine wpAnyH_take (i := 13) (v := ?v42) rfl (by kernel_rfl) (by kernel_rfl) (by kernel_rfl) (fun _ _ _ h => h) (Or.inl ⟨by rfl, ?hy42⟩) hHeld ?rest42
        case hy42 => (intro w' hSw; (try dsimp only at hSw); first | (go_simp; done) | (go_simp; with_reducible rfl))
        simp only [Act.put, pz0, pz1, pz2, pz3, pz4, pz5]
        refine wpAnyH_take (i := 14) (v := ?v43) rfl (by kernel_rfl) (by kernel_rfl) (by kernel_rfl) (fun _ _ _ h => h) (Or.inl ⟨by rfl, ?hy43⟩) hHeld ?rest43
        case hy43 => (intro w' hSw; (try dsimp only at hSw); first | (go_simp; done) | (go_simp; with_reducible rfl))
        simp only [Act.put, pz0, pz1, pz2, pz3, pz4, pz5]
        refine wpAnyH_take (i := 15) (v := ?v44) rfl (by kernel_rfl) (by kernel_rfl) (by kernel_rfl) (fun _ _ _ h => h) (Or.inl ⟨by rfl, ?hy44⟩) hHeld ?rest44
        case hy44 => (intro w' hSw; (try dsimp only at hSw); first | (go_simp; done) | (go_simp; with_reducible rfl))
        simp only [Act.put, pz0, pz1, pz2, pz3, pz4, pz5]
        refine wpAnyH_take (i := 16) (v := ?v45) rfl (by kernel_rfl) (by kernel_rfl) (by kernel_rfl) (fun _ _ _ h => h) (Or.inl ⟨by rfl, ?hy45⟩) hHeld ?rest45
        case hy45 => (intro w' hSw; (try dsimp only at hSw); first | (go_simp; done) | (go_simp; with_reducible rfl))
        simp only [Act.put, pz0, pz1, pz2, pz3, pz4, pz5]
        refine wpAnyH_take (i := 17) (v := ?v46) rfl (by kernel_rfl) (by kernel_rfl) (by kernel_rfl) (fun _ _ _ h => h) (Or.inl ⟨by rfl, ?hy46⟩) hHeld ?rest46
        case hy46 => (intro w' hSw; (try dsimp only at hSw); first | (go_simp; done) | (go_simp; with_reducible rfl))
        simp only [Act.put, pz0, pz1, pz2, pz3, pz4, pz5]
        refine wpAnyH_ready (rs := [18]) (by kernel_rfl) (by simp) ?_
        refine AllReadyH.cons rfl (fun K hK => ?_) AllReadyH.nil
        go_simp
        refine (specIn _ _ _ _).mono ?_
        rintro e wc ⟨rfl, rfl⟩
        rw [HKD.out]
        go_wp2_with fail
        refine hK.out _ _ hHeld (fun hHeld => ?_)
        clear hK K
        (try simp only [Act.put, pz0, pz1, pz2, pz3, pz4, pz5])
        refine wpAnyH_take (i := 19) (v := ?v47) rfl (by kernel_rfl) (by kernel_rfl) (by kernel_rfl) (fun _ _ _ h => h) (Or.inl ⟨by rfl, ?hy47⟩) hHeld ?rest47
        case hy47 => (intro w' hSw; (try dsimp only at hSw); first | (go_simp; done) | (go_simp; with_reducible rfl))
        simp only [Act.put, pz0, pz1, pz2, pz3, pz4, pz5]
        refine wpAnyH_take (i := 20) (v := ?v48) rfl (by kernel_rfl) (by kernel_rfl) (by kernel_rfl) (fun _ _ _ h => h) (Or.inl ⟨by rfl, ?hy48⟩) hHeld ?rest48
        case hy48 => (intro w' hSw; (try dsimp only at hSw); first | (go_simp; done) | (go_simp; with_reducible rfl))
        simp only [Act.put, pz0, pz1, pz2, pz3, pz4, pz5]
        refine wpAnyH_take (i := 21) (v := ?v49) rfl (by kernel_rfl) (by kernel_rfl) (by kernel_rfl) (fun _ _ _ h => h) (Or.inl ⟨by rfl, ?hy49⟩) hHeld ?rest49
        case hy49 => (intro w' hSw; (try dsimp only at hSw); first | (go_simp; done) | (go_simp; with_reducible rfl))
        simp only [Act.put, pz0, pz1, pz2, pz3, pz4, pz5]
        refine wpAnyH_take (i := 22) (v := undef) rfl (by kernel_rfl) (by kernel_rfl) (by kernel_rfl) (fun _ _ _ h => h) (Or.inr ⟨by rfl, rfl⟩) hHeld ?_
        simp only [Act.put, pz0, pz1, pz2, pz3, pz4, pz5]
        refine wpAnyH_take (i := 23) (v := undef) rfl (by kernel_rfl) (by kernel_rfl) (by kernel_rfl) (fun _ _ _ h => h) (Or.inr ⟨by rfl, rfl⟩) hHeld ?_
        simp only [Act.put, pz0, pz1, pz2, pz3, pz4, pz5]
        refine wpAnyH_take (i := 24) (v := undef) rfl (by kernel_rfl) (by kernel_rfl) (by kernel_rfl) (fun _ _ _ h => h) (Or.inr ⟨by rfl, rfl⟩) hHeld ?_
        simp only [Act.put, pz0, pz1, pz2, pz3, pz4, pz5]
        refine wpAnyH_take (i := 25) (v := undef) rfl (by kernel_rfl) (by kernel_rfl) (by kernel_rfl) (fun _ _ _ h => h) (Or.inr ⟨by rfl, rfl⟩) hHeld ?_
        simp only [Act.put, pz0, pz1, pz2, pz3, pz4, pz5]
        refine wpAnyH_take (i := 26) (v := ?v50) rfl (by kernel_rfl) (by kernel_rfl) (by kernel_rfl) (fun _ _ _ h => h) (Or.inl ⟨by rfl, ?hy50⟩) hHeld ?rest50
        case hy50 => (intro w' hSw; (try dsimp only at hSw); first | (go_simp; done) | (go_simp; with_reducible rfl))
        simp only [Act.put, pz0, pz1, pz2, pz3, pz4, pz5]
        refine wpAnyH_take (i := 27) (v := ?v51) rfl (by kernel_rfl) (by kernel_rfl) (by kernel_rfl) (fun _ _ _ h => h) (Or.inl ⟨by rfl, ?hy51⟩) hHeld ?rest51
        case hy51 => (intro w' hSw; (try dsimp only at hSw); first | (go_simp; done) | (go_simp; with_reducible rfl))
        simp only [Act.put, pz0, pz1, pz2, pz3, pz4, pz5]
        refine wpAnyH_take (i := 28) (v := undef) rfl (by kernel_rfl) (by kernel_rfl) (by kernel_rfl) (fun _ _ _ h => h) (Or.inr ⟨by rfl, rfl⟩) hHeld ?_
        simp only [Act.put, pz0, pz1, pz2, pz3, pz4, pz5]
        refine wpAnyH_take (i := 29) (v := undef) rfl (by kernel_rfl) (by kernel_rfl) (by kernel_rfl) (fun _ _ _ h => h) (Or.inr ⟨by rfl, rfl⟩) hHeld ?_
        simp only [Act.put, pz0, pz1, pz2, pz3, pz4, pz5]
        refine wpAnyH_take (i := 30) (v := undef) rfl (by kernel_rfl) (by kernel_rfl) (by kernel_rfl) (fun _ _ _ h => h) (Or.inr ⟨by rfl, rfl⟩) hHeld ?_
        simp only [Act.put, pz0, pz1, pz2, pz3, pz4, pz5]
        refine wpAnyH_take (i := 31) (v := undef) rfl (by kernel_rfl) (by kernel_rfl) (by kernel_rfl) (fun _ _ _ h => h) (Or.inr ⟨by rfl, rfl⟩) hHeld ?_
        simp only [Act.put, pz0, pz1, pz2, pz3, pz4, pz5]
        refine wpAnyH_take (i := 32) (v := undef) rfl (by kernel_rfl) (by kernel_rfl) (by kernel_rfl) (fun _ _ _ h => h) (Or.inr ⟨by rfl, rfl⟩) hHeld ?_
        simp only [Act.put, pz0, pz1, pz2, pz3, pz4, pz5]
        refine wpAnyH_take (i := 33) (v := undef) rfl (by kernel_rfl) (by kernel_rfl) (by kernel_rfl) (fun _ _ _ h => h) (Or.inr ⟨by rfl, rfl⟩) hHeld ?_
        simp only [Act.put, pz0, pz1, pz2, pz3, pz4, pz5]
        refine wpAnyH_take (i := 34) (v := undef) rfl (by kernel_rfl) (by kernel_rfl) (by kernel_rfl) (fun _ _ _ h => h) (Or.inr ⟨by rfl, rfl⟩) hHeld ?_
        simp only [Act.put, pz0, pz1, pz2, pz3, pz4, pz5]
        refine wpAnyH_take (i := 35) (v := undef) rfl (by kernel_rfl) (by kernel_rfl) (by kernel_rfl) (fun _ _ _ h => h) (Or.inr ⟨by rfl, rfl⟩) hHeld ?_
        simp only [Act.put, pz0, pz1, pz2, pz3, pz4, pz5]
        refine wpAnyH_take (i := 36) (v := undef) rfl (by kernel_rfl) (by kernel_rfl) (by kernel_rfl) (fun _ _ _ h => h) (Or.inr ⟨by rfl, rfl⟩) hHeld ?_
        simp only [Act.put, pz0, pz1, pz2, pz3, pz4, pz5]
        refine wpAnyH_take (i := 37) (v := undef) rfl (by kernel_rfl) (by kernel_rfl) (by kernel_rfl) (fun _ _ _ h => h) (Or.inr ⟨by rfl, rfl⟩) hHeld ?_
        simp only [Act.put, pz0, pz1, pz2, pz3, pz4, pz5]
        refine wpAnyH_take (i := 38) (v := undef) rfl (by kernel_rfl) (by kernel_rfl) (by kernel_rfl) (fun _ _ _ h => h) (Or.inr ⟨by rfl, rfl⟩) hHeld ?_
        simp only [Act.put, pz0, pz1, pz2, pz3, pz4, pz5]
        refine wpAnyH_take (i := 39) (v := undef) rfl (by kernel_rfl) (by kernel_rfl) (by kernel_rfl) (fun _ _ _ h => h) (Or.inr ⟨by rfl, rfl⟩) hHeld ?_
        simp only [Act.put, pz0, pz1, pz2, pz3, pz4, pz5]
        refine wpAnyH_take (i := 40) (v := ?v52) rfl (by kernel_rfl) (by kernel_rfl) (by kernel_rfl) (fun _ _ _ h => h) (Or.inl ⟨by rfl, ?hy52⟩) hHeld ?rest52
        case hy52 => (intro w' hSw; (try dsimp only at hSw); first | (go_simp; done) | (go_simp; with_reducible rfl))
        simp only [Act.put, pz0, pz1, pz2, pz3, pz4, pz5]
        refine wpAnyH_done (by kernel_rfl) ?_ _
        refine NoPanic.normal ?_
        have hz0 := hba.drew
        have rz0 := hr1.drew
        have hz1 := hz0.trans (hqb.mono hz0.size)
        have rz1 := rz0.below hqb
        clear hHeld k0 k1 k2 k3 k4 k5 t0 t1 t2 t3 t4 t5
        go_wp2_with fail
        go_ret
        exact ⟨retB HF.out.symm, hz1⟩
      have HKD := Lib.hid hkd
      cases hv : valOkB cl.d.k cl.d.n cl.d.s
      · skip
        have HV := Lib.hid hv
        have HF := Lib.hid (HNO.out (by unfold colB fitsB; rw [hv, Bool.false_and, Bool.and_false, Bool.and_false]))
        clear hkd hn hv
        go_wp2_with fail
        generalize wr.alloc (.cells #[.string cl.name, .int .i64 cl.kind, .bool cl.nn, .int .i64 cl.d.k, .int .i64 cl.d.n, .string cl.d.s] 172) = x1 at *
        obtain ⟨⟨k0, k1, k2, k3, k4, k5⟩, -⟩ := rk.all6
        obtain ⟨⟨t0, t1, t2, t3, t4, t5⟩, -⟩ := hr1.all6
        refine wp_region_noPanic ?_
        refine wp_region_held_drew (S := fun w' => w'.cell? ⟨wr.heap.size, 0, none⟩ = some (.string cl.name) ∧ w'.cell? ⟨wr.heap.size, 1, none⟩ = some (.int .i64 cl.kind) ∧ w'.cell? ⟨wr.heap.size, 2, none⟩ = some (.bool cl.nn) ∧ w'.cell? ⟨wr.heap.size, 3, none⟩ = some (.int .i64 cl.d.k) ∧ w'.cell? ⟨wr.heap.size, 4, none⟩ = some (.int .i64 cl.d.n) ∧ w'.cell? ⟨wr.heap.size, 5, none⟩ = some (.string cl.d.s) ∧ w'.cell? ⟨w.heap.size, 1, none⟩ = some (.slice (some ⟨b, off, none⟩) x.cols.length c1)) (by kernel_rfl) ⟨k0, k1, k2, k3, k4, k5, t1⟩ (fun hHeld => ?_)
        refine wpAnyH_take (i := 0) (v := ?v53) rfl (by kernel_rfl) (by kernel_rfl) (by kernel_rfl) (fun _ _ _ h => h) (Or.inl ⟨by rfl, ?hy53⟩) hHeld ?rest53
        case hy53 => (intro w' hSw; (try dsimp only at hSw); first | (go_simp; done) | (go_simp; with_reducible rfl))
        simp only [Act.put, pz0, pz1, pz2, pz3, pz4, pz5]
        refine wpAnyH_take (i := 1) (v := ?v54) rfl (by kernel_rfl) (by kernel_rfl) (by kernel_rfl) (fun _ _ _ h => h) (Or.inl ⟨by rfl, ?hy54⟩) hHeld ?rest54
        case hy54 => (intro w' hSw; (try dsimp only at hSw); first | (go_simp; done) | (go_simp; with_reducible rfl))
        simp only [Act.put, pz0, pz1, pz2, pz3, pz4, pz5]
        refine wpAnyH_ready (rs := [2]) (by kernel_rfl) (by simp) ?_
        refine AllReadyH.cons rfl (fun K hK => ?_) AllReadyH.nil
        go_simp
        refine (specName _ _ HZ.out).mono ?_
        rintro e wa ⟨rfl, rfl⟩
        rw [HN.out]
        go_wp2_with fail
        refine hK.out _ _ hHeld (fun hHeld => ?_)
        clear hK K
        (try simp only [Act.put, pz0, pz1, pz2, pz3, pz4, pz5])
        refine wpAnyH_take (i := 3) (v := ?v55) rfl (by kernel_rfl) (by kernel_rfl) (by kernel_rfl) (fun _ _ _ h => h) (Or.inl ⟨by rfl, ?hy55⟩) hHeld ?rest55
        case hy55 => (intro w' hSw; (try dsimp only at hSw); first | (go_simp; done) | (go_simp; with_reducible rfl))
        simp only [Act.put, pz0, pz1, pz2, pz3, pz4, pz5]
        refine wpAnyH_take (i := 4) (v := ?v56) rfl (by kernel_rfl) (by kernel_rfl) (by kernel_rfl) (fun _ _ _ h => h) (Or.inl ⟨by rfl, ?hy56⟩) hHeld ?rest56
        case hy56 => (intro w' hSw; (try dsimp only at hSw); first | (go_simp; done) | (go_simp; with_reducible rfl))
        simp only [Act.put, pz0, pz1, pz2, pz3, pz4, pz5]
        refine wpAnyH_take (i := 5) (v := ?v57) rfl (by kernel_rfl) (by kernel_rfl) (by kernel_rfl) (fun _ _ _ h => h) (Or.inl ⟨by rfl, ?hy57⟩) hHeld ?rest57
        case hy57 => (intro w' hSw; (try dsimp only at hSw); first | (go_simp; done) | (go_simp; with_reducible rfl))
        simp only [Act.put, pz0, pz1, pz2, pz3, pz4, pz5]
        refine wpAnyH_take (i := 6) (v := ?v58) rfl (by kernel_rfl) (by kernel_rfl) (by kernel_rfl) (fun _ _ _ h => h) (Or.inl ⟨by rfl, ?hy58⟩) hHeld ?rest58
        case hy58 => (intro w' hSw; (try dsimp only at hSw); first | (go_simp; done) | (go_simp; with_reducible rfl))
        simp only [Act.put, pz0, pz1, pz2, pz3, pz4, pz5]
        refine wpAnyH_take (i := 7) (v := ?v59) rfl (by kernel_rfl) (by kernel_rfl) (by kernel_rfl) (fun _ _ _ h => h) (Or.inl ⟨by rfl, ?hy59⟩) hHeld ?rest59
        case hy59 => (intro w' hSw; (try dsimp only at hSw); first | (go_simp; done) | (go_simp; with_reducible rfl))
        simp only [Act.put, pz0, pz1, pz2, pz3, pz4, pz5]
        refine wpAnyH_take (i := 8) (v := ?v60) rfl (by kernel_rfl) (by kernel_rfl) (by kernel_rfl) (fun _ _ _ h => h) (Or.inl ⟨by rfl, ?hy60⟩) hHeld ?rest60
        case hy60 => (intro w' hSw; (try dsimp only at hSw); first | (go_simp; done) | (go_simp; with_reducible rfl))
        simp only [Act.put, pz0, pz1, pz2, pz3, pz4, pz5]
        refine wpAnyH_take (i := 9) (v := ?v61) rfl (by kernel_rfl) (by kernel_rfl) (by kernel_rfl) (fun _ _ _ h => h) (Or.inl ⟨by rfl, ?hy61⟩) hHeld ?rest61
        case hy61 => (intro w' hSw; (try dsimp only at hSw); first | (go_simp; done) | (go_simp; with_reducible rfl))
        simp only [Act.put, pz0, pz1, pz2, pz3, pz4, pz5]
        refine wpAnyH_take (i := 10) (v := ?v62) rfl (by kernel_rfl) (by kernel_rfl) (by kernel_rfl) (fun _ _ _ h => h) (Or.inl ⟨by rfl, ?hy62⟩) hHeld ?rest62
        case hy62 => (intro w' hSw; (try dsimp only at hSw); first | (go_simp; done) | (go_simp; with_reducible rfl))
        simp only [Act.put, pz0, pz1, pz2, pz3, pz4, pz5]
        refine wpAnyH_take (i := 11) (v := ?v63) rfl (by kernel_rfl) (by kernel_rfl) (by kernel_rfl) (fun _ _ _ h => h) (Or.inl ⟨by rfl, ?hy63⟩) hHeld ?rest63
        case hy63 => (intro w' hSw; (try dsimp only at hSw); first | (go_simp; done) | (go_simp; with_reducible rfl))
        simp only [Act.put, pz0, pz1, pz2, pz3, pz4, pz5]
        refine wpAnyH_ready (rs := [12]) (by kernel_rfl) (by simp) ?_
        refine AllReadyH.cons rfl (fun K hK => ?_) AllReadyH.nil
        go_simp
        refine (specColAt _ k c1 _ _ _ _ _ (x.cols.take k) _ ok _ ((hsl.drew ClR.stays).take (m := k) (by omega)) (by omega)).mono ?_
        rintro e wb ⟨rfl, hqb⟩
        rw [HA.out]
        go_wp2_with fail
        refine hK.out _ _ ⟨below_keep hqb _ _ hHeld.1, below_keep hqb _ _ hHeld.2.1, below_keep hqb _ _ hHeld.2.2.1, below_keep hqb _ _ hHeld.2.2.2.1, below_keep hqb _ _ hHeld.2.2.2.2.1, below_keep hqb _ _ hHeld.2.2.2.2.2.1, below_keep hqb _ _ hHeld.2.2.2.2.2.2⟩ (fun hHeld => ?_)
        clear hK K
        (try simp only [Act.put, pz0, pz1, pz2, pz3, pz4, pz5])
        refine wpAnyH_take (i := 13) (v := ?v64) rfl (by kernel_rfl) (by kernel_rfl) (by kernel_rfl) (fun _ _ _ h => h) (Or.inl ⟨by rfl, ?hy64⟩) hHeld ?rest64
        case hy64 => (intro w' hSw; (try dsimp only at hSw); first | (go_simp; done) | (go_simp; with_reducible rfl))
        simp only [Act.put, pz0, pz1, pz2, pz3, pz4, pz5]
        refine wpAnyH_take (i := 14) (v := ?v65) rfl (by kernel_rfl) (by kernel_rfl) (by kernel_rfl) (fun _ _ _ h => h) (Or.inl ⟨by rfl, ?hy65⟩) hHeld ?rest65
        case hy65 => (intro w' hSw; (try dsimp only at hSw); first | (go_simp; done) | (go_simp; with_reducible rfl))
        simp only [Act.put, pz0, pz1, pz2, pz3, pz4, pz5]
        refine wpAnyH_take (i := 15) (v := ?v66) rfl (by kernel_rfl) (by kernel_rfl) (by kernel_rfl) (fun _ _ _ h => h) (Or.inl ⟨by rfl, ?hy66⟩) hHeld ?rest66
        case hy66 => (intro w' hSw; (try dsimp only at hSw); first | (go_simp; done) | (go_simp; with_reducible rfl))
        simp only [Act.put, pz0, pz1, pz2, pz3, pz4, pz5]
        refine wpAnyH_take (i := 16) (v := ?v67) rfl (by kernel_rfl) (by kernel_rfl) (by kernel_rfl) (fun _ _ _ h => h) (Or.inl ⟨by rfl, ?hy67⟩) hHeld ?rest67
        case hy67 => (intro w' hSw; (try dsimp only at hSw); first | (go_simp; done) | (go_simp; with_reducible rfl))
        simp only [Act.put, pz0, pz1, pz2, pz3, pz4, pz5]
        refine wpAnyH_take (i := 17) (v := ?v68) rfl (by kernel_rfl) (by kernel_rfl) (by kernel_rfl) (fun _ _ _ h => h) (Or.inl ⟨by rfl, ?hy68⟩) hHeld ?rest68
        case hy68 => (intro w' hSw; (try dsimp only at hSw); first | (go_simp; done) | (go_simp; with_reducible rfl))
        simp only [Act.put, pz0, pz1, pz2, pz3, pz4, pz5]
        refine wpAnyH_ready (rs := [18]) (by kernel_rfl) (by simp) ?_
        refine AllReadyH.cons rfl (fun K hK => ?_) AllReadyH.nil
        go_simp
        refine (specIn _ _ _ _).mono ?_
        rintro e wc ⟨rfl, rfl⟩
        rw [HKD.out]
        go_wp2_with fail
        refine hK.out _ _ hHeld (fun hHeld => ?_)
        clear hK K
        (try simp only [Act.put, pz0, pz1, pz2, pz3, pz4, pz5])
        refine wpAnyH_take (i := 19) (v := ?v69) rfl (by kernel_rfl) (by kernel_rfl) (by kernel_rfl) (fun _ _ _ h => h) (Or.inl ⟨by rfl, ?hy69⟩) hHeld ?rest69
        case hy69 => (intro w' hSw; (try dsimp only at hSw); first | (go_simp; done) | (go_simp; with_reducible rfl))
        simp only [Act.put, pz0, pz1, pz2, pz3, pz4, pz5]
        refine wpAnyH_take (i := 20) (v := ?v70) rfl (by kernel_rfl) (by kernel_rfl) (by kernel_rfl) (fun _ _ _ h => h) (Or.inl ⟨by rfl, ?hy70⟩) hHeld ?rest70
        case hy70 => (intro w' hSw; (try dsimp only at hSw); first | (go_simp; done) | (go_simp; with_reducible rfl))
        simp only [Act.put, pz0, pz1, pz2, pz3, pz4, pz5]
        refine wpAnyH_take (i := 21) (v := ?v71) rfl (by kernel_rfl) (by kernel_rfl) (by kernel_rfl) (fun _ _ _ h => h) (Or.inl ⟨by rfl, ?hy71⟩) hHeld ?rest71
        case hy71 => (intro w' hSw; (try dsimp only at hSw); first | (go_simp; done) | (go_simp; with_reducible rfl))
        simp only [Act.put, pz0, pz1, pz2, pz3, pz4, pz5]
        refine wpAnyH_take (i := 22) (v := ?v72) rfl (by kernel_rfl) (by kernel_rfl) (by kernel_rfl) (fun _ _ _ h => h) (Or.inl ⟨by rfl, ?hy72⟩) hHeld ?rest72
        case hy72 => (intro w' hSw; (try dsimp only at hSw); first | (go_simp; done) | (go_simp; with_reducible rfl))
        simp only [Act.put, pz0, pz1, pz2, pz3, pz4, pz5]
        refine wpAnyH_take (i := 23) (v := ?v73) rfl (by kernel_rfl) (by kernel_rfl) (by kernel_rfl) (fun _ _ _ h => h) (Or.inl ⟨by rfl, ?hy73⟩) hHeld ?rest73
        case hy73 => (intro w' hSw; (try dsimp only at hSw); first | (go_simp; done) | (go_simp; with_reducible rfl))
        simp only [Act.put, pz0, pz1, pz2, pz3, pz4, pz5]
        refine wpAnyH_ready (rs := [24]) (by kernel_rfl) (by simp) ?_
        refine AllReadyH.cons rfl (fun K hK => ?_) AllReadyH.nil
        go_simp
        refine (specValOk _ _ _ _).mono ?_
        rintro e wd ⟨rfl, hqd⟩
        rw [HV.out]
        go_wp2_with fail
        refine hK.out _ _ ⟨below_keep hqd _ _ hHeld.1, below_keep hqd _ _ hHeld.2.1, below_keep hqd _ _ hHeld.2.2.1, below_keep hqd _ _ hHeld.2.2.2.1, below_keep hqd _ _ hHeld.2.2.2.2.1, below_keep hqd _ _ hHeld.2.2.2.2.2.1, below_keep hqd _ _ hHeld.2.2.2.2.2.2⟩ (fun hHeld => ?_)
        clear hK K
        (try simp only [Act.put, pz0, pz1, pz2, pz3, pz4, pz5])
        refine wpAnyH_take (i := 25) (v := ?v74) rfl (by kernel_rfl) (by kernel_rfl) (by kernel_rfl) (fun _ _ _ h => h) (Or.inl ⟨by rfl, ?hy74⟩) hHeld ?rest74
        case hy74 => (intro w' hSw; (try dsimp only at hSw); first | (go_simp; done) | (go_simp; with_reducible rfl))
        simp only [Act.put, pz0, pz1, pz2, pz3, pz4, pz5]
        refine wpAnyH_take (i := 26) (v := ?v75) rfl (by kernel_rfl) (by kernel_rfl) (by kernel_rfl) (fun _ _ _ h => h) (Or.inl ⟨by rfl, ?hy75⟩) hHeld ?rest75
        case hy75 => (intro w' hSw; (try dsimp only at hSw); first | (go_simp; done) | (go_simp; with_reducible rfl))
        simp only [Act.put, pz0, pz1, pz2, pz3, pz4, pz5]
        refine wpAnyH_take (i := 27) (v := ?v76) rfl (by kernel_rfl) (by kernel_rfl) (by kernel_rfl) (fun _ _ _ h => h) (Or.inl ⟨by rfl, ?hy76⟩) hHeld ?rest76
        case hy76 => (intro w' hSw; (try dsimp only at hSw); first | (go_simp; done) | (go_simp; with_reducible rfl))
        simp only [Act.put, pz0, pz1, pz2, pz3, pz4, pz5]
        refine wpAnyH_take (i := 28) (v := undef) rfl (by kernel_rfl) (by kernel_rfl) (by kernel_rfl) (fun _ _ _ h => h) (Or.inr ⟨by rfl, rfl⟩) hHeld ?_
        simp only [Act.put, pz0, pz1, pz2, pz3, pz4, pz5]
        refine wpAnyH_take (i := 29) (v := undef) rfl (by kernel_rfl) (by kernel_rfl) (by kernel_rfl) (fun _ _ _ h => h) (Or.inr ⟨by rfl, rfl⟩) hHeld ?_
        simp only [Act.put, pz0, pz1, pz2, pz3, pz4, pz5]
        refine wpAnyH_take (i := 30) (v := undef) rfl (by kernel_rfl) (by kernel_rfl) (by kernel_rfl) (fun _ _ _ h => h) (Or.inr ⟨by rfl, rfl⟩) hHeld ?_
        simp only [Act.put, pz0, pz1, pz2, pz3, pz4, pz5]
        refine wpAnyH_take (i := 31) (v := undef) rfl (by kernel_rfl) (by kernel_rfl) (by kernel_rfl) (fun _ _ _ h => h) (Or.inr ⟨by rfl, rfl⟩) hHeld ?_
        simp only [Act.put, pz0, pz1, pz2, pz3, pz4, pz5]
        refine wpAnyH_take (i := 32) (v := undef) rfl (by kernel_rfl) (by kernel_rfl) (by kernel_rfl) (fun _ _ _ h => h) (Or.inr ⟨by rfl, rfl⟩) hHeld ?_
        simp only [Act.put, pz0, pz1, pz2, pz3, pz4, pz5]
        refine wpAnyH_take (i := 33) (v := undef) rfl (by kernel_rfl) (by kernel_rfl) (by kernel_rfl) (fun _ _ _ h => h) (Or.inr ⟨by rfl, rfl⟩) hHeld ?_
        simp only [Act.put, pz0, pz1, pz2, pz3, pz4, pz5]
        refine wpAnyH_take (i := 34) (v := undef) rfl (by kernel_rfl) (by kernel_rfl) (by kernel_rfl) (fun _ _ _ h => h) (Or.inr ⟨by rfl, rfl⟩) hHeld ?_
        simp only [Act.put, pz0, pz1, pz2, pz3, pz4, pz5]
        refine wpAnyH_take (i := 35) (v := undef) rfl (by kernel_rfl) (by kernel_rfl) (by kernel_rfl) (fun _ _ _ h => h) (Or.inr ⟨by rfl, rfl⟩) hHeld ?_
        simp only [Act.put, pz0, pz1, pz2, pz3, pz4, pz5]
        refine wpAnyH_take (i := 36) (v := undef) rfl (by kernel_rfl) (by kernel_rfl) (by kernel_rfl) (fun _ _ _ h => h) (Or.inr ⟨by rfl, rfl⟩) hHeld ?_
        simp only [Act.put, pz0, pz1, pz2, pz3, pz4, pz5]
        refine wpAnyH_take (i := 37) (v := undef) rfl (by kernel_rfl) (by kernel_rfl) (by kernel_rfl) (fun _ _ _ h => h) (Or.inr ⟨by rfl, rfl⟩) hHeld ?_
        simp only [Act.put, pz0, pz1, pz2, pz3, pz4, pz5]
        refine wpAnyH_take (i := 38) (v := undef) rfl (by kernel_rfl) (by kernel_rfl) (by kernel_rfl) (fun _ _ _ h => h) (Or.inr ⟨by rfl, rfl⟩) hHeld ?_
        simp only [Act.put, pz0, pz1, pz2, pz3, pz4, pz5]
        refine wpAnyH_take (i := 39) (v := undef) rfl (by kernel_rfl) (by kernel_rfl) (by kernel_rfl) (fun _ _ _ h => h) (Or.inr ⟨by rfl, rfl⟩) hHeld ?_
        simp only [Act.put, pz0, pz1, pz2, pz3, pz4, pz5]
        refine wpAnyH_take (i := 40) (v := ?v77) rfl (by kernel_rfl) (by kernel_rfl) (by kernel_rfl) (fun _ _ _ h => h) (Or.inl ⟨by rfl, ?hy77⟩) hHeld ?rest77
        case hy77 => (intro w' hSw; (try dsimp only at hSw); first | (go_simp; done) | (go_simp; with_reducible rfl))
        simp only [Act.put, pz0, pz1, pz2, pz3, pz4, pz5]
        refine wpAnyH_done (by kernel_rfl) ?_ _
        refine NoPanic.normal ?_
        have hz0 := hba.drew
        have rz0 := hr1.drew
        have hz1 := hz0.trans (hqb.mono hz0.size)
        have rz1 := rz0.below hqb
        have hz2 := hz1.trans (hqd.mono hz1.size)
        have rz2 := rz1.below hqd
        clear hHeld k0 k1 k2 k3 k4 k5 t0 t1 t2 t3 t4 t5
        go_wp2_with fail
        go_ret
        exact ⟨retB HF.out.symm, hz2⟩
      have HV := Lib.hid hv
      by_cases hd0 : cl.d.k = 0
      · skip
        have HCA := Lib.hid (HCN.out (by unfold colB fitsB; rw [kind_in, hn, hkd, hv, hd0]; rfl))
        have e0 : (cl.d.k == 0) = true := by simpa using hd0
        have e1 : (cl.d.k != 0) = false := by simpa using hd0
        clear hkd hn hv hd0
        go_wp2_with fail
        generalize wr.alloc (.cells #[.string cl.name, .int .i64 cl.kind, .bool cl.nn, .int .i64 cl.d.k, .int .i64 cl.d.n, .string cl.d.s] 172) = x1 at *
        obtain ⟨⟨k0, k1, k2, k3, k4, k5⟩, -⟩ := rk.all6
        obtain ⟨⟨t0, t1, t2, t3, t4, t5⟩, -⟩ := hr1.all6
        refine wp_region_noPanic ?_
        refine wp_region_held_drew (S := fun w' => w'.cell? ⟨wr.heap.size, 0, none⟩ = some (.string cl.name) ∧ w'.cell? ⟨wr.heap.size, 1, none⟩ = some (.int .i64 cl.kind) ∧ w'.cell? ⟨wr.heap.size, 2, none⟩ = some (.bool cl.nn) ∧ w'.cell? ⟨wr.heap.size, 3, none⟩ = some (.int .i64 cl.d.k) ∧ w'.cell? ⟨wr.heap.size, 4, none⟩ = some (.int .i64 cl.d.n) ∧ w'.cell? ⟨wr.heap.size, 5, none⟩ = some (.string cl.d.s) ∧ w'.cell? ⟨w.heap.size, 1, none⟩ = some (.slice (some ⟨b, off, none⟩) x.cols.length c1)) (by kernel_rfl) ⟨k0, k1, k2, k3, k4, k5, t1⟩ (fun hHeld => ?_)
        refine wpAnyH_take (i := 0) (v := ?v78) rfl (by kernel_rfl) (by kernel_rfl) (by kernel_rfl) (fun _ _ _ h => h) (Or.inl ⟨by rfl, ?hy78⟩) hHeld ?rest78
        case hy78 => (intro w' hSw; (try dsimp only at hSw); first | (go_simp; done) | (go_simp; with_reducible rfl))
        simp only [Act.put, pz0, pz1, pz2, pz3, pz4, pz5]
        refine wpAnyH_take (i := 1) (v := ?v79) rfl (by kernel_rfl) (by kernel_rfl) (by kernel_rfl) (fun _ _ _ h => h) (Or.inl ⟨by rfl, ?hy79⟩) hHeld ?rest79
        case hy79 => (intro w' hSw; (try dsimp only at hSw); first | (go_simp; done) | (go_simp; with_reducible rfl))
        simp only [Act.put, pz0, pz1, pz2, pz3, pz4, pz5]
        refine wpAnyH_ready (rs := [2]) (by kernel_rfl) (by simp) ?_
        refine AllReadyH.cons rfl (fun K hK => ?_) AllReadyH.nil
        go_simp
        refine (specName _ _ HZ.out).mono ?_
        rintro e wa ⟨rfl, rfl⟩
        rw [HN.out]
        go_wp2_with fail
        refine hK.out _ _ hHeld (fun hHeld => ?_)
        clear hK K
        (try simp only [Act.put, pz0, pz1, pz2, pz3, pz4, pz5])
        refine wpAnyH_take (i := 3) (v := ?v80) rfl (by kernel_rfl) (by kernel_rfl) (by kernel_rfl) (fun _ _ _ h => h) (Or.inl ⟨by rfl, ?hy80⟩) hHeld ?rest80
        case hy80 => (intro w' hSw; (try dsimp only at hSw); first | (go_simp; done) | (go_simp; with_reducible rfl))
        simp only [Act.put, pz0, pz1, pz2, pz3, pz4, pz5]
        refine wpAnyH_take (i := 4) (v := ?v81) rfl (by kernel_rfl) (by kernel_rfl) (by kernel_rfl) (fun _ _ _ h => h) (Or.inl ⟨by rfl, ?hy81⟩) hHeld ?rest81
        case hy81 => (intro w' hSw; (try dsimp only at hSw); first | (go_simp; done) | (go_simp; with_reducible rfl))
        simp only [Act.put, pz0, pz1, pz2, pz3, pz4, pz5]
        refine wpAnyH_take (i := 5) (v := ?v82) rfl (by kernel_rfl) (by kernel_rfl) (by kernel_rfl) (fun _ _ _ h => h) (Or.inl ⟨by rfl, ?hy82⟩) hHeld ?rest82
        case hy82 => (intro w' hSw; (try dsimp only at hSw); first | (go_simp; done) | (go_simp; with_reducible rfl))
        simp only [Act.put, pz0, pz1, pz2, pz3, pz4, pz5]
        refine wpAnyH_take (i := 6) (v := ?v83) rfl (by kernel_rfl) (by kernel_rfl) (by kernel_rfl) (fun _ _ _ h => h) (Or.inl ⟨by rfl, ?hy83⟩) hHeld ?rest83
        case hy83 => (intro w' hSw; (try dsimp only at hSw); first | (go_simp; done) | (go_simp; with_reducible rfl))
        simp only [Act.put, pz0, pz1, pz2, pz3, pz4, pz5]
        refine wpAnyH_take (i := 7) (v := ?v84) rfl (by kernel_rfl) (by kernel_rfl) (by kernel_rfl) (fun _ _ _ h => h) (Or.inl ⟨by rfl, ?hy84⟩) hHeld ?rest84
        case hy84 => (intro w' hSw; (try dsimp only at hSw); first | (go_simp; done) | (go_simp; with_reducible rfl))
        simp only [Act.put, pz0, pz1, pz2, pz3, pz4, pz5]
        refine wpAnyH_take (i := 8) (v := ?v85) rfl (by kernel_rfl) (by kernel_rfl) (by kernel_rfl) (fun _ _ _ h => h) (Or.inl ⟨by rfl, ?hy85⟩) hHeld ?rest85
        case hy85 => (intro w' hSw; (try dsimp only at hSw); first | (go_simp; done) | (go_simp; with_reducible rfl))
        simp only [Act.put, pz0, pz1, pz2, pz3, pz4, pz5]
        refine wpAnyH_take (i := 9) (v := ?v86) rfl (by kernel_rfl) (by kernel_rfl) (by kernel_rfl) (fun _ _ _ h => h) (Or.inl ⟨by rfl, ?hy86⟩) hHeld ?rest86
        case hy86 => (intro w' hSw; (try dsimp only at hSw); first | (go_simp; done) | (go_simp; with_reducible rfl))
        simp only [Act.put, pz0, pz1, pz2, pz3, pz4, pz5]
        refine wpAnyH_take (i := 10) (v := ?v87) rfl (by kernel_rfl) (by kernel_rfl) (by kernel_rfl) (fun _ _ _ h => h) (Or.inl ⟨by rfl, ?hy87⟩) hHeld ?rest87
        case hy87 => (intro w' hSw; (try dsimp only at hSw); first | (go_simp; done) | (go_simp; with_reducible rfl))
        simp only [Act.put, pz0, pz1, pz2, pz3, pz4, pz5]
        refine wpAnyH_take (i := 11) (v := ?v88) rfl (by kernel_rfl) (by kernel_rfl) (by kernel_rfl) (fun _ _ _ h => h) (Or.inl ⟨by rfl, ?hy88⟩) hHeld ?rest88
        case hy88 => (intro w' hSw; (try dsimp only at hSw); first | (go_simp; done) | (go_simp; with_reducible rfl))
        simp only [Act.put, pz0, pz1, pz2, pz3, pz4, pz5]
        refine wpAnyH_ready (rs := [12]) (by kernel_rfl) (by simp) ?_
        refine AllReadyH.cons rfl (fun K hK => ?_) AllReadyH.nil
        go_simp
        refine (specColAt _ k c1 _ _ _ _ _ (x.cols.take k) _ ok _ ((hsl.drew ClR.stays).take (m := k) (by omega)) (by omega)).mono ?_
        rintro e wb ⟨rfl, hqb⟩
        rw [HA.out]
        go_wp2_with fail
        refine hK.out _ _ ⟨below_keep hqb _ _ hHeld.1, below_keep hqb _ _ hHeld.2.1, below_keep hqb _ _ hHeld.2.2.1, below_keep hqb _ _ hHeld.2.2.2.1, below_keep hqb _ _ hHeld.2.2.2.2.1, below_keep hqb _ _ hHeld.2.2.2.2.2.1, below_keep hqb _ _ hHeld.2.2.2.2.2.2⟩ (fun hHeld => ?_)
        clear hK K
        (try simp only [Act.put, pz0, pz1, pz2, pz3, pz4, pz5])
        refine wpAnyH_take (i := 13) (v := ?v89) rfl (by kernel_rfl) (by kernel_rfl) (by kernel_rfl) (fun _ _ _ h => h) (Or.inl ⟨by rfl, ?hy89⟩) hHeld ?rest89
        case hy89 => (intro w' hSw; (try dsimp only at hSw); first | (go_simp; done) | (go_simp; with_reducible rfl))
        simp only [Act.put, pz0, pz1, pz2, pz3, pz4, pz5]
        refine wpAnyH_take (i := 14) (v := ?v90) rfl (by kernel_rfl) (by kernel_rfl) (by kernel_rfl) (fun _ _ _ h => h) (Or.inl ⟨by rfl, ?hy90⟩) hHeld ?rest90
        case hy90 => (intro w' hSw; (try dsimp only at hSw); first | (go_simp; done) | (go_simp; with_reducible rfl))
        simp only [Act.put, pz0, pz1, pz2, pz3, pz4, pz5]
        refine wpAnyH_take (i := 15) (v := ?v91) rfl (by kernel_rfl) (by kernel_rfl) (by kernel_rfl) (fun _ _ _ h => h) (Or.inl ⟨by rfl, ?hy91⟩) hHeld ?rest91
        case hy91 => (intro w' hSw; (try dsimp only at hSw); first | (go_simp; done) | (go_simp; with_reducible rfl))
        simp only [Act.put, pz0, pz1, pz2, pz3, pz4, pz5]
        refine wpAnyH_take (i := 16) (v := ?v92) rfl (by kernel_rfl) (by kernel_rfl) (by kernel_rfl) (fun _ _ _ h => h) (Or.inl ⟨by rfl, ?hy92⟩) hHeld ?rest92
        case hy92 => (intro w' hSw; (try dsimp only at hSw); first | (go_simp; done) | (go_simp; with_reducible rfl))
        simp only [Act.put, pz0, pz1, pz2, pz3, pz4, pz5]
        refine wpAnyH_take (i := 17) (v := ?v93) rfl (by kernel_rfl) (by kernel_rfl) (by kernel_rfl) (fun _ _ _ h => h) (Or.inl ⟨by rfl, ?hy93⟩) hHeld ?rest93
        case hy93 => (intro w' hSw; (try dsimp only at hSw); first | (go_simp; done) | (go_simp; with_reducible rfl))
        simp only [Act.put, pz0, pz1, pz2, pz3, pz4, pz5]
        refine wpAnyH_ready (rs := [18]) (by kernel_rfl) (by simp) ?_
        refine AllReadyH.cons rfl (fun K hK => ?_) AllReadyH.nil
        go_simp
        refine (specIn _ _ _ _).mono ?_
        rintro e wc ⟨rfl, rfl⟩
        rw [HKD.out]
        go_wp2_with fail
        refine hK.out _ _ hHeld (fun hHeld => ?_)
        clear hK K
        (try simp only [Act.put, pz0, pz1, pz2, pz3, pz4, pz5])
        refine wpAnyH_take (i := 19) (v := ?v94) rfl (by kernel_rfl) (by kernel_rfl) (by kernel_rfl) (fun _ _ _ h => h) (Or.inl ⟨by rfl, ?hy94⟩) hHeld ?rest94
        case hy94 => (intro w' hSw; (try dsimp only at hSw); first | (go_simp; done) | (go_simp; with_reducible rfl))
        simp only [Act.put, pz0, pz1, pz2, pz3, pz4, pz5]
        refine wpAnyH_take (i := 20) (v := ?v95) rfl (by kernel_rfl) (by kernel_rfl) (by kernel_rfl) (fun _ _ _ h => h) (Or.inl ⟨by rfl, ?hy95⟩) hHeld ?rest95
        case hy95 => (intro w' hSw; (try dsimp only at hSw); first | (go_simp; done) | (go_simp; with_reducible rfl))
        simp only [Act.put, pz0, pz1, pz2, pz3, pz4, pz5]
        refine wpAnyH_take (i := 21) (v := ?v96) rfl (by kernel_rfl) (by kernel_rfl) (by kernel_rfl) (fun _ _ _ h => h) (Or.inl ⟨by rfl, ?hy96⟩) hHeld ?rest96
        case hy96 => (intro w' hSw; (try dsimp only at hSw); first | (go_simp; done) | (go_simp; with_reducible rfl))
        simp only [Act.put, pz0, pz1, pz2, pz3, pz4, pz5]
        refine wpAnyH_take (i := 22) (v := ?v97) rfl (by kernel_rfl) (by kernel_rfl) (by kernel_rfl) (fun _ _ _ h => h) (Or.inl ⟨by rfl, ?hy97⟩) hHeld ?rest97
        case hy97 => (intro w' hSw; (try dsimp only at hSw); first | (go_simp; done) | (go_simp; with_reducible rfl))
        simp only [Act.put, pz0, pz1, pz2, pz3, pz4, pz5]
        refine wpAnyH_take (i := 23) (v := ?v98) rfl (by kernel_rfl) (by kernel_rfl) (by kernel_rfl) (fun _ _ _ h => h) (Or.inl ⟨by rfl, ?hy98⟩) hHeld ?rest98
        case hy98 => (intro w' hSw; (try dsimp only at hSw); first | (go_simp; done) | (go_simp; with_reducible rfl))
        simp only [Act.put, pz0, pz1, pz2, pz3, pz4, pz5]
        refine wpAnyH_ready (rs := [24]) (by kernel_rfl) (by simp) ?_
        refine AllReadyH.cons rfl (fun K hK => ?_) AllReadyH.nil
        go_simp
        refine (specValOk _ _ _ _).mono ?_
        rintro e wd ⟨rfl, hqd⟩
        rw [HV.out]
        go_wp2_with fail
        refine hK.out _ _ ⟨below_keep hqd _ _ hHeld.1, below_keep hqd _ _ hHeld.2.1, below_keep hqd _ _ hHeld.2.2.1, below_keep hqd _ _ hHeld.2.2.2.1, below_keep hqd _ _ hHeld.2.2.2.2.1, below_keep hqd _ _ hHeld.2.2.2.2.2.1, below_keep hqd _ _ hHeld.2.2.2.2.2.2⟩ (fun hHeld => ?_)
        clear hK K
        (try simp only [Act.put, pz0, pz1, pz2, pz3, pz4, pz5])
        refine wpAnyH_take (i := 25) (v := ?v99) rfl (by kernel_rfl) (by kernel_rfl) (by kernel_rfl) (fun _ _ _ h => h) (Or.inl ⟨by rfl, ?hy99⟩) hHeld ?rest99
        case hy99 => (intro w' hSw; (try dsimp only at hSw); first | (go_simp; done) | (go_simp; with_reducible rfl))
        simp only [Act.put, pz0, pz1, pz2, pz3, pz4, pz5]
        refine wpAnyH_take (i := 26) (v := ?v100) rfl (by kernel_rfl) (by kernel_rfl) (by kernel_rfl) (fun _ _ _ h => h) (Or.inl ⟨by rfl, ?hy100⟩) hHeld ?rest100
        case hy100 => (intro w' hSw; (try dsimp only at hSw); first | (go_simp; done) | (go_simp; with_reducible rfl))
        simp only [Act.put, pz0, pz1, pz2, pz3, pz4, pz5]
        refine wpAnyH_take (i := 27) (v := ?v101) rfl (by kernel_rfl) (by kernel_rfl) (by kernel_rfl) (fun _ _ _ h => h) (Or.inl ⟨by rfl, ?hy101⟩) hHeld ?rest101
        case hy101 => (intro w' hSw; (try dsimp only at hSw); first | (go_simp; done) | (go_simp; with_reducible rfl))
        simp only [Act.put, pz0, pz1, pz2, pz3, pz4, pz5]
        refine wpAnyH_take (i := 28) (v := ?v102) rfl (by kernel_rfl) (by kernel_rfl) (by kernel_rfl) (fun _ _ _ h => h) (Or.inl ⟨by rfl, ?hy102⟩) hHeld ?rest102
        case hy102 => (intro w' hSw; (try dsimp only at hSw); first | (go_simp; done) | (go_simp; with_reducible rfl))
        simp only [Act.put, pz0, pz1, pz2, pz3, pz4, pz5]
        refine wpAnyH_take (i := 29) (v := ?v103) rfl (by kernel_rfl) (by kernel_rfl) (by kernel_rfl) (fun _ _ _ h => h) (Or.inl ⟨by rfl, ?hy103⟩) hHeld ?rest103
        case hy103 => (intro w' hSw; (try dsimp only at hSw); first | (go_simp; done) | (go_simp; with_reducible rfl))
        simp only [Act.put, pz0, pz1, pz2, pz3, pz4, pz5]
        refine wpAnyH_take (i := 30) (v := ?v104) rfl (by kernel_rfl) (by kernel_rfl) (by kernel_rfl) (fun _ _ _ h => h) (Or.inl ⟨by rfl, ?hy104⟩) hHeld ?rest104
        case hy104 => (intro w' hSw; (try dsimp only at hSw); first | (go_simp; done) | (go_simp; with_reducible rfl))
        simp only [Act.put, pz0, pz1, pz2, pz3, pz4, pz5]
        refine wpAnyH_take (i := 31) (v := ?v105) rfl (by kernel_rfl) (by kernel_rfl) (by kernel_rfl) (fun _ _ _ h => h) (Or.inl ⟨by rfl, ?hy105⟩) hHeld ?rest105
        case hy105 => (intro w' hSw; (try dsimp only at hSw); first | (go_simp; done) | (go_simp; with_reducible rfl))
        simp only [Act.put, pz0, pz1, pz2, pz3, pz4, pz5]
        refine wpAnyH_take (i := 32) (v := ?v106) rfl (by kernel_rfl) (by kernel_rfl) (by kernel_rfl) (fun _ _ _ h => h) (Or.inl ⟨by rfl, ?hy106⟩) hHeld ?rest106
        case hy106 => (intro w' hSw; (try dsimp only at hSw); first | (go_simp; done) | (go_simp; with_reducible rfl))
        simp only [Act.put, pz0, pz1, pz2, pz3, pz4, pz5]
        refine wpAnyH_take (i := 33) (v := undef) rfl (by kernel_rfl) (by kernel_rfl) (by kernel_rfl) (fun _ _ _ h => h) (Or.inr ⟨by rfl, rfl⟩) hHeld ?_
        simp only [Act.put, pz0, pz1, pz2, pz3, pz4, pz5]
        refine wpAnyH_take (i := 34) (v := undef) rfl (by kernel_rfl) (by kernel_rfl) (by kernel_rfl) (fun _ _ _ h => h) (Or.inr ⟨by rfl, rfl⟩) hHeld ?_
        simp only [Act.put, pz0, pz1, pz2, pz3, pz4, pz5]
        refine wpAnyH_take (i := 35) (v := undef) rfl (by kernel_rfl) (by kernel_rfl) (by kernel_rfl) (fun _ _ _ h => h) (Or.inr ⟨by rfl, rfl⟩) hHeld ?_
        simp only [Act.put, pz0, pz1, pz2, pz3, pz4, pz5]
        refine wpAnyH_take (i := 36) (v := undef) rfl (by kernel_rfl) (by kernel_rfl) (by kernel_rfl) (fun _ _ _ h => h) (Or.inr ⟨by rfl, rfl⟩) hHeld ?_
        simp only [Act.put, pz0, pz1, pz2, pz3, pz4, pz5]
        refine wpAnyH_take (i := 37) (v := undef) rfl (by kernel_rfl) (by kernel_rfl) (by kernel_rfl) (fun _ _ _ h => h) (Or.inr ⟨by rfl, rfl⟩) hHeld ?_
        simp only [Act.put, pz0, pz1, pz2, pz3, pz4, pz5]
        refine wpAnyH_take (i := 38) (v := undef) rfl (by kernel_rfl) (by kernel_rfl) (by kernel_rfl) (fun _ _ _ h => h) (Or.inr ⟨by rfl, rfl⟩) hHeld ?_
        simp only [Act.put, pz0, pz1, pz2, pz3, pz4, pz5]
        refine wpAnyH_take (i := 39) (v := ?v107) rfl (by kernel_rfl) (by kernel_rfl) (by kernel_rfl) (fun _ _ _ h => h) (Or.inl ⟨by rfl, ?hy107⟩) hHeld ?rest107
        case hy107 => (intro w' hSw; (try dsimp only at hSw); first | (go_simp; done) | (go_simp; with_reducible rfl))
        simp only [Act.put, pz0, pz1, pz2, pz3, pz4, pz5]
        refine wpAnyH_take (i := 40) (v := ?v108) rfl (by kernel_rfl) (by kernel_rfl) (by kernel_rfl) (fun _ _ _ h => h) (Or.inl ⟨by rfl, ?hy108⟩) hHeld ?rest108
        case hy108 => (intro w' hSw; (try dsimp only at hSw); first | (go_simp; done) | (go_simp; with_reducible rfl))
        simp only [Act.put, pz0, pz1, pz2, pz3, pz4, pz5]
        refine wpAnyH_done (by kernel_rfl) ?_ _
        refine NoPanic.normal ?_
        have hz0 := hba.drew
        have rz0 := hr1.drew
        have hz1 := hz0.trans (hqb.mono hz0.size)
        have rz1 := rz0.below hqb
        have hz2 := hz1.trans (hqd.mono hz1.size)
        have rz2 := rz1.below hqd
        clear hHeld k0 k1 k2 k3 k4 k5 t0 t1 t2 t3 t4 t5
        go_wp2_with fail
        go_roundw
        case rel => exact ⟨k + 1, by omega, by go_num, HCA, HUQ, rz2, hz2⟩
        case measure => simp [intOf]; omega
      have e0 : (cl.d.k == 0) = false := by simpa using hd0
      have e1 : (cl.d.k != 0) = true := by simpa using hd0
      by_cases hdk : cl.d.k = cl.kind
      · skip
        have HCA := Lib.hid (HCN.out (by unfold colB fitsB; rw [kind_in, hn, hkd, hv, hdk]; simp))
        have e2 : (cl.d.k == cl.kind) = true := by simpa using hdk
        have e3 : (cl.d.k != cl.kind) = false := by simpa using hdk
        clear hkd hn hv hd0 hdk
        go_wp2_with fail
        generalize wr.alloc (.cells #[.string cl.name, .int .i64 cl.kind, .bool cl.nn, .int .i64 cl.d.k, .int .i64 cl.d.n, .string cl.d.s] 172) = x1 at *
        obtain ⟨⟨k0, k1, k2, k3, k4, k5⟩, -⟩ := rk.all6
        obtain ⟨⟨t0, t1, t2, t3, t4, t5⟩, -⟩ := hr1.all6
        refine wp_region_noPanic ?_
        refine wp_region_held_drew (S := fun w' => w'.cell? ⟨wr.heap.size, 0, none⟩ = some (.string cl.name) ∧ w'.cell? ⟨wr.heap.size, 1, none⟩ = some (.int .i64 cl.kind) ∧ w'.cell? ⟨wr.heap.size, 2, none⟩ = some (.bool cl.nn) ∧ w'.cell? ⟨wr.heap.size, 3, none⟩ = some (.int .i64 cl.d.k) ∧ w'.cell? ⟨wr.heap.size, 4, none⟩ = some (.int .i64 cl.d.n) ∧ w'.cell? ⟨wr.heap.size, 5, none⟩ = some (.string cl.d.s) ∧ w'.cell? ⟨w.heap.size, 1, none⟩ = some (.slice (some ⟨b, off, none⟩) x.cols.length c1)) (by kernel_rfl) ⟨k0, k1, k2, k3, k4, k5, t1⟩ (fun hHeld => ?_)
        refine wpAnyH_take (i := 0) (v := ?v109) rfl (by kernel_rfl) (by kernel_rfl) (by kernel_rfl) (fun _ _ _ h => h) (Or.inl ⟨by rfl, ?hy109⟩) hHeld ?rest109
        case hy109 => (intro w' hSw; (try dsimp only at hSw); first | (go_simp; done) | (go_simp; with_reducible rfl))
        simp only [Act.put, pz0, pz1, pz2, pz3, pz4, pz5]
        refine wpAnyH_take (i := 1) (v := ?v110) rfl (by kernel_rfl) (by kernel_rfl) (by kernel_rfl) (fun _ _ _ h => h) (Or.inl ⟨by rfl, ?hy110⟩) hHeld ?rest110
        case hy110 => (intro w' hSw; (try dsimp only at hSw); first | (go_simp; done) | (go_simp; with_reducible rfl))
        simp only [Act.put, pz0, pz1, pz2, pz3, pz4, pz5]
        refine wpAnyH_ready (rs := [2]) (by kernel_rfl) (by simp) ?_
        refine AllReadyH.cons rfl (fun K hK => ?_) AllReadyH.nil
        go_simp
        refine (specName _ _ HZ.out).mono ?_
        rintro e wa ⟨rfl, rfl⟩
        rw [HN.out]
        go_wp2_with fail
        refine hK.out _ _ hHeld (fun hHeld => ?_)
        clear hK K
        (try simp only [Act.put, pz0, pz1, pz2, pz3, pz4, pz5])
        refine wpAnyH_take (i := 3) (v := ?v111) rfl (by kernel_rfl) (by kernel_rfl) (by kernel_rfl) (fun _ _ _ h => h) (Or.inl ⟨by rfl, ?hy111⟩) hHeld ?rest111
        case hy111 => (intro w' hSw; (try dsimp only at hSw); first | (go_simp; done) | (go_simp; with_reducible rfl))
        simp only [Act.put, pz0, pz1, pz2, pz3, pz4, pz5]
        refine wpAnyH_take (i := 4) (v := ?v112) rfl (by kernel_rfl) (by kernel_rfl) (by kernel_rfl) (fun _ _ _ h => h) (Or.inl ⟨by rfl, ?hy112⟩) hHeld ?rest112
        case hy112 => (intro w' hSw; (try dsimp only at hSw); first | (go_simp; done) | (go_simp; with_reducible rfl))
        simp only [Act.put, pz0, pz1, pz2, pz3, pz4, pz5]
        refine wpAnyH_take (i := 5) (v := ?v113) rfl (by kernel_rfl) (by kernel_rfl) (by kernel_rfl) (fun _ _ _ h => h) (Or.inl ⟨by rfl, ?hy113⟩) hHeld ?rest113
        case hy113 => (intro w' hSw; (try dsimp only at hSw); first | (go_simp; done) | (go_simp; with_reducible rfl))
        simp only [Act.put, pz0, pz1, pz2, pz3, pz4, pz5]
        refine wpAnyH_take (i := 6) (v := ?v114) rfl (by kernel_rfl) (by kernel_rfl) (by kernel_rfl) (fun _ _ _ h => h) (Or.inl ⟨by rfl, ?hy114⟩) hHeld ?rest114
        case hy114 => (intro w' hSw; (try dsimp only at hSw); first | (go_simp; done) | (go_simp; with_reducible rfl))
        simp only [Act.put, pz0, pz1, pz2, pz3, pz4, pz5]
        refine wpAnyH_take (i := 7) (v := ?v115) rfl (by kernel_rfl) (by kernel_rfl) (by kernel_rfl) (fun _ _ _ h => h) (Or.inl ⟨by rfl, ?hy115⟩) hHeld ?rest115
        case hy115 => (intro w' hSw; (try dsimp only at hSw); first | (go_simp; done) | (go_simp; with_reducible rfl))
        simp only [Act.put, pz0, pz1, pz2, pz3, pz4, pz5]
        refine wpAnyH_take (i := 8) (v := ?v116) rfl (by kernel_rfl) (by kernel_rfl) (by kernel_rfl) (fun _ _ _ h => h) (Or.inl ⟨by rfl, ?hy116⟩) hHeld ?rest116
        case hy116 => (intro w' hSw; (try dsimp only at hSw); first | (go_simp; done) | (go_simp; with_reducible rfl))
        simp only [Act.put, pz0, pz1, pz2, pz3, pz4, pz5]
        refine wpAnyH_take (i := 9) (v := ?v117) rfl (by kernel_rfl) (by kernel_rfl) (by kernel_rfl) (fun _ _ _ h => h) (Or.inl ⟨by rfl, ?hy117⟩) hHeld ?rest117
        case hy117 => (intro w' hSw; (try dsimp only at hSw); first | (go_simp; done) | (go_simp; with_reducible rfl))
        simp only [Act.put, pz0, pz1, pz2, pz3, pz4, pz5]
        refine wpAnyH_take (i := 10) (v := ?v118) rfl (by kernel_rfl) (by kernel_rfl) (by kernel_rfl) (fun _ _ _ h => h) (Or.inl ⟨by rfl, ?hy118⟩) hHeld ?rest118
        case hy118 => (intro w' hSw; (try dsimp only at hSw); first | (go_simp; done) | (go_simp; with_reducible rfl))
        simp only [Act.put, pz0, pz1, pz2, pz3, pz4, pz5]
        refine wpAnyH_take (i := 11) (v := ?v119) rfl (by kernel_rfl) (by kernel_rfl) (by kernel_rfl) (fun _ _ _ h => h) (Or.inl ⟨by rfl, ?hy119⟩) hHeld ?rest119
        case hy119 => (intro w' hSw; (try dsimp only at hSw); first | (go_simp; done) | (go_simp; with_reducible rfl))
        simp only [Act.put, pz0, pz1, pz2, pz3, pz4, pz5]
        refine wpAnyH_ready (rs := [12]) (by kernel_rfl) (by simp) ?_
        refine AllReadyH.cons rfl (fun K hK => ?_) AllReadyH.nil
        go_simp
        refine (specColAt _ k c1 _ _ _ _ _ (x.cols.take k) _ ok _ ((hsl.drew ClR.stays).take (m := k) (by omega)) (by omega)).mono ?_
        rintro e wb ⟨rfl, hqb⟩
        rw [HA.out]
        go_wp2_with fail
        refine hK.out _ _ ⟨below_keep hqb _ _ hHeld.1, below_keep hqb _ _ hHeld.2.1, below_keep hqb _ _ hHeld.2.2.1, below_keep hqb _ _ hHeld.2.2.2.1, below_keep hqb _ _ hHeld.2.2.2.2.1, below_keep hqb _ _ hHeld.2.2.2.2.2.1, below_keep hqb _ _ hHeld.2.2.2.2.2.2⟩ (fun hHeld => ?_)
        clear hK K
        (try simp only [Act.put, pz0, pz1, pz2, pz3, pz4, pz5])
        refine wpAnyH_take (i := 13) (v := ?v120) rfl (by kernel_rfl) (by kernel_rfl) (by kernel_rfl) (fun _ _ _ h => h) (Or.inl ⟨by rfl, ?hy120⟩) hHeld ?rest120
        case hy120 => (intro w' hSw; (try dsimp only at hSw); first | (go_simp; done) | (go_simp; with_reducible rfl))
        simp only [Act.put, pz0, pz1, pz2, pz3, pz4, pz5]
        refine wpAnyH_take (i := 14) (v := ?v121) rfl (by kernel_rfl) (by kernel_rfl) (by kernel_rfl) (fun _ _ _ h => h) (Or.inl ⟨by rfl, ?hy121⟩) hHeld ?rest121
        case hy121 => (intro w' hSw; (try dsimp only at hSw); first | (go_simp; done) | (go_simp; with_reducible rfl))
        simp only [Act.put, pz0, pz1, pz2, pz3, pz4, pz5]
        refine wpAnyH_take (i := 15) (v := ?v122) rfl (by kernel_rfl) (by kernel_rfl) (by kernel_rfl) (fun _ _ _ h => h) (Or.inl ⟨by rfl, ?hy122⟩) hHeld ?rest122
        case hy122 => (intro w' hSw; (try dsimp only at hSw); first | (go_simp; done) | (go_simp; with_reducible rfl))
        simp only [Act.put, pz0, pz1, pz2, pz3, pz4, pz5]
        refine wpAnyH_take (i := 16) (v := ?v123) rfl (by kernel_rfl) (by kernel_rfl) (by kernel_rfl) (fun _ _ _ h => h) (Or.inl ⟨by rfl, ?hy123⟩) hHeld ?rest123
        case hy123 => (intro w' hSw; (try dsimp only at hSw); first | (go_simp; done) | (go_simp; with_reducible rfl))
        simp only [Act.put, pz0, pz1, pz2, pz3, pz4, pz5]
        refine wpAnyH_take (i := 17) (v := ?v124) rfl (by kernel_rfl) (by kernel_rfl) (by kernel_rfl) (fun _ _ _ h => h) (Or.inl ⟨by rfl, ?hy124⟩) hHeld ?rest124
        case hy124 => (intro w' hSw; (try dsimp only at hSw); first | (go_simp; done) | (go_simp; with_reducible rfl))
        simp only [Act.put, pz0, pz1, pz2, pz3, pz4, pz5]
        refine wpAnyH_ready (rs := [18]) (by kernel_rfl) (by simp) ?_
        refine AllReadyH.cons rfl (fun K hK => ?_) AllReadyH.nil
        go_simp
        refine (specIn _ _ _ _).mono ?_
        rintro e wc ⟨rfl, rfl⟩
        rw [HKD.out]
        go_wp2_with fail
        refine hK.out _ _ hHeld (fun hHeld => ?_)
        clear hK K
        (try simp only [Act.put, pz0, pz1, pz2, pz3, pz4, pz5])
        refine wpAnyH_take (i := 19) (v := ?v125) rfl (by kernel_rfl) (by kernel_rfl) (by kernel_rfl) (fun _ _ _ h => h) (Or.inl ⟨by rfl, ?hy125⟩) hHeld ?rest125
        case hy125 => (intro w' hSw; (try dsimp only at hSw); first | (go_simp; done) | (go_simp; with_reducible rfl))
        simp only [Act.put, pz0, pz1, pz2, pz3, pz4, pz5]
        refine wpAnyH_take (i := 20) (v := ?v126) rfl (by kernel_rfl) (by kernel_rfl) (by kernel_rfl) (fun _ _ _ h => h) (Or.inl ⟨by rfl, ?hy126⟩) hHeld ?rest126
        case hy126 => (intro w' hSw; (try dsimp only at hSw); first | (go_simp; done) | (go_simp; with_reducible rfl))
        simp only [Act.put, pz0, pz1, pz2, pz3, pz4, pz5]
        refine wpAnyH_take (i := 21) (v := ?v127) rfl (by kernel_rfl) (by kernel_rfl) (by kernel_rfl) (fun _ _ _ h => h) (Or.inl ⟨by rfl, ?hy127⟩) hHeld ?rest127
        case hy127 => (intro w' hSw; (try dsimp only at hSw); first | (go_simp; done) | (go_simp; with_reducible rfl))
        simp only [Act.put, pz0, pz1, pz2, pz3, pz4, pz5]
        refine wpAnyH_take (i := 22) (v := ?v128) rfl (by kernel_rfl) (by kernel_rfl) (by kernel_rfl) (fun _ _ _ h => h) (Or.inl ⟨by rfl, ?hy128⟩) hHeld ?rest128
        case hy128 => (intro w' hSw; (try dsimp only at hSw); first | (go_simp; done) | (go_simp; with_reducible rfl))
        simp only [Act.put, pz0, pz1, pz2, pz3, pz4, pz5]
        refine wpAnyH_take (i := 23) (v := ?v129) rfl (by kernel_rfl) (by kernel_rfl) (by kernel_rfl) (fun _ _ _ h => h) (Or.inl ⟨by rfl, ?hy129⟩) hHeld ?rest129
        case hy129 => (intro w' hSw; (try dsimp only at hSw); first | (go_simp; done) | (go_simp; with_reducible rfl))
        simp only [Act.put, pz0, pz1, pz2, pz3, pz4, pz5]
        refine wpAnyH_ready (rs := [24]) (by kernel_rfl) (by simp) ?_
        refine AllReadyH.cons rfl (fun K hK => ?_) AllReadyH.nil
        go_simp
        refine (specValOk _ _ _ _).mono ?_
        rintro e wd ⟨rfl, hqd⟩
        rw [HV.out]
        go_wp2_with fail
        refine hK.out _ _ ⟨below_keep hqd _ _ hHeld.1, below_keep hqd _ _ hHeld.2.1, below_keep hqd _ _ hHeld.2.2.1, below_keep hqd _ _ hHeld.2.2.2.1, below_keep hqd _ _ hHeld.2.2.2.2.1, below_keep hqd _ _ hHeld.2.2.2.2.2.1, below_keep hqd _ _ hHeld.2.2.2.2.2.2⟩ (fun hHeld => ?_)
        clear hK K
        (try simp only [Act.put, pz0, pz1, pz2, pz3, pz4, pz5])
        refine wpAnyH_take (i := 25) (v := ?v130) rfl (by kernel_rfl) (by kernel_rfl) (by kernel_rfl) (fun _ _ _ h => h) (Or.inl ⟨by rfl, ?hy130⟩) hHeld ?rest130
        case hy130 => (intro w' hSw; (try dsimp only at hSw); first | (go_simp; done) | (go_simp; with_reducible rfl))
        simp only [Act.put, pz0, pz1, pz2, pz3, pz4, pz5]
        refine wpAnyH_take (i := 26) (v := ?v131) rfl (by kernel_rfl) (by kernel_rfl) (by kernel_rfl) (fun _ _ _ h => h) (Or.inl ⟨by rfl, ?hy131⟩) hHeld ?rest131
        case hy131 => (intro w' hSw; (try dsimp only at hSw); first | (go_simp; done) | (go_simp; with_reducible rfl))
        simp only [Act.put, pz0, pz1, pz2, pz3, pz4, pz5]
        refine wpAnyH_take (i := 27) (v := ?v132) rfl (by kernel_rfl) (by kernel_rfl) (by kernel_rfl) (fun _ _ _ h => h) (Or.inl ⟨by rfl, ?hy132⟩) hHeld ?rest132
        case hy132 => (intro w' hSw; (try dsimp only at hSw); first | (go_simp; done) | (go_simp; with_reducible rfl))
        simp only [Act.put, pz0, pz1, pz2, pz3, pz4, pz5]
        refine wpAnyH_take (i := 28) (v := ?v133) rfl (by kernel_rfl) (by kernel_rfl) (by kernel_rfl) (fun _ _ _ h => h) (Or.inl ⟨by rfl, ?hy133⟩) hHeld ?rest133
        case hy133 => (intro w' hSw; (try dsimp only at hSw); first | (go_simp; done) | (go_simp; with_reducible rfl))
        simp only [Act.put, pz0, pz1, pz2, pz3, pz4, pz5]
        refine wpAnyH_take (i := 29) (v := ?v134) rfl (by kernel_rfl) (by kernel_rfl) (by kernel_rfl) (fun _ _ _ h => h) (Or.inl ⟨by rfl, ?hy134⟩) hHeld ?rest134
        case hy134 => (intro w' hSw; (try dsimp only at hSw); first | (go_simp; done) | (go_simp; with_reducible rfl))
        simp only [Act.put, pz0, pz1, pz2, pz3, pz4, pz5]
        refine wpAnyH_take (i := 30) (v := ?v135) rfl (by kernel_rfl) (by kernel_rfl) (by kernel_rfl) (fun _ _ _ h => h) (Or.inl ⟨by rfl, ?hy135⟩) hHeld ?rest135
        case hy135 => (intro w' hSw; (try dsimp only at hSw); first | (go_simp; done) | (go_simp; with_reducible rfl))
        simp only [Act.put, pz0, pz1, pz2, pz3, pz4, pz5]
        refine wpAnyH_take (i := 31) (v := ?v136) rfl (by kernel_rfl) (by kernel_rfl) (by kernel_rfl) (fun _ _ _ h => h) (Or.inl ⟨by rfl, ?hy136⟩) hHeld ?rest136
        case hy136 => (intro w' hSw; (try dsimp only at hSw); first | (go_simp; done) | (go_simp; with_reducible rfl))
        simp only [Act.put, pz0, pz1, pz2, pz3, pz4, pz5]
        refine wpAnyH_take (i := 32) (v := ?v137) rfl (by kernel_rfl) (by kernel_rfl) (by kernel_rfl) (fun _ _ _ h => h) (Or.inl ⟨by rfl, ?hy137⟩) hHeld ?rest137
        case hy137 => (intro w' hSw; (try dsimp only at hSw); first | (go_simp; done) | (go_simp; with_reducible rfl))
        simp only [Act.put, pz0, pz1, pz2, pz3, pz4, pz5]
        refine wpAnyH_take (i := 33) (v := ?v138) rfl (by kernel_rfl) (by kernel_rfl) (by kernel_rfl) (fun _ _ _ h => h) (Or.inl ⟨by rfl, ?hy138⟩) hHeld ?rest138
        case hy138 => (intro w' hSw; (try dsimp only at hSw); first | (go_simp; done) | (go_simp; with_reducible rfl))
        simp only [Act.put, pz0, pz1, pz2, pz3, pz4, pz5]
        refine wpAnyH_take (i := 34) (v := ?v139) rfl (by kernel_rfl) (by kernel_rfl) (by kernel_rfl) (fun _ _ _ h => h) (Or.inl ⟨by rfl, ?hy139⟩) hHeld ?rest139
        case hy139 => (intro w' hSw; (try dsimp only at hSw); first | (go_simp; done) | (go_simp; with_reducible rfl))
        simp only [Act.put, pz0, pz1, pz2, pz3, pz4, pz5]
        refine wpAnyH_take (i := 35) (v := ?v140) rfl (by kernel_rfl) (by kernel_rfl) (by kernel_rfl) (fun _ _ _ h => h) (Or.inl ⟨by rfl, ?hy140⟩) hHeld ?rest140
        case hy140 => (intro w' hSw; (try dsimp only at hSw); first | (go_simp; done) | (go_simp; with_reducible rfl))
        simp only [Act.put, pz0, pz1, pz2, pz3, pz4, pz5]
        refine wpAnyH_take (i := 36) (v := ?v141) rfl (by kernel_rfl) (by kernel_rfl) (by kernel_rfl) (fun _ _ _ h => h) (Or.inl ⟨by rfl, ?hy141⟩) hHeld ?rest141
        case hy141 => (intro w' hSw; (try dsimp only at hSw); first | (go_simp; done) | (go_simp; with_reducible rfl))
        simp only [Act.put, pz0, pz1, pz2, pz3, pz4, pz5]
        refine wpAnyH_take (i := 37) (v := ?v142) rfl (by kernel_rfl) (by kernel_rfl) (by kernel_rfl) (fun _ _ _ h => h) (Or.inl ⟨by rfl, ?hy142⟩) hHeld ?rest142
        case hy142 => (intro w' hSw; (try dsimp only at hSw); first | (go_simp; done) | (go_simp; with_reducible rfl))
        simp only [Act.put, pz0, pz1, pz2, pz3, pz4, pz5]
        refine wpAnyH_take (i := 38) (v := ?v143) rfl (by kernel_rfl) (by kernel_rfl) (by kernel_rfl) (fun _ _ _ h => h) (Or.inl ⟨by rfl, ?hy143⟩) hHeld ?rest143
        case hy143 => (intro w' hSw; (try dsimp only at hSw); first | (go_simp; done) | (go_simp; with_reducible rfl))
        simp only [Act.put, pz0, pz1, pz2, pz3, pz4, pz5]
        refine wpAnyH_take (i := 39) (v := ?v144) rfl (by kernel_rfl) (by kernel_rfl) (by kernel_rfl) (fun _ _ _ h => h) (Or.inl ⟨by rfl, ?hy144⟩) hHeld ?rest144
        case hy144 => (intro w' hSw; (try dsimp only at hSw); first | (go_simp; done) | (go_simp; with_reducible rfl))
        simp only [Act.put, pz0, pz1, pz2, pz3, pz4, pz5]
        refine wpAnyH_take (i := 40) (v := ?v145) rfl (by kernel_rfl) (by kernel_rfl) (by kernel_rfl) (fun _ _ _ h => h) (Or.inl ⟨by rfl, ?hy145⟩) hHeld ?rest145
        case hy145 => (intro w' hSw; (try dsimp only at hSw); first | (go_simp; done) | (go_simp; with_reducible rfl))
        simp only [Act.put, pz0, pz1, pz2, pz3, pz4, pz5]
        refine wpAnyH_done (by kernel_rfl) ?_ _
        refine NoPanic.normal ?_
        have hz0 := hba.drew
        have rz0 := hr1.drew
        have hz1 := hz0.trans (hqb.mono hz0.size)
        have rz1 := rz0.below hqb
        have hz2 := hz1.trans (hqd.mono hz1.size)
        have rz2 := rz1.below hqd
        clear hHeld k0 k1 k2 k3 k4 k5 t0 t1 t2 t3 t4 t5
        go_wp2_with fail
        go_roundw
        case rel => exact ⟨k + 1, by omega, by go_num, HCA, HUQ, rz2, hz2⟩
        case measure => simp [intOf]; omega
      · skip
        have HF := Lib.hid (HNO.out (by unfold colB fitsB; rw [e0, show (cl.d.k == cl.kind) = false by simpa using hdk]; simp))
        have e2 : (cl.d.k == cl.kind) = false := by simpa using hdk
        have e3 : (cl.d.k != cl.kind) = true := by simpa using hdk
        clear hkd hn hv hd0 hdk
        go_wp2_with fail
        generalize wr.alloc (.cells #[.string cl.name, .int .i64 cl.kind, .bool cl.nn, .int .i64 cl.d.k, .int .i64 cl.d.n, .string cl.d.s] 172) = x1 at *
        obtain ⟨⟨k0, k1, k2, k3, k4, k5⟩, -⟩ := rk.all6
        obtain ⟨⟨t0, t1, t2, t3, t4, t5⟩, -⟩ := hr1.all6
        refine wp_region_noPanic ?_
        refine wp_region_held_drew (S := fun w' => w'.cell? ⟨wr.heap.size, 0, none⟩ = some (.string cl.name) ∧ w'.cell? ⟨wr.heap.size, 1, none⟩ = some (.int .i64 cl.kind) ∧ w'.cell? ⟨wr.heap.size, 2, none⟩ = some (.bool cl.nn) ∧ w'.cell? ⟨wr.heap.size, 3, none⟩ = some (.int .i64 cl.d.k) ∧ w'.cell? ⟨wr.heap.size, 4, none⟩ = some (.int .i64 cl.d.n) ∧ w'.cell? ⟨wr.heap.size, 5, none⟩ = some (.string cl.d.s) ∧ w'.cell? ⟨w.heap.size, 1, none⟩ = some (.slice (some ⟨b, off, none⟩) x.cols.length c1)) (by kernel_rfl) ⟨k0, k1, k2, k3, k4, k5, t1⟩ (fun hHeld => ?_)
        refine wpAnyH_take (i := 0) (v := ?v146) rfl (by kernel_rfl) (by kernel_rfl) (by kernel_rfl) (fun _ _ _ h => h) (Or.inl ⟨by rfl, ?hy146⟩) hHeld ?rest146
        case hy146 => (intro w' hSw; (try dsimp only at hSw); first | (go_simp; done) | (go_simp; with_reducible rfl))
        simp only [Act.put, pz0, pz1, pz2, pz3, pz4, pz5]
        refine wpAnyH_take (i := 1) (v := ?v147) rfl (by kernel_rfl) (by kernel_rfl) (by kernel_rfl) (fun _ _ _ h => h) (Or.inl ⟨by rfl, ?hy147⟩) hHeld ?rest147
        case hy147 => (intro w' hSw; (try dsimp only at hSw); first | (go_simp; done) | (go_simp; with_reducible rfl))
        simp only [Act.put, pz0, pz1, pz2, pz3, pz4, pz5]
        refine wpAnyH_ready (rs := [2]) (by kernel_rfl) (by simp) ?_
        refine AllReadyH.cons rfl (fun K hK => ?_) AllReadyH.nil
        go_simp
        refine (specName _ _ HZ.out).mono ?_
        rintro e wa ⟨rfl, rfl⟩
        rw [HN.out]
        go_wp2_with fail
        refine hK.out _ _ hHeld (fun hHeld => ?_)
        clear hK K
        (try simp only [Act.put, pz0, pz1, pz2, pz3, pz4, pz5])
        refine wpAnyH_take (i := 3) (v := ?v148) rfl (by kernel_rfl) (by kernel_rfl) (by kernel_rfl) (fun _ _ _ h => h) (Or.inl ⟨by rfl, ?hy148⟩) hHeld ?rest148
        case hy148 => (intro w' hSw; (try dsimp only at hSw); first | (go_simp; done) | (go_simp; with_reducible rfl))
        simp only [Act.put, pz0, pz1, pz2, pz3, pz4, pz5]
        refine wpAnyH_take (i := 4) (v := ?v149) rfl (by kernel_rfl) (by kernel_rfl) (by kernel_rfl) (fun _ _ _ h => h) (Or.inl ⟨by rfl, ?hy149⟩) hHeld ?rest149
        case hy149 => (intro w' hSw; (try dsimp only at hSw); first | (go_simp; done) | (go_simp; with_reducible rfl))
        simp only [Act.put, pz0, pz1, pz2, pz3, pz4, pz5]
        refine wpAnyH_take (i := 5) (v := ?v150) rfl (by kernel_rfl) (by kernel_rfl) (by kernel_rfl) (fun _ _ _ h => h) (Or.inl ⟨by rfl, ?hy150⟩) hHeld ?rest150
        case hy150 => (intro w' hSw; (try dsimp only at hSw); first | (go_simp; done) | (go_simp; with_reducible rfl))
        simp only [Act.put, pz0, pz1, pz2, pz3, pz4, pz5]
        refine wpAnyH_take (i := 6) (v := ?v151) rfl (by kernel_rfl) (by kernel_rfl) (by kernel_rfl) (fun _ _ _ h => h) (Or.inl ⟨by rfl, ?hy151⟩) hHeld ?rest151
        case hy151 => (intro w' hSw; (try dsimp only at hSw); first | (go_simp; done) | (go_simp; with_reducible rfl))
        simp only [Act.put, pz0, pz1, pz2, pz3, pz4, pz5]
        refine wpAnyH_take (i := 7) (v := ?v152) rfl (by kernel_rfl) (by kernel_rfl) (by kernel_rfl) (fun _ _ _ h => h) (Or.inl ⟨by rfl, ?hy152⟩) hHeld ?rest152
        case hy152 => (intro w' hSw; (try dsimp only at hSw); first | (go_simp; done) | (go_simp; with_reducible rfl))
        simp only [Act.put, pz0, pz1, pz2, pz3, pz4, pz5]
        refine wpAnyH_take (i := 8) (v := ?v153) rfl (by kernel_rfl) (by kernel_rfl) (by kernel_rfl) (fun _ _ _ h => h) (Or.inl ⟨by rfl, ?hy153⟩) hHeld ?rest153
        case hy153 => (intro w' hSw; (try dsimp only at hSw); first | (go_simp; done) | (go_simp; with_reducible rfl))
        simp only [Act.put, pz0, pz1, pz2, pz3, pz4, pz5]
        refine wpAnyH_take (i := 9) (v := ?v154) rfl (by kernel_rfl) (by kernel_rfl) (by kernel_rfl) (fun _ _ _ h => h) (Or.inl ⟨by rfl, ?hy154⟩) hHeld ?rest154
        case hy154 => (intro w' hSw; (try dsimp only at hSw); first | (go_simp; done) | (go_simp; with_reducible rfl))
        simp only [Act.put, pz0, pz1, pz2, pz3, pz4, pz5]
        refine wpAnyH_take (i := 10) (v := ?v155) rfl (by kernel_rfl) (by kernel_rfl) (by kernel_rfl) (fun _ _ _ h => h) (Or.inl ⟨by rfl, ?hy155⟩) hHeld ?rest155
        case hy155 => (intro w' hSw; (try dsimp only at hSw); first | (go_simp; done) | (go_simp; with_reducible rfl))
        simp only [Act.put, pz0, pz1, pz2, pz3, pz4, pz5]
        refine wpAnyH_take (i := 11) (v := ?v156) rfl (by kernel_rfl) (by kernel_rfl) (by kernel_rfl) (fun _ _ _ h => h) (Or.inl ⟨by rfl, ?hy156⟩) hHeld ?rest156
        case hy156 => (intro w' hSw; (try dsimp only at hSw); first | (go_simp; done) | (go_simp; with_reducible rfl))
        simp only [Act.put, pz0, pz1, pz2, pz3, pz4, pz5]
        refine wpAnyH_ready (rs := [12]) (by kernel_rfl) (by simp) ?_
        refine AllReadyH.cons rfl (fun K hK => ?_) AllReadyH.nil
        go_simp
        refine (specColAt _ k c1 _ _ _ _ _ (x.cols.take k) _ ok _ ((hsl.drew ClR.stays).take (m := k) (by omega)) (by omega)).mono ?_
        rintro e wb ⟨rfl, hqb⟩
        rw [HA.out]
        go_wp2_with fail
        refine hK.out _ _ ⟨below_keep hqb _ _ hHeld.1, below_keep hqb _ _ hHeld.2.1, below_keep hqb _ _ hHeld.2.2.1, below_keep hqb _ _ hHeld.2.2.2.1, below_keep hqb _ _ hHeld.2.2.2.2.1, below_keep hqb _ _ hHeld.2.2.2.2.2.1, below_keep hqb _ _ hHeld.2.2.2.2.2.2⟩ (fun hHeld => ?_)
        clear hK K
        (try simp only [Act.put, pz0, pz1, pz2, pz3, pz4, pz5])
        refine wpAnyH_take (i := 13) (v := ?v157) rfl (by kernel_rfl) (by kernel_rfl) (by kernel_rfl) (fun _ _ _ h => h) (Or.inl ⟨by rfl, ?hy157⟩) hHeld ?rest157
        case hy157 => (intro w' hSw; (try dsimp only at hSw); first | (go_simp; done) | (go_simp; with_reducible rfl))
        simp only [Act.put, pz0, pz1, pz2, pz3, pz4, pz5]
        refine wpAnyH_take (i := 14) (v := ?v158) rfl (by kernel_rfl) (by kernel_rfl) (by kernel_rfl) (fun _ _ _ h => h) (Or.inl ⟨by rfl, ?hy158⟩) hHeld ?rest158
        case hy158 => (intro w' hSw; (try dsimp only at hSw); first | (go_simp; done) | (go_simp; with_reducible rfl))
        simp only [Act.put, pz0, pz1, pz2, pz3, pz4, pz5]
        refine wpAnyH_take (i := 15) (v := ?v159) rfl (by kernel_rfl) (by kernel_rfl) (by kernel_rfl) (fun _ _ _ h => h) (Or.inl ⟨by rfl, ?hy159⟩) hHeld ?rest159
        case hy159 => (intro w' hSw; (try dsimp only at hSw); first | (go_simp; done) | (go_simp; with_reducible rfl))
        simp only [Act.put, pz0, pz1, pz2, pz3, pz4, pz5]
        refine wpAnyH_take (i := 16) (v := ?v160) rfl (by kernel_rfl) (by kernel_rfl) (by kernel_rfl) (fun _ _ _ h => h) (Or.inl ⟨by rfl, ?hy160⟩) hHeld ?rest160
        case hy160 => (intro w' hSw; (try dsimp only at hSw); first | (go_simp; done) | (go_simp; with_reducible rfl))
        simp only [Act.put, pz0, pz1, pz2, pz3, pz4, pz5]
        refine wpAnyH_take (i := 17) (v := ?v161) rfl (by kernel_rfl) (by kernel_rfl) (by kernel_rfl) (fun _ _ _ h => h) (Or.inl ⟨by rfl, ?hy161⟩) hHeld ?rest161
        case hy161 => (intro w' hSw; (try dsimp only at hSw); first | (go_simp; done) | (go_simp; with_reducible rfl))
        simp only [Act.put, pz0, pz1, pz2, pz3, pz4, pz5]
        refine wpAnyH_ready (rs := [18]) (by kernel_rfl) (by simp) ?_
        refine AllReadyH.cons rfl (fun K hK => ?_) AllReadyH.nil
        go_simp
        refine (specIn _ _ _ _).mono ?_
        rintro e wc ⟨rfl, rfl⟩
        rw [HKD.out]
        go_wp2_with fail
        refine hK.out _ _ hHeld (fun hHeld => ?_)
        clear hK K
        (try simp only [Act.put, pz0, pz1, pz2, pz3, pz4, pz5])
        refine wpAnyH_take (i := 19) (v := ?v162) rfl (by kernel_rfl) (by kernel_rfl) (by kernel_rfl) (fun _ _ _ h => h) (Or.inl ⟨by rfl, ?hy162⟩) hHeld ?rest162
        case hy162 => (intro w' hSw; (try dsimp only at hSw); first | (go_simp; done) | (go_simp; with_reducible rfl))
        simp only [Act.put, pz0, pz1, pz2, pz3, pz4, pz5]
        refine wpAnyH_take (i := 20) (v := ?v163) rfl (by kernel_rfl) (by kernel_rfl) (by kernel_rfl) (fun _ _ _ h => h) (Or.inl ⟨by rfl, ?hy163⟩) hHeld ?rest163
        case hy163 => (intro w' hSw; (try dsimp only at hSw); first | (go_simp; done) | (go_simp; with_reducible rfl))
        simp only [Act.put, pz0, pz1, pz2, pz3, pz4, pz5]
        refine wpAnyH_take (i := 21) (v := ?v164) rfl (by kernel_rfl) (by kernel_rfl) (by kernel_rfl) (fun _ _ _ h => h) (Or.inl ⟨by rfl, ?hy164⟩) hHeld ?rest164
        case hy164 => (intro w' hSw; (try dsimp only at hSw); first | (go_simp; done) | (go_simp; with_reducible rfl))
        simp only [Act.put, pz0, pz1, pz2, pz3, pz4, pz5]
        refine wpAnyH_take (i := 22) (v := ?v165) rfl (by kernel_rfl) (by kernel_rfl) (by kernel_rfl) (fun _ _ _ h => h) (Or.inl ⟨by rfl, ?hy165⟩) hHeld ?rest165
        case hy165 => (intro w' hSw; (try dsimp only at hSw); first | (go_simp; done) | (go_simp; with_reducible rfl))
        simp only [Act.put, pz0, pz1, pz2, pz3, pz4, pz5]
        refine wpAnyH_take (i := 23) (v := ?v166) rfl (by kernel_rfl) (by kernel_rfl) (by kernel_rfl) (fun _ _ _ h => h) (Or.inl ⟨by rfl, ?hy166⟩) hHeld ?rest166
        case hy166 => (intro w' hSw; (try dsimp only at hSw); first | (go_simp; done) | (go_simp; with_reducible rfl))
        simp only [Act.put, pz0, pz1, pz2, pz3, pz4, pz5]
        refine wpAnyH_ready (rs := [24]) (by kernel_rfl) (by simp) ?_
        refine AllReadyH.cons rfl (fun K hK => ?_) AllReadyH.nil
        go_simp
        refine (specValOk _ _ _ _).mono ?_
        rintro e wd ⟨rfl, hqd⟩
        rw [HV.out]
        go_wp2_with fail
        refine hK.out _ _ ⟨below_keep hqd _ _ hHeld.1, below_keep hqd _ _ hHeld.2.1, below_keep hqd _ _ hHeld.2.2.1, below_keep hqd _ _ hHeld.2.2.2.1, below_keep hqd _ _ hHeld.2.2.2.2.1, below_keep hqd _ _ hHeld.2.2.2.2.2.1, below_keep hqd _ _ hHeld.2.2.2.2.2.2⟩ (fun hHeld => ?_)
        clear hK K
        (try simp only [Act.put, pz0, pz1, pz2, pz3, pz4, pz5])
        refine wpAnyH_take (i := 25) (v := ?v167) rfl (by kernel_rfl) (by kernel_rfl) (by kernel_rfl) (fun _ _ _ h => h) (Or.inl ⟨by rfl, ?hy167⟩) hHeld ?rest167
        case hy167 => (intro w' hSw; (try dsimp only at hSw); first | (go_simp; done) | (go_simp; with_reducible rfl))
        simp only [Act.put, pz0, pz1, pz2, pz3, pz4, pz5]
        refine wpAnyH_take (i := 26) (v := ?v168) rfl (by kernel_rfl) (by kernel_rfl) (by kernel_rfl) (fun _ _ _ h => h) (Or.inl ⟨by rfl, ?hy168⟩) hHeld ?rest168
        case hy168 => (intro w' hSw; (try dsimp only at hSw); first | (go_simp; done) | (go_simp; with_reducible rfl))
        simp only [Act.put, pz0, pz1, pz2, pz3, pz4, pz5]
        refine wpAnyH_take (i := 27) (v := ?v169) rfl (by kernel_rfl) (by kernel_rfl) (by kernel_rfl) (fun _ _ _ h => h) (Or.inl ⟨by rfl, ?hy169⟩) hHeld ?rest169
        case hy169 => (intro w' hSw; (try dsimp only at hSw); first | (go_simp; done) | (go_simp; with_reducible rfl))
        simp only [Act.put, pz0, pz1, pz2, pz3, pz4, pz5]
        refine wpAnyH_take (i := 28) (v := ?v170) rfl (by kernel_rfl) (by kernel_rfl) (by kernel_rfl) (fun _ _ _ h => h) (Or.inl ⟨by rfl, ?hy170⟩) hHeld ?rest170
        case hy170 => (intro w' hSw; (try dsimp only at hSw); first | (go_simp; done) | (go_simp; with_reducible rfl))
        simp only [Act.put, pz0, pz1, pz2, pz3, pz4, pz5]
        refine wpAnyH_take (i := 29) (v := ?v171) rfl (by kernel_rfl) (by kernel_rfl) (by kernel_rfl) (fun _ _ _ h => h) (Or.inl ⟨by rfl, ?hy171⟩) hHeld ?rest171
        case hy171 => (intro w' hSw; (try dsimp only at hSw); first | (go_simp; done) | (go_simp; with_reducible rfl))
        simp only [Act.put, pz0, pz1, pz2, pz3, pz4, pz5]
        refine wpAnyH_take (i := 30) (v := ?v172) rfl (by kernel_rfl) (by kernel_rfl) (by kernel_rfl) (fun _ _ _ h => h) (Or.inl ⟨by rfl, ?hy172⟩) hHeld ?rest172
        case hy172 => (intro w' hSw; (try dsimp only at hSw); first | (go_simp; done) | (go_simp; with_reducible rfl))
        simp only [Act.put, pz0, pz1, pz2, pz3, pz4, pz5]
        refine wpAnyH_take (i := 31) (v := ?v173) rfl (by kernel_rfl) (by kernel_rfl) (by kernel_rfl) (fun _ _ _ h => h) (Or.inl ⟨by rfl, ?hy173⟩) hHeld ?rest173
        case hy173 => (intro w' hSw; (try dsimp only at hSw); first | (go_simp; done) | (go_simp; with_reducible rfl))
        simp only [Act.put, pz0, pz1, pz2, pz3, pz4, pz5]
        refine wpAnyH_take (i := 32) (v := ?v174) rfl (by kernel_rfl) (by kernel_rfl) (by kernel_rfl) (fun _ _ _ h => h) (Or.inl ⟨by rfl, ?hy174⟩) hHeld ?rest174
        case hy174 => (intro w' hSw; (try dsimp only at hSw); first | (go_simp; done) | (go_simp; with_reducible rfl))
        simp only [Act.put, pz0, pz1, pz2, pz3, pz4, pz5]
        refine wpAnyH_take (i := 33) (v := ?v175) rfl (by kernel_rfl) (by kernel_rfl) (by kernel_rfl) (fun _ _ _ h => h) (Or.inl ⟨by rfl, ?hy175⟩) hHeld ?rest175
        case hy175 => (intro w' hSw; (try dsimp only at hSw); first | (go_simp; done) | (go_simp; with_reducible rfl))
        simp only [Act.put, pz0, pz1, pz2, pz3, pz4, pz5]
        refine wpAnyH_take (i := 34) (v := ?v176) rfl (by kernel_rfl) (by kernel_rfl) (by kernel_rfl) (fun _ _ _ h => h) (Or.inl ⟨by rfl, ?hy176⟩) hHeld ?rest176
        case hy176 => (intro w' hSw; (try dsimp only at hSw); first | (go_simp; done) | (go_simp; with_reducible rfl))
        simp only [Act.put, pz0, pz1, pz2, pz3, pz4, pz5]
        refine wpAnyH_take (i := 35) (v := ?v177) rfl (by kernel_rfl) (by kernel_rfl) (by kernel_rfl) (fun _ _ _ h => h) (Or.inl ⟨by rfl, ?hy177⟩) hHeld ?rest177
        case hy177 => (intro w' hSw; (try dsimp only at hSw); first | (go_simp; done) | (go_simp; with_reducible rfl))
        simp only [Act.put, pz0, pz1, pz2, pz3, pz4, pz5]
        refine wpAnyH_take (i := 36) (v := ?v178) rfl (by kernel_rfl) (by kernel_rfl) (by kernel_rfl) (fun _ _ _ h => h) (Or.inl ⟨by rfl, ?hy178⟩) hHeld ?rest178
        case hy178 => (intro w' hSw; (try dsimp only at hSw); first | (go_simp; done) | (go_simp; with_reducible rfl))
        simp only [Act.put, pz0, pz1, pz2, pz3, pz4, pz5]
        refine wpAnyH_take (i := 37) (v := ?v179) rfl (by kernel_rfl) (by kernel_rfl) (by kernel_rfl) (fun _ _ _ h => h) (Or.inl ⟨by rfl, ?hy179⟩) hHeld ?rest179
        case hy179 => (intro w' hSw; (try dsimp only at hSw); first | (go_simp; done) | (go_simp; with_reducible rfl))
        simp only [Act.put, pz0, pz1, pz2, pz3, pz4, pz5]
        refine wpAnyH_take (i := 38) (v := ?v180) rfl (by kernel_rfl) (by kernel_rfl) (by kernel_rfl) (fun _ _ _ h => h) (Or.inl ⟨by rfl, ?hy180⟩) hHeld ?rest180
        case hy180 => (intro w' hSw; (try dsimp only at hSw); first | (go_simp; done) | (go_simp; with_reducible rfl))
        simp only [Act.put, pz0, pz1, pz2, pz3, pz4, pz5]
        refine wpAnyH_take (i := 39) (v := ?v181) rfl (by kernel_rfl) (by kernel_rfl) (by kernel_rfl) (fun _ _ _ h => h) (Or.inl ⟨by rfl, ?hy181⟩) hHeld ?rest181
        case hy181 => (intro w' hSw; (try dsimp only at hSw); first | (go_simp; done) | (go_simp; with_reducible rfl))
        simp only [Act.put, pz0, pz1, pz2, pz3, pz4, pz5]
        refine wpAnyH_take (i := 40) (v := ?v182) rfl (by kernel_rfl) (by kernel_rfl) (by kernel_rfl) (fun _ _ _ h => h) (Or.inl ⟨by rfl, ?hy182⟩) hHeld ?rest182
        case hy182 => (intro w' hSw; (try dsimp only at hSw); first | (go_simp; done) | (go_simp; with_reducible rfl))
        simp only [Act.put, pz0, pz1, pz2, pz3, pz4, pz5]
        refine wpAnyH_done (by kernel_rfl) ?_ _
        refine NoPanic.normal ?_
        have hz0 := hba.drew
        have rz0 := hr1.drew
        have hz1 := hz0.trans (hqb.mono hz0.size)
        have rz1 := rz0.below hqb
        have hz2 := hz1.trans (hqd.mono hz1.size)
        have rz2 := rz1.below hqd
        clear hHeld k0 k1 k2 k3 k4 k5 t0 t1 t2 t3 t4 t5
        go_wp2_with fail
        go_ret
        exact ⟨retB HF.out.symm, hz2⟩
    · have e : x.cols.take k = x.cols := List.take_of_length_le (by omega)
      have e2 : (x.cols.map Cl.name).drop k = [] := List.drop_eq_nil_of_le (by simp; omega)
      have g1 := hall.out
      have g2 := huq.out
      rw [e] at g1
      rw [e2] at g2
      have HC := Lib.hid (show colsB x.cols = true by
        unfold colsB; rw [g1, g2]
        have := H8.out
        simp at this
        simp [uniqGo]; omega)
      clear e e2 g1 g2 hall huq a0 a1 a2 a3 a4 a5
      obtain ⟨⟨a0, a1, a2, a3, a4, a5⟩, -⟩ := hr.all6
      go_wp2_with fail
      clear a0 a1 a2 a3 a4 a5
      go_loopw [6] (fun i wr => ∃ k : Nat, k ≤ x.key.length ∧ i = .int .i64 k ∧ Hid ((x.key.take k).all (nnAt x.cols) = true) ∧ Row wr w.heap.size 86 #[.string x.name, .slice A1 x.cols.length c1, .slice A2 x.key.length c2, .slice A3 x.uniqs.length c3, .slice A4 x.checks.length c4, .slice A5 x.fks.length c5] ∧ Below w.heap.size w wr) (fun i _ => x.key.length - (intOf i).toNat)
      case atStart => exact ⟨0, by omega, rfl, Lib.hid (by simp), hr, hb⟩
      case round =>
        clear hr hb hlt
        obtain ⟨k, hk, rfl, hall, hr, hb⟩ := hrel
        obtain ⟨⟨a0, a1, a2, a3, a4, a5⟩, -⟩ := hr.all6
        by_cases hlt : k < x.key.length
        · obtain ⟨bk, offk, -, ek, q0⟩ := IntR.at_ (h2.below IntR.stays hb) hlt
          rw [ek] at a2
          have hin := HIN.out _ (List.getElem_mem hlt)
          have hsn := all_take (nnAt x.cols) x.key k hlt
          rw [hall.out, Bool.true_and] at hsn
          have hno := fun hf => all_no (nnAt x.cols) x.key k hlt hf
          obtain ⟨j, hj⟩ : ∃ j : Nat, x.key[k] = (j : Int) := ⟨x.key[k].toNat, by omega⟩
          rw [hj] at q0 hsn hno hin
          have hjl : j < x.cols.length := by omega
          obtain ⟨bc, offc, -, ec, p0, p1, p2, p3, p4, p5⟩ := ClR.at_ (h1.below ClR.stays hb) hjl
          rw [ec] at a1
          have hnn : nnAt x.cols j = x.cols[j].nn := by unfold nnAt; simp [List.getElem?_eq_getElem hjl]
          have i0 : (0 : Int) ≤ j := by omega
          have i1 : (j : Int) < x.cols.length := by omega
          have i2 : (0 : Int) ≤ k := by omega
          have i3 : (k : Int) < x.key.length := by omega
          cases hnb : x.cols[j].nn
          · rw [hnb] at p2
            have HF := Lib.hid (show tableB x = false by unfold tableB keyB; rw [hno (hnn.trans hnb)]; simp)
            clear hsn hno hnn hnb hj hall ek ec
            go_wp2_with fail
            go_quiet (fail)
            go_wp2_with fail
            go_ret
            exact ⟨retB HF.out.symm, below_drewN hb _⟩
          · rw [hnb] at p2
            have HA := Lib.hid (hsn.trans (hnn.trans hnb))
            clear hsn hno hnn hnb hj hall ek ec
            go_wp2_with fail
            go_quiet (fail)
            go_wp2_with fail
            go_roundw
            case rel => exact ⟨k + 1, by omega, by go_num, HA, hr.drewN _, below_drewN hb _⟩
            case measure => simp [intOf]; omega
        · have e : x.key.take k = x.key := List.take_of_length_le (by omega)
          have g1 := hall.out
          rw [e] at g1
          have HKB := Lib.hid (show keyB x.cols x.key = true by unfold keyB; rw [g1, HK.out]; rfl)
          clear e g1 hall
          go_wp2_with fail
          clear a0 a1 a2 a3 a4 a5
          go_loopw [7] (fun i wr => ∃ k : Nat, k ≤ x.uniqs.length ∧ i = .int .i64 k ∧ Hid ((x.uniqs.take k).all (fun u : Uq => colsInB u.cols x.cols.length) = true) ∧ Row wr w.heap.size 86 #[.string x.name, .slice A1 x.cols.length c1, .slice A2 x.key.length c2, .slice A3 x.uniqs.length c3, .slice A4 x.checks.length c4, .slice A5 x.fks.length c5] ∧ Below w.heap.size w wr) (fun i _ => x.uniqs.length - (intOf i).toNat)
          case atStart => exact ⟨0, by omega, rfl, Lib.hid (by simp), hr, hb⟩
          case round =>
            clear hr hb hlt
            obtain ⟨k, hk, rfl, hall, hr, hb⟩ := hrel
            obtain ⟨⟨a0, a1, a2, a3, a4, a5⟩, -⟩ := hr.all6
            by_cases hlt : k < x.uniqs.length
            · obtain ⟨b, off, A9, n9, c9, -, ea, q0, s0, hcp9⟩ := UqR.at_ (h3.below UqR.stays hb) hlt
              rw [ea] at a3
              obtain rfl : x.uniqs[k].cols.length = n9 := s0.1
              have hsn := all_take (fun u : Uq => colsInB u.cols x.cols.length) x.uniqs k hlt
              rw [hall.out, Bool.true_and] at hsn
              have hno := fun hf => all_no (fun u : Uq => colsInB u.cols x.cols.length) x.uniqs k hlt hf
              have hk9 : x.uniqs[k].cols.length ≤ 1048576 := by have := HS3.out; have := sum_mem_le Uq.sz x.uniqs k hlt; unfold szL at *; simp only [Uq.sz] at *; (try unfold szL at *); omega
              have i2 : (0 : Int) ≤ k := by omega
              have i3 : (k : Int) < x.uniqs.length := by omega
              cases hc : colsInB x.uniqs[k].cols x.cols.length
              · have HC9 := Lib.hid hc
                have HF := Lib.hid (show tableB x = false by unfold tableB uqsB; rw [hno hc]; simp)
                clear hsn hno hc hall ea
                go_wp2_with fail
                refine (specCols A9 x.uniqs[k].cols.length c9 x.uniqs[k].cols x.cols.length ok _ s0 hcp9 hk9 (by omega) (by omega)).mono ?_
                rintro e w1 ⟨rfl, hq⟩
                rw [HC9.out]
                go_wp2_with fail
                go_ret
                exact ⟨retB HF.out.symm, hb.trans (hq.mono hb.size)⟩
              · have HC9 := Lib.hid hc
                have HA := Lib.hid (hsn.trans hc)
                clear hsn hno hc hall ea
                go_wp2_with fail
                refine (specCols A9 x.uniqs[k].cols.length c9 x.uniqs[k].cols x.cols.length ok _ s0 hcp9 hk9 (by omega) (by omega)).mono ?_
                rintro e w1 ⟨rfl, hq⟩
                rw [HC9.out]
                go_wp2_with fail
                go_roundw
                case rel => exact ⟨k + 1, by omega, by go_num, HA, hr.below hq, hb.trans (hq.mono hb.size)⟩
                case measure => simp [intOf]; omega
            · have e : x.uniqs.take k = x.uniqs := List.take_of_length_le (by omega)
              have g1 := hall.out
              rw [e] at g1
              have HUB := Lib.hid (show uqsB x.cols x.uniqs = true by unfold uqsB; rw [g1, decide_eq_true (by omega)]; rfl)
              clear e g1 hall
              go_wp2_with fail
              clear a0 a1 a2 a3 a4 a5
              go_loopw [8] (fun i wr => ∃ k : Nat, k ≤ x.checks.length ∧ i = .int .i64 k ∧ Hid ((x.checks.take k).all (fun u : Ck => exprB u.expr x.cols.length) = true) ∧ Row wr w.heap.size 86 #[.string x.name, .slice A1 x.cols.length c1, .slice A2 x.key.length c2, .slice A3 x.uniqs.length c3, .slice A4 x.checks.length c4, .slice A5 x.fks.length c5] ∧ Below w.heap.size w wr) (fun i _ => x.checks.length - (intOf i).toNat)
              case atStart => exact ⟨0, by omega, rfl, Lib.hid (by simp), hr, hb⟩
              case round =>
                clear hr hb hlt
                obtain ⟨k, hk, rfl, hall, hr, hb⟩ := hrel
                obtain ⟨⟨a0, a1, a2, a3, a4, a5⟩, -⟩ := hr.all6
                by_cases hlt : k < x.checks.length
                · obtain ⟨b, off, A9, n9, c9, -, ea, q0, s0, hcp9⟩ := CkR.at_ (h4.below CkR.stays hb) hlt
                  rw [ea] at a4
                  obtain rfl : x.checks[k].expr.length = n9 := s0.1
                  have hsn := all_take (fun u : Ck => exprB u.expr x.cols.length) x.checks k hlt
                  rw [hall.out, Bool.true_and] at hsn
                  have hno := fun hf => all_no (fun u : Ck => exprB u.expr x.cols.length) x.checks k hlt hf
                  have hk9 : x.checks[k].expr.length ≤ 1048576 := by have := HS4.out; have := sum_mem_le Ck.sz x.checks k hlt; unfold szL at *; simp only [Ck.sz] at *; (try unfold szL at *); omega
                  have i2 : (0 : Int) ≤ k := by omega
                  have i3 : (k : Int) < x.checks.length := by omega
                  cases hc : l2B x.checks[k].expr x.cols.length
                  · have HC9 := Lib.hid hc
                    have HF := Lib.hid (show tableB x = false by unfold tableB cksB; rw [hno ((exprB_l2n (by omega)).trans hc)]; simp)
                    clear hsn hno hc hall ea
                    go_wp2_with fail
                    refine (specL2Expr A9 x.checks[k].expr.length c9 x.checks[k].expr x.cols.length _ (Sl.cellz (fun _ => rfl) s0) (by unfold maxLen; omega) (by omega) (by omega)).mono ?_
                    rintro e w1 ⟨rfl, hq⟩
                    rw [HC9.out]
                    go_wp2_with fail
                    go_ret
                    exact ⟨retB HF.out.symm, hb.trans (hq.mono hb.size)⟩
                  · have HC9 := Lib.hid hc
                    have HA := Lib.hid (hsn.trans ((exprB_l2n (by omega)).trans hc))
                    clear hsn hno hc hall ea
                    go_wp2_with fail
                    refine (specL2Expr A9 x.checks[k].expr.length c9 x.checks[k].expr x.cols.length _ (Sl.cellz (fun _ => rfl) s0) (by unfold maxLen; omega) (by omega) (by omega)).mono ?_
                    rintro e w1 ⟨rfl, hq⟩
                    rw [HC9.out]
                    go_wp2_with fail
                    go_roundw
                    case rel => exact ⟨k + 1, by omega, by go_num, HA, hr.below hq, hb.trans (hq.mono hb.size)⟩
                    case measure => simp [intOf]; omega
                · have e : x.checks.take k = x.checks := List.take_of_length_le (by omega)
                  have g1 := hall.out
                  rw [e] at g1
                  have HEB := Lib.hid (show cksB x.cols x.checks = true by unfold cksB; rw [g1, decide_eq_true (by omega)]; rfl)
                  clear e g1 hall
                  go_wp2_with fail
                  clear a0 a1 a2 a3 a4 a5
                  go_loopw [9] (fun i wr => ∃ k : Nat, k ≤ x.fks.length ∧ i = .int .i64 k ∧ Hid ((x.fks.take k).all (fkB x.cols.length) = true) ∧ Row wr w.heap.size 86 #[.string x.name, .slice A1 x.cols.length c1, .slice A2 x.key.length c2, .slice A3 x.uniqs.length c3, .slice A4 x.checks.length c4, .slice A5 x.fks.length c5] ∧ Below w.heap.size w wr) (fun i _ => x.fks.length - (intOf i).toNat)
                  case atStart => exact ⟨0, by omega, rfl, Lib.hid (by simp), hr, hb⟩
                  case round =>
                    clear hr hb hlt
                    obtain ⟨k, hk, rfl, hall, hr, hb⟩ := hrel
                    obtain ⟨⟨a0, a1, a2, a3, a4, a5⟩, -⟩ := hr.all6
                    by_cases hlt : k < x.fks.length
                    · obtain ⟨b, off, A9, n9, c9, -, ea, q0, q1, q2, q3, q4, s0, hcp9⟩ := FkR.at_ (h5.below FkR.stays hb) hlt
                      rw [ea] at a5
                      obtain rfl : x.fks[k].cols.length = n9 := s0.1
                      have hsn := all_take (fkB x.cols.length) x.fks k hlt
                      rw [hall.out, Bool.true_and] at hsn
                      have hno := fun hf => all_no (fkB x.cols.length) x.fks k hlt hf
                      obtain ⟨hk9, hk8⟩ : x.fks[k].cols.length ≤ 1048576 ∧ x.fks[k].table.size ≤ 1048576 := by have := HS5.out; have := sum_mem_le Fk.sz x.fks k hlt; unfold szL at *; simp only [Fk.sz] at *; omega
                      have HK9 := Lib.hid hk9
                      have HK8 := Lib.hid (show x.fks[k].table.size ≤ maxLen by unfold maxLen; omega)
                      have i2 : (0 : Int) ≤ k := by omega
                      have i3 : (k : Int) < x.fks.length := by omega
                      have hbx := (Below.refl wr.heap.size wr).alloc (Nat.le_refl _) (.cells #[.slice A9 x.fks[k].cols.length c9, .string x.fks[k].table, .int .i64 x.fks[k].del, .int .i64 x.fks[k].upd, .bool x.fks[k].dfr] 178)
                      have hba := hb.trans (hbx.mono hb.size)
                      have s1 := s0.below IntR.stays hbx
                      have hr1 := hr.below hbx
                      have rf := Row.new wr 178 #[.slice A9 x.fks[k].cols.length c9, .string x.fks[k].table, .int .i64 x.fks[k].del, .int .i64 x.fks[k].upd, .bool x.fks[k].dfr]
                      have HNO := Lib.hid (fun hf => show tableB x = false by unfold tableB fksB; rw [hno hf]; simp)
                      have HSN := Lib.hid hsn
                      clear hsn hno hall ea hk9 hk8
                      cases hc9 : colsInB x.fks[k].cols x.cols.length
                      · have HC9 := Lib.hid hc9
                        have HF := Lib.hid (HNO.out (by unfold fkB; rw [act_in, act_in, hc9]; simp))
                        clear hc9
                        go_wp2_with fail
                        refine (specCols A9 x.fks[k].cols.length c9 x.fks[k].cols x.cols.length ok _ s1 hcp9 HK9.out (by omega) (by omega)).mono ?_
                        rintro e w1 ⟨rfl, hq⟩
                        obtain ⟨⟨f0, f1, f2, f3, f4⟩, -⟩ := (rf.below hq).five
                        rw [HC9.out]
                        go_wp2_with fail
                        go_ret
                        exact ⟨retB HF.out.symm, hba.trans (hq.mono hba.size)⟩
                      have HC9 := Lib.hid hc9
                      clear hc9
                      cases hn9 : nameB x.fks[k].table
                      · have HN9 := Lib.hid hn9
                        have HF := Lib.hid (HNO.out (by unfold fkB; rw [act_in, act_in, HC9.out, hn9]; simp))
                        clear hn9
                        go_wp2_with fail
                        refine (specCols A9 x.fks[k].cols.length c9 x.fks[k].cols x.cols.length ok _ s1 hcp9 HK9.out (by omega) (by omega)).mono ?_
                        rintro e w1 ⟨rfl, hq⟩
                        obtain ⟨⟨f0, f1, f2, f3, f4⟩, -⟩ := (rf.below hq).five
                        rw [HC9.out]
                        go_wp2_with fail
                        refine (specName _ _ HK8.out).mono ?_
                        rintro e w2 ⟨rfl, rfl⟩
                        rw [HN9.out]
                        go_wp2_with fail
                        go_ret
                        exact ⟨retB HF.out.symm, hba.trans (hq.mono hba.size)⟩
                      have HN9 := Lib.hid hn9
                      clear hn9
                      cases hd9 : (decide (0 ≤ x.fks[k].del) && decide (x.fks[k].del ≤ 2))
                      · have HD9 := Lib.hid hd9
                        have HF := Lib.hid (HNO.out (by unfold fkB; rw [act_in, act_in, HC9.out, HN9.out, hd9]; simp))
                        clear hd9
                        go_wp2_with fail
                        refine (specCols A9 x.fks[k].cols.length c9 x.fks[k].cols x.cols.length ok _ s1 hcp9 HK9.out (by omega) (by omega)).mono ?_
                        rintro e w1 ⟨rfl, hq⟩
                        obtain ⟨⟨f0, f1, f2, f3, f4⟩, -⟩ := (rf.below hq).five
                        rw [HC9.out]
                        go_wp2_with fail
                        refine (specName _ _ HK8.out).mono ?_
                        rintro e w2 ⟨rfl, rfl⟩
                        rw [HN9.out]
                        go_wp2_with fail
                        refine (specIn _ _ _ _).mono ?_
                        rintro e w2 ⟨rfl, rfl⟩
                        rw [HD9.out]
                        go_wp2_with fail
                        go_ret
                        exact ⟨retB HF.out.symm, hba.trans (hq.mono hba.size)⟩
                      have HD9 := Lib.hid hd9
                      clear hd9
                      cases hu9 : (decide (0 ≤ x.fks[k].upd) && decide (x.fks[k].upd ≤ 2))
                      · have HU9 := Lib.hid hu9
                        have HF := Lib.hid (HNO.out (by unfold fkB; rw [act_in, act_in, HC9.out, HN9.out, HD9.out, hu9]; simp))
                        clear hu9
                        go_wp2_with fail
                        refine (specCols A9 x.fks[k].cols.length c9 x.fks[k].cols x.cols.length ok _ s1 hcp9 HK9.out (by omega) (by omega)).mono ?_
                        rintro e w1 ⟨rfl, hq⟩
                        obtain ⟨⟨f0, f1, f2, f3, f4⟩, -⟩ := (rf.below hq).five
                        rw [HC9.out]
                        go_wp2_with fail
                        refine (specName _ _ HK8.out).mono ?_
                        rintro e w2 ⟨rfl, rfl⟩
                        rw [HN9.out]
                        go_wp2_with fail
                        refine (specIn _ _ _ _).mono ?_
                        rintro e w2 ⟨rfl, rfl⟩
                        rw [HD9.out]
                        go_wp2_with fail
                        refine (specIn _ _ _ _).mono ?_
                        rintro e w2 ⟨rfl, rfl⟩
                        rw [HU9.out]
                        go_wp2_with fail
                        go_ret
                        exact ⟨retB HF.out.symm, hba.trans (hq.mono hba.size)⟩
                      have HU9 := Lib.hid hu9
                      clear hu9
                      have HA := Lib.hid (HSN.out.trans (show fkB x.cols.length x.fks[k] = true by unfold fkB; rw [act_in, act_in, HC9.out, HN9.out, HD9.out, HU9.out]; rfl))
                      go_wp2_with fail
                      refine (specCols A9 x.fks[k].cols.length c9 x.fks[k].cols x.cols.length ok _ s1 hcp9 HK9.out (by omega) (by omega)).mono ?_
                      rintro e w1 ⟨rfl, hq⟩
                      obtain ⟨⟨f0, f1, f2, f3, f4⟩, -⟩ := (rf.below hq).five
                      rw [HC9.out]
                      go_wp2_with fail
                      refine (specName _ _ HK8.out).mono ?_
                      rintro e w2 ⟨rfl, rfl⟩
                      rw [HN9.out]
                      go_wp2_with fail
                      refine (specIn _ _ _ _).mono ?_
                      rintro e w2 ⟨rfl, rfl⟩
                      rw [HD9.out]
                      go_wp2_with fail
                      refine (specIn _ _ _ _).mono ?_
                      rintro e w2 ⟨rfl, rfl⟩
                      rw [HU9.out]
                      go_wp2_with fail
                      go_roundw
                      case rel => exact ⟨k + 1, by omega, by go_num, HA, hr1.below hq, hba.trans (hq.mono hba.size)⟩
                      case measure => simp [intOf]; omega
                    · have e : x.fks.take k = x.fks := List.take_of_length_le (by omega)
                      have g1 := hall.out
                      rw [e] at g1
                      have HFB := Lib.hid (show fksB x.cols x.fks = true by unfold fksB; rw [g1, decide_eq_true (by omega)]; rfl)
                      clear e g1 hall
                      go_wp2_with fail
                      go_ret
                      exact ⟨retB (by unfold tableB; rw [HN0.out, HC.out, HKB.out, HUB.out, HEB.out, HFB.out]; rfl), hb⟩
set_option maxRecDepth 100000 in
set_option maxHeartbeats 4000000 in
theorem specSchemaOk (AS : Option Addr) (nS cS : Nat) (s : List Tb) (ok : Nat → Prop) (w : World) (hs : Sl TbR 6 ok w AS nS s) (hcp : nS ≤ cS) (hsz : szL Tb.sz s ≤ 1048576) :
    Calls Tryz.prog 87 #[.slice AS nS cS] w fun e w' => e = .returned (.bool (schemaB s)) ∧ Below w.heap.size w w' := by
  obtain rfl : s.length = nS := hs.1
  have hn : s.length ≤ 1048576 := by unfold szL at hsz; omega
  have HSZ := Lib.hid hsz
  have HT := Lib.hid (fun k (hlt : k < s.length) => show s[k].sz ≤ 1048576 by have := HSZ.out; have := sum_mem_le Tb.sz s k hlt; unfold szL at *; omega)
  clear hsz
  go_enter Tryz.func87, Tryz.ntmps87
  go_wp2_with fail
  go_loopw [3] (fun i wr => ∃ k : Nat, k ≤ s.length ∧ i = .int .i64 k ∧ Hid ((s.take k).all tableB = true) ∧ Hid (uniqGo [] (s.map Tb.name) = uniqGo ((s.map Tb.name).take k) ((s.map Tb.name).drop k)) ∧ Below w.heap.size w wr) (fun i _ => s.length - (intOf i).toNat)
  case atStart => exact ⟨0, by omega, rfl, Lib.hid (by simp), Lib.hid (by simp), Below.refl _ _⟩
  case round =>
    obtain ⟨k, hk, rfl, hall, huq, hb⟩ := hrel
    by_cases hlt : k < s.length
    · have hsw := hs.below TbR.stays hb
      obtain ⟨b, off, A1, n1, c1, A2, n2, c2, A3, n3, c3, A4, n4, c4, A5, n5, c5, -, ea, q0, q1, q2, q3, q4, q5, s1, s2, s3, s4, s5, hcps⟩ := TbR.at_ hsw hlt
      subst ea
      have HCP := Lib.hid hcps
      clear hcps
      have hsn := all_take tableB s k hlt
      rw [hall.out, Bool.true_and] at hsn
      have hno := fun hf => all_no tableB s k hlt hf
      have hug := uniqGo_at (s.map Tb.name) k (by simpa using hlt)
      rw [← huq.out, List.getElem_map, ← List.map_take] at hug
      have HX := Lib.hid (HT.out k hlt)
      have i0 : (0 : Int) ≤ k := by omega
      have i1 : (k : Int) < s.length := by omega
      have i3 : (k : Int) ≤ cS := by omega
      cases hc : tableB s[k]
      · skip
        have HTB := Lib.hid hc
        have HF := Lib.hid (show schemaB s = false by unfold schemaB; rw [hno hc]; simp)
        clear hc hno hsn hug hall huq
        go_wp2_with fail
        refine wp_region_noPanic ?_
        refine wp_region_held_drew (S := fun w' => w'.cell? ⟨b, off + k * 6, none⟩ = some (.string s[k].name) ∧ w'.cell? ⟨b, off + k * 6 + 1, none⟩ = some (.slice A1 n1 c1) ∧ w'.cell? ⟨b, off + k * 6 + 2, none⟩ = some (.slice A2 n2 c2) ∧ w'.cell? ⟨b, off + k * 6 + 3, none⟩ = some (.slice A3 n3 c3) ∧ w'.cell? ⟨b, off + k * 6 + 4, none⟩ = some (.slice A4 n4 c4) ∧ w'.cell? ⟨b, off + k * 6 + 5, none⟩ = some (.slice A5 n5 c5)) (by kernel_rfl) ⟨q0, q1, q2, q3, q4, q5⟩ (fun hHeld => ?_)
        refine wpAnyH_take (i := 0) (v := ?v1) rfl (by kernel_rfl) (by kernel_rfl) (by kernel_rfl) (fun _ _ _ h => h) (Or.inl ⟨by rfl, ?hy1⟩) hHeld ?rest1
        case hy1 => (intro w' hSw; (try dsimp only at hSw); first | (go_simp; done) | (go_simp; with_reducible rfl))
        simp only [Act.put, pz0, pz1, pz2, pz3, pz4, pz5]
        refine wpAnyH_take (i := 1) (v := ?v2) rfl (by kernel_rfl) (by kernel_rfl) (by kernel_rfl) (fun _ _ _ h => h) (Or.inl ⟨by rfl, ?hy2⟩) hHeld ?rest2
        case hy2 => (intro w' hSw; (try dsimp only at hSw); first | (go_simp; done) | (go_simp; with_reducible rfl))
        simp only [Act.put, pz0, pz1, pz2, pz3, pz4, pz5]
        refine wpAnyH_take (i := 2) (v := ?v3) rfl (by kernel_rfl) (by kernel_rfl) (by kernel_rfl) (fun _ _ _ h => h) (Or.inl ⟨by rfl, ?hy3⟩) hHeld ?rest3
        case hy3 => (intro w' hSw; (try dsimp only at hSw); first | (go_simp; done) | (go_simp; with_reducible rfl))
        simp only [Act.put, pz0, pz1, pz2, pz3, pz4, pz5]
        refine wpAnyH_take (i := 3) (v := ?v4) rfl (by kernel_rfl) (by kernel_rfl) (by kernel_rfl) (fun _ _ _ h => h) (Or.inl ⟨by rfl, ?hy4⟩) hHeld ?rest4
        case hy4 => (intro w' hSw; (try dsimp only at hSw); first | (go_simp; done) | (go_simp; with_reducible rfl))
        simp only [Act.put, pz0, pz1, pz2, pz3, pz4, pz5]
        refine wpAnyH_ready (rs := [4]) (by kernel_rfl) (by simp) ?_
        refine AllReadyH.cons rfl (fun K hK => ?_) AllReadyH.nil
        go_simp
        refine (specTableOk s[k] A1 n1 c1 A2 n2 c2 A3 n3 c3 A4 n4 c4 A5 n5 c5 ok _ (s1.drew ClR.stays) (s2.drew IntR.stays) (s3.drew UqR.stays) (s4.drew CkR.stays) (s5.drew FkR.stays) HCP.out HX.out).mono ?_
        rintro e wc ⟨rfl, hqc⟩
        rw [HTB.out]
        go_wp2_with fail
        refine hK.out _ _ ⟨below_keep hqc _ _ hHeld.1, below_keep hqc _ _ hHeld.2.1, below_keep hqc _ _ hHeld.2.2.1, below_keep hqc _ _ hHeld.2.2.2.1, below_keep hqc _ _ hHeld.2.2.2.2.1, below_keep hqc _ _ hHeld.2.2.2.2.2⟩ (fun hHeld => ?_)
        clear hK K
        (try simp only [Act.put, pz0, pz1, pz2, pz3, pz4, pz5])
        refine wpAnyH_take (i := 5) (v := ?v5) rfl (by kernel_rfl) (by kernel_rfl) (by kernel_rfl) (fun _ _ _ h => h) (Or.inl ⟨by rfl, ?hy5⟩) hHeld ?rest5
        case hy5 => (intro w' hSw; (try dsimp only at hSw); first | (go_simp; done) | (go_simp; with_reducible rfl))
        simp only [Act.put, pz0, pz1, pz2, pz3, pz4, pz5]
        refine wpAnyH_take (i := 6) (v := ?v6) rfl (by kernel_rfl) (by kernel_rfl) (by kernel_rfl) (fun _ _ _ h => h) (Or.inl ⟨by rfl, ?hy6⟩) hHeld ?rest6
        case hy6 => (intro w' hSw; (try dsimp only at hSw); first | (go_simp; done) | (go_simp; with_reducible rfl))
        simp only [Act.put, pz0, pz1, pz2, pz3, pz4, pz5]
        refine wpAnyH_take (i := 7) (v := undef) rfl (by kernel_rfl) (by kernel_rfl) (by kernel_rfl) (fun _ _ _ h => h) (Or.inr ⟨by rfl, rfl⟩) hHeld ?_
        simp only [Act.put, pz0, pz1, pz2, pz3, pz4, pz5]
        refine wpAnyH_take (i := 8) (v := undef) rfl (by kernel_rfl) (by kernel_rfl) (by kernel_rfl) (fun _ _ _ h => h) (Or.inr ⟨by rfl, rfl⟩) hHeld ?_
        simp only [Act.put, pz0, pz1, pz2, pz3, pz4, pz5]
        refine wpAnyH_take (i := 9) (v := undef) rfl (by kernel_rfl) (by kernel_rfl) (by kernel_rfl) (fun _ _ _ h => h) (Or.inr ⟨by rfl, rfl⟩) hHeld ?_
        simp only [Act.put, pz0, pz1, pz2, pz3, pz4, pz5]
        refine wpAnyH_take (i := 10) (v := undef) rfl (by kernel_rfl) (by kernel_rfl) (by kernel_rfl) (fun _ _ _ h => h) (Or.inr ⟨by rfl, rfl⟩) hHeld ?_
        simp only [Act.put, pz0, pz1, pz2, pz3, pz4, pz5]
        refine wpAnyH_take (i := 11) (v := undef) rfl (by kernel_rfl) (by kernel_rfl) (by kernel_rfl) (fun _ _ _ h => h) (Or.inr ⟨by rfl, rfl⟩) hHeld ?_
        simp only [Act.put, pz0, pz1, pz2, pz3, pz4, pz5]
        refine wpAnyH_take (i := 12) (v := undef) rfl (by kernel_rfl) (by kernel_rfl) (by kernel_rfl) (fun _ _ _ h => h) (Or.inr ⟨by rfl, rfl⟩) hHeld ?_
        simp only [Act.put, pz0, pz1, pz2, pz3, pz4, pz5]
        refine wpAnyH_take (i := 13) (v := undef) rfl (by kernel_rfl) (by kernel_rfl) (by kernel_rfl) (fun _ _ _ h => h) (Or.inr ⟨by rfl, rfl⟩) hHeld ?_
        simp only [Act.put, pz0, pz1, pz2, pz3, pz4, pz5]
        refine wpAnyH_take (i := 14) (v := undef) rfl (by kernel_rfl) (by kernel_rfl) (by kernel_rfl) (fun _ _ _ h => h) (Or.inr ⟨by rfl, rfl⟩) hHeld ?_
        simp only [Act.put, pz0, pz1, pz2, pz3, pz4, pz5]
        refine wpAnyH_take (i := 15) (v := undef) rfl (by kernel_rfl) (by kernel_rfl) (by kernel_rfl) (fun _ _ _ h => h) (Or.inr ⟨by rfl, rfl⟩) hHeld ?_
        simp only [Act.put, pz0, pz1, pz2, pz3, pz4, pz5]
        refine wpAnyH_take (i := 16) (v := undef) rfl (by kernel_rfl) (by kernel_rfl) (by kernel_rfl) (fun _ _ _ h => h) (Or.inr ⟨by rfl, rfl⟩) hHeld ?_
        simp only [Act.put, pz0, pz1, pz2, pz3, pz4, pz5]
        refine wpAnyH_take (i := 17) (v := ?v7) rfl (by kernel_rfl) (by kernel_rfl) (by kernel_rfl) (fun _ _ _ h => h) (Or.inl ⟨by rfl, ?hy7⟩) hHeld ?rest7
        case hy7 => (intro w' hSw; (try dsimp only at hSw); first | (go_simp; done) | (go_simp; with_reducible rfl))
        simp only [Act.put, pz0, pz1, pz2, pz3, pz4, pz5]
        refine wpAnyH_done (by kernel_rfl) ?_ _
        refine NoPanic.normal ?_
        have hz := hb.drew.trans (hqc.mono hb.drew.size)
        clear hHeld q0 q1 q2 q3 q4 q5
        go_wp2_with fail
        go_ret
        exact ⟨retB HF.out.symm, hz⟩
      have HTB := Lib.hid hc
      by_cases hat : atN ((s.take k).map Tb.name) s[k].name = -1
      case neg =>
        obtain ⟨j, hj, hj0⟩ : ∃ j : Int, j = atN ((s.take k).map Tb.name) s[k].name ∧ 0 ≤ j := ⟨_, rfl, by rcases atN_rng ((s.take k).map Tb.name) s[k].name with h | h; exact absurd h hat; exact h.1⟩
        have HJ := Lib.hid hj
        have HF := Lib.hid (show schemaB s = false by unfold schemaB; rw [hug, decide_eq_false hat]; simp)
        clear hc hno hsn hug hall huq hat hj
        go_wp2_with fail
        refine wp_region_noPanic ?_
        refine wp_region_held_drew (S := fun w' => w'.cell? ⟨b, off + k * 6, none⟩ = some (.string s[k].name) ∧ w'.cell? ⟨b, off + k * 6 + 1, none⟩ = some (.slice A1 n1 c1) ∧ w'.cell? ⟨b, off + k * 6 + 2, none⟩ = some (.slice A2 n2 c2) ∧ w'.cell? ⟨b, off + k * 6 + 3, none⟩ = some (.slice A3 n3 c3) ∧ w'.cell? ⟨b, off + k * 6 + 4, none⟩ = some (.slice A4 n4 c4) ∧ w'.cell? ⟨b, off + k * 6 + 5, none⟩ = some (.slice A5 n5 c5)) (by kernel_rfl) ⟨q0, q1, q2, q3, q4, q5⟩ (fun hHeld => ?_)
        refine wpAnyH_take (i := 0) (v := ?v8) rfl (by kernel_rfl) (by kernel_rfl) (by kernel_rfl) (fun _ _ _ h => h) (Or.inl ⟨by rfl, ?hy8⟩) hHeld ?rest8
        case hy8 => (intro w' hSw; (try dsimp only at hSw); first | (go_simp; done) | (go_simp; with_reducible rfl))
        simp only [Act.put, pz0, pz1, pz2, pz3, pz4, pz5]
        refine wpAnyH_take (i := 1) (v := ?v9) rfl (by kernel_rfl) (by kernel_rfl) (by kernel_rfl) (fun _ _ _ h => h) (Or.inl ⟨by rfl, ?hy9⟩) hHeld ?rest9
        case hy9 => (intro w' hSw; (try dsimp only at hSw); first | (go_simp; done) | (go_simp; with_reducible rfl))
        simp only [Act.put, pz0, pz1, pz2, pz3, pz4, pz5]
        refine wpAnyH_take (i := 2) (v := ?v10) rfl (by kernel_rfl) (by kernel_rfl) (by kernel_rfl) (fun _ _ _ h => h) (Or.inl ⟨by rfl, ?hy10⟩) hHeld ?rest10
        case hy10 => (intro w' hSw; (try dsimp only at hSw); first | (go_simp; done) | (go_simp; with_reducible rfl))
        simp only [Act.put, pz0, pz1, pz2, pz3, pz4, pz5]
        refine wpAnyH_take (i := 3) (v := ?v11) rfl (by kernel_rfl) (by kernel_rfl) (by kernel_rfl) (fun _ _ _ h => h) (Or.inl ⟨by rfl, ?hy11⟩) hHeld ?rest11
        case hy11 => (intro w' hSw; (try dsimp only at hSw); first | (go_simp; done) | (go_simp; with_reducible rfl))
        simp only [Act.put, pz0, pz1, pz2, pz3, pz4, pz5]
        refine wpAnyH_ready (rs := [4]) (by kernel_rfl) (by simp) ?_
        refine AllReadyH.cons rfl (fun K hK => ?_) AllReadyH.nil
        go_simp
        refine (specTableOk s[k] A1 n1 c1 A2 n2 c2 A3 n3 c3 A4 n4 c4 A5 n5 c5 ok _ (s1.drew ClR.stays) (s2.drew IntR.stays) (s3.drew UqR.stays) (s4.drew CkR.stays) (s5.drew FkR.stays) HCP.out HX.out).mono ?_
        rintro e wc ⟨rfl, hqc⟩
        rw [HTB.out]
        go_wp2_with fail
        refine hK.out _ _ ⟨below_keep hqc _ _ hHeld.1, below_keep hqc _ _ hHeld.2.1, below_keep hqc _ _ hHeld.2.2.1, below_keep hqc _ _ hHeld.2.2.2.1, below_keep hqc _ _ hHeld.2.2.2.2.1, below_keep hqc _ _ hHeld.2.2.2.2.2⟩ (fun hHeld => ?_)
        clear hK K
        (try simp only [Act.put, pz0, pz1, pz2, pz3, pz4, pz5])
        refine wpAnyH_take (i := 5) (v := ?v12) rfl (by kernel_rfl) (by kernel_rfl) (by kernel_rfl) (fun _ _ _ h => h) (Or.inl ⟨by rfl, ?hy12⟩) hHeld ?rest12
        case hy12 => (intro w' hSw; (try dsimp only at hSw); first | (go_simp; done) | (go_simp; with_reducible rfl))
        simp only [Act.put, pz0, pz1, pz2, pz3, pz4, pz5]
        refine wpAnyH_take (i := 6) (v := ?v13) rfl (by kernel_rfl) (by kernel_rfl) (by kernel_rfl) (fun _ _ _ h => h) (Or.inl ⟨by rfl, ?hy13⟩) hHeld ?rest13
        case hy13 => (intro w' hSw; (try dsimp only at hSw); first | (go_simp; done) | (go_simp; with_reducible rfl))
        simp only [Act.put, pz0, pz1, pz2, pz3, pz4, pz5]
        refine wpAnyH_take (i := 7) (v := ?v14) rfl (by kernel_rfl) (by kernel_rfl) (by kernel_rfl) (fun _ _ _ h => h) (Or.inl ⟨by rfl, ?hy14⟩) hHeld ?rest14
        case hy14 => (intro w' hSw; (try dsimp only at hSw); first | (go_simp; done) | (go_simp; with_reducible rfl))
        simp only [Act.put, pz0, pz1, pz2, pz3, pz4, pz5]
        refine wpAnyH_take (i := 8) (v := ?v15) rfl (by kernel_rfl) (by kernel_rfl) (by kernel_rfl) (fun _ _ _ h => h) (Or.inl ⟨by rfl, ?hy15⟩) hHeld ?rest15
        case hy15 => (intro w' hSw; (try dsimp only at hSw); first | (go_simp; done) | (go_simp; with_reducible rfl))
        simp only [Act.put, pz0, pz1, pz2, pz3, pz4, pz5]
        refine wpAnyH_take (i := 9) (v := ?v16) rfl (by kernel_rfl) (by kernel_rfl) (by kernel_rfl) (fun _ _ _ h => h) (Or.inl ⟨by rfl, ?hy16⟩) hHeld ?rest16
        case hy16 => (intro w' hSw; (try dsimp only at hSw); first | (go_simp; done) | (go_simp; with_reducible rfl))
        simp only [Act.put, pz0, pz1, pz2, pz3, pz4, pz5]
        refine wpAnyH_take (i := 10) (v := ?v17) rfl (by kernel_rfl) (by kernel_rfl) (by kernel_rfl) (fun _ _ _ h => h) (Or.inl ⟨by rfl, ?hy17⟩) hHeld ?rest17
        case hy17 => (intro w' hSw; (try dsimp only at hSw); first | (go_simp; done) | (go_simp; with_reducible rfl))
        simp only [Act.put, pz0, pz1, pz2, pz3, pz4, pz5]
        refine wpAnyH_take (i := 11) (v := ?v18) rfl (by kernel_rfl) (by kernel_rfl) (by kernel_rfl) (fun _ _ _ h => h) (Or.inl ⟨by rfl, ?hy18⟩) hHeld ?rest18
        case hy18 => (intro w' hSw; (try dsimp only at hSw); first | (go_simp; done) | (go_simp; with_reducible rfl))
        simp only [Act.put, pz0, pz1, pz2, pz3, pz4, pz5]
        refine wpAnyH_take (i := 12) (v := ?v19) rfl (by kernel_rfl) (by kernel_rfl) (by kernel_rfl) (fun _ _ _ h => h) (Or.inl ⟨by rfl, ?hy19⟩) hHeld ?rest19
        case hy19 => (intro w' hSw; (try dsimp only at hSw); first | (go_simp; done) | (go_simp; with_reducible rfl))
        simp only [Act.put, pz0, pz1, pz2, pz3, pz4, pz5]
        refine wpAnyH_take (i := 13) (v := ?v20) rfl (by kernel_rfl) (by kernel_rfl) (by kernel_rfl) (fun _ _ _ h => h) (Or.inl ⟨by rfl, ?hy20⟩) hHeld ?rest20
        case hy20 => (intro w' hSw; (try dsimp only at hSw); first | (go_simp; done) | (go_simp; with_reducible rfl))
        simp only [Act.put, pz0, pz1, pz2, pz3, pz4, pz5]
        refine wpAnyH_take (i := 14) (v := ?v21) rfl (by kernel_rfl) (by kernel_rfl) (by kernel_rfl) (fun _ _ _ h => h) (Or.inl ⟨by rfl, ?hy21⟩) hHeld ?rest21
        case hy21 => (intro w' hSw; (try dsimp only at hSw); first | (go_simp; done) | (go_simp; with_reducible rfl))
        simp only [Act.put, pz0, pz1, pz2, pz3, pz4, pz5]
        refine wpAnyH_ready (rs := [15]) (by kernel_rfl) (by simp) ?_
        refine AllReadyH.cons rfl (fun K hK => ?_) AllReadyH.nil
        go_simp
        refine (specL3At _ k cS (s.take k) _ ok _ (((hsw.drew TbR.stays).below TbR.stays hqc).take (m := k) (by omega)) (by omega)).mono ?_
        rintro e wd ⟨rfl, hqd⟩
        rw [← HJ.out]
        go_wp2_with fail
        refine hK.out _ _ ⟨below_keep hqd _ _ hHeld.1, below_keep hqd _ _ hHeld.2.1, below_keep hqd _ _ hHeld.2.2.1, below_keep hqd _ _ hHeld.2.2.2.1, below_keep hqd _ _ hHeld.2.2.2.2.1, below_keep hqd _ _ hHeld.2.2.2.2.2⟩ (fun hHeld => ?_)
        clear hK K
        (try simp only [Act.put, pz0, pz1, pz2, pz3, pz4, pz5])
        refine wpAnyH_take (i := 16) (v := ?v22) rfl (by kernel_rfl) (by kernel_rfl) (by kernel_rfl) (fun _ _ _ h => h) (Or.inl ⟨by rfl, ?hy22⟩) hHeld ?rest22
        case hy22 => (intro w' hSw; (try dsimp only at hSw); first | (go_simp; done) | (go_simp; with_reducible rfl))
        simp only [Act.put, pz0, pz1, pz2, pz3, pz4, pz5]
        refine wpAnyH_take (i := 17) (v := ?v23) rfl (by kernel_rfl) (by kernel_rfl) (by kernel_rfl) (fun _ _ _ h => h) (Or.inl ⟨by rfl, ?hy23⟩) hHeld ?rest23
        case hy23 => (intro w' hSw; (try dsimp only at hSw); first | (go_simp; done) | (go_simp; with_reducible rfl))
        simp only [Act.put, pz0, pz1, pz2, pz3, pz4, pz5]
        refine wpAnyH_done (by kernel_rfl) ?_ _
        refine NoPanic.normal ?_
        have hz := hb.drew.trans (hqc.mono hb.drew.size)
        have hz := hz.trans (hqd.mono hz.size)
        clear hHeld q0 q1 q2 q3 q4 q5
        go_wp2_with fail
        go_ret
        exact ⟨retB HF.out.symm, hz⟩
      case pos =>
        have HA := Lib.hid hat
        have HUQ := Lib.hid (show uniqGo [] (s.map Tb.name) = uniqGo ((s.map Tb.name).take (k + 1)) ((s.map Tb.name).drop (k + 1)) by rw [hug, decide_eq_true hat, Bool.true_and])
        have HAL := Lib.hid (hsn.trans hc)
        clear hc hno hsn hug hall huq hat
        go_wp2_with fail
        refine wp_region_noPanic ?_
        refine wp_region_held_drew (S := fun w' => w'.cell? ⟨b, off + k * 6, none⟩ = some (.string s[k].name) ∧ w'.cell? ⟨b, off + k * 6 + 1, none⟩ = some (.slice A1 n1 c1) ∧ w'.cell? ⟨b, off + k * 6 + 2, none⟩ = some (.slice A2 n2 c2) ∧ w'.cell? ⟨b, off + k * 6 + 3, none⟩ = some (.slice A3 n3 c3) ∧ w'.cell? ⟨b, off + k * 6 + 4, none⟩ = some (.slice A4 n4 c4) ∧ w'.cell? ⟨b, off + k * 6 + 5, none⟩ = some (.slice A5 n5 c5)) (by kernel_rfl) ⟨q0, q1, q2, q3, q4, q5⟩ (fun hHeld => ?_)
        refine wpAnyH_take (i := 0) (v := ?v24) rfl (by kernel_rfl) (by kernel_rfl) (by kernel_rfl) (fun _ _ _ h => h) (Or.inl ⟨by rfl, ?hy24⟩) hHeld ?rest24
        case hy24 => (intro w' hSw; (try dsimp only at hSw); first | (go_simp; done) | (go_simp; with_reducible rfl))
        simp only [Act.put, pz0, pz1, pz2, pz3, pz4, pz5]
        refine wpAnyH_take (i := 1) (v := ?v25) rfl (by kernel_rfl) (by kernel_rfl) (by kernel_rfl) (fun _ _ _ h => h) (Or.inl ⟨by rfl, ?hy25⟩) hHeld ?rest25
        case hy25 => (intro w' hSw; (try dsimp only at hSw); first | (go_simp; done) | (go_simp; with_reducible rfl))
        simp only [Act.put, pz0, pz1, pz2, pz3, pz4, pz5]
        refine wpAnyH_take (i := 2) (v := ?v26) rfl (by kernel_rfl) (by kernel_rfl) (by kernel_rfl) (fun _ _ _ h => h) (Or.inl ⟨by rfl, ?hy26⟩) hHeld ?rest26
        case hy26 => (intro w' hSw; (try dsimp only at hSw); first | (go_simp; done) | (go_simp; with_reducible rfl))
        simp only [Act.put, pz0, pz1, pz2, pz3, pz4, pz5]
        refine wpAnyH_take (i := 3) (v := ?v27) rfl (by kernel_rfl) (by kernel_rfl) (by kernel_rfl) (fun _ _ _ h => h) (Or.inl ⟨by rfl, ?hy27⟩) hHeld ?rest27
        case hy27 => (intro w' hSw; (try dsimp only at hSw); first | (go_simp; done) | (go_simp; with_reducible rfl))
        simp only [Act.put, pz0, pz1, pz2, pz3, pz4, pz5]
        refine wpAnyH_ready (rs := [4]) (by kernel_rfl) (by simp) ?_
        refine AllReadyH.cons rfl (fun K hK => ?_) AllReadyH.nil
        go_simp
        refine (specTableOk s[k] A1 n1 c1 A2 n2 c2 A3 n3 c3 A4 n4 c4 A5 n5 c5 ok _ (s1.drew ClR.stays) (s2.drew IntR.stays) (s3.drew UqR.stays) (s4.drew CkR.stays) (s5.drew FkR.stays) HCP.out HX.out).mono ?_
        rintro e wc ⟨rfl, hqc⟩
        rw [HTB.out]
        go_wp2_with fail
        refine hK.out _ _ ⟨below_keep hqc _ _ hHeld.1, below_keep hqc _ _ hHeld.2.1, below_keep hqc _ _ hHeld.2.2.1, below_keep hqc _ _ hHeld.2.2.2.1, below_keep hqc _ _ hHeld.2.2.2.2.1, below_keep hqc _ _ hHeld.2.2.2.2.2⟩ (fun hHeld => ?_)
        clear hK K
        (try simp only [Act.put, pz0, pz1, pz2, pz3, pz4, pz5])
        refine wpAnyH_take (i := 5) (v := ?v28) rfl (by kernel_rfl) (by kernel_rfl) (by kernel_rfl) (fun _ _ _ h => h) (Or.inl ⟨by rfl, ?hy28⟩) hHeld ?rest28
        case hy28 => (intro w' hSw; (try dsimp only at hSw); first | (go_simp; done) | (go_simp; with_reducible rfl))
        simp only [Act.put, pz0, pz1, pz2, pz3, pz4, pz5]
        refine wpAnyH_take (i := 6) (v := ?v29) rfl (by kernel_rfl) (by kernel_rfl) (by kernel_rfl) (fun _ _ _ h => h) (Or.inl ⟨by rfl, ?hy29⟩) hHeld ?rest29
        case hy29 => (intro w' hSw; (try dsimp only at hSw); first | (go_simp; done) | (go_simp; with_reducible rfl))
        simp only [Act.put, pz0, pz1, pz2, pz3, pz4, pz5]
        refine wpAnyH_take (i := 7) (v := ?v30) rfl (by kernel_rfl) (by kernel_rfl) (by kernel_rfl) (fun _ _ _ h => h) (Or.inl ⟨by rfl, ?hy30⟩) hHeld ?rest30
        case hy30 => (intro w' hSw; (try dsimp only at hSw); first | (go_simp; done) | (go_simp; with_reducible rfl))
        simp only [Act.put, pz0, pz1, pz2, pz3, pz4, pz5]
        refine wpAnyH_take (i := 8) (v := ?v31) rfl (by kernel_rfl) (by kernel_rfl) (by kernel_rfl) (fun _ _ _ h => h) (Or.inl ⟨by rfl, ?hy31⟩) hHeld ?rest31
        case hy31 => (intro w' hSw; (try dsimp only at hSw); first | (go_simp; done) | (go_simp; with_reducible rfl))
        simp only [Act.put, pz0, pz1, pz2, pz3, pz4, pz5]
        refine wpAnyH_take (i := 9) (v := ?v32) rfl (by kernel_rfl) (by kernel_rfl) (by kernel_rfl) (fun _ _ _ h => h) (Or.inl ⟨by rfl, ?hy32⟩) hHeld ?rest32
        case hy32 => (intro w' hSw; (try dsimp only at hSw); first | (go_simp; done) | (go_simp; with_reducible rfl))
        simp only [Act.put, pz0, pz1, pz2, pz3, pz4, pz5]
        refine wpAnyH_take (i := 10) (v := ?v33) rfl (by kernel_rfl) (by kernel_rfl) (by kernel_rfl) (fun _ _ _ h => h) (Or.inl ⟨by rfl, ?hy33⟩) hHeld ?rest33
        case hy33 => (intro w' hSw; (try dsimp only at hSw); first | (go_simp; done) | (go_simp; with_reducible rfl))
        simp only [Act.put, pz0, pz1, pz2, pz3, pz4, pz5]
        refine wpAnyH_take (i := 11) (v := ?v34) rfl (by kernel_rfl) (by kernel_rfl) (by kernel_rfl) (fun _ _ _ h => h) (Or.inl ⟨by rfl, ?hy34⟩) hHeld ?rest34
        case hy34 => (intro w' hSw; (try dsimp only at hSw); first | (go_simp; done) | (go_simp; with_reducible rfl))
        simp only [Act.put, pz0, pz1, pz2, pz3, pz4, pz5]
        refine wpAnyH_take (i := 12) (v := ?v35) rfl (by kernel_rfl) (by kernel_rfl) (by kernel_rfl) (fun _ _ _ h => h) (Or.inl ⟨by rfl, ?hy35⟩) hHeld ?rest35
        case hy35 => (intro w' hSw; (try dsimp only at hSw); first | (go_simp; done) | (go_simp; with_reducible rfl))
        simp only [Act.put, pz0, pz1, pz2, pz3, pz4, pz5]
        refine wpAnyH_take (i := 13) (v := ?v36) rfl (by kernel_rfl) (by kernel_rfl) (by kernel_rfl) (fun _ _ _ h => h) (Or.inl ⟨by rfl, ?hy36⟩) hHeld ?rest36
        case hy36 => (intro w' hSw; (try dsimp only at hSw); first | (go_simp; done) | (go_simp; with_reducible rfl))
        simp only [Act.put, pz0, pz1, pz2, pz3, pz4, pz5]
        refine wpAnyH_take (i := 14) (v := ?v37) rfl (by kernel_rfl) (by kernel_rfl) (by kernel_rfl) (fun _ _ _ h => h) (Or.inl ⟨by rfl, ?hy37⟩) hHeld ?rest37
        case hy37 => (intro w' hSw; (try dsimp only at hSw); first | (go_simp; done) | (go_simp; with_reducible rfl))
        simp only [Act.put, pz0, pz1, pz2, pz3, pz4, pz5]
        refine wpAnyH_ready (rs := [15]) (by kernel_rfl) (by simp) ?_
        refine AllReadyH.cons rfl (fun K hK => ?_) AllReadyH.nil
        go_simp
        refine (specL3At _ k cS (s.take k) _ ok _ (((hsw.drew TbR.stays).below TbR.stays hqc).take (m := k) (by omega)) (by omega)).mono ?_
        rintro e wd ⟨rfl, hqd⟩
        rw [HA.out]
        go_wp2_with fail
        refine hK.out _ _ ⟨below_keep hqd _ _ hHeld.1, below_keep hqd _ _ hHeld.2.1, below_keep hqd _ _ hHeld.2.2.1, below_keep hqd _ _ hHeld.2.2.2.1, below_keep hqd _ _ hHeld.2.2.2.2.1, below_keep hqd _ _ hHeld.2.2.2.2.2⟩ (fun hHeld => ?_)
        clear hK K
        (try simp only [Act.put, pz0, pz1, pz2, pz3, pz4, pz5])
        refine wpAnyH_take (i := 16) (v := ?v38) rfl (by kernel_rfl) (by kernel_rfl) (by kernel_rfl) (fun _ _ _ h => h) (Or.inl ⟨by rfl, ?hy38⟩) hHeld ?rest38
        case hy38 => (intro w' hSw; (try dsimp only at hSw); first | (go_simp; done) | (go_simp; with_reducible rfl))
        simp only [Act.put, pz0, pz1, pz2, pz3, pz4, pz5]
        refine wpAnyH_take (i := 17) (v := ?v39) rfl (by kernel_rfl) (by kernel_rfl) (by kernel_rfl) (fun _ _ _ h => h) (Or.inl ⟨by rfl, ?hy39⟩) hHeld ?rest39
        case hy39 => (intro w' hSw; (try dsimp only at hSw); first | (go_simp; done) | (go_simp; with_reducible rfl))
        simp only [Act.put, pz0, pz1, pz2, pz3, pz4, pz5]
        refine wpAnyH_done (by kernel_rfl) ?_ _
        refine NoPanic.normal ?_
        have hz := hb.drew.trans (hqc.mono hb.drew.size)
        have hz := hz.trans (hqd.mono hz.size)
        clear hHeld q0 q1 q2 q3 q4 q5
        go_wp2_with fail
        go_roundw
        case rel => exact ⟨k + 1, by omega, by go_num, Lib.hid HAL.out, Lib.hid HUQ.out, hz⟩
        case measure => simp [intOf]; omega
    · have e : s.take k = s := List.take_of_length_le (by omega)
      have e2 : (s.map Tb.name).drop k = [] := List.drop_eq_nil_of_le (by simp; omega)
      have g1 := hall.out
      have g2 := huq.out
      rw [e] at g1
      rw [e2] at g2
      have HALL := Lib.hid g1
      have HU := Lib.hid (show uniqGo [] (s.map Tb.name) = true by rw [g2]; simp [uniqGo])
      clear e e2 g1 g2 hall huq
      go_wp2_with fail
      clear hk hlt
      go_loopw [4] (fun i wr => ∃ k : Nat, k ≤ s.length ∧ i = .int .i64 k ∧ Hid ((s.take k).all (leadsB s) = true) ∧ Below w.heap.size w wr) (fun i _ => s.length - (intOf i).toNat)
      case atStart => exact ⟨0, by omega, rfl, Lib.hid (by simp), hb⟩
      case round =>
        clear hb
        obtain ⟨k, hk, rfl, hall, hb⟩ := hrel
        by_cases hlt : k < s.length
        case neg =>
          have e : s.take k = s := List.take_of_length_le (by omega)
          have g1 := hall.out
          rw [e] at g1
          by_cases h5 : (s.length : Int) ≤ 5
          · have HF := Lib.hid (show schemaB s = true by unfold schemaB; rw [decide_eq_true (by omega), HALL.out, HU.out, g1]; rfl)
            have h5' : decide ((s.length : Int) ≤ 5) = true := by simpa using h5
            clear e g1 hall
            go_wp2_with fail
            go_ret
            exact ⟨retB HF.out.symm, hb⟩
          · have HF := Lib.hid (show schemaB s = false by unfold schemaB; rw [decide_eq_false (by omega)]; rfl)
            have h5' : decide ((s.length : Int) ≤ 5) = false := by simpa using h5
            clear e g1 hall
            go_wp2_with fail
            go_ret
            exact ⟨retB HF.out.symm, hb⟩
        case pos =>
          have hsn := all_take (leadsB s) s k hlt
          rw [hall.out, Bool.true_and] at hsn
          have HNO := Lib.hid (fun hf : leadsB s s[k] = false => show schemaB s = false by unfold schemaB; rw [all_no (leadsB s) s k hlt hf]; simp)
          have HSN := Lib.hid hsn
          have HX := Lib.hid (HT.out k hlt)
          have HTK := Lib.hid (show tableB s[k] = true from List.all_eq_true.1 HALL.out _ (List.getElem_mem hlt))
          clear hsn hall
          have i0 : (0 : Int) ≤ k := by omega
          have i1 : (k : Int) < s.length := by omega
          go_wp2_with fail
          go_loopw [5] (fun i wr => ∃ m : Nat, m ≤ s[k].fks.length ∧ i = .int .i64 m ∧ Hid ((s[k].fks.take m).all (leadB s s[k]) = true) ∧ Below w.heap.size w wr) (fun i _ => s[k].fks.length - (intOf i).toNat)
          case atStart => exact ⟨0, by omega, rfl, Lib.hid (by simp), hb⟩
          case round =>
            clear hb
            obtain ⟨m, hm, rfl, hall, hb⟩ := hrel
            obtain ⟨b, off, A1, n1, c1, A2, n2, c2, A3, n3, c3, A4, n4, c4, A5, n5, c5, -, ea, q0, q1, q2, q3, q4, q5, s1, s2, -, -, s5, -⟩ := TbR.at_ (hs.below TbR.stays hb) hlt
            subst ea
            obtain rfl : s[k].fks.length = n5 := s5.1
            by_cases hlm : m < s[k].fks.length
            case neg =>
              have e : s[k].fks.take m = s[k].fks := List.take_of_length_le (by omega)
              have g1 := hall.out
              rw [e] at g1
              have HA := Lib.hid (HSN.out.trans g1)
              clear e g1 hall
              go_wp2_with fail
              go_roundw
              case rel => exact ⟨k + 1, by omega, by go_num, Lib.hid HA.out, hb⟩
              case measure => simp [intOf]; omega
            case pos =>
              have hsn := all_take (leadB s s[k]) s[k].fks m hlm
              rw [hall.out, Bool.true_and] at hsn
              have hno := fun hf : leadB s s[k] s[k].fks[m] = false => HNO.out (show leadsB s s[k] = false from all_no (leadB s s[k]) s[k].fks m hlm hf)
              have HI1 := Lib.hid (show ∀ y ∈ s[k].fks[m].cols, 0 ≤ y ∧ y < s[k].cols.length from fk_cols HTK.out hlm)
              obtain ⟨bf, offf, A9, n9, c9, -, ef, y0, y1, y2, y3, y4, hfc, -⟩ := FkR.at_ s5 hlm
              subst ef
              obtain rfl : s[k].fks[m].cols.length = n9 := hfc.1
              have HSN3 := Lib.hid hsn
              have HNO3 := Lib.hid hno
              clear hsn hno hall
              have hfin : s[k].fks[m].cols.length ≤ 1048576 := by have h1 := HX.out; have := sum_mem_le Fk.sz s[k].fks m hlm; simp only [Tb.sz, Fk.sz, szL] at *; omega
              have hfl : s[k].fks.length ≤ 1048576 := by have := HX.out; simp only [Tb.sz, szL] at this; omega
              generalize s[k].fks[m] = f at *
              have j0 : (0 : Int) ≤ m := by omega
              have j1' : (m : Int) < s[k].fks.length := by omega
              have hbx := (Below.refl wr.heap.size wr).alloc (Nat.le_refl _) (.cells #[.slice A9 f.cols.length c9, .string f.table, .int .i64 f.del, .int .i64 f.upd, .bool f.dfr] 178)
              have hba := hb.trans (hbx.mono hb.size)
              have rf := Row.new wr 178 #[.slice A9 f.cols.length c9, .string f.table, .int .i64 f.del, .int .i64 f.upd, .bool f.dfr]
              have hfc1 := hfc.below IntR.stays hbx
              obtain ⟨⟨f0, f1, f2, f3, f4⟩, -⟩ := rf.five
              clear hfc
              go_wp2_with fail
              generalize wr.alloc (.cells #[.slice A9 f.cols.length c9, .string f.table, .int .i64 f.del, .int .i64 f.upd, .bool f.dfr] 178) = z1 at *
              generalize wr.heap.size = gz at *
              refine (specL3At _ s.length cS s f.table ok _ (hs.below TbR.stays hba) hn).mono ?_
              rintro e w1 ⟨rfl, hb1⟩
              have hbc := hba.trans (hb1.mono hba.size)
              have rf1 := rf.below hb1
              have hfc2 := hfc1.below IntR.stays hb1
              clear f0 f1 f2 f3 f4 q0 q1 q2 q3 q4 q5 y0 y1 y2 y3 y4 s1 s2 hbx hb rf hfc1 hba hb1 s5
              obtain ⟨⟨f0, f1, f2, f3, f4⟩, -⟩ := rf1.five
              by_cases hat : atN (s.map Tb.name) f.table = -1
              · have HA := Lib.hid hat
                have HF := Lib.hid (HNO3.out (by unfold leadB; rw [decide_eq_false (by simp [hat])]; rfl))
                rw [hat]
                clear hat
                go_wp2_with fail
                go_quiet (fail)
                go_wp2_with fail
                go_ret
                exact ⟨retB HF.out.symm, below_drewN hbc _⟩
              obtain ⟨j, hj, hjl⟩ : ∃ j : Nat, atN (s.map Tb.name) f.table = (j : Int) ∧ j < s.length := by
                rcases atN_rng (s.map Tb.name) f.table with h | h
                · exact absurd h hat
                · rw [List.length_map] at h; exact ⟨(atN (s.map Tb.name) f.table).toNat, by omega, by omega⟩
              have hld : leadB s s[k] f = sameB s[k].cols f.cols s[j].cols s[j].key := by
                unfold leadB; rw [decide_eq_true hat, hj]; simp [List.getElem?_eq_getElem hjl]
              have HSN4 := Lib.hid (HSN3.out.trans hld)
              have HLD := Lib.hid hld
              have HTJ := Lib.hid (show tableB s[j] = true from List.all_eq_true.1 HALL.out _ (List.getElem_mem hjl))
              rw [hj]
              clear hat hj hld
              have k0 : (0 : Int) ≤ j := by omega
              have k1 : (j : Int) < s.length := by omega
              have k2 : ¬ ((j : Int) < 0) := by omega
              have k3 : decide ((j : Int) < 0) = false := decide_eq_false k2
              obtain ⟨bj, offj, B1, m1, d1, B2, m2, d2, B3, m3, d3, B4, m4, d4, B5, m5, d5, -, ej, z0, z1', z2, z3, z4, z5, t1, t2, -, -, -, -⟩ := TbR.at_ (hs.below TbR.stays hbc) hjl
              cases ej
              obtain rfl : s[j].key.length = m2 := t2.1
              cases hl : (s[j].key.length == f.cols.length)
              · have hne := beq_eq_false_iff_ne.1 hl
                have hl' : ¬ ((s[j].key.length : Int) = f.cols.length) := by omega
                have HF := Lib.hid (HNO3.out (by rw [HLD.out]; unfold sameB; rw [decide_eq_false (fun h => hne h.symm)]; rfl))
                clear hl hne
                go_wp2_with fail
                go_quiet (fail)
                go_wp2_with fail
                go_ret
                exact ⟨retB HF.out.symm, below_drewN hbc _⟩
              have hlen : s[j].key.length = f.cols.length := by simpa using hl
              have hl' : ((s[j].key.length : Int) = f.cols.length) := by omega
              have hz : (f.cols.zip s[j].key).length = f.cols.length := by simp [hlen]
              have HZ := Lib.hid hz
              have HL := Lib.hid hlen
              have HE := Lib.hid (show sameB s[k].cols f.cols s[j].cols s[j].key = (f.cols.zip s[j].key).all (kindV s[k].cols s[j].cols) by unfold sameB; rw [decide_eq_true hlen.symm]; rfl)
              clear hl hz hlen
              go_wp2_with fail
              go_quiet (fail)
              go_wp2_with fail
              clear f0 f1 f2 f3 f4 z0 z1' z2 z3 z4 z5 t1 t2 hl'
              have hbd := fun n => below_drewN hbc n
              go_loopw [8] (fun i wr => ∃ r : Nat, r ≤ f.cols.length ∧ i = .int .i64 r ∧ Hid (((f.cols.zip s[j].key).take r).all (kindV s[k].cols s[j].cols) = true) ∧ Row wr gz 178 #[.slice A9 f.cols.length c9, .string f.table, .int .i64 f.del, .int .i64 f.upd, .bool f.dfr] ∧ Sl IntR 1 ok wr A9 f.cols.length f.cols ∧ Below w.heap.size w wr) (fun i _ => f.cols.length - (intOf i).toNat)
              case atStart => exact ⟨0, by omega, rfl, Lib.hid (by simp), rf1.drewN _, hfc2.drewN IntR.stays _, hbd _⟩
              case round =>
                clear hbd hbc rf1 hfc2
                obtain ⟨r, hr', rfl, hall, hrf, hfc, hb⟩ := hrel
                obtain ⟨⟨f0, f1, f2, f3, f4⟩, -⟩ := hrf.five
                by_cases hlr : r < f.cols.length
                case neg =>
                  have e : (f.cols.zip s[j].key).take r = f.cols.zip s[j].key := List.take_of_length_le (by rw [HZ.out]; omega)
                  have g1 := hall.out
                  rw [e] at g1
                  have HA := Lib.hid (HSN4.out.trans (HE.out.trans g1))
                  clear e g1 hall
                  go_wp2_with fail
                  go_roundw
                  case rel => exact ⟨m + 1, by omega, by go_num, Lib.hid HA.out, hb⟩
                  case measure => simp [intOf]; omega
                case pos =>
                  have hlr2 : r < s[j].key.length := by have := HL.out; omega
                  obtain ⟨bq, offq, C1, e1, g1, C2, e2, g2, C3, e3, g3, C4, e4, g4, C5, e5, g5, -, eq, q0, q1, q2, q3, q4, q5, s1, -, -, -, -, -⟩ := TbR.at_ (hs.below TbR.stays hb) hlt
                  cases eq
                  obtain ⟨bj, offj, D1, m1, d1, D2, m2, d2, D3, m3, d3, D4, m4, d4, D5, m5, d5, -, ej, z0, z1', z2, z3, z4, z5, t1, t2, -, -, -, -⟩ := TbR.at_ (hs.below TbR.stays hb) hjl
                  cases ej
                  obtain rfl : s[j].key.length = m2 := t2.1
                  obtain rfl : s[k].cols.length = e1 := s1.1
                  obtain rfl : s[j].cols.length = m1 := t1.1
                  obtain ⟨bk, offk, -, ek, p0⟩ := IntR.at_ hfc hlr
                  subst ek
                  obtain ⟨bl, offl, -, el, p1⟩ := IntR.at_ t2 hlr2
                  subst el
                  have hi1 := HI1.out _ (List.getElem_mem hlr)
                  have hi2 := key_cols HTJ.out _ (List.getElem_mem hlr2)
                  have hsn := all_take (kindV s[k].cols s[j].cols) (f.cols.zip s[j].key) r (by rw [HZ.out]; exact hlr)
                  have hno := fun hf : kindV s[k].cols s[j].cols ((f.cols.zip s[j].key)[r]'(by rw [HZ.out]; exact hlr)) = false => all_no (kindV s[k].cols s[j].cols) (f.cols.zip s[j].key) r (by rw [HZ.out]; exact hlr) hf
                  obtain ⟨u1, hu1⟩ : ∃ j : Nat, f.cols[r] = (j : Int) := ⟨f.cols[r].toNat, by omega⟩
                  obtain ⟨u2, hu2⟩ : ∃ i : Nat, s[j].key[r] = (i : Int) := ⟨s[j].key[r].toNat, by omega⟩
                  rw [hu1] at p0 hi1
                  rw [hu2] at p1 hi2
                  have hjl1 : u1 < s[k].cols.length := by omega
                  have hjl2 : u2 < s[j].cols.length := by omega
                  have eg : kindV s[k].cols s[j].cols ((f.cols.zip s[j].key)[r]'(by rw [HZ.out]; exact hlr)) = (s[k].cols[u1].kind == s[j].cols[u2].kind) := by
                    rw [List.getElem_zip]; unfold kindV; simp only [hu1, hu2, kindAt_nat hjl1, kindAt_nat hjl2]
                  rw [hall.out, Bool.true_and, eg] at hsn
                  rw [eg] at hno
                  obtain ⟨bv, offv, -, ev, v0, v1, v2, v3, v4, v5⟩ := ClR.at_ s1 hjl1
                  subst ev
                  obtain ⟨bx, offx, -, ex, x0, x1, x2, x3, x4, x5⟩ := ClR.at_ t1 hjl2
                  subst ex
                  have r0 : (0 : Int) ≤ r := by omega
                  have r1 : (r : Int) < f.cols.length := by omega
                  have r2 : (r : Int) < s[j].key.length := by omega
                  have r3 : (0 : Int) ≤ u1 := by omega
                  have r4 : (u1 : Int) < s[k].cols.length := by omega
                  have r5 : (0 : Int) ≤ u2 := by omega
                  have r6 : (u2 : Int) < s[j].cols.length := by omega
                  clear eg hu1 hu2 hi1 hi2
                  cases hc : (s[k].cols[u1].kind == s[j].cols[u2].kind)
                  · have HF := Lib.hid (HNO3.out (by rw [HLD.out, HE.out]; exact hno hc))
                    have hc2 : (s[k].cols[u1].kind != s[j].cols[u2].kind) = true := by rw [bne, hc]; rfl
                    clear hsn hno hall
                    go_wp2_with fail
                    go_quiet (fail)
                    go_wp2_with fail
                    go_ret
                    exact ⟨retB HF.out.symm, below_drewN hb _⟩
                  · have HA := Lib.hid (hsn.trans hc)
                    have hc2 : (s[k].cols[u1].kind != s[j].cols[u2].kind) = false := by rw [bne, hc]; rfl
                    clear hsn hno hall
                    go_wp2_with fail
                    go_quiet (fail)
                    go_wp2_with fail
                    go_roundw
                    case rel => exact ⟨r + 1, by omega, by go_num, Lib.hid HA.out, hrf.drewN _, hfc.drewN IntR.stays _, below_drewN hb _⟩
                    case measure => simp [intOf]; omega
theorem tableB_colsT {t : Tb} (h : tableB t = true) : t.cols.length ≤ 8 := by
  simp only [tableB, colsB, Bool.and_eq_true, decide_eq_true_eq] at h
  exact h.2.1.2.1
theorem specL2ExprE (A : Option Addr) (n cap : Nat) (ts : List Tk) (cols : Int) (w : World) (h : Toks w A n ts) (hn : n ≤ maxLen) (h0 : 0 ≤ cols) (h16 : cols ≤ 16) :
    Calls Tryz.prog 135 #[.slice A n cap, .int .i64 cols] w fun e w' => e = .returned (.bool (exprB ts cols)) ∧ Below w.heap.size w w' :=
  (specL2Expr A n cap ts cols w h hn h0 h16).mono fun e w' hq => ⟨by
    rw [hq.1]; exact retB (by simp only [exprB, l2B, h0, h16, decide_true, Bool.true_and]; exact Bool.and_comm _ _), hq.2⟩
set_option maxRecDepth 100000 in
set_option maxHeartbeats 4000000 in
theorem specOne (AS : Option Addr) (nS cS : Nat) (s : List Tb) (A2 : Option Addr) (n2 c2 : Nat) (A4 : Option Addr) (n4 c4 : Nat) (t : Tg) (ok okt : Nat → Prop) (w : World)
    (hs : Sl TbR 6 ok w AS nS s) (hsz : szL Tb.sz s ≤ 1048576) (hS : schemaB s = true) (ht : t.sz ≤ 1048576)
    (h2 : Sl TkR 5 okt w A2 n2 t.wher) (h4 : Sl TeR 1 okt w A4 n4 t.terms) :
    Calls Tryz.prog 88 #[.slice AS nS cS, .agg #[.string t.table, .int .i64 t.event, .slice A2 n2 c2, .string t.into, .slice A4 n4 c4]] w fun e w' => e = .returned (.bool (trigB s t)) ∧ Below w.heap.size w w' := by
  obtain rfl : s.length = nS := hs.1
  obtain rfl : t.wher.length = n2 := h2.1
  obtain rfl : t.terms.length = n4 := h4.1
  have hn : s.length ≤ 1048576 := by unfold szL at hsz; omega
  have hnw : t.wher.length ≤ 1048576 := by unfold Tg.sz szL at ht; omega
  have hnt : t.terms.length ≤ 1048576 := by unfold Tg.sz szL at ht; omega
  have HTE := Lib.hid (fun (k : Nat) (hk : k < t.terms.length) => show (t.terms[k]).expr.length ≤ maxLen by
    have e : szL (fun t : Tk => t.vs.size) (t.terms[k]).expr ≤ szL Te.sz t.terms := szL_mem Te.sz t.terms t.terms[k] (List.getElem_mem hk)
    have e2 : (t.terms[k]).expr.length ≤ szL (fun t : Tk => t.vs.size) (t.terms[k]).expr := by unfold szL; omega
    unfold Tg.sz at ht
    unfold maxLen
    omega)
  have HCL := Lib.hid (fun k (hlt : k < s.length) => show s[k].cols.length ≤ 8 from tableB_colsT (List.all_eq_true.1 (by unfold schemaB at hS; simp only [Bool.and_eq_true] at hS; exact hS.2.1) _ (List.getElem_mem hlt)))
  have HH4 := Lib.hid h4
  have HH2 := Lib.hid h2
  clear hsz ht hS
  have hb0 := (Below.refl w.heap.size w).alloc (Nat.le_refl _) (.cells #[.string t.table, .int .i64 t.event, .slice A2 t.wher.length c2, .string t.into, .slice A4 t.terms.length c4] 91)
  have r0 := Row.new w 91 #[.string t.table, .int .i64 t.event, .slice A2 t.wher.length c2, .string t.into, .slice A4 t.terms.length c4]
  obtain ⟨⟨d0, d1, d2, d3, d4⟩, -⟩ := r0.five
  have HS0 := Lib.hid (hs.below TbR.stays hb0)
  go_enter Tryz.func88, Tryz.ntmps88
  go_wp2_with fail
  refine (specL3At AS s.length cS s t.table ok _ HS0.out hn).mono ?_
  rintro e w1 ⟨rfl, hq1⟩
  have hb1 := hb0.trans (hq1.mono hb0.size)
  have r1 := r0.below hq1
  clear d0 d1 d2 d3 d4 HS0 r0
  obtain ⟨⟨d0, d1, d2, d3, d4⟩, -⟩ := r1.five
  go_wp2_with fail
  refine (specL3At AS s.length cS s t.into ok _ (hs.below TbR.stays hb1) hn).mono ?_
  rintro e w2 ⟨rfl, hq2⟩
  have hb2 := hb1.trans (hq2.mono hb1.size)
  have r2 := r1.below hq2
  clear d0 d1 d2 d3 d4 r1
  obtain ⟨⟨d0, d1, d2, d3, d4⟩, -⟩ := r2.five
  have hs2 := hs.below TbR.stays hb2
  have g2 := h2.below TkR.stays hb2
  have hbo := hb0
  clear hs h2 h4 hq1 hq2 hb1 hb0
  by_cases e0 : atN (s.map Tb.name) t.table = -1
  · have HF := Lib.hid (show trigB s t = false by unfold trigB; rw [e0]; rfl)
    rw [e0]
    clear e0
    go_wp2_with fail
    go_quiet (fail)
    go_wp2_with fail
    go_ret
    first | exact ⟨retB HF.out.symm, below_dN hb2 _⟩ | exact ⟨retB HF.out.symm, hb2⟩
  obtain ⟨m, hm, hml⟩ : ∃ m : Nat, atN (s.map Tb.name) t.table = m ∧ m < s.length := by
    rcases atN_rng (s.map Tb.name) t.table with h | h
    · exact absurd h e0
    · rw [List.length_map] at h
      exact ⟨(atN (s.map Tb.name) t.table).toNat, by omega, by omega⟩
  have zm : decide ((m : Int) < 0) = false := decide_eq_false (by omega)
  by_cases e1 : atN (s.map Tb.name) t.into = -1
  · have HF := Lib.hid (show trigB s t = false by unfold trigB; rw [e1]; simp)
    rw [e1, hm]
    clear e0 e1 hm
    go_wp2_with fail
    go_quiet (fail)
    go_wp2_with fail
    go_ret
    first | exact ⟨retB HF.out.symm, below_dN hb2 _⟩ | exact ⟨retB HF.out.symm, hb2⟩
  obtain ⟨q, hq, hql⟩ : ∃ q : Nat, atN (s.map Tb.name) t.into = q ∧ q < s.length := by
    rcases atN_rng (s.map Tb.name) t.into with h | h
    · exact absurd h e1
    · rw [List.length_map] at h
      exact ⟨(atN (s.map Tb.name) t.into).toNat, by omega, by omega⟩
  have zq : decide ((q : Int) < 0) = false := decide_eq_false (by omega)
  clear e0 e1
  rw [hm, hq]
  cases hev : eventB t.event
  · have HF := Lib.hid (show trigB s t = false by unfold trigB; rw [hev]; simp)
    have HE := Lib.hid hev
    clear hev hm hq
    go_wp2_with fail
    go_quiet ((go_at_call 41; exact Calls.quiet_of_same (specInV HE.out _)))
    go_wp2_with fail
    go_ret
    first | exact ⟨retB HF.out.symm, below_dN hb2 _⟩ | exact ⟨retB HF.out.symm, hb2⟩
  have HE := Lib.hid hev
  have HB := Lib.hid (show trigB s t = (decide (t.terms.length = s[q].cols.length) && ((decide (t.wher.length = 0) || exprB t.wher (2 * (s[m].cols.length : Int))) && t.terms.all (fun y => exprB y.expr (2 * (s[m].cols.length : Int))))) by
    unfold trigB trigE
    rw [hm, hq, hev, widthAt_of hm hml, widthAt_of hq hql, decide_eq_false (show ¬ (m : Int) = -1 by omega), decide_eq_false (show ¬ (q : Int) = -1 by omega), Int.natCast_mul]; rfl)
  clear hev hm hq
  obtain ⟨gb, go, D1, m1, x1, D2, m2, x2, D3, m3, x3, D4, m4, x4, D5, m5, x5, -, ea, q0, q1, q2, q3, q4, q5, s1, -, -, -, -, -⟩ := TbR.at_ hs2 hml
  subst ea
  obtain ⟨gb', go', E1, f1, k1, E2, f2, k2, E3, f3, k3, E4, f4, k4, E5, f5, k5, -, ea', v0, v1, v2, v3, v4, v5, p1, -, -, -, -, -⟩ := TbR.at_ hs2 hql
  obtain ⟨rfl, rfl⟩ : gb = gb' ∧ go = go' := by simpa using ea'
  obtain rfl : s[m].cols.length = m1 := s1.1
  obtain rfl : s[q].cols.length = f1 := p1.1
  clear ea' q0 q2 q3 q4 q5 v0 v2 v3 v4 v5 s1 p1 hs2
  have i0 : (0 : Int) ≤ m := by omega
  have i1 : (m : Int) < s.length := by omega
  have j0 : (0 : Int) ≤ q := by omega
  have j1 : (q : Int) < s.length := by omega
  have hc0 := HCL.out m hml
  have hc1 := HCL.out q hql
  by_cases hl : t.terms.length = s[q].cols.length
  case neg =>
    have HF := Lib.hid (show trigB s t = false by rw [HB.out, decide_eq_false hl]; rfl)
    have zl : ((t.terms.length : Int) == s[q].cols.length) = false := beq_eq_false_iff_ne.2 (by omega)
    clear hl
    go_wp2_with fail
    go_quiet ((go_at_call 41; exact Calls.quiet_of_same (specInV HE.out _)))
    go_wp2_with fail
    go_ret
    first | exact ⟨retB HF.out.symm, below_dN hb2 _⟩ | exact ⟨retB HF.out.symm, hb2⟩
  have zl2 : ((t.terms.length : Int) != s[q].cols.length) = false := by rw [hl]; simp
  have zl : ((t.terms.length : Int) == s[q].cols.length) = true := by rw [hl]; exact beq_self_eq_true _
  have HB2 := Lib.hid (show trigB s t = ((decide (t.wher.length = 0) || exprB t.wher (2 * (s[m].cols.length : Int))) && t.terms.all (fun y => exprB y.expr (2 * (s[m].cols.length : Int)))) by rw [HB.out, decide_eq_true hl]; rfl)
  clear hl
  go_wp2_with fail
  go_quiet ((go_at_call 41; exact Calls.quiet_of_same (specInV HE.out _)))
  (try rw [zl2])
  have q1' := below_keep (below_dN (Below.refl w2.heap.size w2) nq) _ _ q1
  have r3 := r2.below (below_dN (Below.refl w2.heap.size w2) nq)
  have hb3 := below_dN hb2 nq
  clear d0 d1 d2 d3 d4 r2
  obtain ⟨⟨d0, d1, d2, d3, d4⟩, -⟩ := r3.five
  go_wp2_with fail
  generalize w2.drewN nq = wz at *
  have HR := Lib.hid r3
  clear r3 d0 d1 d2 d3 d4 q1 q1' v1 g2
  go_loopw [8] (fun iv wr => ∃ k : Nat, k ≤ t.terms.length ∧ iv = .int .i64 k ∧ Hid ((t.terms.take k).all (fun y => exprB y.expr (2 * (s[m].cols.length : Int))) = true) ∧ Below w.heap.size w wr ∧ Row wr w.heap.size 91 #[.string t.table, .int .i64 t.event, .slice A2 t.wher.length c2, .string t.into, .slice A4 t.terms.length c4]) (fun iv _ => t.terms.length - (intOf iv).toNat)
  case atStart => exact ⟨0, by omega, rfl, Lib.hid (by simp), hb3, HR.out⟩
  case round =>
    obtain ⟨k, hk, rfl, hall, hb, r4⟩ := hrel
    obtain ⟨⟨d0, d1, d2, d3, d4⟩, -⟩ := r4.five
    by_cases hlt : k < t.terms.length
    · obtain ⟨bt, ot, AE, nE, cE, -, rfl, u0, hx, -⟩ := TeR.at_ (HH4.out.below TeR.stays hb) hlt
      obtain rfl : t.terms[k].expr.length = nE := hx.1
      have a0 : (0 : Int) ≤ k := by omega
      have a1 : (k : Int) < t.terms.length := by omega
      have HXE := Lib.hid (specL2ExprE AE t.terms[k].expr.length cE t.terms[k].expr (2 * (s[m].cols.length : Int)) wr (Sl.cellz (fun _ => rfl) hx) (HTE.out k hlt) (by omega) (by omega))
      have hst := all_take (fun y : Te => exprB y.expr (2 * (s[m].cols.length : Int))) t.terms k hlt
      rw [hall.out, Bool.true_and] at hst
      clear hx
      cases he : exprB t.terms[k].expr (2 * (s[m].cols.length : Int))
      · have HF := Lib.hid (show trigB s t = false by rw [HB2.out, all_no (fun y : Te => exprB y.expr (2 * (s[m].cols.length : Int))) t.terms k hlt he]; simp)
        have HEE := Lib.hid he
        clear hst he
        go_wp2_with fail
        refine HXE.out.mono ?_
        rintro e w3 ⟨rfl, hq3⟩
        rw [HEE.out]
        go_wp2_with fail
        go_ret
        exact ⟨retB HF.out.symm, hb.trans (hq3.mono hb.size)⟩
      · have HA := Lib.hid (show (t.terms.take (k + 1)).all (fun y => exprB y.expr (2 * (s[m].cols.length : Int))) = true by rw [hst]; exact he)
        have HEE := Lib.hid he
        clear hst he
        go_wp2_with fail
        refine HXE.out.mono ?_
        rintro e w3 ⟨rfl, hq3⟩
        rw [HEE.out]
        go_wp2_with fail
        go_roundw
        case rel => exact ⟨k + 1, by omega, by go_num, HA, hb.trans (hq3.mono hb.size), r4.below hq3⟩
        case measure => simp [intOf]; omega
    · obtain rfl : k = t.terms.length := by omega
      have h1 := hall.out
      rw [List.take_of_length_le (Nat.le_refl _)] at h1
      have HB3 := Lib.hid (show trigB s t = (decide (t.wher.length = 0) || exprB t.wher (2 * (s[m].cols.length : Int))) by rw [HB2.out, h1, Bool.and_true])
      clear hall h1
      by_cases hwl : t.wher.length = 0
      · have HF := Lib.hid (show trigB s t = true by rw [HB3.out, decide_eq_true hwl]; rfl)
        have zw : ((t.wher.length : Int) == 0) = true := by rw [hwl]; rfl
        go_wp2_with fail
        go_ret
        exact ⟨retB HF.out.symm, hb⟩
      · have HF := Lib.hid (show trigB s t = exprB t.wher (2 * (s[m].cols.length : Int)) by rw [HB3.out, decide_eq_false hwl]; rfl)
        have zw : ((t.wher.length : Int) == 0) = false := beq_eq_false_iff_ne.2 (by omega)
        go_wp2_with fail
        refine (specL2ExprE A2 t.wher.length c2 t.wher (2 * (s[m].cols.length : Int)) wr (Sl.cellz (fun _ => rfl) (HH2.out.below TkR.stays hb)) (by unfold maxLen; omega) (by omega) (by omega)).mono ?_
        rintro e w3 ⟨rfl, hq3⟩
        rw [← HF.out]
        go_wp2_with fail
        go_ret
        exact ⟨rfl, hb.trans (hq3.mono hb.size)⟩
set_option maxRecDepth 100000 in
set_option maxHeartbeats 4000000 in
theorem implTriggersOk (AS AL : Option Addr) (nS cS nL cL : Nat) (s : List Tb) (l : List Tg) (ok okl : Nat → Prop) (w : World)
    (hs : Sl TbR 6 ok w AS nS s) (hl : Sl TgR 5 okl w AL nL l) (hsz : szL Tb.sz s ≤ 1048576) (hlz : szL Tg.sz l ≤ 1048576) :
    Calls Tryz.prog 47 #[.slice AS nS cS, .slice AL nL cL] w fun e w' => e = .returned (.bool (triggersB s l)) ∧ Below w.heap.size w w' := by
  obtain rfl : l.length = nL := hl.1
  have hn : l.length ≤ 1048576 := by unfold szL at hlz; omega
  have HLZ := Lib.hid (fun (k : Nat) (hk : k < l.length) => show (l[k]).sz ≤ 1048576 from Nat.le_trans (szL_mem Tg.sz l l[k] (List.getElem_mem hk)) hlz)
  have HSZ := Lib.hid hsz
  have HL := Lib.hid hl
  have HS := Lib.hid hs
  clear hlz hsz hl
  cases hS : schemaB s
  · have HF := Lib.hid (show triggersB s l = false by unfold triggersB; rw [hS]; rfl)
    have HE := Lib.hid hS
    clear hS
    go_enter Tryz.func47, Tryz.ntmps47
    go_wp2_with fail
    refine (implSchemaOk AS nS cS s ok w hs HSZ.out).mono ?_
    rintro e w1 ⟨rfl, hq1⟩
    rw [HE.out]
    go_wp2_with fail
    go_ret
    exact ⟨retB HF.out.symm, hq1⟩
  have HE := Lib.hid hS
  by_cases h6 : l.length ≤ 6
  case neg =>
    have HF := Lib.hid (show triggersB s l = false by unfold triggersB; rw [decide_eq_false h6]; simp)
    have z6 : decide ((6 : Int) < l.length) = true := decide_eq_true (by omega)
    clear hS
    go_enter Tryz.func47, Tryz.ntmps47
    go_wp2_with fail
    refine (implSchemaOk AS nS cS s ok w hs HSZ.out).mono ?_
    rintro e w1 ⟨rfl, hq1⟩
    rw [HE.out]
    go_wp2_with fail
    go_ret
    exact ⟨retB HF.out.symm, hq1⟩
  have z6 : decide ((6 : Int) < l.length) = false := decide_eq_false (by omega)
  have HB := Lib.hid (show triggersB s l = l.all (trigB s) by unfold triggersB; rw [hS, decide_eq_true h6]; rfl)
  clear hS
  go_enter Tryz.func47, Tryz.ntmps47
  go_wp2_with fail
  refine (implSchemaOk AS nS cS s ok w hs HSZ.out).mono ?_
  rintro e w1 ⟨rfl, hq1⟩
  rw [HE.out]
  go_wp2_with fail
  clear hs
  go_loopw [16] (fun iv wr => ∃ k : Nat, k ≤ l.length ∧ iv = .int .i64 k ∧ Hid ((l.take k).all (trigB s) = true) ∧ Below w.heap.size w wr) (fun iv _ => l.length - (intOf iv).toNat)
  case atStart => exact ⟨0, by omega, rfl, Lib.hid (by simp), hq1⟩
  case round =>
    clear hq1
    obtain ⟨k, hk, rfl, hall, hb⟩ := hrel
    by_cases hlt : k < l.length
    · obtain ⟨bt, ot, A2, n2, c2, A4, n4, c4, -, rfl, y0, y1, y2, y3, y4, g2, g4, -, -⟩ := TgR.at_ (HL.out.below TgR.stays hb) hlt
      have i0 : (0 : Int) ≤ k := by omega
      have i1 : (k : Int) < l.length := by omega
      have HX := Lib.hid (implTriggerOk AS nS cS s bt (ot + k * 5) A2 n2 c2 A4 n4 c4 l[k] _ _ wr (HS.out.below TbR.stays hb) HSZ.out (HLZ.out k hlt) y0 y1 y2 y3 y4 g2 g4)
      have hst := all_take (trigB s) l k hlt
      rw [hall.out, Bool.true_and] at hst
      clear g2 g4 y0 y1 y2 y3 y4
      cases he : trigB s l[k]
      · have HF := Lib.hid (show triggersB s l = false by rw [HB.out, all_no (trigB s) l k hlt he])
        have HEE := Lib.hid he
        clear hst he
        go_wp2_with fail
        refine HX.out.mono ?_
        rintro e w3 ⟨rfl, hq3⟩
        rw [HEE.out]
        go_wp2_with fail
        go_ret
        exact ⟨retB HF.out.symm, hb.trans (hq3.mono hb.size)⟩
      · have HA := Lib.hid (show (l.take (k + 1)).all (trigB s) = true by rw [hst]; exact he)
        have HEE := Lib.hid he
        clear hst he
        go_wp2_with fail
        refine HX.out.mono ?_
        rintro e w3 ⟨rfl, hq3⟩
        rw [HEE.out]
        go_wp2_with fail
        go_roundw
        case rel => exact ⟨k + 1, by omega, by go_num, HA, hb.trans (hq3.mono hb.size)⟩
        case measure => simp [intOf]; omega
    · obtain rfl : k = l.length := by omega
      have h1 := hall.out
      rw [List.take_of_length_le (Nat.le_refl _)] at h1
      have HF := Lib.hid (show triggersB s l = true by rw [HB.out]; exact h1)
      clear hall h1
      go_wp2_with fail
      go_ret
      exact ⟨retB HF.out.symm, hb⟩
set_option maxRecDepth 100000 in
set_option maxHeartbeats 4000000 in
theorem specTriggersOk (AS AL : Option Addr) (nS cS nL cL : Nat) (s : List Tb) (l : List Tg) (ok okl : Nat → Prop) (w : World)
    (hs : Sl TbR 6 ok w AS nS s) (hl : Sl TgR 5 okl w AL nL l) (hcp : nS ≤ cS) (hsz : szL Tb.sz s ≤ 1048576) (hlz : szL Tg.sz l ≤ 1048576) :
    Calls Tryz.prog 40 #[.slice AS nS cS, .slice AL nL cL] w fun e w' => e = .returned (.bool (triggersB s l)) ∧ Below w.heap.size w w' := by
  obtain rfl : l.length = nL := hl.1
  have hn : l.length ≤ 1048576 := by unfold szL at hlz; omega
  have HLZ := Lib.hid (fun (k : Nat) (hk : k < l.length) => show (l[k]).sz ≤ 1048576 from Nat.le_trans (szL_mem Tg.sz l l[k] (List.getElem_mem hk)) hlz)
  have HSZ := Lib.hid hsz
  have HL := Lib.hid hl
  have HS := Lib.hid hs
  clear hlz hsz hl
  cases hS : schemaB s
  · have HF := Lib.hid (show triggersB s l = false by unfold triggersB; rw [hS]; rfl)
    have HE := Lib.hid hS
    clear hS
    go_enter Tryz.func40, Tryz.ntmps40
    go_wp2_with fail
    go_loopw [5] (fun iv wr => iv = .int .i64 0 ∧ Below w.heap.size w wr) (fun iv _ => 0)
    case atStart => exact ⟨rfl, Below.refl _ _⟩
    case round =>
      obtain ⟨rfl, hb⟩ := hrel
      go_wp2_with fail
      refine (specSchemaOk AS nS cS s ok _ (HS.out.below TbR.stays hb) hcp HSZ.out).mono ?_
      rintro e w1 ⟨rfl, hq1⟩
      rw [HE.out]
      go_wp2_with fail
      refine (specSchemaOk AS nS cS s ok _ (HS.out.below TbR.stays (hb.trans (hq1.mono hb.size))) hcp HSZ.out).mono ?_
      rintro e w2 ⟨rfl, hq2⟩
      rw [HE.out]
      go_wp2_with fail
      go_ret
      exact ⟨retB HF.out.symm, (hb.trans (hq1.mono hb.size)).trans (hq2.mono (hb.trans (hq1.mono hb.size)).size)⟩
  have HE := Lib.hid hS
  have HB := Lib.hid (show triggersB s l = (decide (l.length ≤ 6) && l.all (trigB s)) by unfold triggersB; rw [hS]; rfl)
  clear hS
  go_enter Tryz.func40, Tryz.ntmps40
  go_wp2_with fail
  clear hs
  go_loopw [5] (fun iv wr => ∃ k : Nat, k ≤ l.length ∧ iv = .int .i64 k ∧ Hid ((l.take k).all (trigB s) = true) ∧ Below w.heap.size w wr) (fun iv _ => l.length - (intOf iv).toNat)
  case atStart => exact ⟨0, by omega, rfl, Lib.hid (by simp), Below.refl _ _⟩
  case round =>
    obtain ⟨k, hk, rfl, hall, hb⟩ := hrel
    by_cases hlt : k < l.length
    · have i0 : (0 : Int) ≤ k := by omega
      have i1 : (k : Int) < l.length := by omega
      go_wp2_with fail
      refine (specSchemaOk AS nS cS s ok _ (HS.out.below TbR.stays hb) hcp HSZ.out).mono ?_
      rintro e w1 ⟨rfl, hq1⟩
      rw [HE.out]
      have hb1 := hb.trans (hq1.mono hb.size)
      obtain ⟨bt, ot, A2, n2, c2, A4, n4, c4, -, rfl, y0, y1, y2, y3, y4, g2, g4, -, -⟩ := TgR.at_ (HL.out.below TgR.stays hb1) hlt
      have HX := Lib.hid (specOne AS nS cS s A2 n2 c2 A4 n4 c4 l[k] _ _ w1 (HS.out.below TbR.stays hb1) HSZ.out HE.out (HLZ.out k hlt) g2 g4)
      have hst := all_take (trigB s) l k hlt
      rw [hall.out, Bool.true_and] at hst
      clear g2 g4
      cases he : trigB s l[k]
      · have HF := Lib.hid (show triggersB s l = false by rw [HB.out, all_no (trigB s) l k hlt he]; simp)
        have HEE := Lib.hid he
        clear hst he
        go_wp2_with fail
        refine HX.out.mono ?_
        rintro e w3 ⟨rfl, hq3⟩
        rw [HEE.out]
        go_wp2_with fail
        go_ret
        exact ⟨retB HF.out.symm, hb1.trans (hq3.mono hb1.size)⟩
      · have HA := Lib.hid (show (l.take (k + 1)).all (trigB s) = true by rw [hst]; exact he)
        have HEE := Lib.hid he
        clear hst he
        go_wp2_with fail
        refine HX.out.mono ?_
        rintro e w3 ⟨rfl, hq3⟩
        rw [HEE.out]
        go_wp2_with fail
        go_roundw
        case rel => exact ⟨k + 1, by omega, by go_num, HA, hb1.trans (hq3.mono hb1.size)⟩
        case measure => simp [intOf]; omega
    · obtain rfl : k = l.length := by omega
      have h1 := hall.out
      rw [List.take_of_length_le (Nat.le_refl _)] at h1
      have HF := Lib.hid (show triggersB s l = decide (l.length ≤ 6) by rw [HB.out, h1, Bool.and_true])
      clear hall h1
      go_wp2_with fail
      refine (specSchemaOk AS nS cS s ok _ (HS.out.below TbR.stays hb) hcp HSZ.out).mono ?_
      rintro e w1 ⟨rfl, hq1⟩
      rw [HE.out]
      have hb1 := hb.trans (hq1.mono hb.size)
      go_wp2_with fail
      refine (specSchemaOk AS nS cS s ok _ (HS.out.below TbR.stays hb1) hcp HSZ.out).mono ?_
      rintro e w2 ⟨rfl, hq2⟩
      rw [HE.out]
      by_cases h6 : l.length ≤ 6
      · have z6 : decide ((l.length : Int) ≤ 6) = true := decide_eq_true (by omega)
        have HF2 := Lib.hid (show triggersB s l = true by rw [HF.out, decide_eq_true h6])
        go_wp2_with fail
        go_ret
        exact ⟨retB HF2.out.symm, hb1.trans (hq2.mono hb1.size)⟩
      · have z6 : decide ((l.length : Int) ≤ 6) = false := decide_eq_false (by omega)
        have HF2 := Lib.hid (show triggersB s l = false by rw [HF.out, decide_eq_false h6])
        go_wp2_with fail
        go_ret
        exact ⟨retB HF2.out.symm, hb1.trans (hq2.mono hb1.size)⟩
end Go.Proofs.YtemimhghhihllaaGreat
namespace Go.Proofs.YtemimhghhihllaaGreat
open Go.RowKit Go.Maps Go.Shelf
attribute [local go_sem] Oper.semAt_some
theorem TeR.lows : Lows TeR := fun _ _ _ _ ⟨A0, n0, c0, e, h0, hcp⟩ => ⟨A0, n0, c0, e, h0.lows (FlatR.lows _) (by omega), hcp⟩
theorem TgR.lows : Lows TgR := fun _ _ _ _ ⟨A2, n2, c2, A4, n4, c4, e, h2, h4, hcp⟩ => ⟨A2, n2, c2, A4, n4, c4, e, h2.lows (FlatR.lows _) (by omega), h4.lows TeR.lows (by omega), hcp⟩
theorem ownFrom_rowI {β : Type} (B b : Nat) (T : TypeId) (cs : Array Value) : OwnFrom B (fun (_ : β) W => Row W b T cs) := fun _ X Y row hs hg hr =>
  (hg.block b (lt_of_block hs) (fun e => by
    obtain ⟨o, ho, hc⟩ := (hr b e.symm).2
    unfold Row at hs
    rw [hs] at ho; cases ho; cases hc)).trans hs
theorem ownFrom_ownI {β : Type} (B base : Nat) (v : Value) (xs : List Int) : OwnFrom B (fun (_ : β) W => OwnI W base v xs) := fun s X Y row hs hg hr => by
  refine ⟨hs.1, ?_⟩
  rcases hs.2 with h | ⟨g, cap, cur, rfl, h1, h2, h3⟩
  · exact .inl h
  · exact .inr ⟨g, cap, cur, rfl, h1, ownFrom_rowI (β := β) B g _ cur s X Y row h2 hg hr, h3⟩
theorem grownBy_setI (W : World) (b i : Nat) (v : Value) : W.grownBy (W.setCell ⟨b, i, none⟩ v) (some b) :=
  ⟨rfl, rfl, rfl, by simp [World.setCell], fun k hk hne => Below.heap_setCell W _ v k (fun e => hne (by rw [e]))⟩
theorem ownI_cells {W : World} {v : Value} {base : Nat} {xs : List Int} (h : OwnI W base v xs) : ∀ k, v.ownBlock = some k → base ≤ k ∧ ∃ cs fr T, (T = 28 ∨ T = 2) ∧ W.heap[k]? = some (.cells cs T fr) := by
  intro k hk
  rcases h.2 with ⟨rfl, -⟩ | ⟨g, cap, cur, rfl, h1, h2, -⟩
  · cases hk
  · have e : g = k := by simpa [Value.ownBlock] using hk
    subst e
    exact ⟨h1, cur, (0, 0), _, .inr rfl, h2⟩
theorem ownI_grown {W W' : World} {v : Value} {base : Nat} {xs : List Int} {row : Option Nat} (h : OwnI W base v xs) (hg : W.grownBy W' row) (hne : ∀ k, v.ownBlock = some k → row ≠ some k) : OwnI W' base v xs := by
  refine ⟨h.1, ?_⟩
  rcases h.2 with h | ⟨g, cap, cur, rfl, h1, h2, h3⟩
  · exact .inl h
  · exact .inr ⟨g, cap, cur, rfl, h1, (hg.block g (lt_of_block h2) (fun e => hne g rfl e.symm)).trans h2, h3⟩
theorem ownI_put {W : World} {D base : Nat} {v : Value} {xs : List Int} {o : Obj} (o' : Obj) (h : OwnI W base v xs) (hD : W.heap[D]? = some o) (hc : o.isCells = false) : OwnI (W.putObj D o') base v xs := by
  refine ⟨h.1, ?_⟩
  rcases h.2 with h | ⟨g, cap, cur, rfl, h1, h2, h3⟩
  · exact .inl h
  · exact .inr ⟨g, cap, cur, rfl, h1, (World.putObj_heap_other (fun e => by subst e; rw [hD] at h2; cases h2; cases hc)).trans h2, h3⟩
theorem ownI_ne_row {w : World} {base : Nat} {v : Value} {xs : List Int} (h : OwnI w base v xs) {g : Nat} {T' : TypeId} {cs : Array Value} (hr : Row w g T' cs) (hne : 2 ≠ T') : ∀ k, v.ownBlock = some k → k ≠ g := by
  intro k hk e
  subst e
  rcases h.2 with ⟨rfl, -⟩ | ⟨g', cap, cur, rfl, h1, h2, -⟩
  · cases hk
  · have e : g' = k := by simpa [Value.ownBlock] using hk
    subst e
    have h3 : w.heap[g']? = some (.cells cs T') := hr
    rw [h3] at h2
    injection h2 with h4
    injection h4 with h5 h6
    exact hne h6.symm
theorem eachFired_seq (n n0 : Nat) (AS AL AO AN : Option Addr) (nS cS nL cL nO cO nN cN b m : Nat) (ev : Int) (s : List Tb) (l : List Tg) (old now : List Vl) (w : World)
    (H : EvIn n0 AS AL AO AN nS cS nL cL nO cO nN cN b m ev s l old now w) (hm : m < s.length) (h0c : 0 < s[m].cols.length) (hc8 : s[m].cols.length ≤ 8) (hnO : nO ≤ s[m].cols.length) (hnN : nN ≤ s[m].cols.length)
    (hs9 : s.length ≤ 1048576) (hl9 : l.length ≤ 1048576) (hX : ∀ x ∈ l, (x.table.toList == s[m].name.toList) = true → x.wher.length ≠ 0 → exprB x.wher (2 * s[m].cols.length : Nat) = true) (hWl : ∀ x ∈ l, x.wher.length ≤ 1048576) :
    SeqX Tryz.prog n 101 #[.pointer (some ⟨b, 0, none⟩), .pointer (some ⟨b + 2, 0, none⟩), .pointer (some ⟨b + 1, 0, none⟩)] (fun x : Nat => #[Value.int .i64 (x : Nat), ptrT AL x]) (KpI n0)
      (fun xs => xs = firesN s[m] ev old now l l.length) (fun pre => pre <+: firesN s[m] ev old now l l.length) l.length w := fun l0 J Jx W hW hJ hJx hY h0 =>
  eachFired1_in n l0 n0 AS AL AO AN nS cS nL cL nO cO nN cN b m ev s l old now J Jx W (H.kp (KpI.below H.n0_le hW)) hm h0c hc8 hnO hnN hs9 hl9 hX hWl hJ hJx hY h0
set_option maxRecDepth 100000 in
set_option maxHeartbeats 4000000 in
theorem implFiresOk (AS AL AO AN : Option Addr) (nS cS nL cL nO cO nN cN m : Nat) (ev : Int) (s : List Tb) (l : List Tg) (ok okl oko okn : Nat → Prop) (old now : List Vl) (w : World)
    (hS : Sl TbR 6 ok w AS nS s) (hL : Sl TgR 5 okl w AL nL l) (hsz : szL Tb.sz s ≤ 1048576) (hlz : szL Tg.sz l ≤ 1048576) (hO : Sl VlR 3 oko w AO nO old) (hN : Sl VlR 3 okn w AN nN now) (hnO : nO ≤ 1048576) (hnN : nN ≤ 1048576)
    (hT : triggersB s l = true) (hm : m < s.length) (hrO : rowIfB s[m].cols old = true) (hrN : rowIfB s[m].cols now = true) :
    Calls Tryz.prog 13 #[.slice AS nS cS, .slice AL nL cL, .int .i64 m, .int .i64 ev, .slice AO nO cO, .slice AN nN cN] w fun e w' => ∃ v, e = .returned v ∧ OwnI w' w.heap.size v (firesTo s[m] ev old now l l.length) ∧ Below w.heap.size w w' := by
  obtain rfl : s.length = nS := hS.1
  obtain rfl : l.length = nL := hL.1
  obtain rfl : old.length = nO := hO.1
  obtain rfl : now.length = nN := hN.1
  have hs9 : s.length ≤ 1048576 := by unfold szL at hsz; omega
  have hl9 : l.length ≤ 1048576 := by unfold szL at hlz; omega
  have hsch : schemaB s = true := by unfold triggersB at hT; simp only [Bool.and_eq_true] at hT; exact hT.1
  have HSC := Lib.hid (schema_tab hsch hm)
  have HX := Lib.hid (trig_expr hT hm)
  have HW := Lib.hid (show ∀ x ∈ l, x.wher.length ≤ 1048576 from fun x hx => by
    have h1 := szL_mem Tg.sz l x hx
    have h3 : x.sz = x.table.size + szL (fun t : Tk => t.vs.size) x.wher + x.into.size + szL Te.sz x.terms := rfl
    have h2 : x.wher.length ≤ szL (fun t : Tk => t.vs.size) x.wher := by unfold szL; omega
    omega)
  have HT := Lib.hid (implTriggersOk AS AL s.length cS l.length cL s l ok okl w hS hL hsz hlz)
  have HTB := Lib.hid hT
  have HRO := Lib.hid hrO
  have HRN := Lib.hid hrN
  have HLO := Lib.hid (rowIf_len hrO)
  have HLN := Lib.hid (rowIf_len hrN)
  have HS := Lib.hid (And.intro hS (And.intro hL (And.intro hO hN)))
  have HIN := Lib.hid (show (decide ((0 : Int) ≤ (m : Nat)) && decide (((m : Nat) : Int) < (s.length : Int))) = true by rw [decide_eq_true (by omega : (0 : Int) ≤ (m : Nat)), decide_eq_true (by omega : ((m : Nat) : Int) < (s.length : Int))]; rfl)
  obtain ⟨i0, hi, hz0, hz1, hz2⟩ := info_parts infoIntI
  have H1 := Lib.hid hi
  have H2 := Lib.hid hz0
  have H3 := Lib.hid hz1
  have H4 := Lib.hid hz2
  have m0 : (0 : Int) ≤ (m : Nat) := by omega
  have m1 : ((m : Nat) : Int) < s.length := by omega
  clear hi hz0 hz1 hz2 hT hrO hrN hL hO hN hsch
  obtain ⟨g, o, A1, n1, c1, A2, n2, c2, A3, n3, c3, A4, n4, c4, A5, n5, c5, -, rfl, x0', x1', -, -, -, -, hcols', -⟩ := TbR.at_ hS hm
  clear hS
  have HC1 := Lib.hid (And.intro x1' hcols')
  have hc1 : n1 ≤ 1048576 := by have := hcols'.1; have := HSC.out; omega
  clear x0' x1' hcols'
  refine (callsIn_wide (n := 8)).1 ?_
  refine callsIn_of_wp_marks Tryz.func13 rfl trivial ?_ rfl
  simp only [Tryz.ntmps13, List.size_toArray, List.length_cons, List.length_nil, Nat.reduceAdd, Nat.reduceSub, Array.replicate_succ, Array.replicate_zero, List.push_toArray, List.append_toArray, List.nil_append, List.cons_append]
  gi_wp2_with fail
  refine ⟨trivial, (callsIn_wide.2 HT.out).mono ?_⟩
  rintro e w1 ⟨rfl, hb1⟩
  rw [HTB.out]
  clear HT
  gi_wp2_with fail
  refine ⟨trivial, (callsIn_wide.2 (implIsPlace (m : Nat) s.length w1)).mono ?_⟩
  rintro e w1' ⟨rfl, rfl⟩
  rw [HIN.out]
  gi_wp2_with fail
  refine ⟨trivial, (callsIn_wide.2 (implFitsIf g (o + m * 6) A1 AO n1 c1 old.length cO s[m].cols old ok w1 (below_keep hb1 _ _ HC1.out.1) (HC1.out.2.below ClR.stays hb1) (Sl.cellz (fun _ => rfl) (HS.out.2.2.1.below VlR.stays hb1)) hc1 hnO)).mono ?_⟩
  rintro e w2 ⟨rfl, hb2⟩
  rw [HRO.out]
  have hb12 := hb1.trans (hb2.mono hb1.size)
  gi_wp2_with fail
  refine ⟨trivial, (callsIn_wide.2 (implFitsIf g (o + m * 6) A1 AN n1 c1 now.length cN s[m].cols now ok w2 (below_keep hb12 _ _ HC1.out.1) (HC1.out.2.below ClR.stays hb12) (Sl.cellz (fun _ => rfl) (HS.out.2.2.2.below VlR.stays hb12)) hc1 hnN)).mono ?_⟩
  rintro e w3 ⟨rfl, hb3⟩
  rw [HRN.out]
  have hb13 := hb12.trans (hb3.mono hb12.size)
  clear hb1 hb2 hb3 hb12
  have hsz0 := hb13.size
  have hbx := hb13.alloc hb13.size (.cells #[.slice none 0 0] 28)
  have r0 := Row.newAt w3 28 #[.slice none 0 0] w3.heap.size rfl
  gi_wp2_with fail
  refine ⟨trivial, (callsIn_wide.2 (implEachFired (some ⟨g, o, none⟩) AL AO AN s.length cS l.length cL old.length cO now.length cN m ev _)).mono ?_⟩
  rintro e w4 ⟨rfl, ⟨e0, e1, e2⟩, hb4⟩
  have hb5 := hbx.trans (hb4.mono hbx.size)
  have r4 := r0.below hb4
  have hsz : (w3.alloc (.cells #[.slice none 0 0] 28)).heap.size = w3.heap.size + 1 := by simp
  have hlt4 := lt_of_block e0
  rw [hsz] at e0 e1 e2 hlt4
  generalize hB0 : w3.heap.size = B0 at *
  have HE : EvIn w.heap.size (some ⟨g, o, none⟩) AL AO AN s.length cS l.length cL old.length cO now.length cN (B0 + 1) m ev s l old now w4 := ⟨by omega, e0, e1, e2, (HS.out.1.lows TbR.lows (by omega)).low TbR.stays hb5, (HS.out.2.1.lows TgR.lows (by omega)).low TgR.stays hb5, (HS.out.2.2.1.lows (FlatR.lows _) (by omega)).low VlR.stays hb5, (HS.out.2.2.2.lows (FlatR.lows _) (by omega)).low VlR.stays hb5⟩
  have HE := Lib.hid HE
  clear e0 e1 e2 r0 hbx hb4 hsz
  gi_wp2
  refine wp_rangeX (gf := 101) (lb := #[.pointer (some ⟨B0 + 1, 0, none⟩), .pointer (some ⟨B0 + 1 + 2, 0, none⟩), .pointer (some ⟨B0 + 1 + 1, 0, none⟩)]) rfl (enters_of Tryz.func101 (by kernel_rfl) rfl)
    (eachFired_seq _ w.heap.size (some ⟨g, o, none⟩) AL AO AN s.length cS l.length cL old.length cO now.length cN (B0 + 1) m ev s l old now w4 HE.out hm HSC.out.1 HSC.out.2 HLO.out HLN.out hs9 hl9 HX.out HW.out) (fun h k => h.trans k) (fun W l o o' hl h hc => KpI.put o' (by omega) h hc) (fun _ => rfl)
    (fun pre W => (∃ v, Row W B0 28 #[v] ∧ OwnI W w.heap.size v (pre.map fun (j : Nat) => (j : Int))) ∧ Below w.heap.size w W)
    (fun _ _ _ => False)
    (OwnFrom.and (fun pre X Y row hs hg hr => by
      obtain ⟨v, h1, h2⟩ := hs
      exact ⟨v, ownFrom_rowI (β := Unit) _ B0 _ _ () X Y row h1 hg hr, ownFrom_ownI (β := Unit) _ _ v _ () X Y row h2 hg hr⟩) (ownFrom_below (Nat.le_refl _) (by omega)))
    (fun _ _ _ _ _ hs _ _ => hs)
    ⟨⟨_, r4, OwnI.nil _ _⟩, hb5⟩
    (fun x a' W => ∃ (u0 u1 u2 u3 u4 u5 u6 u7 u8 u9 u10 u11 u12 u15 u16 u17 u18 u19 u20 u21 u22 u23 u24 u25 u26 u27 u28 u29 u30 u31 u32 u33 u34 u35 u36 u37 u38 u39 u40 u41 u42 u43 u44 u45 u46 u47 u48 u49 u50 u51 u52 u53 u54 u55 u56 : Value), a' = { tmps := #[u0, u1, u2, u3, u4, u5, u6, u7, u8, u9, u10, u11, u12, .pointer (some ⟨B0, 0, none⟩), .int .i64 (x : Nat), u15, u16, u17, u18, u19, u20, u21, u22, u23, u24, u25, u26, u27, u28, u29, u30, u31, u32, u33, u34, u35, u36, u37, u38, u39, u40, u41, u42, u43, u44, u45, u46, u47, u48, u49, u50, u51, u52, u53, u54, u55, u56], defers := [] })
    (fun x a' _ X Y row hs hg hr => by
      obtain ⟨u0, u1, u2, u3, u4, u5, u6, u7, u8, u9, u10, u11, u12, u15, u16, u17, u18, u19, u20, u21, u22, u23, u24, u25, u26, u27, u28, u29, u30, u31, u32, u33, u34, u35, u36, u37, u38, u39, u40, u41, u42, u43, u44, u45, u46, u47, u48, u49, u50, u51, u52, u53, u54, u55, u56, h2⟩ := hs
      exact ⟨u0, u1, u2, u3, u4, u5, u6, u7, u8, u9, u10, u11, u12, u15, u16, u17, u18, u19, u20, u21, u22, u23, u24, u25, u26, u27, u28, u29, u30, u31, u32, u33, u34, u35, u36, u37, u38, u39, u40, u41, u42, u43, u44, u45, u46, u47, u48, u49, u50, u51, u52, u53, u54, u55, u56, h2⟩)
    ?assign ?body ?done ?stop
  case assign =>
    rintro lq pre x W K ⟨⟨v, hr, ho⟩, hb⟩ hK
    gi_wp2
    exact hK _ _ ⟨Nat.le_refl _, fun _ _ _ h _ => h⟩ (KpI.refl _ _) ⟨⟨v, hr, ho⟩, hb⟩ ⟨_, _, _, _, _, _, _, _, _, _, _, _, _, _, _, _, _, _, _, _, _, _, _, _, _, _, _, _, _, _, _, _, _, _, _, _, _, _, _, _, _, _, _, _, _, _, _, _, _, _, _, _, _, _, _, rfl⟩
  case body =>
    rintro lq pre x a' W ⟨⟨v, hr, ho⟩, hb⟩ ⟨u0, u1, u2, u3, u4, u5, u6, u7, u8, u9, u10, u11, u12, u15, u16, u17, u18, u19, u20, u21, u22, u23, u24, u25, u26, u27, u28, u29, u30, u31, u32, u33, u34, u35, u36, u37, u38, u39, u40, u41, u42, u43, u44, u45, u46, u47, u48, u49, u50, u51, u52, u53, u54, u55, u56, rfl⟩ hlt
    have HO := Lib.hid ho
    have HR0 := Lib.hid hr
    have HB1 := Lib.hid hb
    have c0 := hr.cell 0
    simp only [List.getElem?_toArray, List.getElem?_cons_zero] at c0
    have hml : (pre.map fun (j : Nat) => (j : Int)).length = pre.length := List.length_map _
    have hne0 := Lib.hid (ownI_ne_row ho hr (by decide))
    have HMAP := Lib.hid (show (pre ++ [x]).map (fun (j : Nat) => (j : Int)) = pre.map (fun (j : Nat) => (j : Int)) ++ [(x : Int)] by rw [List.map_append]; rfl)
    clear ho hr hb
    generalize hpm : (pre.map fun (j : Nat) => (j : Int)) = pm at *
    clear hpm
    gi_wp2_with (gi_at_builtin; refine wpListIn_append_own _ rfl _ _ 28 rfl w.heap.size 2 i0 (.int .i64 0) 1 8 Tryz.underlying28 H1.out H2.out H3.out H4.out rfl (by decide) _ _ _ rfl (World.ownsRow.alloc HO.out _) ⟨_, 0, none⟩ 1 1 [.int .i64 (x : Nat)] rfl rfl ?c1 ?c2 ?c3 ?c4 ?c5 ?_)
    case c1 => exact cells_newAt _ [.int .i64 (x : Nat)] _ (by simp)
    case c2 => intro u hu; simp at hu; subst hu; rfl
    case c3 => unfold maxLen; omega
    case c4 => omega
    case c5 => have := HB1.out.size; simp; omega
    intro v' w5 hown3 hgrow _
    obtain ⟨g', cap', rfl⟩ := ownsRow_succ hown3
    have R := Lib.hid (OwnI.app HO.out HB1.out.size (v' := .slice (some ⟨g', 0, none⟩) (pre.length + 1) cap') (by rw [hml]; exact hown3) hgrow)
    have r5 := grown_rowK hgrow (HR0.out.alloc _) hne0.out
    have hba := (Below.refl W.heap.size W).alloc (Nat.le_refl _) (.cells #[.int .i64 (x : Nat)] 2)
    have HOa := OwnI.below HO.out hba
    have hca := ownI_cells HOa
    have hn0 := HB1.out.size
    have hk1 : KpI w.heap.size W w5 := (KpI.below hn0 hba).trans (KpI.grown (by have := hba.size; omega) hgrow hca)
    have ho1 : KeepsOthers W w5 := (KeepsOthers.alloc W (.cells #[.int .i64 (x : Nat)] 2)).trans (KeepsOthers.of_grownBy hgrow (fun j o hj ho' => by
      obtain ⟨-, cs, fr, T, -, hh⟩ := hca j hj
      rw [hh] at ho'; cases ho'; rfl))
    have hne5 := ownI_ne_row R.out.1 r5 (by decide)
    have HX5 := Lib.hid (And.intro hk1 (And.intro ho1 hne5))
    have R5 := Lib.hid r5
    have c5 := r5.cell 0
    have f5 := r5.free 0
    simp only [List.getElem?_toArray, List.getElem?_cons_zero] at c5
    clear hown3 hgrow hba HOa hca hk1 ho1 hne5 r5 c0
    gi_wp2_with fail
    have hgs := grownBy_setI w5 B0 0 (.slice (some ⟨g', 0, none⟩) (pre.length + 1) cap')
    have r6 : Row (w5.setCell ⟨B0, 0, none⟩ (.slice (some ⟨g', 0, none⟩) (pre.length + 1) cap')) B0 28 #[.slice (some ⟨g', 0, none⟩) (pre.length + 1) cap'] := by simpa using R5.out.set 0 (.slice (some ⟨g', 0, none⟩) (pre.length + 1) cap')
    have hb5 : Below w.heap.size w w5 := HB1.out.trans R.out.2
    exact ⟨((HX5.out.2.1).trans (KeepsOthers.setCell _ _ _)).from _, HX5.out.1.trans (KpI.grown (by have := hb5.size; omega) hgs (fun k hk => by cases hk; exact ⟨by omega, _, _, _, .inl rfl, R5.out⟩)),
      ⟨_, r6, by rw [HMAP.out]; exact ownI_grown R.out.1 hgs (fun k hk e => by cases e; exact HX5.out.2.2 _ hk rfl)⟩, hb5.setCell (p := ⟨B0, 0, none⟩) (by omega) _⟩
  case done =>
    rintro D xs W hD rfl ⟨⟨v, hr, ho⟩, hb⟩ hK
    obtain ⟨AO', cO', rfl, -, -, -⟩ := ho.sl
    have c0 := hr.cell 0
    simp only [List.getElem?_toArray, List.getElem?_cons_zero] at c0
    have HOP := Lib.hid (ownI_put (.deferred none) ho hK rfl)
    have HBB := Lib.hid (hb.trans ((KpI.put (n0 := w.heap.size) (.deferred none) (by omega) hK rfl).1))
    clear ho hr hb
    generalize ((firesN s[m] ev old now l l.length).map fun (j : Nat) => (j : Int)).length = nlen at *
    gi_wp2_with fail
    refine ⟨by simp, .inl ⟨_, _, rfl, run_takeDeferred hK, ?_⟩⟩
    refine ⟨.slice AO' nlen cO', ?_, _, rfl, by rw [firesTo_N]; exact HOP.out, HBB.out⟩
    simp [results, Tryz.f13, go_sem]
  case stop =>
    rintro D c pre W hD hpre h hK
    exact h.elim
end Go.Proofs.YtemimhghhihllaaGreat
namespace Go.Proofs.YtemimhghhihllaaGreat
open Go.RowKit
theorem evalB_dead {ts : List Tk} {row : List Vl} {k : Nat} (h : evalGo row (ts.take k) [] = none) : evalB ts row = none := by
  unfold evalB
  split
  · rw [evalGo_dead row ts k [] h]; rfl
  · rfl
theorem specTwo (k : Int) (hk : k = 3 ∨ k = 4 ∨ k = 5 ∨ k = 6 ∨ k = 9 ∨ k = 10) (a b : Vl) (w : World) (ha : a.ok = true) (hb : b.ok = true) :
    Calls Tryz.prog 179 #[.int .i64 k, .agg #[.int .i64 a.k, .int .i64 a.n, .string a.s], .agg #[.int .i64 b.k, .int .i64 b.n, .string b.s]] w (OptPost (op2 k a b) w) := by
  rcases hk with rfl | rfl | rfl | rfl | rfl | rfl
  · exact specTwo3 a b w
  · exact specTwo4 a b w
  · exact specTwo5 a b w
  · exact specTwo6 a b w
  · exact specTwo9 a b w ha hb
  · exact specTwo10 a b w ha hb
theorem specTwoNone (k : Int) (hk : k = 3 ∨ k = 4 ∨ k = 5 ∨ k = 6 ∨ k = 9 ∨ k = 10) (a b : Vl) (w : World) (ha : a.ok = true) (hb : b.ok = true) (ho : op2 k a b = none) :
    Calls Tryz.prog 179 #[.int .i64 k, .agg #[.int .i64 a.k, .int .i64 a.n, .string a.s], .agg #[.int .i64 b.k, .int .i64 b.n, .string b.s]] w fun e w' => ∃ v : Vl, e = .returned (.tuple #[.agg #[.int .i64 v.k, .int .i64 v.n, .string v.s], .bool false]) ∧ Below w.heap.size w w' :=
  (specTwo k hk a b w ha hb).mono fun e w' ⟨v, he, _, hbl⟩ => ⟨v, by rw [he, ho]; rfl, hbl⟩
theorem specTwoSome (k : Int) (hk : k = 3 ∨ k = 4 ∨ k = 5 ∨ k = 6 ∨ k = 9 ∨ k = 10) (a b v : Vl) (w : World) (ha : a.ok = true) (hb : b.ok = true) (ho : op2 k a b = some v) :
    Calls Tryz.prog 179 #[.int .i64 k, .agg #[.int .i64 a.k, .int .i64 a.n, .string a.s], .agg #[.int .i64 b.k, .int .i64 b.n, .string b.s]] w fun e w' => e = .returned (.tuple #[.agg #[.int .i64 v.k, .int .i64 v.n, .string v.s], .bool true]) ∧ Below w.heap.size w w' :=
  (specTwo k hk a b w ha hb).mono fun e w' ⟨x, he, hx, hbl⟩ => ⟨by rw [he, hx v ho, ho]; rfl, hbl⟩
theorem keep7 {w w' : World} {a0 a1 a2 a3 a4 a5 a6 : Addr} {v0 v1 v2 v3 v4 v5 v6 : Value} (h : w.cell? a0 = some v0 ∧ w.cell? a1 = some v1 ∧ w.cell? a2 = some v2 ∧ w.cell? a3 = some v3 ∧ w.cell? a4 = some v4 ∧ w.cell? a5 = some v5 ∧ w.cell? a6 = some v6) (hb : Below w.heap.size w w') : w'.cell? a0 = some v0 ∧ w'.cell? a1 = some v1 ∧ w'.cell? a2 = some v2 ∧ w'.cell? a3 = some v3 ∧ w'.cell? a4 = some v4 ∧ w'.cell? a5 = some v5 ∧ w'.cell? a6 = some v6 := by
  obtain ⟨h0, h1, h2, h3, h4, h5, h6⟩ := h
  exact ⟨(hb.cell (cell_lt h0)).trans h0, (hb.cell (cell_lt h1)).trans h1, (hb.cell (cell_lt h2)).trans h2, (hb.cell (cell_lt h3)).trans h3, (hb.cell (cell_lt h4)).trans h4, (hb.cell (cell_lt h5)).trans h5, (hb.cell (cell_lt h6)).trans h6⟩
theorem set_far {w : World} {g b i j : Nat} {x v : Value} (hne : b ≠ g) (h : w.cell? ⟨b, i, none⟩ = some v) : (w.setCell ⟨g, j, none⟩ x).cell? ⟨b, i, none⟩ = some v :=
  (World.cell?_of_block (w := w) (a := ⟨b, i, none⟩) (Below.heap_setCell w ⟨g, j, none⟩ x b hne)).trans h
theorem keep7s {w : World} {g b c i0 i1 i2 i3 i4 i5 i6 : Nat} {x y z v0 v1 v2 v3 v4 v5 v6 : Value} (hb : b ≠ g) (hc : c ≠ g)
    (h : w.cell? ⟨b, i0, none⟩ = some v0 ∧ w.cell? ⟨c, i1, none⟩ = some v1 ∧ w.cell? ⟨c, i2, none⟩ = some v2 ∧ w.cell? ⟨c, i3, none⟩ = some v3 ∧ w.cell? ⟨c, i4, none⟩ = some v4 ∧ w.cell? ⟨c, i5, none⟩ = some v5 ∧ w.cell? ⟨c, i6, none⟩ = some v6) :
    (((w.setCell ⟨g, 0, none⟩ x).setCell ⟨g, 1, none⟩ y).setCell ⟨g, 2, none⟩ z).cell? ⟨b, i0, none⟩ = some v0 ∧ (((w.setCell ⟨g, 0, none⟩ x).setCell ⟨g, 1, none⟩ y).setCell ⟨g, 2, none⟩ z).cell? ⟨c, i1, none⟩ = some v1 ∧ (((w.setCell ⟨g, 0, none⟩ x).setCell ⟨g, 1, none⟩ y).setCell ⟨g, 2, none⟩ z).cell? ⟨c, i2, none⟩ = some v2 ∧ (((w.setCell ⟨g, 0, none⟩ x).setCell ⟨g, 1, none⟩ y).setCell ⟨g, 2, none⟩ z).cell? ⟨c, i3, none⟩ = some v3 ∧ (((w.setCell ⟨g, 0, none⟩ x).setCell ⟨g, 1, none⟩ y).setCell ⟨g, 2, none⟩ z).cell? ⟨c, i4, none⟩ = some v4 ∧ (((w.setCell ⟨g, 0, none⟩ x).setCell ⟨g, 1, none⟩ y).setCell ⟨g, 2, none⟩ z).cell? ⟨c, i5, none⟩ = some v5 ∧ (((w.setCell ⟨g, 0, none⟩ x).setCell ⟨g, 1, none⟩ y).setCell ⟨g, 2, none⟩ z).cell? ⟨c, i6, none⟩ = some v6 := by
  obtain ⟨h0, h1, h2, h3, h4, h5, h6⟩ := h
  exact ⟨set_far hb (set_far hb (set_far hb h0)), set_far hc (set_far hc (set_far hc h1)), set_far hc (set_far hc (set_far hc h2)), set_far hc (set_far hc (set_far hc h3)), set_far hc (set_far hc (set_far hc h4)), set_far hc (set_far hc (set_far hc h5)), set_far hc (set_far hc (set_far hc h6))⟩
set_option maxRecDepth 100000 in
set_option maxHeartbeats 1000000 in
theorem specL2Eval (A R : Option Addr) (n m cap capR : Nat) (ts : List Tk) (row : List Vl) (w : World) (h : Toks w A n ts) (hr : Vals w R m row) (hn : n ≤ maxLen) (hm : m ≤ maxLen) (hrow : rowB row = true) (hex : exprB ts row.length = true) :
    Calls Tryz.prog 137 #[.slice A n cap, .slice R m capR] w (EvalPost (evalB ts row) w) := by
  obtain rfl : n = ts.length := h.len.symm
  obtain rfl : m = row.length := hr.len.symm
  have HR := Lib.hid hrow
  have HE := Lib.hid hex
  have h16 : row.length ≤ 16 := by simp [rowB] at hrow; exact hrow.1
  clear hrow hex
  obtain ⟨hgo, h24⟩ := exprB_go HE.out
  have HGO := Lib.hid hgo
  have hok : ∀ v ∈ row, v.ok = true := by have := HR.out; simp [rowB] at this; exact this.2
  have HOK := Lib.hid hok
  clear hgo hok
  go_enter Tryz.func137, Tryz.ntmps137
  go_wp2
  have rz := (Row.new w 93 #[.int .i64 0, .int .i64 0, .string ⟨#[]⟩]).alloc (.cells #[] 93)
  have hb0 := ((Below.refl w.heap.size w).alloc (Nat.le_refl _) (.cells #[.int .i64 0, .int .i64 0, .string ⟨#[]⟩] 93)).alloc (by simp only [size1]; omega) (.cells #[] 93)
  generalize (w.alloc (.cells #[.int .i64 0, .int .i64 0, .string ⟨#[]⟩] 93)).alloc (.cells #[] 93) = x0 at *
  go_loopw [6, 7] (fun s i wr => ∃ (k : Nat) (st : List Vl) (a : Addr) (c : Nat), k ≤ ts.length ∧ i = .int .i64 k ∧ s = .slice (some a) st.length c ∧ st.length ≤ c ∧ c ≤ maxLen ∧ st.length ≤ k ∧ Hid (a.spot = none) ∧ Hid (exprGo row.length (ts.take k) 0 = some st.length) ∧ Hid (evalGo row (ts.take k) [] = some st) ∧ Hid (∀ v ∈ st, v.ok = true) ∧
      Vals wr (some a) st.length st ∧ Row wr w.heap.size 93 #[.int .i64 0, .int .i64 0, .string ⟨#[]⟩] ∧ Below w.heap.size w wr) (fun _ i _ => ts.length - (intOf i).toNat)
  case atStart => exact ⟨0, [], ⟨w.heap.size + 1, 0, none⟩, 0, by omega, rfl, rfl, by simp, by simp [maxLen], by simp, Lib.hid rfl, Lib.hid (by simp [exprGo]), Lib.hid (by simp [evalGo]), Lib.hid (by simp), ⟨rfl, by simp, fun h => absurd h (by simp)⟩, rz, hb0⟩
  case round =>
    obtain ⟨k, st, a, c, hk, rfl, rfl, hlc, hcm, hlk, hasp, hexp, hev, hstok, hvals, hrz, hb⟩ := hrel
    by_cases hlt : k < ts.length
    · obtain ⟨b, off, rfl, c0, c1, c2, c3, c4⟩ := (h.below hb).at_ hlt
      obtain ⟨htok, htk, hexp2⟩ := right_at HGO.out hlt hexp.out
      have hev2 := evalGo_snoc row ts k hlt [] st hev.out
      have HEXP := Lib.hid hexp2
      have HEV := Lib.hid hev2
      have HTOK := Lib.hid htok
      clear hexp2 hev2 hexp hev htok
      generalize ts[k] = t at *
      obtain ⟨k0, tc, tvk, tvn, tvs⟩ := t
      simp only at c0 c1 c2 c3 c4 htk HEXP HEV HTOK
      by_cases hk2 : k0 = 2
      · skip
        subst hk2
        unfold maxLen at hcm
        have bl : b < wr.heap.size := cell_lt c0
        have bz0 := (Below.refl wr.heap.size wr).alloc (Nat.le_refl _) (.cells #[.int .i64 0, .int .i64 0, .string ⟨#[]⟩] 93)
        have e0 := (bz0.cell bl).trans c0
        have e2 := (bz0.cell bl).trans c2
        have e3 := (bz0.cell bl).trans c3
        have e4 := (bz0.cell bl).trans c4
        clear bz0
        go_wp2_with fail
        have rvx := Row.new wr 93 #[.int .i64 tvk, .int .i64 tvn, .string tvs]
        have bv := (Below.refl wr.heap.size wr).alloc (Nat.le_refl _) (.cells #[.int .i64 tvk, .int .i64 tvn, .string tvs] 93)
        have hv := hvals.below bv
        have hzx : wr.heap.size < (wr.alloc (.cells #[.int .i64 tvk, .int .i64 tvn, .string tvs] 93)).heap.size := by simp
        have hbx := hb.trans (bv.mono hb.size)
        have rzx := hrz.below bv
        generalize wr.alloc (.cells #[.int .i64 tvk, .int .i64 tvn, .string tvs] 93) = xt at *
        have hfr : st.length ≤ st.length := Nat.le_refl _
        have HFR := Lib.hid (show st.length = st.length - takes 2 by simp [takes])
        have HTV := Lib.hid (show tokVal row ⟨2, tc, tvk, tvn, tvs⟩ (st.drop (st.length - takes 2)) = some ⟨tvk, tvn, tvs⟩ by simp [tokVal])
        have i2 : IntKind.i64.wrap (st.length : Int) = st.length := IntWalk.i64_in _ (by omega)
        obtain ⟨⟨v0, v1, v2⟩, -⟩ := rvx.three
        have i1 : (st.length : Int) ≤ c := by omega
        have hbs : wr.heap.size ≤ xt.heap.size := by omega
        have Ra : Row (xt.alloc (.cells #[] 93)).drew xt.heap.size 93 #[] := Row.new xt 93 #[]
        have Rb : Row ((xt.alloc (.cells #[] 93)).alloc (.cells #[.int .i64 tvk, .int .i64 tvn, .string tvs] 93)).drew xt.heap.size 93 #[] := (Row.new xt 93 #[]).alloc _
        have Rc : Row ((xt.alloc (.cells #[.int .i64 tvk, .int .i64 tvn, .string tvs] 93)).alloc (.cells #[] 93)).drew (xt.heap.size + 1) 93 #[] := Row.newAt _ _ _ _ (by simp)
        have Sb : Row ((xt.alloc (.cells #[] 93)).alloc (.cells #[.int .i64 tvk, .int .i64 tvn, .string tvs] 93)).drew (xt.heap.size + 1) 93 #[.int .i64 tvk, .int .i64 tvn, .string tvs] := Row.newAt _ _ _ _ (by simp)
        have Sc : Row ((xt.alloc (.cells #[.int .i64 tvk, .int .i64 tvn, .string tvs] 93)).alloc (.cells #[] 93)).drew xt.heap.size 93 #[.int .i64 tvk, .int .i64 tvn, .string tvs] := (Row.new _ _ _).alloc _
        have Va : Vals (xt.alloc (.cells #[] 93)).drew (some a) st.length (st.take st.length) := (hv.below ((Below.refl _ xt).alloc (Nat.le_refl _) _)).take hfr
        have Vb : Vals ((xt.alloc (.cells #[] 93)).alloc (.cells #[.int .i64 tvk, .int .i64 tvn, .string tvs] 93)).drew (some a) st.length (st.take st.length) := (hv.below (((Below.refl _ xt).alloc (Nat.le_refl _) _).alloc (by simp) _)).take hfr
        have Vc : Vals ((xt.alloc (.cells #[.int .i64 tvk, .int .i64 tvn, .string tvs] 93)).alloc (.cells #[] 93)).drew (some a) st.length (st.take st.length) := (hv.below (((Below.refl _ xt).alloc (Nat.le_refl _) _).alloc (by simp) _)).take hfr
        have hlen24 : st.length ≤ 1000 := by omega
        go_region_held3 (fun w' => w'.cell? ⟨wr.heap.size, 0, none⟩ = some (.int .i64 tvk) ∧ w'.cell? ⟨wr.heap.size, 1, none⟩ = some (.int .i64 tvn) ∧ w'.cell? ⟨wr.heap.size, 2, none⟩ = some (.string tvs))
          (first | go_keep | ((with_reducible refine keep3 ?_ ((Below.refl _ _).alloc (Nat.le_refl _) _)); assumption) | ((with_reducible refine keep3g ?_ hg2 ?_ ?_ ?_) <;> first | assumption | (simp only; omega)) | ((with_reducible refine keep3g ?_ hg1 ?_ ?_ ?_) <;> first | assumption | (simp only; omega)))
          (first
            | ((with_reducible refine step_app_vals0 rfl _ _ rfl xt.heap.size xt.heap.size rfl Ra (by omega) a st.length c (st.take st.length) rfl hasp.out Va (by omega) (by first | (simp; done) | (simp; omega)) ?_); intro g1 cap1 w1 ho1 hg1 hb1)
            | ((with_reducible refine step_app_vals0 rfl _ _ rfl xt.heap.size xt.heap.size rfl Rb (by omega) a st.length c (st.take st.length) rfl hasp.out Vb (by omega) (by first | (simp; done) | (simp; omega)) ?_); intro g1 cap1 w1 ho1 hg1 hb1)
            | ((with_reducible refine step_app_vals0 rfl _ _ rfl xt.heap.size (xt.heap.size + 1) rfl Rc (by omega) a st.length c (st.take st.length) rfl hasp.out Vc (by omega) (by first | (simp; done) | (simp; omega)) ?_); intro g1 cap1 w1 ho1 hg1 hb1)
            | ((with_reducible refine step_app_vals rfl _ _ rfl xt.heap.size g1 _ cap1 _ rfl (ho1.alloc _) _ 1 1 [(⟨tvk, tvn, tvs⟩ : Vl)] rfl rfl (vals_one (Row.new _ _ _)) (by omega) (by have := hg1.size; simp at this ⊢; omega) ?_); intro g2 cap2 w2 ho2 hg2 hb2)
            | ((with_reducible refine step_app_vals rfl _ _ rfl xt.heap.size g1 _ cap1 _ rfl ho1 _ 1 1 [(⟨tvk, tvn, tvs⟩ : Vl)] rfl rfl (vals_one (grown_row hg1 Sb (by omega))) (by omega) (by have := hg1.size; simp at this ⊢; omega) ?_); intro g2 cap2 w2 ho2 hg2 hb2)
            | ((with_reducible refine step_app_vals rfl _ _ rfl xt.heap.size g1 _ cap1 _ rfl ho1 _ 1 1 [(⟨tvk, tvn, tvs⟩ : Vl)] rfl rfl (vals_one (grown_row hg1 Sc (by omega))) (by omega) (by have := hg1.size; simp at this ⊢; omega) ?_); intro g2 cap2 w2 ho2 hg2 hb2))
        all_goals
          have bz : Below xt.heap.size xt w2 := by
            have hs1 := hg1.size
            simp at hs1
            first
            | exact ((Below.refl _ xt).alloc (Nat.le_refl _) _).drew.trans ((grown_below hg1 (by omega) (by simp)).trans (((Below.refl _ w1).alloc (by omega) _).trans (grown_below hg2 (by omega) (by simp; omega))))
            | exact (((Below.refl _ xt).alloc (Nat.le_refl _) _).alloc (by simp) _).drew.trans ((grown_below hg1 (by omega) (by simp; omega)).trans (grown_below hg2 (by omega) (by omega)))
          have hbz := hbx.trans (bz.mono hbx.size)
          have rzz := rzx.below bz
          have hl1 : (st.take st.length).length = st.length := by rw [List.length_take]; omega
          have hl2 : (st.take st.length ++ [(⟨tvk, tvn, tvs⟩ : Vl)]).length = st.length + 1 := by rw [List.length_append, hl1]; rfl
          obtain ⟨hvz, hcz, hcz2⟩ := ho2.vals hl2
          have HL := Lib.hid hl2
          have hsz := bz.size
          clear hl1 hl2 ho2 ho1 hg1 hg2 hv rvx Ra Rb Rc Sb Sc Va Vb Vc v0 v1 v2 c0 c1 c2 c3 c4 i1 i2
          go_wp2_with fail
          go_roundw
          case rel =>
            refine ⟨k + 1, st.take st.length ++ [(⟨tvk, tvn, tvs⟩ : Vl)], ⟨g2, 0, none⟩, cap2, by omega, by go_num, by rw [HL.out], by rw [HL.out]; exact hcz, hcz2, by rw [HL.out]; omega, Lib.hid rfl, Lib.hid ?_, Lib.hid ?_, Lib.hid ?_, by rw [HL.out]; exact hvz, rzz, hbz⟩
            · rw [HL.out, HFR.out]; exact HEXP.out
            · rw [HEV.out, evalStep_some HTV.out]; exact congrArg (fun m => some (List.take m st ++ [(⟨tvk, tvn, tvs⟩ : Vl)])) HFR.out.symm
            · intro u hu
              rw [List.mem_append, List.mem_singleton] at hu
              rcases hu with hu | rfl
              · exact hstok.out u (List.mem_of_mem_take hu)
              · exact tokVal_ok HOK.out HTOK.out HTV.out
          case measure => simp [intOf]; omega
      have d2 : (k0 == 2) = false := by simpa using hk2
      by_cases hk1 : k0 = 1
      · skip
        subst hk1
        unfold maxLen at hcm
        have bl : b < wr.heap.size := cell_lt c0
        have bz0 := (Below.refl wr.heap.size wr).alloc (Nat.le_refl _) (.cells #[.int .i64 0, .int .i64 0, .string ⟨#[]⟩] 93)
        have e0 := (bz0.cell bl).trans c0
        have e1 := (bz0.cell bl).trans c1
        obtain ⟨hj0, hj1⟩ : 0 ≤ tc ∧ tc < row.length := by have := HTOK.out; simp [tokB] at this; exact ⟨this.1, this.2.1⟩
        obtain ⟨j, rfl⟩ : ∃ j : Nat, tc = (j : Int) := ⟨tc.toNat, by omega⟩
        have hjr : j < row.length := by omega
        obtain ⟨br, ofr, rfl, r0, r1, r2⟩ := ((hr.below hb).below bz0).at_ hjr
        clear bz0
        go_wp2_with fail
        have rvx := Row.new wr 93 #[.int .i64 row[j].k, .int .i64 row[j].n, .string row[j].s]
        have bv := (Below.refl wr.heap.size wr).alloc (Nat.le_refl _) (.cells #[.int .i64 row[j].k, .int .i64 row[j].n, .string row[j].s] 93)
        have hv := hvals.below bv
        have hzx : wr.heap.size < (wr.alloc (.cells #[.int .i64 row[j].k, .int .i64 row[j].n, .string row[j].s] 93)).heap.size := by simp
        have hbx := hb.trans (bv.mono hb.size)
        have rzx := hrz.below bv
        generalize wr.alloc (.cells #[.int .i64 row[j].k, .int .i64 row[j].n, .string row[j].s] 93) = xt at *
        have hfr : st.length ≤ st.length := Nat.le_refl _
        have HFR := Lib.hid (show st.length = st.length - takes 1 by simp [takes])
        have HTV := Lib.hid (show tokVal row ⟨1, j, tvk, tvn, tvs⟩ (st.drop (st.length - takes 1)) = some row[j] by simp [tokVal, List.getElem?_eq_getElem hjr])
        have i2 : IntKind.i64.wrap (st.length : Int) = st.length := IntWalk.i64_in _ (by omega)
        generalize row[j] = v at *
        clear r0 r1 r2
        obtain ⟨⟨v0, v1, v2⟩, -⟩ := rvx.three
        have i1 : (st.length : Int) ≤ c := by omega
        have hbs : wr.heap.size ≤ xt.heap.size := by omega
        have Ra : Row (xt.alloc (.cells #[] 93)).drew xt.heap.size 93 #[] := Row.new xt 93 #[]
        have Rb : Row ((xt.alloc (.cells #[] 93)).alloc (.cells #[.int .i64 v.k, .int .i64 v.n, .string v.s] 93)).drew xt.heap.size 93 #[] := (Row.new xt 93 #[]).alloc _
        have Rc : Row ((xt.alloc (.cells #[.int .i64 v.k, .int .i64 v.n, .string v.s] 93)).alloc (.cells #[] 93)).drew (xt.heap.size + 1) 93 #[] := Row.newAt _ _ _ _ (by simp)
        have Sb : Row ((xt.alloc (.cells #[] 93)).alloc (.cells #[.int .i64 v.k, .int .i64 v.n, .string v.s] 93)).drew (xt.heap.size + 1) 93 #[.int .i64 v.k, .int .i64 v.n, .string v.s] := Row.newAt _ _ _ _ (by simp)
        have Sc : Row ((xt.alloc (.cells #[.int .i64 v.k, .int .i64 v.n, .string v.s] 93)).alloc (.cells #[] 93)).drew xt.heap.size 93 #[.int .i64 v.k, .int .i64 v.n, .string v.s] := (Row.new _ _ _).alloc _
        have Va : Vals (xt.alloc (.cells #[] 93)).drew (some a) st.length (st.take st.length) := (hv.below ((Below.refl _ xt).alloc (Nat.le_refl _) _)).take hfr
        have Vb : Vals ((xt.alloc (.cells #[] 93)).alloc (.cells #[.int .i64 v.k, .int .i64 v.n, .string v.s] 93)).drew (some a) st.length (st.take st.length) := (hv.below (((Below.refl _ xt).alloc (Nat.le_refl _) _).alloc (by simp) _)).take hfr
        have Vc : Vals ((xt.alloc (.cells #[.int .i64 v.k, .int .i64 v.n, .string v.s] 93)).alloc (.cells #[] 93)).drew (some a) st.length (st.take st.length) := (hv.below (((Below.refl _ xt).alloc (Nat.le_refl _) _).alloc (by simp) _)).take hfr
        have hlen24 : st.length ≤ 1000 := by omega
        go_region_held3 (fun w' => w'.cell? ⟨wr.heap.size, 0, none⟩ = some (.int .i64 v.k) ∧ w'.cell? ⟨wr.heap.size, 1, none⟩ = some (.int .i64 v.n) ∧ w'.cell? ⟨wr.heap.size, 2, none⟩ = some (.string v.s))
          (first | go_keep | ((with_reducible refine keep3 ?_ ((Below.refl _ _).alloc (Nat.le_refl _) _)); assumption) | ((with_reducible refine keep3g ?_ hg2 ?_ ?_ ?_) <;> first | assumption | (simp only; omega)) | ((with_reducible refine keep3g ?_ hg1 ?_ ?_ ?_) <;> first | assumption | (simp only; omega)))
          (first
            | ((with_reducible refine step_app_vals0 rfl _ _ rfl xt.heap.size xt.heap.size rfl Ra (by omega) a st.length c (st.take st.length) rfl hasp.out Va (by omega) (by first | (simp; done) | (simp; omega)) ?_); intro g1 cap1 w1 ho1 hg1 hb1)
            | ((with_reducible refine step_app_vals0 rfl _ _ rfl xt.heap.size xt.heap.size rfl Rb (by omega) a st.length c (st.take st.length) rfl hasp.out Vb (by omega) (by first | (simp; done) | (simp; omega)) ?_); intro g1 cap1 w1 ho1 hg1 hb1)
            | ((with_reducible refine step_app_vals0 rfl _ _ rfl xt.heap.size (xt.heap.size + 1) rfl Rc (by omega) a st.length c (st.take st.length) rfl hasp.out Vc (by omega) (by first | (simp; done) | (simp; omega)) ?_); intro g1 cap1 w1 ho1 hg1 hb1)
            | ((with_reducible refine step_app_vals rfl _ _ rfl xt.heap.size g1 _ cap1 _ rfl (ho1.alloc _) _ 1 1 [v] rfl rfl (vals_one (Row.new _ _ _)) (by omega) (by have := hg1.size; simp at this ⊢; omega) ?_); intro g2 cap2 w2 ho2 hg2 hb2)
            | ((with_reducible refine step_app_vals rfl _ _ rfl xt.heap.size g1 _ cap1 _ rfl ho1 _ 1 1 [v] rfl rfl (vals_one (grown_row hg1 Sb (by omega))) (by omega) (by have := hg1.size; simp at this ⊢; omega) ?_); intro g2 cap2 w2 ho2 hg2 hb2)
            | ((with_reducible refine step_app_vals rfl _ _ rfl xt.heap.size g1 _ cap1 _ rfl ho1 _ 1 1 [v] rfl rfl (vals_one (grown_row hg1 Sc (by omega))) (by omega) (by have := hg1.size; simp at this ⊢; omega) ?_); intro g2 cap2 w2 ho2 hg2 hb2))
        all_goals
          have bz : Below xt.heap.size xt w2 := by
            have hs1 := hg1.size
            simp at hs1
            first
            | exact ((Below.refl _ xt).alloc (Nat.le_refl _) _).drew.trans ((grown_below hg1 (by omega) (by simp)).trans (((Below.refl _ w1).alloc (by omega) _).trans (grown_below hg2 (by omega) (by simp; omega))))
            | exact (((Below.refl _ xt).alloc (Nat.le_refl _) _).alloc (by simp) _).drew.trans ((grown_below hg1 (by omega) (by simp; omega)).trans (grown_below hg2 (by omega) (by omega)))
          have hbz := hbx.trans (bz.mono hbx.size)
          have rzz := rzx.below bz
          have hl1 : (st.take st.length).length = st.length := by rw [List.length_take]; omega
          have hl2 : (st.take st.length ++ [v]).length = st.length + 1 := by rw [List.length_append, hl1]; rfl
          obtain ⟨hvz, hcz, hcz2⟩ := ho2.vals hl2
          have HL := Lib.hid hl2
          have hsz := bz.size
          clear hl1 hl2 ho2 ho1 hg1 hg2 hv rvx Ra Rb Rc Sb Sc Va Vb Vc v0 v1 v2 c0 c1 c2 c3 c4 i1 i2
          go_wp2_with fail
          go_roundw
          case rel =>
            refine ⟨k + 1, st.take st.length ++ [v], ⟨g2, 0, none⟩, cap2, by omega, by go_num, by rw [HL.out], by rw [HL.out]; exact hcz, hcz2, by rw [HL.out]; omega, Lib.hid rfl, Lib.hid ?_, Lib.hid ?_, Lib.hid ?_, by rw [HL.out]; exact hvz, rzz, hbz⟩
            · rw [HL.out, HFR.out]; exact HEXP.out
            · rw [HEV.out, evalStep_some HTV.out]; exact congrArg (fun m => some (List.take m st ++ [v])) HFR.out.symm
            · intro u hu
              rw [List.mem_append, List.mem_singleton] at hu
              rcases hu with hu | rfl
              · exact hstok.out u (List.mem_of_mem_take hu)
              · exact tokVal_ok HOK.out HTOK.out HTV.out
          case measure => simp [intOf]; omega
      have d1 : (k0 == 1) = false := by simpa using hk1
      by_cases hk8 : k0 = 8
      · skip
        subst hk8
        unfold maxLen at hcm
        have ht1 : 1 ≤ st.length := by simpa [takes] using htk
        obtain ⟨fr, hfr1⟩ : ∃ fr, fr = st.length - 1 := ⟨_, rfl⟩
        have hfrl : fr < st.length := by omega
        have bl : b < wr.heap.size := cell_lt c0
        have bz0 := (Below.refl wr.heap.size wr).alloc (Nat.le_refl _) (.cells #[.int .i64 0, .int .i64 0, .string ⟨#[]⟩] 93)
        have e0 := (bz0.cell bl).trans c0
        obtain ⟨bs, ofs, ea, s0, s1, s2⟩ := (hvals.below bz0).at_ hfrl
        obtain rfl : a = ⟨bs, ofs, none⟩ := by simpa using ea
        clear ea
        have HFR := Lib.hid (show fr = st.length - takes 8 by rw [hfr1]; simp [takes])
        have hfr : fr ≤ st.length := by omega
        have i2 : IntKind.i64.wrap ((st.length : Int) - 1) = (fr : Int) := by rw [IntWalk.i64_in _ (by omega)]; omega
        have i3 : (0 : Int) ≤ fr := by omega
        have i4 : (fr : Int) < st.length := by omega
        have hdr : st.drop (st.length - takes 8) = [st[fr]] := by
          rw [← HFR.out, List.drop_eq_getElem_cons hfrl, List.drop_eq_nil_of_le (by omega)]
        have HTV := Lib.hid (show tokVal row ⟨8, tc, tvk, tvn, tvs⟩ (st.drop (st.length - takes 8)) = some ⟨1, yes (st[fr].k == 0), ⟨#[]⟩⟩ by
          rw [hdr]; rcases yes01 (st[fr].k == 0) with h | h <;> simp [tokVal, opOf, op1, asOpt, asVl, h])
        clear hdr hfr1
        have HS := Lib.hid hfrl
        generalize st[fr] = q at *
        have rz1 := Row.new wr 93 #[.int .i64 0, .int .i64 0, .string ⟨#[]⟩]
        go_wp2_with fail
        refine (specYes _ _).mono ?_
        rintro e y1 ⟨rfl, rfl⟩
        generalize yes (q.k == 0) = yq at *
        go_wp2_with fail
        refine (specInt _ _).mono ?_
        rintro e y2 ⟨rfl, o, rfl⟩
        go_wp2_with fail
        have rvx := (Row.new wr 93 #[.int .i64 1, .int .i64 yq, .string ⟨#[]⟩]).alloc o
        have bv := ((Below.refl wr.heap.size wr).alloc (Nat.le_refl _) (.cells #[.int .i64 1, .int .i64 yq, .string ⟨#[]⟩] 93)).alloc (by simp) o
        have hv := hvals.below bv
        have hzx : wr.heap.size < ((wr.alloc (.cells #[.int .i64 1, .int .i64 yq, .string ⟨#[]⟩] 93)).alloc o).heap.size := by simp; try omega
        have hbx := hb.trans (bv.mono hb.size)
        have rzx := hrz.below bv
        generalize (wr.alloc (.cells #[.int .i64 1, .int .i64 yq, .string ⟨#[]⟩] 93)).alloc o = xt at *
        clear rz1 s0 s1 s2 e0 bz0
        obtain ⟨⟨v0, v1, v2⟩, -⟩ := rvx.three
        have i1 : (fr : Int) ≤ c := by omega
        have hbs : wr.heap.size ≤ xt.heap.size := by omega
        have Ra : Row (xt.alloc (.cells #[] 93)).drew xt.heap.size 93 #[] := Row.new xt 93 #[]
        have Rb : Row ((xt.alloc (.cells #[] 93)).alloc (.cells #[.int .i64 1, .int .i64 yq, .string ⟨#[]⟩] 93)).drew xt.heap.size 93 #[] := (Row.new xt 93 #[]).alloc _
        have Rc : Row ((xt.alloc (.cells #[.int .i64 1, .int .i64 yq, .string ⟨#[]⟩] 93)).alloc (.cells #[] 93)).drew (xt.heap.size + 1) 93 #[] := Row.newAt _ _ _ _ (by simp)
        have Sb : Row ((xt.alloc (.cells #[] 93)).alloc (.cells #[.int .i64 1, .int .i64 yq, .string ⟨#[]⟩] 93)).drew (xt.heap.size + 1) 93 #[.int .i64 1, .int .i64 yq, .string ⟨#[]⟩] := Row.newAt _ _ _ _ (by simp)
        have Sc : Row ((xt.alloc (.cells #[.int .i64 1, .int .i64 yq, .string ⟨#[]⟩] 93)).alloc (.cells #[] 93)).drew xt.heap.size 93 #[.int .i64 1, .int .i64 yq, .string ⟨#[]⟩] := (Row.new _ _ _).alloc _
        have Va : Vals (xt.alloc (.cells #[] 93)).drew (some ⟨bs, ofs, none⟩) fr (st.take fr) := (hv.below ((Below.refl _ xt).alloc (Nat.le_refl _) _)).take hfr
        have Vb : Vals ((xt.alloc (.cells #[] 93)).alloc (.cells #[.int .i64 1, .int .i64 yq, .string ⟨#[]⟩] 93)).drew (some ⟨bs, ofs, none⟩) fr (st.take fr) := (hv.below (((Below.refl _ xt).alloc (Nat.le_refl _) _).alloc (by simp) _)).take hfr
        have Vc : Vals ((xt.alloc (.cells #[.int .i64 1, .int .i64 yq, .string ⟨#[]⟩] 93)).alloc (.cells #[] 93)).drew (some ⟨bs, ofs, none⟩) fr (st.take fr) := (hv.below (((Below.refl _ xt).alloc (Nat.le_refl _) _).alloc (by simp) _)).take hfr
        have hlen24 : fr ≤ 1000 := by omega
        go_region_held3 (fun w' => w'.cell? ⟨wr.heap.size, 0, none⟩ = some (.int .i64 1) ∧ w'.cell? ⟨wr.heap.size, 1, none⟩ = some (.int .i64 yq) ∧ w'.cell? ⟨wr.heap.size, 2, none⟩ = some (.string ⟨#[]⟩))
          (first | go_keep | ((with_reducible refine keep3 ?_ ((Below.refl _ _).alloc (Nat.le_refl _) _)); assumption) | ((with_reducible refine keep3g ?_ hg2 ?_ ?_ ?_) <;> first | assumption | (simp only; omega)) | ((with_reducible refine keep3g ?_ hg1 ?_ ?_ ?_) <;> first | assumption | (simp only; omega)))
          (first
            | ((with_reducible refine step_app_vals0 rfl _ _ rfl xt.heap.size xt.heap.size rfl Ra (by omega) ⟨bs, ofs, none⟩ fr c (st.take fr) rfl rfl Va (by omega) (by first | (simp; done) | (simp; omega)) ?_); intro g1 cap1 w1 ho1 hg1 hb1)
            | ((with_reducible refine step_app_vals0 rfl _ _ rfl xt.heap.size xt.heap.size rfl Rb (by omega) ⟨bs, ofs, none⟩ fr c (st.take fr) rfl rfl Vb (by omega) (by first | (simp; done) | (simp; omega)) ?_); intro g1 cap1 w1 ho1 hg1 hb1)
            | ((with_reducible refine step_app_vals0 rfl _ _ rfl xt.heap.size (xt.heap.size + 1) rfl Rc (by omega) ⟨bs, ofs, none⟩ fr c (st.take fr) rfl rfl Vc (by omega) (by first | (simp; done) | (simp; omega)) ?_); intro g1 cap1 w1 ho1 hg1 hb1)
            | ((with_reducible refine step_app_vals rfl _ _ rfl xt.heap.size g1 _ cap1 _ rfl (ho1.alloc _) _ 1 1 [(⟨1, yq, ⟨#[]⟩⟩ : Vl)] rfl rfl (vals_one (Row.new _ _ _)) (by omega) (by have := hg1.size; simp at this ⊢; omega) ?_); intro g2 cap2 w2 ho2 hg2 hb2)
            | ((with_reducible refine step_app_vals rfl _ _ rfl xt.heap.size g1 _ cap1 _ rfl ho1 _ 1 1 [(⟨1, yq, ⟨#[]⟩⟩ : Vl)] rfl rfl (vals_one (grown_row hg1 Sb (by omega))) (by omega) (by have := hg1.size; simp at this ⊢; omega) ?_); intro g2 cap2 w2 ho2 hg2 hb2)
            | ((with_reducible refine step_app_vals rfl _ _ rfl xt.heap.size g1 _ cap1 _ rfl ho1 _ 1 1 [(⟨1, yq, ⟨#[]⟩⟩ : Vl)] rfl rfl (vals_one (grown_row hg1 Sc (by omega))) (by omega) (by have := hg1.size; simp at this ⊢; omega) ?_); intro g2 cap2 w2 ho2 hg2 hb2))
        all_goals
          have bz : Below xt.heap.size xt w2 := by
            have hs1 := hg1.size
            simp at hs1
            first
            | exact ((Below.refl _ xt).alloc (Nat.le_refl _) _).drew.trans ((grown_below hg1 (by omega) (by simp)).trans (((Below.refl _ w1).alloc (by omega) _).trans (grown_below hg2 (by omega) (by simp; omega))))
            | exact (((Below.refl _ xt).alloc (Nat.le_refl _) _).alloc (by simp) _).drew.trans ((grown_below hg1 (by omega) (by simp; omega)).trans (grown_below hg2 (by omega) (by omega)))
          have hbz := hbx.trans (bz.mono hbx.size)
          have rzz := rzx.below bz
          have hl1 : (st.take fr).length = fr := by rw [List.length_take]; omega
          have hl2 : (st.take fr ++ [(⟨1, yq, ⟨#[]⟩⟩ : Vl)]).length = fr + 1 := by rw [List.length_append, hl1]; rfl
          obtain ⟨hvz, hcz, hcz2⟩ := ho2.vals hl2
          have HL := Lib.hid hl2
          have hsz := bz.size
          clear hl1 hl2 ho2 ho1 hg1 hg2 hv rvx Ra Rb Rc Sb Sc Va Vb Vc v0 v1 v2 c0 c1 c2 c3 c4 i1 i2
          go_wp2_with fail
          go_roundw
          case rel =>
            refine ⟨k + 1, st.take fr ++ [(⟨1, yq, ⟨#[]⟩⟩ : Vl)], ⟨g2, 0, none⟩, cap2, by omega, by go_num, by rw [HL.out], by rw [HL.out]; exact hcz, hcz2, by rw [HL.out]; omega, Lib.hid rfl, Lib.hid ?_, Lib.hid ?_, Lib.hid ?_, by rw [HL.out]; exact hvz, rzz, hbz⟩
            · rw [HL.out, HFR.out]; exact HEXP.out
            · rw [HEV.out, evalStep_some HTV.out]; exact congrArg (fun m => some (List.take m st ++ [(⟨1, yq, ⟨#[]⟩⟩ : Vl)])) HFR.out.symm
            · intro u hu
              rw [List.mem_append, List.mem_singleton] at hu
              rcases hu with hu | rfl
              · exact hstok.out u (List.mem_of_mem_take hu)
              · exact tokVal_ok HOK.out HTOK.out HTV.out
          case measure => simp [intOf]; omega
      have d8 : (k0 == 8) = false := by simpa using hk8
      by_cases hk7 : k0 = 7
      · skip
        subst hk7
        unfold maxLen at hcm
        have ht1 : 1 ≤ st.length := by simpa [takes] using htk
        obtain ⟨fr, hfr1⟩ : ∃ fr, fr = st.length - 1 := ⟨_, rfl⟩
        have hfrl : fr < st.length := by omega
        have bl : b < wr.heap.size := cell_lt c0
        have bz0 := (Below.refl wr.heap.size wr).alloc (Nat.le_refl _) (.cells #[.int .i64 0, .int .i64 0, .string ⟨#[]⟩] 93)
        have e0 := (bz0.cell bl).trans c0
        obtain ⟨bs, ofs, ea, s0, s1, s2⟩ := (hvals.below bz0).at_ hfrl
        obtain rfl : a = ⟨bs, ofs, none⟩ := by simpa using ea
        clear ea
        have HFR := Lib.hid (show fr = st.length - takes 7 by rw [hfr1]; simp [takes])
        have hfr : fr ≤ st.length := by omega
        have i2 : IntKind.i64.wrap ((st.length : Int) - 1) = (fr : Int) := by rw [IntWalk.i64_in _ (by omega)]; omega
        have i3 : (0 : Int) ≤ fr := by omega
        have i4 : (fr : Int) < st.length := by omega
        have hdr : st.drop (st.length - takes 7) = [st[fr]] := by
          rw [← HFR.out, List.drop_eq_getElem_cons hfrl, List.drop_eq_nil_of_le (by omega)]
        have hqok := hstok.out _ (List.getElem_mem hfrl)
        have HDR := Lib.hid hdr
        have HQ := Lib.hid hqok
        clear hdr hfr1 hqok
        have HS := Lib.hid hfrl
        generalize st[fr] = q at *
        have rz1 := Row.new wr 93 #[.int .i64 0, .int .i64 0, .string ⟨#[]⟩]
        cases htr : truS q
        · have HT := Lib.hid htr
          clear htr
          have HTV := Lib.hid (show tokVal row ⟨7, tc, tvk, tvn, tvs⟩ (st.drop (st.length - takes 7)) = none by
            have h1 : truOf q = -1 := by simpa [truS] using HT.out
            rw [HDR.out]; simp [tokVal, opOf, op1, h1, not3, asOpt])
          go_wp2_with fail
          refine (specOf q _).mono ?_
          rintro e y1 ⟨rfl, hb1⟩
          rw [HT.out]
          have rz2 := rz1.below hb1
          have bz1 := bz0.trans (hb1.mono bz0.size)
          go_wp2_with fail
          refine (specNot3 _ _).mono ?_
          rintro e y2 ⟨rfl, rfl⟩
          go_wp2_with fail
          refine (specAs _ _).mono ?_
          rintro e y3 ⟨rfl, hb3⟩
          have rz3 := rz2.below hb3
          have bz3 := bz1.trans (hb3.mono bz1.size)
          obtain ⟨⟨g0, g1, g2⟩, ⟨g3, g4, g5⟩⟩ := rz3.three
          generalize asVl (not3 (truN q)) = v at *
          have rzf := hrz.below bz3
          obtain ⟨⟨f0, f1, f2⟩, ⟨f3, f4, f5⟩⟩ := rzf.three
          have hne : w.heap.size ≠ wr.heap.size := by have := lt_of_block hrz; omega
          go_wp2_with fail
          have rzz : Row ((((((y3.setCell ⟨wr.heap.size, 0, none⟩ (.int .i64 v.k)).setCell ⟨wr.heap.size, 1, none⟩ (.int .i64 v.n)).setCell ⟨wr.heap.size, 2, none⟩ (.string v.s)).setCell ⟨w.heap.size, 0, none⟩ (.int .i64 0)).setCell ⟨w.heap.size, 1, none⟩ (.int .i64 0)).setCell ⟨w.heap.size, 2, none⟩ (.string ⟨#[]⟩)) w.heap.size 93 #[.int .i64 0, .int .i64 0, .string ⟨#[]⟩] := (((((rzf.far hne _).far hne _).far hne _).set 0 _).set 1 _).set 2 _
          obtain ⟨⟨z0, z1, z2⟩, -⟩ := rzz.three
          have hz := hb.trans (bz3.mono hb.size)
          have HN := evalB_dead (row := row) (ts := ts) (k := k + 1) (by rw [HEV.out, evalStep_none HTV.out])
          have HNN := Lib.hid HN
          clear HN
          refine bodyPost_ret (v := .tuple #[.agg #[.int .i64 0, .int .i64 0, .string ⟨#[]⟩], .bool false]) (by simp [results, Tryz.results137, go_sem, z0, z1, z2]) rfl ⟨by rw [HNN.out]; rfl, ?_⟩
          have hq := hb.size
          repeat (first | with_reducible exact hz | with_reducible refine Below.drew ?_ | with_reducible refine Below.setCell ?_ (by simp; omega) _ | with_reducible refine Below.setCell ?_ (by simp) _)
        · have HT := Lib.hid htr
          clear htr
          have HTV := Lib.hid (show tokVal row ⟨7, tc, tvk, tvn, tvs⟩ (st.drop (st.length - takes 7)) = some (asVl (not3 (truN q))) by
            have h1 : ¬ truOf q = -1 := by simpa [truS] using HT.out
            have h2 : truN q = truOf q := by simp [truN, h1]
            have h3 : ¬ not3 (truOf q) = -1 := by rcases truOf_cases HQ.out with ⟨_, h⟩ | ⟨_, h | h⟩ | ⟨_, h⟩ <;> rw [h] <;> first | decide | exact absurd h h1
            rw [HDR.out, h2]; simp [tokVal, opOf, op1, asOpt, h3])
          go_wp2_with fail
          refine (specOf q _).mono ?_
          rintro e y1 ⟨rfl, hb1⟩
          rw [HT.out]
          have rz2 := rz1.below hb1
          have bz1 := bz0.trans (hb1.mono bz0.size)
          go_wp2_with fail
          refine (specNot3 _ _).mono ?_
          rintro e y2 ⟨rfl, rfl⟩
          go_wp2_with fail
          refine (specAs _ _).mono ?_
          rintro e y3 ⟨rfl, hb3⟩
          have rz3 := rz2.below hb3
          have bz3 := bz1.trans (hb3.mono bz1.size)
          obtain ⟨⟨g0, g1, g2⟩, ⟨g3, g4, g5⟩⟩ := rz3.three
          generalize asVl (not3 (truN q)) = v at *
          go_wp2_with fail
          have rvx := ((rz3.set 0 (.int .i64 v.k)).set 1 (.int .i64 v.n)).set 2 (.string v.s)
          have bv := ((bz3.setCell (p := ⟨wr.heap.size, 0, none⟩) (Nat.le_refl _) (.int .i64 v.k)).setCell (p := ⟨wr.heap.size, 1, none⟩) (Nat.le_refl _) (.int .i64 v.n)).setCell (p := ⟨wr.heap.size, 2, none⟩) (Nat.le_refl _) (.string v.s)
          have hv := hvals.below bv
          have hzx : wr.heap.size < (((y3.setCell ⟨wr.heap.size, 0, none⟩ (.int .i64 v.k)).setCell ⟨wr.heap.size, 1, none⟩ (.int .i64 v.n)).setCell ⟨wr.heap.size, 2, none⟩ (.string v.s)).heap.size := by have := lt_of_block rz3; simp; exact this
          have hbx := hb.trans (bv.mono hb.size)
          have rzx := hrz.below bv
          generalize ((y3.setCell ⟨wr.heap.size, 0, none⟩ (.int .i64 v.k)).setCell ⟨wr.heap.size, 1, none⟩ (.int .i64 v.n)).setCell ⟨wr.heap.size, 2, none⟩ (.string v.s) = xt at *
          clear rz1 rz2 rz3 g0 g1 g2 g3 g4 g5 s0 s1 s2 e0 bz0 bz1 bz3
          obtain ⟨⟨v0, v1, v2⟩, -⟩ := rvx.three
          have i1 : (fr : Int) ≤ c := by omega
          have hbs : wr.heap.size ≤ xt.heap.size := by omega
          have Ra : Row (xt.alloc (.cells #[] 93)).drew xt.heap.size 93 #[] := Row.new xt 93 #[]
          have Rb : Row ((xt.alloc (.cells #[] 93)).alloc (.cells #[.int .i64 v.k, .int .i64 v.n, .string v.s] 93)).drew xt.heap.size 93 #[] := (Row.new xt 93 #[]).alloc _
          have Rc : Row ((xt.alloc (.cells #[.int .i64 v.k, .int .i64 v.n, .string v.s] 93)).alloc (.cells #[] 93)).drew (xt.heap.size + 1) 93 #[] := Row.newAt _ _ _ _ (by simp)
          have Sb : Row ((xt.alloc (.cells #[] 93)).alloc (.cells #[.int .i64 v.k, .int .i64 v.n, .string v.s] 93)).drew (xt.heap.size + 1) 93 #[.int .i64 v.k, .int .i64 v.n, .string v.s] := Row.newAt _ _ _ _ (by simp)
          have Sc : Row ((xt.alloc (.cells #[.int .i64 v.k, .int .i64 v.n, .string v.s] 93)).alloc (.cells #[] 93)).drew xt.heap.size 93 #[.int .i64 v.k, .int .i64 v.n, .string v.s] := (Row.new _ _ _).alloc _
          have Va : Vals (xt.alloc (.cells #[] 93)).drew (some ⟨bs, ofs, none⟩) fr (st.take fr) := (hv.below ((Below.refl _ xt).alloc (Nat.le_refl _) _)).take hfr
          have Vb : Vals ((xt.alloc (.cells #[] 93)).alloc (.cells #[.int .i64 v.k, .int .i64 v.n, .string v.s] 93)).drew (some ⟨bs, ofs, none⟩) fr (st.take fr) := (hv.below (((Below.refl _ xt).alloc (Nat.le_refl _) _).alloc (by simp) _)).take hfr
          have Vc : Vals ((xt.alloc (.cells #[.int .i64 v.k, .int .i64 v.n, .string v.s] 93)).alloc (.cells #[] 93)).drew (some ⟨bs, ofs, none⟩) fr (st.take fr) := (hv.below (((Below.refl _ xt).alloc (Nat.le_refl _) _).alloc (by simp) _)).take hfr
          have hlen24 : fr ≤ 1000 := by omega
          go_region_held3 (fun w' => w'.cell? ⟨wr.heap.size, 0, none⟩ = some (.int .i64 v.k) ∧ w'.cell? ⟨wr.heap.size, 1, none⟩ = some (.int .i64 v.n) ∧ w'.cell? ⟨wr.heap.size, 2, none⟩ = some (.string v.s))
            (first | go_keep | ((with_reducible refine keep3 ?_ ((Below.refl _ _).alloc (Nat.le_refl _) _)); assumption) | ((with_reducible refine keep3g ?_ hg2 ?_ ?_ ?_) <;> first | assumption | (simp only; omega)) | ((with_reducible refine keep3g ?_ hg1 ?_ ?_ ?_) <;> first | assumption | (simp only; omega)))
            (first
              | ((with_reducible refine step_app_vals0 rfl _ _ rfl xt.heap.size xt.heap.size rfl Ra (by omega) ⟨bs, ofs, none⟩ fr c (st.take fr) rfl rfl Va (by omega) (by first | (simp; done) | (simp; omega)) ?_); intro g1 cap1 w1 ho1 hg1 hb1)
              | ((with_reducible refine step_app_vals0 rfl _ _ rfl xt.heap.size xt.heap.size rfl Rb (by omega) ⟨bs, ofs, none⟩ fr c (st.take fr) rfl rfl Vb (by omega) (by first | (simp; done) | (simp; omega)) ?_); intro g1 cap1 w1 ho1 hg1 hb1)
              | ((with_reducible refine step_app_vals0 rfl _ _ rfl xt.heap.size (xt.heap.size + 1) rfl Rc (by omega) ⟨bs, ofs, none⟩ fr c (st.take fr) rfl rfl Vc (by omega) (by first | (simp; done) | (simp; omega)) ?_); intro g1 cap1 w1 ho1 hg1 hb1)
              | ((with_reducible refine step_app_vals rfl _ _ rfl xt.heap.size g1 _ cap1 _ rfl (ho1.alloc _) _ 1 1 [v] rfl rfl (vals_one (Row.new _ _ _)) (by omega) (by have := hg1.size; simp at this ⊢; omega) ?_); intro g2 cap2 w2 ho2 hg2 hb2)
              | ((with_reducible refine step_app_vals rfl _ _ rfl xt.heap.size g1 _ cap1 _ rfl ho1 _ 1 1 [v] rfl rfl (vals_one (grown_row hg1 Sb (by omega))) (by omega) (by have := hg1.size; simp at this ⊢; omega) ?_); intro g2 cap2 w2 ho2 hg2 hb2)
              | ((with_reducible refine step_app_vals rfl _ _ rfl xt.heap.size g1 _ cap1 _ rfl ho1 _ 1 1 [v] rfl rfl (vals_one (grown_row hg1 Sc (by omega))) (by omega) (by have := hg1.size; simp at this ⊢; omega) ?_); intro g2 cap2 w2 ho2 hg2 hb2))
          all_goals
            have bz : Below xt.heap.size xt w2 := by
              have hs1 := hg1.size
              simp at hs1
              first
              | exact ((Below.refl _ xt).alloc (Nat.le_refl _) _).drew.trans ((grown_below hg1 (by omega) (by simp)).trans (((Below.refl _ w1).alloc (by omega) _).trans (grown_below hg2 (by omega) (by simp; omega))))
              | exact (((Below.refl _ xt).alloc (Nat.le_refl _) _).alloc (by simp) _).drew.trans ((grown_below hg1 (by omega) (by simp; omega)).trans (grown_below hg2 (by omega) (by omega)))
            have hbz := hbx.trans (bz.mono hbx.size)
            have rzz := rzx.below bz
            have hl1 : (st.take fr).length = fr := by rw [List.length_take]; omega
            have hl2 : (st.take fr ++ [v]).length = fr + 1 := by rw [List.length_append, hl1]; rfl
            obtain ⟨hvz, hcz, hcz2⟩ := ho2.vals hl2
            have HL := Lib.hid hl2
            have hsz := bz.size
            clear hl1 hl2 ho2 ho1 hg1 hg2 hv rvx Ra Rb Rc Sb Sc Va Vb Vc v0 v1 v2 c0 c1 c2 c3 c4 i1 i2
            go_wp2_with fail
            go_roundw
            case rel =>
              refine ⟨k + 1, st.take fr ++ [v], ⟨g2, 0, none⟩, cap2, by omega, by go_num, by rw [HL.out], by rw [HL.out]; exact hcz, hcz2, by rw [HL.out]; omega, Lib.hid rfl, Lib.hid ?_, Lib.hid ?_, Lib.hid ?_, by rw [HL.out]; exact hvz, rzz, hbz⟩
              · rw [HL.out, HFR.out]; exact HEXP.out
              · rw [HEV.out, evalStep_some HTV.out]; exact congrArg (fun m => some (List.take m st ++ [v])) HFR.out.symm
              · intro u hu
                rw [List.mem_append, List.mem_singleton] at hu
                rcases hu with hu | rfl
                · exact hstok.out u (List.mem_of_mem_take hu)
                · exact tokVal_ok HOK.out HTOK.out HTV.out
            case measure => simp [intOf]; omega
      have d7 : (k0 == 7) = false := by simpa using hk7
      unfold maxLen at hcm
      have hkk : k0 = 3 ∨ k0 = 4 ∨ k0 = 5 ∨ k0 = 6 ∨ k0 = 9 ∨ k0 = 10 := by
        have := HTOK.out; unfold tokB isOpB at this; simp only [hk1, hk2, if_false] at this; split at this
        · rename_i h; simp at h; omega
        · cases this
      have htk2 : takes k0 = 2 := by unfold takes; rw [if_neg (by omega), if_pos hkk]
      have ht1 : 2 ≤ st.length := by rw [htk2] at htk; exact htk
      obtain ⟨f2, hf2⟩ : ∃ f2, f2 = st.length - 2 := ⟨_, rfl⟩
      obtain ⟨f1, hf1⟩ : ∃ f1, f1 = st.length - 1 := ⟨_, rfl⟩
      have hf2l : f2 < st.length := by omega
      have hf1l : f1 < st.length := by omega
      have bl : b < wr.heap.size := cell_lt c0
      have bz0 := (Below.refl wr.heap.size wr).alloc (Nat.le_refl _) (.cells #[.int .i64 0, .int .i64 0, .string ⟨#[]⟩] 93)
      have e0 := (bz0.cell bl).trans c0
      obtain ⟨bs, ofs, ea, s0, s1, s2⟩ := (hvals.below bz0).at_ hf2l
      obtain rfl : a = ⟨bs, ofs, none⟩ := by simpa using ea
      clear ea
      obtain ⟨bs', ofs', ea, s3, s4, s5⟩ := (hvals.below bz0).at_ hf1l
      obtain ⟨rfl, rfl⟩ : bs = bs' ∧ ofs = ofs' := by simpa using ea
      clear ea
      have HFR := Lib.hid (show f2 = st.length - takes k0 by rw [htk2]; exact hf2)
      have hfr : f2 ≤ st.length := by omega
      have i2 : IntKind.i64.wrap ((st.length : Int) - 2) = (f2 : Int) := by rw [IntWalk.i64_in _ (by omega)]; omega
      have i2b : IntKind.i64.wrap ((st.length : Int) - 1) = (f1 : Int) := by rw [IntWalk.i64_in _ (by omega)]; omega
      have i3 : (0 : Int) ≤ f2 := by omega
      have i4 : (f2 : Int) < st.length := by omega
      have i5 : (0 : Int) ≤ f1 := by omega
      have i6 : (f1 : Int) < st.length := by omega
      have i7 : (0 : Int) ≤ k := by omega
      have i8 : (k : Int) < ts.length := by omega
      have hdr : st.drop (st.length - takes k0) = [st[f2], st[f1]] := by
        have e1 : f1 = f2 + 1 := by omega
        subst e1
        rw [← HFR.out, List.drop_eq_getElem_cons hf2l, List.drop_eq_getElem_cons hf1l, List.drop_eq_nil_of_le (by omega)]
      have hpok := hstok.out _ (List.getElem_mem hf2l)
      have hqok := hstok.out _ (List.getElem_mem hf1l)
      have HT0 := Lib.hid (show tokVal row ⟨k0, tc, tvk, tvn, tvs⟩ (st.drop (st.length - takes k0)) = op2 k0 st[f2] st[f1] by rw [hdr]; simp [tokVal, opOf, hk1, hk2])
      clear hdr hf1 hf2 htk2
      have HPK := Lib.hid hpok
      have HQK := Lib.hid hqok
      clear hpok hqok
      generalize st[f2] = p at *
      generalize st[f1] = q at *
      have rz1 := Row.new wr 93 #[.int .i64 0, .int .i64 0, .string ⟨#[]⟩]
      have hbs : bs < wr.heap.size := by
        obtain ⟨b', o', e', hc'⟩ := hvals.2.2 (by omega)
        cases e'
        have := hc' 0 (by simp; omega) 0 (by simp [Vl.cells])
        exact cell_lt this
      have hnb : b ≠ wr.heap.size := by omega
      have hns : bs ≠ wr.heap.size := by omega
      have HKK := Lib.hid hkk
      clear hkk
      cases hop : op2 k0 p q
      · have HOP := Lib.hid hop
        clear hop
        have HTV := Lib.hid (HT0.out.trans HOP.out)
        go_wp2_with fail
        have rzf0 := hrz.below bz0
        generalize wr.alloc (.cells #[.int .i64 0, .int .i64 0, .string ⟨#[]⟩] 93) = y0 at *
        go_region_held3 (fun w' => w'.cell? ⟨b, off + k * 5, none⟩ = some (.int .i64 k0) ∧ w'.cell? ⟨bs, ofs + f2 * 3, none⟩ = some (.int .i64 p.k) ∧ w'.cell? ⟨bs, ofs + f2 * 3 + 1, none⟩ = some (.int .i64 p.n) ∧ w'.cell? ⟨bs, ofs + f2 * 3 + 2, none⟩ = some (.string p.s) ∧ w'.cell? ⟨bs, ofs + f1 * 3, none⟩ = some (.int .i64 q.k) ∧ w'.cell? ⟨bs, ofs + f1 * 3 + 1, none⟩ = some (.int .i64 q.n) ∧ w'.cell? ⟨bs, ofs + f1 * 3 + 2, none⟩ = some (.string q.s))
          (first | go_keep | exact keep7 (by assumption) hbA | ((with_reducible refine keep7s hnb hns ?_); assumption))
          (first | (go_at_call 179; refine (specTwoNone k0 HKK.out p q _ HPK.out HQK.out HOP.out).mono ?_; rintro e yA ⟨v, rfl, hbA⟩; have rzA := rz1.drew.below hbA; have rfA := rzf0.drew.below hbA; obtain ⟨⟨g0, g1, g2⟩, ⟨g3, g4, g5⟩⟩ := rzA.three; obtain ⟨⟨f0, f1', f2'⟩, ⟨f3, f4, f5⟩⟩ := rfA.three))
        have hne : w.heap.size ≠ wr.heap.size := by have := lt_of_block hrz; omega
        have bzA := bz0.drew.trans (hbA.mono bz0.size)
        go_wp2_with fail
        have rzz : Row ((((((yA.setCell ⟨wr.heap.size, 0, none⟩ (.int .i64 v.k)).setCell ⟨wr.heap.size, 1, none⟩ (.int .i64 v.n)).setCell ⟨wr.heap.size, 2, none⟩ (.string v.s)).setCell ⟨w.heap.size, 0, none⟩ (.int .i64 0)).setCell ⟨w.heap.size, 1, none⟩ (.int .i64 0)).setCell ⟨w.heap.size, 2, none⟩ (.string ⟨#[]⟩)) w.heap.size 93 #[.int .i64 0, .int .i64 0, .string ⟨#[]⟩] := (((((rfA.far hne _).far hne _).far hne _).set 0 _).set 1 _).set 2 _
        obtain ⟨⟨z0, z1, z2⟩, -⟩ := rzz.three
        have hz := hb.trans (bzA.mono hb.size)
        have HN := evalB_dead (row := row) (ts := ts) (k := k + 1) (by rw [HEV.out, evalStep_none HTV.out])
        have HNN := Lib.hid HN
        clear HN
        refine bodyPost_ret (v := .tuple #[.agg #[.int .i64 0, .int .i64 0, .string ⟨#[]⟩], .bool false]) (by simp [results, Tryz.results137, go_sem, z0, z1, z2]) rfl ⟨by rw [HNN.out]; rfl, ?_⟩
        have hq := hb.size
        repeat (first | with_reducible exact hz | with_reducible refine Below.drew ?_ | with_reducible refine Below.setCell ?_ (by simp; omega) _ | with_reducible refine Below.setCell ?_ (by simp) _)
      · rename_i v
        have HOP := Lib.hid hop
        clear hop
        have HTV := Lib.hid (HT0.out.trans HOP.out)
        go_wp2_with fail
        have rzf0 := hrz.below bz0
        generalize wr.alloc (.cells #[.int .i64 0, .int .i64 0, .string ⟨#[]⟩] 93) = y0 at *
        go_region_held3 (fun w' => w'.cell? ⟨b, off + k * 5, none⟩ = some (.int .i64 k0) ∧ w'.cell? ⟨bs, ofs + f2 * 3, none⟩ = some (.int .i64 p.k) ∧ w'.cell? ⟨bs, ofs + f2 * 3 + 1, none⟩ = some (.int .i64 p.n) ∧ w'.cell? ⟨bs, ofs + f2 * 3 + 2, none⟩ = some (.string p.s) ∧ w'.cell? ⟨bs, ofs + f1 * 3, none⟩ = some (.int .i64 q.k) ∧ w'.cell? ⟨bs, ofs + f1 * 3 + 1, none⟩ = some (.int .i64 q.n) ∧ w'.cell? ⟨bs, ofs + f1 * 3 + 2, none⟩ = some (.string q.s))
          (first | go_keep | exact keep7 (by assumption) hbA | ((with_reducible refine keep7s hnb hns ?_); assumption))
          (first | (go_at_call 179; refine (specTwoSome k0 HKK.out p q v _ HPK.out HQK.out HOP.out).mono ?_; rintro e yA ⟨rfl, hbA⟩; have rzA := rz1.drew.below hbA; have rfA := rzf0.drew.below hbA; obtain ⟨⟨g0, g1, g2⟩, ⟨g3, g4, g5⟩⟩ := rzA.three; obtain ⟨⟨f0, f1', f2'⟩, ⟨f3, f4, f5⟩⟩ := rfA.three))
        have bzA := bz0.drew.trans (hbA.mono bz0.size)
        go_wp2_with fail
        have rvx := ((rzA.set 0 (.int .i64 v.k)).set 1 (.int .i64 v.n)).set 2 (.string v.s)
        have bv := ((bzA.setCell (p := ⟨wr.heap.size, 0, none⟩) (Nat.le_refl _) (.int .i64 v.k)).setCell (p := ⟨wr.heap.size, 1, none⟩) (Nat.le_refl _) (.int .i64 v.n)).setCell (p := ⟨wr.heap.size, 2, none⟩) (Nat.le_refl _) (.string v.s)
        have hv := hvals.below bv
        have hzx : wr.heap.size < (((yA.setCell ⟨wr.heap.size, 0, none⟩ (.int .i64 v.k)).setCell ⟨wr.heap.size, 1, none⟩ (.int .i64 v.n)).setCell ⟨wr.heap.size, 2, none⟩ (.string v.s)).heap.size := by have := lt_of_block rzA; simp; exact this
        have hbx := hb.trans (bv.mono hb.size)
        have rzx := hrz.below bv
        generalize ((yA.setCell ⟨wr.heap.size, 0, none⟩ (.int .i64 v.k)).setCell ⟨wr.heap.size, 1, none⟩ (.int .i64 v.n)).setCell ⟨wr.heap.size, 2, none⟩ (.string v.s) = xt at *
        clear rz1 rzA rfA rzf0 g0 g1 g2 g3 g4 g5 f0 f1' f2' f3 f4 f5 s0 s1 s2 s3 s4 s5 e0 bz0 bzA
        obtain ⟨⟨v0, v1, v2⟩, -⟩ := rvx.three
        have i1 : (f2 : Int) ≤ c := by omega
        have hbs : wr.heap.size ≤ xt.heap.size := by omega
        have Ra : Row (xt.alloc (.cells #[] 93)).drew xt.heap.size 93 #[] := Row.new xt 93 #[]
        have Rb : Row ((xt.alloc (.cells #[] 93)).alloc (.cells #[.int .i64 v.k, .int .i64 v.n, .string v.s] 93)).drew xt.heap.size 93 #[] := (Row.new xt 93 #[]).alloc _
        have Rc : Row ((xt.alloc (.cells #[.int .i64 v.k, .int .i64 v.n, .string v.s] 93)).alloc (.cells #[] 93)).drew (xt.heap.size + 1) 93 #[] := Row.newAt _ _ _ _ (by simp)
        have Sb : Row ((xt.alloc (.cells #[] 93)).alloc (.cells #[.int .i64 v.k, .int .i64 v.n, .string v.s] 93)).drew (xt.heap.size + 1) 93 #[.int .i64 v.k, .int .i64 v.n, .string v.s] := Row.newAt _ _ _ _ (by simp)
        have Sc : Row ((xt.alloc (.cells #[.int .i64 v.k, .int .i64 v.n, .string v.s] 93)).alloc (.cells #[] 93)).drew xt.heap.size 93 #[.int .i64 v.k, .int .i64 v.n, .string v.s] := (Row.new _ _ _).alloc _
        have Va : Vals (xt.alloc (.cells #[] 93)).drew (some ⟨bs, ofs, none⟩) f2 (st.take f2) := (hv.below ((Below.refl _ xt).alloc (Nat.le_refl _) _)).take hfr
        have Vb : Vals ((xt.alloc (.cells #[] 93)).alloc (.cells #[.int .i64 v.k, .int .i64 v.n, .string v.s] 93)).drew (some ⟨bs, ofs, none⟩) f2 (st.take f2) := (hv.below (((Below.refl _ xt).alloc (Nat.le_refl _) _).alloc (by simp) _)).take hfr
        have Vc : Vals ((xt.alloc (.cells #[.int .i64 v.k, .int .i64 v.n, .string v.s] 93)).alloc (.cells #[] 93)).drew (some ⟨bs, ofs, none⟩) f2 (st.take f2) := (hv.below (((Below.refl _ xt).alloc (Nat.le_refl _) _).alloc (by simp) _)).take hfr
        have hlen24 : f2 ≤ 1000 := by omega
        go_region_held3 (fun w' => w'.cell? ⟨wr.heap.size, 0, none⟩ = some (.int .i64 v.k) ∧ w'.cell? ⟨wr.heap.size, 1, none⟩ = some (.int .i64 v.n) ∧ w'.cell? ⟨wr.heap.size, 2, none⟩ = some (.string v.s))
          (first | go_keep | ((with_reducible refine keep3 ?_ ((Below.refl _ _).alloc (Nat.le_refl _) _)); assumption) | ((with_reducible refine keep3g ?_ hg2 ?_ ?_ ?_) <;> first | assumption | (simp only; omega)) | ((with_reducible refine keep3g ?_ hg1 ?_ ?_ ?_) <;> first | assumption | (simp only; omega)))
          (first
            | ((with_reducible refine step_app_vals0 rfl _ _ rfl xt.heap.size xt.heap.size rfl Ra (by omega) ⟨bs, ofs, none⟩ f2 c (st.take f2) rfl rfl Va (by omega) (by first | (simp; done) | (simp; omega)) ?_); intro g1 cap1 w1 ho1 hg1 hb1)
            | ((with_reducible refine step_app_vals0 rfl _ _ rfl xt.heap.size xt.heap.size rfl Rb (by omega) ⟨bs, ofs, none⟩ f2 c (st.take f2) rfl rfl Vb (by omega) (by first | (simp; done) | (simp; omega)) ?_); intro g1 cap1 w1 ho1 hg1 hb1)
            | ((with_reducible refine step_app_vals0 rfl _ _ rfl xt.heap.size (xt.heap.size + 1) rfl Rc (by omega) ⟨bs, ofs, none⟩ f2 c (st.take f2) rfl rfl Vc (by omega) (by first | (simp; done) | (simp; omega)) ?_); intro g1 cap1 w1 ho1 hg1 hb1)
            | ((with_reducible refine step_app_vals rfl _ _ rfl xt.heap.size g1 _ cap1 _ rfl (ho1.alloc _) _ 1 1 [v] rfl rfl (vals_one (Row.new _ _ _)) (by omega) (by have := hg1.size; simp at this ⊢; omega) ?_); intro g2 cap2 w2 ho2 hg2 hb2)
            | ((with_reducible refine step_app_vals rfl _ _ rfl xt.heap.size g1 _ cap1 _ rfl ho1 _ 1 1 [v] rfl rfl (vals_one (grown_row hg1 Sb (by omega))) (by omega) (by have := hg1.size; simp at this ⊢; omega) ?_); intro g2 cap2 w2 ho2 hg2 hb2)
            | ((with_reducible refine step_app_vals rfl _ _ rfl xt.heap.size g1 _ cap1 _ rfl ho1 _ 1 1 [v] rfl rfl (vals_one (grown_row hg1 Sc (by omega))) (by omega) (by have := hg1.size; simp at this ⊢; omega) ?_); intro g2 cap2 w2 ho2 hg2 hb2))
        all_goals
          have bz : Below xt.heap.size xt w2 := by
            have hs1 := hg1.size
            simp at hs1
            first
            | exact ((Below.refl _ xt).alloc (Nat.le_refl _) _).drew.trans ((grown_below hg1 (by omega) (by simp)).trans (((Below.refl _ w1).alloc (by omega) _).trans (grown_below hg2 (by omega) (by simp; omega))))
            | exact (((Below.refl _ xt).alloc (Nat.le_refl _) _).alloc (by simp) _).drew.trans ((grown_below hg1 (by omega) (by simp; omega)).trans (grown_below hg2 (by omega) (by omega)))
          have hbz := hbx.trans (bz.mono hbx.size)
          have rzz := rzx.below bz
          have hl1 : (st.take f2).length = f2 := by rw [List.length_take]; omega
          have hl2 : (st.take f2 ++ [v]).length = f2 + 1 := by rw [List.length_append, hl1]; rfl
          obtain ⟨hvz, hcz, hcz2⟩ := ho2.vals hl2
          have HL := Lib.hid hl2
          have hsz := bz.size
          clear hl1 hl2 ho2 ho1 hg1 hg2 hv rvx Ra Rb Rc Sb Sc Va Vb Vc v0 v1 v2 c0 c1 c2 c3 c4 i1 i2
          go_wp2_with fail
          go_roundw
          case rel =>
            refine ⟨k + 1, st.take f2 ++ [v], ⟨g2, 0, none⟩, cap2, by omega, by go_num, by rw [HL.out], by rw [HL.out]; exact hcz, hcz2, by rw [HL.out]; omega, Lib.hid rfl, Lib.hid ?_, Lib.hid ?_, Lib.hid ?_, by rw [HL.out]; exact hvz, rzz, hbz⟩
            · rw [HL.out, HFR.out]; exact HEXP.out
            · rw [HEV.out, evalStep_some HTV.out]; exact congrArg (fun m => some (List.take m st ++ [v])) HFR.out.symm
            · intro u hu
              rw [List.mem_append, List.mem_singleton] at hu
              rcases hu with hu | rfl
              · exact hstok.out u (List.mem_of_mem_take hu)
              · exact tokVal_ok HOK.out HTOK.out HTV.out
          case measure => simp [intOf]; omega
    · have e : ts.take k = ts := List.take_of_length_le (by omega)
      have hx := hexp.out
      rw [e] at hx
      have hl1 : st.length = 1 := by have := HGO.out; rw [hx] at this; simpa using this
      have hev' := hev.out
      rw [e] at hev'
      have h0 : 0 < st.length := by omega
      obtain ⟨bs, ofs, ea, s0, s1, s2⟩ := hvals.at_ h0
      obtain rfl : a = ⟨bs, ofs, none⟩ := by simpa using ea
      have hB : evalB ts row = some st[0] := by
        unfold evalB
        rw [if_pos (by rw [Bool.and_eq_true]; exact ⟨HR.out, HE.out⟩), hev']
        simp [h0]
      have HB := Lib.hid hB
      clear hB hev' hx e hl1 ea
      generalize st[0] = v at *
      rw [Nat.zero_mul, Nat.add_zero] at s0 s1 s2
      obtain ⟨⟨f0, f1, f2⟩, ⟨f3, f4, f5⟩⟩ := hrz.three
      have rzz : Row (((wr.setCell ⟨w.heap.size, 0, none⟩ (.int .i64 v.k)).setCell ⟨w.heap.size, 1, none⟩ (.int .i64 v.n)).setCell ⟨w.heap.size, 2, none⟩ (.string v.s)) w.heap.size 93 #[.int .i64 v.k, .int .i64 v.n, .string v.s] := ((hrz.set 0 _).set 1 _).set 2 _
      obtain ⟨⟨z0, z1, z2⟩, -⟩ := rzz.three
      clear rzz
      go_wp2_with fail
      refine bodyPost_ret (v := .tuple #[.agg #[.int .i64 v.k, .int .i64 v.n, .string v.s], .bool true]) (by simp [results, Tryz.results137, go_sem, z0, z1, z2]) rfl ⟨by rw [HB.out]; rfl, ?_⟩
      repeat (first | with_reducible exact hb | with_reducible refine Below.drew ?_ | with_reducible refine Below.setCell ?_ (by simp; omega) _ | with_reducible refine Below.setCell ?_ (by simp) _)
set_option maxRecDepth 100000 in
set_option maxHeartbeats 1000000 in
theorem specL2Truth (A R : Option Addr) (n m cap capR : Nat) (ts : List Tk) (row : List Vl) (w : World) (h : Toks w A n ts) (hr : Vals w R m row) (hn : n ≤ maxLen) (hm : m ≤ maxLen) (hrow : rowB row = true) (hex : exprB ts row.length = true) :
    Calls Tryz.prog 90 #[.slice A n cap, .slice R m capR] w fun e w' => e = .returned (.int .i64 (truthB ts row)) ∧ Below w.heap.size w w' := by
  have HR := Lib.hid hrow
  have HX := Lib.hid hex
  clear hrow hex
  cases hv : evalB ts row with
  | none =>
    have HE := Lib.hid hv
    have HT := Lib.hid (show truthB ts row = -1 by simp [truthB, hv])
    have HZ := Lib.hid (show truS Vl.zero = true by simp [truS, truOf, Vl.zero])
    clear hv
    go_enter Tryz.func90, Tryz.ntmps90
    go_wp2_with fail
    refine (specL2Eval A R n m cap capR ts row _ h hr hn hm HR.out HX.out).mono ?_
    rintro e w1 ⟨rfl, hb1⟩
    rw [HE.out]
    simp only [Option.getD_none, Option.isSome_none]
    have r1 := Row.new w1 93 #[.int .i64 Vl.zero.k, .int .i64 Vl.zero.n, .string Vl.zero.s]
    have hbx := hb1.alloc hb1.size (.cells #[.int .i64 Vl.zero.k, .int .i64 Vl.zero.n, .string Vl.zero.s] 93)
    go_wp2_with fail
    generalize Vl.zero = v at *
    refine (specOf v _).mono ?_
    rintro e w2 ⟨rfl, hb2⟩
    go_wp2
    go_ret
    exact ⟨retI (by rw [HT.out]), hbx.trans (hb2.mono hbx.size)⟩
  | some v =>
    have HE := Lib.hid hv
    have HT := Lib.hid (show truthB ts row = truOf v by simp [truthB, hv])
    clear hv
    cases hs : truS v
    · have HS := Lib.hid hs
      have HT2 := Lib.hid (show truOf v = -1 by simpa [truS] using hs)
      clear hs
      go_enter Tryz.func90, Tryz.ntmps90
      go_wp2_with fail
      refine (specL2Eval A R n m cap capR ts row _ h hr hn hm HR.out HX.out).mono ?_
      rintro e w1 ⟨rfl, hb1⟩
      rw [HE.out]
      simp only [Option.getD_some, Option.isSome_some]
      have hbx := hb1.alloc hb1.size (.cells #[.int .i64 v.k, .int .i64 v.n, .string v.s] 93)
      go_wp2_with fail
      refine (specOf v _).mono ?_
      rintro e w2 ⟨rfl, hb2⟩
      rw [HS.out]
      go_wp2
      go_ret
      exact ⟨retI (by rw [HT.out, HT2.out]), hbx.trans (hb2.mono hbx.size)⟩
    · have HS := Lib.hid hs
      have HT2 := Lib.hid (show truN v = truOf v by have h1 : ¬ truOf v = -1 := by simpa [truS] using hs
                                                    simp [truN, h1])
      clear hs
      go_enter Tryz.func90, Tryz.ntmps90
      go_wp2_with fail
      refine (specL2Eval A R n m cap capR ts row _ h hr hn hm HR.out HX.out).mono ?_
      rintro e w1 ⟨rfl, hb1⟩
      rw [HE.out]
      simp only [Option.getD_some, Option.isSome_some]
      have hbx := hb1.alloc hb1.size (.cells #[.int .i64 v.k, .int .i64 v.n, .string v.s] 93)
      go_wp2_with fail
      refine (specOf v _).mono ?_
      rintro e w2 ⟨rfl, hb2⟩
      rw [HS.out]
      go_wp2
      go_ret
      exact ⟨retI (by rw [HT.out, HT2.out]), hbx.trans (hb2.mono hbx.size)⟩
theorem keepF9 {w w' : World} {p0 p1 p2 p3 p4 p5 p6 p7 p8 : Addr} {a0 a1 a2 a3 a4 a5 a6 a7 a8 : Value} (h : w.cell? p0 = some a0 ∧ w.cell? p1 = some a1 ∧ w.cell? p2 = some a2 ∧ w.cell? p3 = some a3 ∧ w.cell? p4 = some a4 ∧ w.cell? p5 = some a5 ∧ w.cell? p6 = some a6 ∧ w.cell? p7 = some a7 ∧ w.cell? p8 = some a8) (hb : Below w.heap.size w w') : w'.cell? p0 = some a0 ∧ w'.cell? p1 = some a1 ∧ w'.cell? p2 = some a2 ∧ w'.cell? p3 = some a3 ∧ w'.cell? p4 = some a4 ∧ w'.cell? p5 = some a5 ∧ w'.cell? p6 = some a6 ∧ w'.cell? p7 = some a7 ∧ w'.cell? p8 = some a8 :=
  ⟨below_keep hb _ _ h.1, below_keep hb _ _ h.2.1, below_keep hb _ _ h.2.2.1, below_keep hb _ _ h.2.2.2.1, below_keep hb _ _ h.2.2.2.2.1, below_keep hb _ _ h.2.2.2.2.2.1, below_keep hb _ _ h.2.2.2.2.2.2.1, below_keep hb _ _ h.2.2.2.2.2.2.2.1, below_keep hb _ _ h.2.2.2.2.2.2.2.2⟩
set_option maxRecDepth 100000 in
set_option maxHeartbeats 4000000 in
theorem specL8Fires (AS AL : Option Addr) (nS cS nL cL : Nat) (s : List Tb) (l : List Tg) (ok okl : Nat → Prop) (m : Nat) (ev : Int) (AO AN : Option Addr) (nO cO nN cN : Nat) (old now : List Vl) (w : World)
    (hS : Sl TbR 6 ok w AS nS s) (hL : Sl TgR 5 okl w AL nL l) (hm : m < s.length) (hO : Vals w AO nO old) (hN : Vals w AN nN now) (h0 : 0 < s[m].cols.length) (hn : s[m].cols.length ≤ 8) (hnO : nO ≤ s[m].cols.length) (hnN : nN ≤ s[m].cols.length)
    (hs9 : s.length ≤ 1048576) (hl9 : l.length ≤ 1048576) (hB : rowB (bothV s[m].cols.length old now) = true) (hX : ∀ x ∈ l, (x.table.toList == s[m].name.toList) = true → x.wher.length ≠ 0 → exprB x.wher (2 * s[m].cols.length : Nat) = true) (hW : ∀ x ∈ l, x.wher.length ≤ 1048576) :
    Calls Tryz.prog 43 #[.slice AS nS cS, .slice AL nL cL, .int .i64 m, .int .i64 ev, .slice AO nO cO, .slice AN nN cN] w fun e w' => ∃ v, e = .returned v ∧ OwnI w' w.heap.size v (firesTo s[m] ev old now l l.length) ∧ Below w.heap.size w w' := by
  obtain rfl : s.length = nS := hS.1
  obtain rfl : l.length = nL := hL.1
  obtain rfl : old.length = nO := hO.len
  obtain rfl : now.length = nN := hN.len
  obtain ⟨j0, hi, hz0, hz1, hz2⟩ := info_parts infoIntI
  have J1 := Lib.hid hi
  have J2 := Lib.hid hz0
  have J3 := Lib.hid hz1
  have J4 := Lib.hid hz2
  clear hi hz0 hz1 hz2
  obtain ⟨g, o, A1, n1, c1, A2, n2, c2, A3, n3, c3, A4, n4, c4, A5, n5, c5, -, rfl, x0', x1', x2', x3', x4', x5', hcols, -⟩ := TbR.at_ hS hm
  have hn1 : n1 = s[m].cols.length := hcols.1.symm
  generalize ht : s[m] = t at *
  rw [← hn1] at h0 hn hnO hnN hB hX
  have HX := Lib.hid hX
  have HBO := Lib.hid hB
  have HW := Lib.hid hW
  have HN1 := Lib.hid hn1
  have hb0 := (Below.refl w.heap.size w).alloc (Nat.le_refl _) (.cells #[] 2)
  have ho0 := Lib.hid (OwnI.lit w (Nat.le_refl w.heap.size))
  have i0 : (0 : Int) ≤ (m : Nat) := by omega
  have i1 : ((m : Nat) : Int) < s.length := by omega
  clear hX hB hW hn1 ht hcols
  go_enter Tryz.func43, Tryz.ntmps43
  go_wp2_with fail
  generalize w.alloc (.cells #[] 2) = z0 at *
  have HB0 := Lib.hid hb0
  go_loopw [13, 14] (fun v i wr => ∃ (k : Nat), k ≤ l.length ∧ i = .int .i64 k ∧ Hid (OwnI wr w.heap.size v (firesTo t ev old now l k)) ∧ Hid (Below w.heap.size w wr)) (fun _ i _ => l.length - (intOf i).toNat)
  case atStart => exact ⟨0, by omega, rfl, ho0, HB0⟩
  case round =>
    clear hb0 ho0 HB0
    obtain ⟨k, hk, rfl, hown, hbh⟩ := hrel
    have hb := hbh.out
    by_cases hlt : k < l.length
    · obtain ⟨gb, go, B2, k2, d2, B4, k4, d4, -, rfl, y0', y1', y2', y3', y4', hwh', -⟩ := TgR.at_ hL hlt
      have y0 := below_keep hb _ _ y0'
      have y1 := below_keep hb _ _ y1'
      have y2 := below_keep hb _ _ y2'
      have x0 := below_keep hb _ _ x0'
      have x1 := below_keep hb _ _ x1'
      have x2 := below_keep hb _ _ x2'
      have x3 := below_keep hb _ _ x3'
      have x4 := below_keep hb _ _ x4'
      have x5 := below_keep hb _ _ x5'
      have k0' : (0 : Int) ≤ k := by omega
      have k1' : (k : Int) < l.length := by omega
      have HFY := Lib.hid (fun hs => firesTo_yes (t := t) (ev := ev) (old := old) (now := now) hlt hs)
      have HFN := Lib.hid (fun hs => firesTo_no (t := t) (ev := ev) (old := old) (now := now) hlt hs)
      have HLE := Lib.hid (firesTo_len t ev old now l k)
      have HMX := Lib.hid (HX.out l[k] (List.getElem_mem hlt))
      have HMW := Lib.hid (HW.out l[k] (List.getElem_mem hlt))
      generalize firesTo t ev old now l k = xs at hown HFY HFN HLE
      generalize hek : l[k] = x at *
      clear y3' y4' hek
      cases e1 : (x.table.toList == t.name.toList)
      · have HT := Lib.hid (HFN.out (by unfold fireB; rw [e1]; rfl))
        go_wp2_with fail
        go_quiet (fail)
        go_wp2_with fail
        go_roundw
        case rel => exact ⟨k + 1, by omega, by go_num, by rw [HT.out]; exact Lib.hid hown.out, Lib.hid (below_dN hb _)⟩
        case measure => simp [intOf]; omega
      · cases e2 : (x.event == ev)
        · have HT := Lib.hid (HFN.out (by unfold fireB; rw [e1, e2]; rfl))
          go_wp2_with fail
          go_quiet (fail)
          go_wp2_with fail
          go_roundw
          case rel => exact ⟨k + 1, by omega, by go_num, by rw [HT.out]; exact Lib.hid hown.out, Lib.hid (below_dN hb _)⟩
          case measure => simp [intOf]; omega
        · have hwl : x.wher.length = k2 := hwh'.1
          by_cases hw0 : k2 = 0
          · have HT := Lib.hid (HFY.out (by unfold fireB; rw [e1, e2, hwl, decide_eq_true hw0]; rfl))
            have z3 : ((k2 : Int) == 0) = true := by rw [hw0]; rfl
            go_wp2_with fail
            go_quiet (fail)
            have HBW := Lib.hid (below_dN hb nq)
            have HOW := Lib.hid (show OwnI (wr.drewN nq) w.heap.size _ xs from hown.out)
            generalize wr.drewN nq = W at *
            clear hown hbh hb
            have HLB := Lib.hid (show xs.length ≤ 1048576 by have := HLE.out; omega)
            go_wp2_with (at_builtin; refine wpList_append_own _ rfl _ _ 28 rfl w.heap.size 2 j0 (.int .i64 0) 1 8 Tryz.underlying28 J1.out J2.out J3.out J4.out rfl (by decide) _ _ _ rfl (World.ownsRow.alloc HOW.out _) ⟨_, 0, none⟩ 1 1 [.int .i64 k] rfl rfl ?c1 ?c2 ?c3 ?c4 ?c5 ?_)
            case c1 => exact cells_newAt _ [.int .i64 k] _ (by simp)
            case c2 => intro u hu; simp at hu; subst hu; rfl
            case c3 => have := HLB.out; unfold maxLen; omega
            case c4 => have := HLB.out; omega
            case c5 => have := HBW.out.size; simp; omega
            intro v8 W8 own8 grow8 _
            obtain ⟨hE8, hB8⟩ := OwnI.app HOW.out HBW.out.size own8 grow8
            have HE8 := Lib.hid (show OwnI W8 w.heap.size v8 (firesTo t ev old now l (k + 1)) by rw [HT.out]; exact hE8)
            have HB8 := Lib.hid (HBW.out.trans hB8)
            clear own8 grow8 hE8 hB8
            go_wp2_with fail
            go_roundw
            case rel => exact ⟨k + 1, by omega, by go_num, HE8, HB8⟩
            case measure => simp [intOf]; omega
          · have z3 : ((k2 : Int) == 0) = false := beq_eq_false_iff_ne.2 (by omega)
            have hOd : Vals wr.drew AO old.length old := (hO.below hb).below ((Below.refl wr.heap.size wr).drew)
            have hNd : Vals wr.drew AN now.length now := (hN.below hb).below ((Below.refl wr.heap.size wr).drew)
            have HWD := Lib.hid (show Sl TkR 5 okl wr.drew B2 k2 x.wher from (hwh'.below TkR.stays hb).stays TkR.stays (fun _ h => h) (fun p v _ h => h))
            have HXX := Lib.hid (HMX.out e1 (by omega))
            have HBL := Lib.hid (both_len hnO hnN)
            have hk9 : k2 ≤ maxLen := by have := HMW.out; unfold maxLen; omega
            have HF2 := Lib.hid (show fireB t ev old now x = (truthB x.wher (bothV n1 old now) == 1) by unfold fireB; rw [e1, e2, hwl, decide_eq_false hw0, HN1.out]; rfl)
            generalize hbv : bothV n1 old now = bv at HF2 HBL HBO
            clear hwl hwh' HMX
            go_wp2_with fail
            go_region_held3 (fun w' => w'.cell? ⟨gb, go + k * 5, none⟩ = some (.string x.table) ∧ w'.cell? ⟨gb, go + k * 5 + 1, none⟩ = some (.int .i64 x.event) ∧ w'.cell? ⟨gb, go + k * 5 + 2, none⟩ = some (.slice B2 k2 d2) ∧ w'.cell? ⟨g, o + m * 6, none⟩ = some (.string t.name) ∧ w'.cell? ⟨g, o + m * 6 + 1, none⟩ = some (.slice A1 n1 c1) ∧ w'.cell? ⟨g, o + m * 6 + 2, none⟩ = some (.slice A2 n2 c2) ∧ w'.cell? ⟨g, o + m * 6 + 3, none⟩ = some (.slice A3 n3 c3) ∧ w'.cell? ⟨g, o + m * 6 + 4, none⟩ = some (.slice A4 n4 c4) ∧ w'.cell? ⟨g, o + m * 6 + 5, none⟩ = some (.slice A5 n5 c5))
              (first | go_keep | exact keepF9 (by assumption) hq2 | exact keepF9 (by assumption) hq1)
              (first
                | (go_at_call 91; refine (specL8Both t.name A1 A2 A3 A4 A5 n1 c1 n2 c2 n3 c3 n4 c4 n5 c5 AO AN old.length cO now.length cN old now _ hOd hNd h0 (by omega) hnO hnN).mono ?_; rintro r1 w1 ⟨v1, rfl, hk1, hq1⟩; rw [hbv] at hk1; obtain ⟨B9, d9, e9, -, -, hsl9⟩ := OwnG.sl (f := Vl.cells) (sz := 3) (fun _ => rfl) hk1; subst e9)
                | (go_at_call 90; refine (specL2Truth B2 B9 k2 bv.length d2 d9 x.wher bv _ (Sl.cellz (fun _ => rfl) (HWD.out.below TkR.stays hq1)) (Sl.cellz (fun _ => rfl) hsl9) hk9 (by have := HBL.out; unfold maxLen; omega) HBO.out (by rw [HBL.out]; exact HXX.out)).mono ?_; rintro r2 w2 ⟨rfl, hq2⟩))
            have HBW := Lib.hid (show Below w.heap.size w w2 from (hb.drew.trans (hq1.mono hb.size)).trans (hq2.mono (Nat.le_trans hb.size hq1.size)))
            have HOW := Lib.hid (show OwnI w2 w.heap.size _ xs from OwnI.below (OwnI.below (w := wr.drew) hown.out hq1) hq2)
            clear hown hbh hb hq1 hq2 hsl9 hk1 hOd hNd
            cases e3 : (truthB x.wher bv == 1)
            · have HT := Lib.hid (HFN.out (by rw [HF2.out, e3]))
              go_wp2_with fail
              go_roundw
              case rel => exact ⟨k + 1, by omega, by go_num, by rw [HT.out]; exact HOW, HBW⟩
              case measure => simp [intOf]; omega
            · have HT := Lib.hid (HFY.out (by rw [HF2.out, e3]))
              have HLB := Lib.hid (show xs.length ≤ 1048576 by have := HLE.out; omega)
              go_wp2_with (at_builtin; refine wpList_append_own _ rfl _ _ 28 rfl w.heap.size 2 j0 (.int .i64 0) 1 8 Tryz.underlying28 J1.out J2.out J3.out J4.out rfl (by decide) _ _ _ rfl (World.ownsRow.alloc HOW.out _) ⟨_, 0, none⟩ 1 1 [.int .i64 k] rfl rfl ?c1 ?c2 ?c3 ?c4 ?c5 ?_)
              case c1 => exact cells_newAt _ [.int .i64 k] _ (by simp)
              case c2 => intro u hu; simp at hu; subst hu; rfl
              case c3 => have := HLB.out; unfold maxLen; omega
              case c4 => have := HLB.out; omega
              case c5 => have := HBW.out.size; simp; omega
              intro v8 W8 own8 grow8 _
              obtain ⟨hE8, hB8⟩ := OwnI.app HOW.out HBW.out.size own8 grow8
              have HE8 := Lib.hid (show OwnI W8 w.heap.size v8 (firesTo t ev old now l (k + 1)) by rw [HT.out]; exact hE8)
              have HB8 := Lib.hid (HBW.out.trans hB8)
              clear own8 grow8 hE8 hB8
              go_wp2_with fail
              go_roundw
              case rel => exact ⟨k + 1, by omega, by go_num, HE8, HB8⟩
              case measure => simp [intOf]; omega
    · obtain rfl : k = l.length := by omega
      go_wp2_with fail
      go_ret
      exact ⟨_, rfl, hown.out, hb⟩
set_option maxRecDepth 100000 in
set_option maxHeartbeats 4000000 in
theorem specFires (AS AL : Option Addr) (nS cS nL cL : Nat) (s : List Tb) (l : List Tg) (ok okl : Nat → Prop) (tb ev : Int) (AO AN : Option Addr) (nO cO nN cN : Nat) (old now : List Vl) (w : World)
    (hS : Sl TbR 6 ok w AS nS s) (hL : Sl TgR 5 okl w AL nL l) (hcp : nS ≤ cS) (hsz : szL Tb.sz s ≤ 1048576) (hlz : szL Tg.sz l ≤ 1048576) (hO : Vals w AO nO old) (hN : Vals w AN nN now) (hnO : nO ≤ 1048576) (hnN : nN ≤ 1048576) :
    Calls Tryz.prog 9 #[.slice AS nS cS, .slice AL nL cL, .int .i64 tb, .int .i64 ev, .slice AO nO cO, .slice AN nN cN] w fun e w' => ∃ v, e = .returned v ∧ OwnI w' w.heap.size v (firesL s l tb ev old now) ∧ Below w.heap.size w w' := by
  obtain rfl : s.length = nS := hS.1
  obtain rfl : l.length = nL := hL.1
  obtain rfl : old.length = nO := hO.len
  obtain rfl : now.length = nN := hN.len
  have hs9 : s.length ≤ 1048576 := by unfold szL at hsz; omega
  have hl9 : l.length ≤ 1048576 := by unfold szL at hlz; omega
  have HW := Lib.hid (show ∀ x ∈ l, x.wher.length ≤ 1048576 from fun x hx => by
    have h1 := szL_mem Tg.sz l x hx
    have h3 : x.sz = x.table.size + szL (fun t : Tk => t.vs.size) x.wher + x.into.size + szL Te.sz x.terms := rfl
    have h2 : x.wher.length ≤ szL (fun t : Tk => t.vs.size) x.wher := by unfold szL; omega
    omega)
  have HT := Lib.hid (specTriggersOk AS AL s.length cS l.length cL s l ok okl w hS hL hcp hsz hlz)
  go_enter Tryz.func9, Tryz.ntmps9
  go_wp2_with fail
  refine HT.out.mono ?_
  rintro e w1 ⟨rfl, hb1⟩
  cases ht : triggersB s l
  · have HF := Lib.hid (show firesL s l tb ev old now = [] by unfold firesL; rw [ht]; rfl)
    have ho := Lib.hid (OwnI.lit w1 (base := w.heap.size) hb1.size)
    have HB := Lib.hid (hb1.alloc hb1.size (.cells #[] 2))
    go_wp2_with fail
    go_ret
    exact ⟨_, rfl, by rw [HF.out]; exact ho.out, HB.out⟩
  · have HTR := Lib.hid ht
    clear ht
    by_cases hin : 0 ≤ tb ∧ tb < s.length
    · obtain ⟨m, rfl⟩ : ∃ m : Nat, tb = (m : Int) := ⟨tb.toNat, by omega⟩
      have hm : m < s.length := by omega
      have HTB := Lib.hid (tabAt_some hm)
      have HIN := Lib.hid (show (decide ((0 : Int) ≤ (m : Nat)) && decide (((m : Nat) : Int) ≤ (s.length : Int) - 1)) = true by rw [decide_eq_true (by omega : (0 : Int) ≤ (m : Nat)), decide_eq_true (by omega : ((m : Nat) : Int) ≤ (s.length : Int) - 1)]; rfl)
      obtain ⟨g, o, A1, n1, c1, A2, n2, c2, A3, n3, c3, A4, n4, c4, A5, n5, c5, -, rfl, x0', x1', x2', x3', x4', x5', hcols', -⟩ := TbR.at_ hS hm
      have x0 := below_keep hb1 _ _ x0'
      have x1 := below_keep hb1 _ _ x1'
      have x2 := below_keep hb1 _ _ x2'
      have x3 := below_keep hb1 _ _ x3'
      have x4 := below_keep hb1 _ _ x4'
      have x5 := below_keep hb1 _ _ x5'
      have i0 : (0 : Int) ≤ (m : Nat) := by omega
      have i1 : ((m : Nat) : Int) < s.length := by omega
      have HCC := Lib.hid (show n1 = s[m].cols.length ∧ 0 < n1 ∧ n1 ≤ 8 from by
        have h3 := hcols'.1
        have h4 : schemaB s = true := by have h5 := HTR.out; unfold triggersB at h5; simp only [Bool.and_eq_true] at h5; exact h5.1
        have h6 := schema_tab h4 hm
        omega)
      have HEX := Lib.hid (trig_expr HTR.out hm)
      go_wp2_with fail
      refine (specInV (b := true) (by rw [Bool.and_eq_true, decide_eq_true_eq, decide_eq_true_eq]; omega) _).mono ?_
      rintro e w2 ⟨rfl, rfl⟩
      go_wp2_with fail
      refine (specL8Row s[m].name A1 A2 A3 A4 A5 AO n1 c1 n2 c2 n3 c3 n4 c4 n5 c5 old.length cO s[m].cols old ok _ (hcols'.below ClR.stays hb1) (hO.below hb1) (by have := HCC.out; omega) hnO).mono ?_
      rintro e w3 ⟨rfl, hq3⟩
      have hb3 := hb1.trans (hq3.mono hb1.size)
      cases ho1 : rowIfB s[m].cols old
      · have HF := Lib.hid (show firesL s l (m : Int) ev old now = [] by unfold firesL; rw [if_pos HTR.out, HTB.out]; simp [ho1])
        have ho := Lib.hid (OwnI.lit w3 (base := w.heap.size) hb3.size)
        have HB := Lib.hid (hb3.alloc hb3.size (.cells #[] 2))
        go_wp2_with fail
        go_ret
        exact ⟨_, rfl, by rw [HF.out]; exact ho.out, HB.out⟩
      · clear x0 x1 x2 x3 x4 x5
        have x0 := below_keep hb3 _ _ x0'
        have x1 := below_keep hb3 _ _ x1'
        have x2 := below_keep hb3 _ _ x2'
        have x3 := below_keep hb3 _ _ x3'
        have x4 := below_keep hb3 _ _ x4'
        have x5 := below_keep hb3 _ _ x5'
        have HO1 := Lib.hid ho1
        go_wp2_with fail
        refine (specL8Row s[m].name A1 A2 A3 A4 A5 AN n1 c1 n2 c2 n3 c3 n4 c4 n5 c5 now.length cN s[m].cols now ok _ (hcols'.below ClR.stays hb3) (hN.below hb3) (by have := HCC.out; omega) hnN).mono ?_
        rintro e w4 ⟨rfl, hq4⟩
        have hb4 := hb3.trans (hq4.mono hb3.size)
        cases ho2 : rowIfB s[m].cols now
        · have HF := Lib.hid (show firesL s l (m : Int) ev old now = [] by unfold firesL; rw [if_pos HTR.out, HTB.out]; simp [ho2])
          have ho := Lib.hid (OwnI.lit w4 (base := w.heap.size) hb4.size)
          have HB := Lib.hid (hb4.alloc hb4.size (.cells #[] 2))
          go_wp2_with fail
          go_ret
          exact ⟨_, rfl, by rw [HF.out]; exact ho.out, HB.out⟩
        · have HF := Lib.hid (show firesL s l (m : Int) ev old now = firesTo s[m] ev old now l l.length by unfold firesL; rw [if_pos HTR.out, HTB.out]; simp only [HO1.out, ho2]; rfl)
          have HLF := Lib.hid (specL8Fires (some ⟨g, o, none⟩) AL s.length cS l.length cL s l ok okl m ev AO AN old.length cO now.length cN old now w4 (hS.below TbR.stays hb4) (hL.below TgR.stays hb4) hm (hO.below hb4) (hN.below hb4) (by have := HCC.out; omega) (by have := HCC.out; omega) (rowIf_len HO1.out) (rowIf_len ho2) hs9 hl9 (both_row (by have := HCC.out; omega) HO1.out ho2) HEX.out HW.out)
          go_wp2_with fail
          refine HLF.out.mono ?_
          rintro e w5 ⟨v5, rfl, ho5, hq5⟩
          have HO5 := Lib.hid (ho5.mono hb4.size)
          have HB5 := Lib.hid (hb4.trans (hq5.mono hb4.size))
          clear ho5 hq5
          go_wp2_with fail
          go_ret
          exact ⟨_, rfl, by rw [HF.out]; exact HO5.out, HB5.out⟩
    · have HF := Lib.hid (show firesL s l tb ev old now = [] by unfold firesL; rw [if_pos HTR.out, tabAt_none hin])
      have ho := Lib.hid (OwnI.lit w1 (base := w.heap.size) hb1.size)
      have HB := Lib.hid (hb1.alloc hb1.size (.cells #[] 2))
      go_wp2_with fail
      refine (specInV (b := false) (by rw [Bool.and_eq_false_iff, decide_eq_false_iff_not, decide_eq_false_iff_not]; omega) _).mono ?_
      rintro e w2 ⟨rfl, rfl⟩
      go_wp2_with fail
      go_ret
      exact ⟨_, rfl, by rw [HF.out]; exact ho.out, HB.out⟩
end Go.Proofs.YtemimhghhihllaaGreat
