/-
  Several texts in one: what the proof leans on, part 3.
-/
import Derived.Test.YthjbhapmgkhckaaGreatNa
import Derived.Test.YthjbhapmgkhckaaGreatNb
set_option linter.unusedVariables false
set_option linter.unusedSimpArgs false
namespace Go.Proofs.YthjbhapmgkhckaaGreat
open Go.RowKit Go.Maps
theorem act_in (a : Int) : actB a = (decide (0 ≤ a) && decide (a ≤ 2)) := by
  unfold actB; rw [Bool.eq_iff_iff]; simp; omega
theorem exprB_l2n {ts : List Tk} {n : Nat} (hn : n ≤ 16) : exprB ts n = l2B ts n := by
  have h0 : (0 : Int) ≤ n := by omega
  have h1 : (n : Int) ≤ 16 := by omega
  simp only [exprB, l2B, h0, h1, decide_true, Bool.true_and]
  exact Bool.and_comm _ _
theorem kind_in (k : Int) : (k == 1 || k == 2) = (decide (1 ≤ k) && decide (k ≤ 2)) := by
  rw [Bool.eq_iff_iff]; simp; omega
theorem uniqGo_at (l : List ByteArray) (k : Nat) (h : k < l.length) : uniqGo (l.take k) (l.drop k) = (decide (atN (l.take k) l[k] = -1) && uniqGo (l.take (k + 1)) (l.drop (k + 1))) := by
  rw [List.drop_eq_getElem_cons h, List.take_succ_eq_append_getElem h]; rfl
set_option maxRecDepth 100000 in
set_option maxHeartbeats 4000000 in
theorem specTableOk (x : Tb) (A1 : Option Addr) (n1 c1 : Nat) (A2 : Option Addr) (n2 c2 : Nat) (A3 : Option Addr) (n3 c3 : Nat) (A4 : Option Addr) (n4 c4 : Nat) (A5 : Option Addr) (n5 c5 : Nat) (ok : Nat → Prop) (w : World)
    (h1 : Sl ClR 6 ok w A1 n1 x.cols) (h2 : Sl IntR 1 ok w A2 n2 x.key) (h3 : Sl UqR 1 ok w A3 n3 x.uniqs) (h4 : Sl CkR 1 ok w A4 n4 x.checks) (h5 : Sl FkR 5 ok w A5 n5 x.fks) (hcp : n1 ≤ c1 ∧ n2 ≤ c2 ∧ n3 ≤ c3 ∧ n4 ≤ c4 ∧ n5 ≤ c5) (hs : x.sz ≤ 1048576) :
    Calls Tryz.prog 50 #[.agg #[.string x.name, .slice A1 n1 c1, .slice A2 n2 c2, .slice A3 n3 c3, .slice A4 n4 c4, .slice A5 n5 c5]] w fun e w' => e = .returned (.bool (tableB x)) ∧ Below w.heap.size w w' := by
  obtain rfl : x.cols.length = n1 := h1.1
  obtain rfl : x.key.length = n2 := h2.1
  have HNM := Lib.hid (show x.name.size ≤ maxLen by unfold Tb.sz at hs; unfold maxLen; omega)
  have HS1 := Lib.hid (show szL Cl.sz x.cols ≤ 1048576 by unfold Tb.sz at hs; omega)
  have HS3 := Lib.hid (show szL Uq.sz x.uniqs ≤ 1048576 by unfold Tb.sz at hs; omega)
  have HS4 := Lib.hid (show szL Ck.sz x.checks ≤ 1048576 by unfold Tb.sz at hs; omega)
  have HS5 := Lib.hid (show szL Fk.sz x.fks ≤ 1048576 by unfold Tb.sz at hs; omega)
  have hl1 : x.cols.length ≤ 1048576 := by unfold Tb.sz szL at hs; omega
  have hl2 : x.key.length ≤ 1048576 := by unfold Tb.sz at hs; omega
  obtain rfl : x.uniqs.length = n3 := h3.1
  obtain rfl : x.checks.length = n4 := h4.1
  obtain rfl : x.fks.length = n5 := h5.1
  have hl3 : x.uniqs.length ≤ 1048576 := by unfold Tb.sz szL at hs; omega
  have hl4 : x.checks.length ≤ 1048576 := by unfold Tb.sz szL at hs; omega
  have hl5 : x.fks.length ≤ 1048576 := by unfold Tb.sz szL at hs; omega
  have hcp2 := hcp.2.1
  have hcp1 := hcp.1
  clear hs hcp
  have hb0 := (Below.refl w.heap.size w).alloc (Nat.le_refl _) (.cells #[.string x.name, .slice A1 x.cols.length c1, .slice A2 x.key.length c2, .slice A3 x.uniqs.length c3, .slice A4 x.checks.length c4, .slice A5 x.fks.length c5] 61)
  have r0 := Row.new w 61 #[.string x.name, .slice A1 x.cols.length c1, .slice A2 x.key.length c2, .slice A3 x.uniqs.length c3, .slice A4 x.checks.length c4, .slice A5 x.fks.length c5]
  cases hN : nameB x.name
  · skip
    have HN0 := Lib.hid hN
    have HF := Lib.hid (show tableB x = false by unfold tableB; rw [hN]; rfl)
    clear hN
    go_enter Tryz.func50, Tryz.ntmps50
    go_wp2_with fail
    refine (specName _ _ HNM.out).mono ?_
    rintro e w1 ⟨rfl, rfl⟩
    rw [HN0.out]
    go_wp2_with fail
    go_ret
    exact ⟨retB HF.out.symm, hb0⟩
  have HN0 := Lib.hid hN
  clear hN
  cases h8 : (decide (1 ≤ (x.cols.length : Int)) && decide ((x.cols.length : Int) ≤ 8))
  · skip
    have H8 := Lib.hid h8
    have HF := Lib.hid (show tableB x = false by
      have : colsB x.cols = false := by
        unfold colsB
        by_cases e : 1 ≤ x.cols.length
        · have e2 : ¬ x.cols.length ≤ 8 := by intro e3; simp [e3] at h8; omega
          rw [decide_eq_false e2]; simp
        · rw [decide_eq_false e]; rfl
      unfold tableB; rw [this]; simp)
    clear h8
    go_enter Tryz.func50, Tryz.ntmps50
    go_wp2_with fail
    refine (specName _ _ HNM.out).mono ?_
    rintro e w1 ⟨rfl, rfl⟩
    rw [HN0.out]
    go_wp2_with fail
    refine (specIn _ _ _ _).mono ?_
    rintro e w1 ⟨rfl, rfl⟩
    rw [H8.out]
    go_wp2_with fail
    go_ret
    exact ⟨retB HF.out.symm, hb0⟩
  have H8 := Lib.hid h8
  have hlen8 : x.cols.length ≤ 8 := by simp at h8; omega
  clear h8
  cases hK : colsInB x.key x.cols.length
  · skip
    have HK := Lib.hid hK
    have HF := Lib.hid (show tableB x = false by unfold tableB keyB; rw [hK]; simp)
    clear hK
    go_enter Tryz.func50, Tryz.ntmps50
    go_wp2_with fail
    refine (specName _ _ HNM.out).mono ?_
    rintro e w1 ⟨rfl, rfl⟩
    rw [HN0.out]
    go_wp2_with fail
    refine (specIn _ _ _ _).mono ?_
    rintro e w1 ⟨rfl, rfl⟩
    rw [H8.out]
    go_wp2_with fail
    refine (specCols A2 x.key.length c2 x.key x.cols.length ok _ (h2.below IntR.stays hb0) hcp2 hl2 (by omega) (by omega)).mono ?_
    rintro e w2 ⟨rfl, hq1⟩
    rw [HK.out]
    go_wp2_with fail
    go_ret
    exact ⟨retB HF.out.symm, hb0.trans (hq1.mono hb0.size)⟩
  have HK := Lib.hid hK
  have HIN := Lib.hid (colsInB_len hK).2
  clear hK
  by_cases hu : 3 < (x.uniqs.length : Int)
  · skip
    have HF := Lib.hid (show tableB x = false by unfold tableB uqsB; rw [decide_eq_false (p := x.uniqs.length ≤ 3) (by have := h3.1; omega)]; simp)
    go_enter Tryz.func50, Tryz.ntmps50
    go_wp2_with fail
    refine (specName _ _ HNM.out).mono ?_
    rintro e w1 ⟨rfl, rfl⟩
    rw [HN0.out]
    go_wp2_with fail
    refine (specIn _ _ _ _).mono ?_
    rintro e w1 ⟨rfl, rfl⟩
    rw [H8.out]
    go_wp2_with fail
    refine (specCols A2 x.key.length c2 x.key x.cols.length ok _ (h2.below IntR.stays hb0) hcp2 hl2 (by omega) (by omega)).mono ?_
    rintro e w2 ⟨rfl, hq1⟩
    rw [HK.out]
    obtain ⟨⟨a0, a1, a2, a3, a4, a5⟩, -⟩ := (r0.below hq1).all6
    go_wp2_with fail
    go_ret
    exact ⟨retB HF.out.symm, hb0.trans (hq1.mono hb0.size)⟩
  have hu' : decide (3 < (x.uniqs.length : Int)) = false := by simpa using hu
  by_cases hc : 3 < (x.checks.length : Int)
  · skip
    have HF := Lib.hid (show tableB x = false by unfold tableB cksB; rw [decide_eq_false (p := x.checks.length ≤ 3) (by have := h4.1; omega)]; simp)
    go_enter Tryz.func50, Tryz.ntmps50
    go_wp2_with fail
    refine (specName _ _ HNM.out).mono ?_
    rintro e w1 ⟨rfl, rfl⟩
    rw [HN0.out]
    go_wp2_with fail
    refine (specIn _ _ _ _).mono ?_
    rintro e w1 ⟨rfl, rfl⟩
    rw [H8.out]
    go_wp2_with fail
    refine (specCols A2 x.key.length c2 x.key x.cols.length ok _ (h2.below IntR.stays hb0) hcp2 hl2 (by omega) (by omega)).mono ?_
    rintro e w2 ⟨rfl, hq1⟩
    rw [HK.out]
    obtain ⟨⟨a0, a1, a2, a3, a4, a5⟩, -⟩ := (r0.below hq1).all6
    go_wp2_with fail
    go_ret
    exact ⟨retB HF.out.symm, hb0.trans (hq1.mono hb0.size)⟩
  have hc' : decide (3 < (x.checks.length : Int)) = false := by simpa using hc
  by_cases hf : 3 < (x.fks.length : Int)
  · skip
    have HF := Lib.hid (show tableB x = false by unfold tableB fksB; rw [decide_eq_false (p := x.fks.length ≤ 3) (by have := h5.1; omega)]; simp)
    go_enter Tryz.func50, Tryz.ntmps50
    go_wp2_with fail
    refine (specName _ _ HNM.out).mono ?_
    rintro e w1 ⟨rfl, rfl⟩
    rw [HN0.out]
    go_wp2_with fail
    refine (specIn _ _ _ _).mono ?_
    rintro e w1 ⟨rfl, rfl⟩
    rw [H8.out]
    go_wp2_with fail
    refine (specCols A2 x.key.length c2 x.key x.cols.length ok _ (h2.below IntR.stays hb0) hcp2 hl2 (by omega) (by omega)).mono ?_
    rintro e w2 ⟨rfl, hq1⟩
    rw [HK.out]
    obtain ⟨⟨a0, a1, a2, a3, a4, a5⟩, -⟩ := (r0.below hq1).all6
    go_wp2_with fail
    go_ret
    exact ⟨retB HF.out.symm, hb0.trans (hq1.mono hb0.size)⟩
  have hf' : decide (3 < (x.fks.length : Int)) = false := by simpa using hf
  go_enter Tryz.func50, Tryz.ntmps50
  go_wp2_with fail
  refine (specName _ _ HNM.out).mono ?_
  rintro e w1 ⟨rfl, rfl⟩
  rw [HN0.out]
  go_wp2_with fail
  refine (specIn _ _ _ _).mono ?_
  rintro e w1 ⟨rfl, rfl⟩
  rw [H8.out]
  go_wp2_with fail
  refine (specCols A2 x.key.length c2 x.key x.cols.length ok _ (h2.below IntR.stays hb0) hcp2 hl2 (by omega) (by omega)).mono ?_
  rintro e w2 ⟨rfl, hq1⟩
  rw [HK.out]
  have hb1 := hb0.trans (hq1.mono hb0.size)
  have r1 := r0.below hq1
  obtain ⟨⟨a0, a1, a2, a3, a4, a5⟩, -⟩ := r1.all6
  go_wp2_with fail
  clear a0 a1 a2 a3 a4 a5 r0
  go_loopw [4] (fun i wr => ∃ k : Nat, k ≤ x.cols.length ∧ i = .int .i64 k ∧ Hid ((x.cols.take k).all colB = true) ∧ Hid (uniqGo [] (x.cols.map Cl.name) = uniqGo ((x.cols.map Cl.name).take k) ((x.cols.map Cl.name).drop k)) ∧ Row wr w.heap.size 61 #[.string x.name, .slice A1 x.cols.length c1, .slice A2 x.key.length c2, .slice A3 x.uniqs.length c3, .slice A4 x.checks.length c4, .slice A5 x.fks.length c5] ∧ Below w.heap.size w wr) (fun i _ => x.cols.length - (intOf i).toNat)
  case atStart => exact ⟨0, by omega, rfl, Lib.hid (by simp), Lib.hid (by simp), r1, hb1⟩
  case round =>
    obtain ⟨k, hk, rfl, hall, huq, hr, hb⟩ := hrel
    obtain ⟨⟨a0, a1, a2, a3, a4, a5⟩, -⟩ := hr.all6
    by_cases hlt : k < x.cols.length
    · obtain ⟨b, off, -, rfl, q0, q1, q2, q3, q4, q5⟩ := ClR.at_ (h1.below ClR.stays hb) hlt
      have HZ := Lib.hid (cl_name_le HS1.out k hlt)
      have i0 : (0 : Int) ≤ k := by omega
      have i1 : (k : Int) < x.cols.length := by omega
      have i3 : (k : Int) ≤ c1 := by omega
      have hsl := (h1.below ClR.stays hb)
      have hsl := hsl.below ClR.stays ((Below.refl wr.heap.size wr).alloc (Nat.le_refl _) (.cells #[.string x.cols[k].name, .int .i64 x.cols[k].kind, .bool x.cols[k].nn, .int .i64 x.cols[k].d.k, .int .i64 x.cols[k].d.n, .string x.cols[k].d.s] 74))
      have hug := uniqGo_at (x.cols.map Cl.name) k (by simpa using hlt)
      rw [← huq.out, List.getElem_map, ← List.map_take] at hug
      have HNO := Lib.hid (fun hf : colB x.cols[k] = false => show tableB x = false by unfold tableB colsB; rw [all_no colB x.cols k hlt hf]; simp)
      have HDU := Lib.hid (fun hf : ¬ atN ((x.cols.take k).map Cl.name) x.cols[k].name = -1 => show tableB x = false by
        unfold tableB colsB; rw [hug, decide_eq_false hf]; simp)
      have HUN := Lib.hid (fun hf : atN ((x.cols.take k).map Cl.name) x.cols[k].name = -1 => show uniqGo [] (x.cols.map Cl.name) = uniqGo ((x.cols.map Cl.name).take (k + 1)) ((x.cols.map Cl.name).drop (k + 1)) by
        rw [hug, decide_eq_true hf, Bool.true_and])
      have HCN := Lib.hid (fun hf : colB x.cols[k] = true => show (x.cols.take (k + 1)).all colB = true by rw [all_take colB x.cols k hlt, hall.out, hf]; rfl)
      clear hug hall huq
      generalize x.cols[k] = cl at *
      have hbx := (Below.refl wr.heap.size wr).alloc (Nat.le_refl _) (.cells #[.string cl.name, .int .i64 cl.kind, .bool cl.nn, .int .i64 cl.d.k, .int .i64 cl.d.n, .string cl.d.s] 74)
      have hba := hb.trans (hbx.mono hb.size)
      have rk := Row.new wr 74 #[.string cl.name, .int .i64 cl.kind, .bool cl.nn, .int .i64 cl.d.k, .int .i64 cl.d.n, .string cl.d.s]
      have hr1 := hr.below hbx
      clear hr
      cases hn : nameB cl.name
      · skip
        have HN := Lib.hid hn
        have HF := Lib.hid (HNO.out (by unfold colB; rw [hn]; rfl))
        clear hn
        go_wp2_with fail
        generalize wr.alloc (.cells #[.string cl.name, .int .i64 cl.kind, .bool cl.nn, .int .i64 cl.d.k, .int .i64 cl.d.n, .string cl.d.s] 74) = x1 at *
        obtain ⟨⟨k0, k1, k2, k3, k4, k5⟩, -⟩ := rk.all6
        obtain ⟨⟨t0, t1, t2, t3, t4, t5⟩, -⟩ := hr1.all6
        refine wp_region_noPanic ?_
        refine wp_region_held_drew (S := fun w' => w'.cell? ⟨wr.heap.size, 0, none⟩ = some (.string cl.name) ∧ w'.cell? ⟨wr.heap.size, 1, none⟩ = some (.int .i64 cl.kind) ∧ w'.cell? ⟨wr.heap.size, 2, none⟩ = some (.bool cl.nn) ∧ w'.cell? ⟨wr.heap.size, 3, none⟩ = some (.int .i64 cl.d.k) ∧ w'.cell? ⟨wr.heap.size, 4, none⟩ = some (.int .i64 cl.d.n) ∧ w'.cell? ⟨wr.heap.size, 5, none⟩ = some (.string cl.d.s) ∧ w'.cell? ⟨w.heap.size, 1, none⟩ = some (.slice (some ⟨b, off, none⟩) x.cols.length c1)) (by kernel_rfl) ⟨k0, k1, k2, k3, k4, k5, t1⟩ (fun hHeld => ?_)
        refine wpAnyH_take (i := 0) (v := ?v1) rfl (by kernel_rfl) (by kernel_rfl) (by kernel_rfl) (fun _ _ _ h => h) (Or.inl ⟨by rfl, ?hy1⟩) hHeld ?rest1
        case hy1 => (intro w' hSw; (try dsimp only at hSw); first | (go_simp; done) | (go_simp; with_reducible rfl))
        simp only [Act.put, pz0, pz1, pz2, pz3, pz4, pz5]
        refine wpAnyH_take (i := 1) (v := ?v2) rfl (by kernel_rfl) (by kernel_rfl) (by kernel_rfl) (fun _ _ _ h => h) (Or.inl ⟨by rfl, ?hy2⟩) hHeld ?rest2
        case hy2 => (intro w' hSw; (try dsimp only at hSw); first | (go_simp; done) | (go_simp; with_reducible rfl))
        simp only [Act.put, pz0, pz1, pz2, pz3, pz4, pz5]
        refine wpAnyH_ready (rs := [2]) (by kernel_rfl) (by simp) ?_
        refine AllReadyH.cons rfl (fun K hK => ?_) AllReadyH.nil
        go_simp
        refine (specName _ _ HZ.out).mono ?_
        rintro e wa ⟨rfl, rfl⟩
        rw [HN.out]
        go_wp2_with fail
        refine hK.out _ _ hHeld (fun hHeld => ?_)
        clear hK K
        (try simp only [Act.put, pz0, pz1, pz2, pz3, pz4, pz5])
        refine wpAnyH_take (i := 3) (v := ?v3) rfl (by kernel_rfl) (by kernel_rfl) (by kernel_rfl) (fun _ _ _ h => h) (Or.inl ⟨by rfl, ?hy3⟩) hHeld ?rest3
        case hy3 => (intro w' hSw; (try dsimp only at hSw); first | (go_simp; done) | (go_simp; with_reducible rfl))
        simp only [Act.put, pz0, pz1, pz2, pz3, pz4, pz5]
        refine wpAnyH_take (i := 4) (v := ?v4) rfl (by kernel_rfl) (by kernel_rfl) (by kernel_rfl) (fun _ _ _ h => h) (Or.inl ⟨by rfl, ?hy4⟩) hHeld ?rest4
        case hy4 => (intro w' hSw; (try dsimp only at hSw); first | (go_simp; done) | (go_simp; with_reducible rfl))
        simp only [Act.put, pz0, pz1, pz2, pz3, pz4, pz5]
        refine wpAnyH_take (i := 5) (v := undef) rfl (by kernel_rfl) (by kernel_rfl) (by kernel_rfl) (fun _ _ _ h => h) (Or.inr ⟨by rfl, rfl⟩) hHeld ?_
        simp only [Act.put, pz0, pz1, pz2, pz3, pz4, pz5]
        refine wpAnyH_take (i := 6) (v := undef) rfl (by kernel_rfl) (by kernel_rfl) (by kernel_rfl) (fun _ _ _ h => h) (Or.inr ⟨by rfl, rfl⟩) hHeld ?_
        simp only [Act.put, pz0, pz1, pz2, pz3, pz4, pz5]
        refine wpAnyH_take (i := 7) (v := undef) rfl (by kernel_rfl) (by kernel_rfl) (by kernel_rfl) (fun _ _ _ h => h) (Or.inr ⟨by rfl, rfl⟩) hHeld ?_
        simp only [Act.put, pz0, pz1, pz2, pz3, pz4, pz5]
        refine wpAnyH_take (i := 8) (v := undef) rfl (by kernel_rfl) (by kernel_rfl) (by kernel_rfl) (fun _ _ _ h => h) (Or.inr ⟨by rfl, rfl⟩) hHeld ?_
        simp only [Act.put, pz0, pz1, pz2, pz3, pz4, pz5]
        refine wpAnyH_take (i := 9) (v := undef) rfl (by kernel_rfl) (by kernel_rfl) (by kernel_rfl) (fun _ _ _ h => h) (Or.inr ⟨by rfl, rfl⟩) hHeld ?_
        simp only [Act.put, pz0, pz1, pz2, pz3, pz4, pz5]
        refine wpAnyH_take (i := 10) (v := undef) rfl (by kernel_rfl) (by kernel_rfl) (by kernel_rfl) (fun _ _ _ h => h) (Or.inr ⟨by rfl, rfl⟩) hHeld ?_
        simp only [Act.put, pz0, pz1, pz2, pz3, pz4, pz5]
        refine wpAnyH_take (i := 11) (v := undef) rfl (by kernel_rfl) (by kernel_rfl) (by kernel_rfl) (fun _ _ _ h => h) (Or.inr ⟨by rfl, rfl⟩) hHeld ?_
        simp only [Act.put, pz0, pz1, pz2, pz3, pz4, pz5]
        refine wpAnyH_take (i := 12) (v := undef) rfl (by kernel_rfl) (by kernel_rfl) (by kernel_rfl) (fun _ _ _ h => h) (Or.inr ⟨by rfl, rfl⟩) hHeld ?_
        simp only [Act.put, pz0, pz1, pz2, pz3, pz4, pz5]
        refine wpAnyH_take (i := 13) (v := undef) rfl (by kernel_rfl) (by kernel_rfl) (by kernel_rfl) (fun _ _ _ h => h) (Or.inr ⟨by rfl, rfl⟩) hHeld ?_
        simp only [Act.put, pz0, pz1, pz2, pz3, pz4, pz5]
        refine wpAnyH_take (i := 14) (v := ?v5) rfl (by kernel_rfl) (by kernel_rfl) (by kernel_rfl) (fun _ _ _ h => h) (Or.inl ⟨by rfl, ?hy5⟩) hHeld ?rest5
        case hy5 => (intro w' hSw; (try dsimp only at hSw); first | (go_simp; done) | (go_simp; with_reducible rfl))
        simp only [Act.put, pz0, pz1, pz2, pz3, pz4, pz5]
        refine wpAnyH_take (i := 15) (v := ?v6) rfl (by kernel_rfl) (by kernel_rfl) (by kernel_rfl) (fun _ _ _ h => h) (Or.inl ⟨by rfl, ?hy6⟩) hHeld ?rest6
        case hy6 => (intro w' hSw; (try dsimp only at hSw); first | (go_simp; done) | (go_simp; with_reducible rfl))
        simp only [Act.put, pz0, pz1, pz2, pz3, pz4, pz5]
        refine wpAnyH_take (i := 16) (v := undef) rfl (by kernel_rfl) (by kernel_rfl) (by kernel_rfl) (fun _ _ _ h => h) (Or.inr ⟨by rfl, rfl⟩) hHeld ?_
        simp only [Act.put, pz0, pz1, pz2, pz3, pz4, pz5]
        refine wpAnyH_take (i := 17) (v := undef) rfl (by kernel_rfl) (by kernel_rfl) (by kernel_rfl) (fun _ _ _ h => h) (Or.inr ⟨by rfl, rfl⟩) hHeld ?_
        simp only [Act.put, pz0, pz1, pz2, pz3, pz4, pz5]
        refine wpAnyH_take (i := 18) (v := undef) rfl (by kernel_rfl) (by kernel_rfl) (by kernel_rfl) (fun _ _ _ h => h) (Or.inr ⟨by rfl, rfl⟩) hHeld ?_
        simp only [Act.put, pz0, pz1, pz2, pz3, pz4, pz5]
        refine wpAnyH_take (i := 19) (v := undef) rfl (by kernel_rfl) (by kernel_rfl) (by kernel_rfl) (fun _ _ _ h => h) (Or.inr ⟨by rfl, rfl⟩) hHeld ?_
        simp only [Act.put, pz0, pz1, pz2, pz3, pz4, pz5]
        refine wpAnyH_take (i := 20) (v := ?v7) rfl (by kernel_rfl) (by kernel_rfl) (by kernel_rfl) (fun _ _ _ h => h) (Or.inl ⟨by rfl, ?hy7⟩) hHeld ?rest7
        case hy7 => (intro w' hSw; (try dsimp only at hSw); first | (go_simp; done) | (go_simp; with_reducible rfl))
        simp only [Act.put, pz0, pz1, pz2, pz3, pz4, pz5]
        refine wpAnyH_take (i := 21) (v := ?v8) rfl (by kernel_rfl) (by kernel_rfl) (by kernel_rfl) (fun _ _ _ h => h) (Or.inl ⟨by rfl, ?hy8⟩) hHeld ?rest8
        case hy8 => (intro w' hSw; (try dsimp only at hSw); first | (go_simp; done) | (go_simp; with_reducible rfl))
        simp only [Act.put, pz0, pz1, pz2, pz3, pz4, pz5]
        refine wpAnyH_take (i := 22) (v := undef) rfl (by kernel_rfl) (by kernel_rfl) (by kernel_rfl) (fun _ _ _ h => h) (Or.inr ⟨by rfl, rfl⟩) hHeld ?_
        simp only [Act.put, pz0, pz1, pz2, pz3, pz4, pz5]
        refine wpAnyH_take (i := 23) (v := undef) rfl (by kernel_rfl) (by kernel_rfl) (by kernel_rfl) (fun _ _ _ h => h) (Or.inr ⟨by rfl, rfl⟩) hHeld ?_
        simp only [Act.put, pz0, pz1, pz2, pz3, pz4, pz5]
        refine wpAnyH_take (i := 24) (v := undef) rfl (by kernel_rfl) (by kernel_rfl) (by kernel_rfl) (fun _ _ _ h => h) (Or.inr ⟨by rfl, rfl⟩) hHeld ?_
        simp only [Act.put, pz0, pz1, pz2, pz3, pz4, pz5]
        refine wpAnyH_take (i := 25) (v := undef) rfl (by kernel_rfl) (by kernel_rfl) (by kernel_rfl) (fun _ _ _ h => h) (Or.inr ⟨by rfl, rfl⟩) hHeld ?_
        simp only [Act.put, pz0, pz1, pz2, pz3, pz4, pz5]
        refine wpAnyH_take (i := 26) (v := ?v9) rfl (by kernel_rfl) (by kernel_rfl) (by kernel_rfl) (fun _ _ _ h => h) (Or.inl ⟨by rfl, ?hy9⟩) hHeld ?rest9
        case hy9 => (intro w' hSw; (try dsimp only at hSw); first | (go_simp; done) | (go_simp; with_reducible rfl))
        simp only [Act.put, pz0, pz1, pz2, pz3, pz4, pz5]
        refine wpAnyH_take (i := 27) (v := ?v10) rfl (by kernel_rfl) (by kernel_rfl) (by kernel_rfl) (fun _ _ _ h => h) (Or.inl ⟨by rfl, ?hy10⟩) hHeld ?rest10
        case hy10 => (intro w' hSw; (try dsimp only at hSw); first | (go_simp; done) | (go_simp; with_reducible rfl))
        simp only [Act.put, pz0, pz1, pz2, pz3, pz4, pz5]
        refine wpAnyH_take (i := 28) (v := undef) rfl (by kernel_rfl) (by kernel_rfl) (by kernel_rfl) (fun _ _ _ h => h) (Or.inr ⟨by rfl, rfl⟩) hHeld ?_
        simp only [Act.put, pz0, pz1, pz2, pz3, pz4, pz5]
        refine wpAnyH_take (i := 29) (v := undef) rfl (by kernel_rfl) (by kernel_rfl) (by kernel_rfl) (fun _ _ _ h => h) (Or.inr ⟨by rfl, rfl⟩) hHeld ?_
        simp only [Act.put, pz0, pz1, pz2, pz3, pz4, pz5]
        refine wpAnyH_take (i := 30) (v := undef) rfl (by kernel_rfl) (by kernel_rfl) (by kernel_rfl) (fun _ _ _ h => h) (Or.inr ⟨by rfl, rfl⟩) hHeld ?_
        simp only [Act.put, pz0, pz1, pz2, pz3, pz4, pz5]
        refine wpAnyH_take (i := 31) (v := undef) rfl (by kernel_rfl) (by kernel_rfl) (by kernel_rfl) (fun _ _ _ h => h) (Or.inr ⟨by rfl, rfl⟩) hHeld ?_
        simp only [Act.put, pz0, pz1, pz2, pz3, pz4, pz5]
        refine wpAnyH_take (i := 32) (v := undef) rfl (by kernel_rfl) (by kernel_rfl) (by kernel_rfl) (fun _ _ _ h => h) (Or.inr ⟨by rfl, rfl⟩) hHeld ?_
        simp only [Act.put, pz0, pz1, pz2, pz3, pz4, pz5]
        refine wpAnyH_take (i := 33) (v := undef) rfl (by kernel_rfl) (by kernel_rfl) (by kernel_rfl) (fun _ _ _ h => h) (Or.inr ⟨by rfl, rfl⟩) hHeld ?_
        simp only [Act.put, pz0, pz1, pz2, pz3, pz4, pz5]
        refine wpAnyH_take (i := 34) (v := undef) rfl (by kernel_rfl) (by kernel_rfl) (by kernel_rfl) (fun _ _ _ h => h) (Or.inr ⟨by rfl, rfl⟩) hHeld ?_
        simp only [Act.put, pz0, pz1, pz2, pz3, pz4, pz5]
        refine wpAnyH_take (i := 35) (v := undef) rfl (by kernel_rfl) (by kernel_rfl) (by kernel_rfl) (fun _ _ _ h => h) (Or.inr ⟨by rfl, rfl⟩) hHeld ?_
        simp only [Act.put, pz0, pz1, pz2, pz3, pz4, pz5]
        refine wpAnyH_take (i := 36) (v := undef) rfl (by kernel_rfl) (by kernel_rfl) (by kernel_rfl) (fun _ _ _ h => h) (Or.inr ⟨by rfl, rfl⟩) hHeld ?_
        simp only [Act.put, pz0, pz1, pz2, pz3, pz4, pz5]
        refine wpAnyH_take (i := 37) (v := undef) rfl (by kernel_rfl) (by kernel_rfl) (by kernel_rfl) (fun _ _ _ h => h) (Or.inr ⟨by rfl, rfl⟩) hHeld ?_
        simp only [Act.put, pz0, pz1, pz2, pz3, pz4, pz5]
        refine wpAnyH_take (i := 38) (v := undef) rfl (by kernel_rfl) (by kernel_rfl) (by kernel_rfl) (fun _ _ _ h => h) (Or.inr ⟨by rfl, rfl⟩) hHeld ?_
        simp only [Act.put, pz0, pz1, pz2, pz3, pz4, pz5]
        refine wpAnyH_take (i := 39) (v := undef) rfl (by kernel_rfl) (by kernel_rfl) (by kernel_rfl) (fun _ _ _ h => h) (Or.inr ⟨by rfl, rfl⟩) hHeld ?_
        simp only [Act.put, pz0, pz1, pz2, pz3, pz4, pz5]
        refine wpAnyH_take (i := 40) (v := ?v11) rfl (by kernel_rfl) (by kernel_rfl) (by kernel_rfl) (fun _ _ _ h => h) (Or.inl ⟨by rfl, ?hy11⟩) hHeld ?rest11
        case hy11 => (intro w' hSw; (try dsimp only at hSw); first | (go_simp; done) | (go_simp; with_reducible rfl))
        simp only [Act.put, pz0, pz1, pz2, pz3, pz4, pz5]
        refine wpAnyH_done (by kernel_rfl) ?_ _
        refine NoPanic.normal ?_
        have hz0 := hba.drew
        have rz0 := hr1.drew
        clear hHeld k0 k1 k2 k3 k4 k5 t0 t1 t2 t3 t4 t5
        go_wp2_with fail
        go_ret
        exact ⟨retB HF.out.symm, hz0⟩
      have HN := Lib.hid hn
      by_cases hat : atN ((x.cols.take k).map Cl.name) cl.name = -1
      case neg =>
        have HF := Lib.hid (HDU.out hat)
        obtain ⟨j, hj, hj0⟩ : ∃ j : Int, j = atN ((x.cols.take k).map Cl.name) cl.name ∧ 0 ≤ j := ⟨_, rfl, by rcases atN_rng ((x.cols.take k).map Cl.name) cl.name with h | h; exact absurd h hat; exact h.1⟩
        have HJ := Lib.hid hj
        clear hat hj hn
        go_wp2_with fail
        generalize wr.alloc (.cells #[.string cl.name, .int .i64 cl.kind, .bool cl.nn, .int .i64 cl.d.k, .int .i64 cl.d.n, .string cl.d.s] 74) = x1 at *
        obtain ⟨⟨k0, k1, k2, k3, k4, k5⟩, -⟩ := rk.all6
        obtain ⟨⟨t0, t1, t2, t3, t4, t5⟩, -⟩ := hr1.all6
        refine wp_region_noPanic ?_
        refine wp_region_held_drew (S := fun w' => w'.cell? ⟨wr.heap.size, 0, none⟩ = some (.string cl.name) ∧ w'.cell? ⟨wr.heap.size, 1, none⟩ = some (.int .i64 cl.kind) ∧ w'.cell? ⟨wr.heap.size, 2, none⟩ = some (.bool cl.nn) ∧ w'.cell? ⟨wr.heap.size, 3, none⟩ = some (.int .i64 cl.d.k) ∧ w'.cell? ⟨wr.heap.size, 4, none⟩ = some (.int .i64 cl.d.n) ∧ w'.cell? ⟨wr.heap.size, 5, none⟩ = some (.string cl.d.s) ∧ w'.cell? ⟨w.heap.size, 1, none⟩ = some (.slice (some ⟨b, off, none⟩) x.cols.length c1)) (by kernel_rfl) ⟨k0, k1, k2, k3, k4, k5, t1⟩ (fun hHeld => ?_)
        refine wpAnyH_take (i := 0) (v := ?v12) rfl (by kernel_rfl) (by kernel_rfl) (by kernel_rfl) (fun _ _ _ h => h) (Or.inl ⟨by rfl, ?hy12⟩) hHeld ?rest12
        case hy12 => (intro w' hSw; (try dsimp only at hSw); first | (go_simp; done) | (go_simp; with_reducible rfl))
        simp only [Act.put, pz0, pz1, pz2, pz3, pz4, pz5]
        refine wpAnyH_take (i := 1) (v := ?v13) rfl (by kernel_rfl) (by kernel_rfl) (by kernel_rfl) (fun _ _ _ h => h) (Or.inl ⟨by rfl, ?hy13⟩) hHeld ?rest13
        case hy13 => (intro w' hSw; (try dsimp only at hSw); first | (go_simp; done) | (go_simp; with_reducible rfl))
        simp only [Act.put, pz0, pz1, pz2, pz3, pz4, pz5]
        refine wpAnyH_ready (rs := [2]) (by kernel_rfl) (by simp) ?_
        refine AllReadyH.cons rfl (fun K hK => ?_) AllReadyH.nil
        go_simp
        refine (specName _ _ HZ.out).mono ?_
        rintro e wa ⟨rfl, rfl⟩
        rw [HN.out]
        go_wp2_with fail
        refine hK.out _ _ hHeld (fun hHeld => ?_)
        clear hK K
        (try simp only [Act.put, pz0, pz1, pz2, pz3, pz4, pz5])
        refine wpAnyH_take (i := 3) (v := ?v14) rfl (by kernel_rfl) (by kernel_rfl) (by kernel_rfl) (fun _ _ _ h => h) (Or.inl ⟨by rfl, ?hy14⟩) hHeld ?rest14
        case hy14 => (intro w' hSw; (try dsimp only at hSw); first | (go_simp; done) | (go_simp; with_reducible rfl))
        simp only [Act.put, pz0, pz1, pz2, pz3, pz4, pz5]
        refine wpAnyH_take (i := 4) (v := ?v15) rfl (by kernel_rfl) (by kernel_rfl) (by kernel_rfl) (fun _ _ _ h => h) (Or.inl ⟨by rfl, ?hy15⟩) hHeld ?rest15
        case hy15 => (intro w' hSw; (try dsimp only at hSw); first | (go_simp; done) | (go_simp; with_reducible rfl))
        simp only [Act.put, pz0, pz1, pz2, pz3, pz4, pz5]
        refine wpAnyH_take (i := 5) (v := ?v16) rfl (by kernel_rfl) (by kernel_rfl) (by kernel_rfl) (fun _ _ _ h => h) (Or.inl ⟨by rfl, ?hy16⟩) hHeld ?rest16
        case hy16 => (intro w' hSw; (try dsimp only at hSw); first | (go_simp; done) | (go_simp; with_reducible rfl))
        simp only [Act.put, pz0, pz1, pz2, pz3, pz4, pz5]
        refine wpAnyH_take (i := 6) (v := ?v17) rfl (by kernel_rfl) (by kernel_rfl) (by kernel_rfl) (fun _ _ _ h => h) (Or.inl ⟨by rfl, ?hy17⟩) hHeld ?rest17
        case hy17 => (intro w' hSw; (try dsimp only at hSw); first | (go_simp; done) | (go_simp; with_reducible rfl))
        simp only [Act.put, pz0, pz1, pz2, pz3, pz4, pz5]
        refine wpAnyH_take (i := 7) (v := ?v18) rfl (by kernel_rfl) (by kernel_rfl) (by kernel_rfl) (fun _ _ _ h => h) (Or.inl ⟨by rfl, ?hy18⟩) hHeld ?rest18
        case hy18 => (intro w' hSw; (try dsimp only at hSw); first | (go_simp; done) | (go_simp; with_reducible rfl))
        simp only [Act.put, pz0, pz1, pz2, pz3, pz4, pz5]
        refine wpAnyH_take (i := 8) (v := ?v19) rfl (by kernel_rfl) (by kernel_rfl) (by kernel_rfl) (fun _ _ _ h => h) (Or.inl ⟨by rfl, ?hy19⟩) hHeld ?rest19
        case hy19 => (intro w' hSw; (try dsimp only at hSw); first | (go_simp; done) | (go_simp; with_reducible rfl))
        simp only [Act.put, pz0, pz1, pz2, pz3, pz4, pz5]
        refine wpAnyH_take (i := 9) (v := ?v20) rfl (by kernel_rfl) (by kernel_rfl) (by kernel_rfl) (fun _ _ _ h => h) (Or.inl ⟨by rfl, ?hy20⟩) hHeld ?rest20
        case hy20 => (intro w' hSw; (try dsimp only at hSw); first | (go_simp; done) | (go_simp; with_reducible rfl))
        simp only [Act.put, pz0, pz1, pz2, pz3, pz4, pz5]
        refine wpAnyH_take (i := 10) (v := ?v21) rfl (by kernel_rfl) (by kernel_rfl) (by kernel_rfl) (fun _ _ _ h => h) (Or.inl ⟨by rfl, ?hy21⟩) hHeld ?rest21
        case hy21 => (intro w' hSw; (try dsimp only at hSw); first | (go_simp; done) | (go_simp; with_reducible rfl))
        simp only [Act.put, pz0, pz1, pz2, pz3, pz4, pz5]
        refine wpAnyH_take (i := 11) (v := ?v22) rfl (by kernel_rfl) (by kernel_rfl) (by kernel_rfl) (fun _ _ _ h => h) (Or.inl ⟨by rfl, ?hy22⟩) hHeld ?rest22
        case hy22 => (intro w' hSw; (try dsimp only at hSw); first | (go_simp; done) | (go_simp; with_reducible rfl))
        simp only [Act.put, pz0, pz1, pz2, pz3, pz4, pz5]
        refine wpAnyH_ready (rs := [12]) (by kernel_rfl) (by simp) ?_
        refine AllReadyH.cons rfl (fun K hK => ?_) AllReadyH.nil
        go_simp
        refine (specColAt _ k c1 _ _ _ _ _ (x.cols.take k) _ ok _ ((hsl.drew ClR.stays).take (m := k) (by omega)) (by omega)).mono ?_
        rintro e wb ⟨rfl, hqb⟩
        rw [← HJ.out]
        go_wp2_with fail
        refine hK.out _ _ ⟨below_keep hqb _ _ hHeld.1, below_keep hqb _ _ hHeld.2.1, below_keep hqb _ _ hHeld.2.2.1, below_keep hqb _ _ hHeld.2.2.2.1, below_keep hqb _ _ hHeld.2.2.2.2.1, below_keep hqb _ _ hHeld.2.2.2.2.2.1, below_keep hqb _ _ hHeld.2.2.2.2.2.2⟩ (fun hHeld => ?_)
        clear hK K
        (try simp only [Act.put, pz0, pz1, pz2, pz3, pz4, pz5])
        refine wpAnyH_take (i := 13) (v := ?v23) rfl (by kernel_rfl) (by kernel_rfl) (by kernel_rfl) (fun _ _ _ h => h) (Or.inl ⟨by rfl, ?hy23⟩) hHeld ?rest23
        case hy23 => (intro w' hSw; (try dsimp only at hSw); first | (go_simp; done) | (go_simp; with_reducible rfl))
        simp only [Act.put, pz0, pz1, pz2, pz3, pz4, pz5]
        refine wpAnyH_take (i := 14) (v := ?v24) rfl (by kernel_rfl) (by kernel_rfl) (by kernel_rfl) (fun _ _ _ h => h) (Or.inl ⟨by rfl, ?hy24⟩) hHeld ?rest24
        case hy24 => (intro w' hSw; (try dsimp only at hSw); first | (go_simp; done) | (go_simp; with_reducible rfl))
        simp only [Act.put, pz0, pz1, pz2, pz3, pz4, pz5]
        refine wpAnyH_take (i := 15) (v := ?v25) rfl (by kernel_rfl) (by kernel_rfl) (by kernel_rfl) (fun _ _ _ h => h) (Or.inl ⟨by rfl, ?hy25⟩) hHeld ?rest25
        case hy25 => (intro w' hSw; (try dsimp only at hSw); first | (go_simp; done) | (go_simp; with_reducible rfl))
        simp only [Act.put, pz0, pz1, pz2, pz3, pz4, pz5]
        refine wpAnyH_take (i := 16) (v := undef) rfl (by kernel_rfl) (by kernel_rfl) (by kernel_rfl) (fun _ _ _ h => h) (Or.inr ⟨by rfl, rfl⟩) hHeld ?_
        simp only [Act.put, pz0, pz1, pz2, pz3, pz4, pz5]
        refine wpAnyH_take (i := 17) (v := undef) rfl (by kernel_rfl) (by kernel_rfl) (by kernel_rfl) (fun _ _ _ h => h) (Or.inr ⟨by rfl, rfl⟩) hHeld ?_
        simp only [Act.put, pz0, pz1, pz2, pz3, pz4, pz5]
        refine wpAnyH_take (i := 18) (v := undef) rfl (by kernel_rfl) (by kernel_rfl) (by kernel_rfl) (fun _ _ _ h => h) (Or.inr ⟨by rfl, rfl⟩) hHeld ?_
        simp only [Act.put, pz0, pz1, pz2, pz3, pz4, pz5]
        refine wpAnyH_take (i := 19) (v := undef) rfl (by kernel_rfl) (by kernel_rfl) (by kernel_rfl) (fun _ _ _ h => h) (Or.inr ⟨by rfl, rfl⟩) hHeld ?_
        simp only [Act.put, pz0, pz1, pz2, pz3, pz4, pz5]
        refine wpAnyH_take (i := 20) (v := ?v26) rfl (by kernel_rfl) (by kernel_rfl) (by kernel_rfl) (fun _ _ _ h => h) (Or.inl ⟨by rfl, ?hy26⟩) hHeld ?rest26
        case hy26 => (intro w' hSw; (try dsimp only at hSw); first | (go_simp; done) | (go_simp; with_reducible rfl))
        simp only [Act.put, pz0, pz1, pz2, pz3, pz4, pz5]
        refine wpAnyH_take (i := 21) (v := ?v27) rfl (by kernel_rfl) (by kernel_rfl) (by kernel_rfl) (fun _ _ _ h => h) (Or.inl ⟨by rfl, ?hy27⟩) hHeld ?rest27
        case hy27 => (intro w' hSw; (try dsimp only at hSw); first | (go_simp; done) | (go_simp; with_reducible rfl))
        simp only [Act.put, pz0, pz1, pz2, pz3, pz4, pz5]
        refine wpAnyH_take (i := 22) (v := undef) rfl (by kernel_rfl) (by kernel_rfl) (by kernel_rfl) (fun _ _ _ h => h) (Or.inr ⟨by rfl, rfl⟩) hHeld ?_
        simp only [Act.put, pz0, pz1, pz2, pz3, pz4, pz5]
        refine wpAnyH_take (i := 23) (v := undef) rfl (by kernel_rfl) (by kernel_rfl) (by kernel_rfl) (fun _ _ _ h => h) (Or.inr ⟨by rfl, rfl⟩) hHeld ?_
        simp only [Act.put, pz0, pz1, pz2, pz3, pz4, pz5]
        refine wpAnyH_take (i := 24) (v := undef) rfl (by kernel_rfl) (by kernel_rfl) (by kernel_rfl) (fun _ _ _ h => h) (Or.inr ⟨by rfl, rfl⟩) hHeld ?_
        simp only [Act.put, pz0, pz1, pz2, pz3, pz4, pz5]
        refine wpAnyH_take (i := 25) (v := undef) rfl (by kernel_rfl) (by kernel_rfl) (by kernel_rfl) (fun _ _ _ h => h) (Or.inr ⟨by rfl, rfl⟩) hHeld ?_
        simp only [Act.put, pz0, pz1, pz2, pz3, pz4, pz5]
        refine wpAnyH_take (i := 26) (v := ?v28) rfl (by kernel_rfl) (by kernel_rfl) (by kernel_rfl) (fun _ _ _ h => h) (Or.inl ⟨by rfl, ?hy28⟩) hHeld ?rest28
        case hy28 => (intro w' hSw; (try dsimp only at hSw); first | (go_simp; done) | (go_simp; with_reducible rfl))
        simp only [Act.put, pz0, pz1, pz2, pz3, pz4, pz5]
        refine wpAnyH_take (i := 27) (v := ?v29) rfl (by kernel_rfl) (by kernel_rfl) (by kernel_rfl) (fun _ _ _ h => h) (Or.inl ⟨by rfl, ?hy29⟩) hHeld ?rest29
        case hy29 => (intro w' hSw; (try dsimp only at hSw); first | (go_simp; done) | (go_simp; with_reducible rfl))
        simp only [Act.put, pz0, pz1, pz2, pz3, pz4, pz5]
        refine wpAnyH_take (i := 28) (v := undef) rfl (by kernel_rfl) (by kernel_rfl) (by kernel_rfl) (fun _ _ _ h => h) (Or.inr ⟨by rfl, rfl⟩) hHeld ?_
        simp only [Act.put, pz0, pz1, pz2, pz3, pz4, pz5]
        refine wpAnyH_take (i := 29) (v := undef) rfl (by kernel_rfl) (by kernel_rfl) (by kernel_rfl) (fun _ _ _ h => h) (Or.inr ⟨by rfl, rfl⟩) hHeld ?_
        simp only [Act.put, pz0, pz1, pz2, pz3, pz4, pz5]
        refine wpAnyH_take (i := 30) (v := undef) rfl (by kernel_rfl) (by kernel_rfl) (by kernel_rfl) (fun _ _ _ h => h) (Or.inr ⟨by rfl, rfl⟩) hHeld ?_
        simp only [Act.put, pz0, pz1, pz2, pz3, pz4, pz5]
        refine wpAnyH_take (i := 31) (v := undef) rfl (by kernel_rfl) (by kernel_rfl) (by kernel_rfl) (fun _ _ _ h => h) (Or.inr ⟨by rfl, rfl⟩) hHeld ?_
        simp only [Act.put, pz0, pz1, pz2, pz3, pz4, pz5]
        refine wpAnyH_take (i := 32) (v := undef) rfl (by kernel_rfl) (by kernel_rfl) (by kernel_rfl) (fun _ _ _ h => h) (Or.inr ⟨by rfl, rfl⟩) hHeld ?_
        simp only [Act.put, pz0, pz1, pz2, pz3, pz4, pz5]
        refine wpAnyH_take (i := 33) (v := undef) rfl (by kernel_rfl) (by kernel_rfl) (by kernel_rfl) (fun _ _ _ h => h) (Or.inr ⟨by rfl, rfl⟩) hHeld ?_
        simp only [Act.put, pz0, pz1, pz2, pz3, pz4, pz5]
        refine wpAnyH_take (i := 34) (v := undef) rfl (by kernel_rfl) (by kernel_rfl) (by kernel_rfl) (fun _ _ _ h => h) (Or.inr ⟨by rfl, rfl⟩) hHeld ?_
        simp only [Act.put, pz0, pz1, pz2, pz3, pz4, pz5]
        refine wpAnyH_take (i := 35) (v := undef) rfl (by kernel_rfl) (by kernel_rfl) (by kernel_rfl) (fun _ _ _ h => h) (Or.inr ⟨by rfl, rfl⟩) hHeld ?_
        simp only [Act.put, pz0, pz1, pz2, pz3, pz4, pz5]
        refine wpAnyH_take (i := 36) (v := undef) rfl (by kernel_rfl) (by kernel_rfl) (by kernel_rfl) (fun _ _ _ h => h) (Or.inr ⟨by rfl, rfl⟩) hHeld ?_
        simp only [Act.put, pz0, pz1, pz2, pz3, pz4, pz5]
        refine wpAnyH_take (i := 37) (v := undef) rfl (by kernel_rfl) (by kernel_rfl) (by kernel_rfl) (fun _ _ _ h => h) (Or.inr ⟨by rfl, rfl⟩) hHeld ?_
        simp only [Act.put, pz0, pz1, pz2, pz3, pz4, pz5]
        refine wpAnyH_take (i := 38) (v := undef) rfl (by kernel_rfl) (by kernel_rfl) (by kernel_rfl) (fun _ _ _ h => h) (Or.inr ⟨by rfl, rfl⟩) hHeld ?_
        simp only [Act.put, pz0, pz1, pz2, pz3, pz4, pz5]
        refine wpAnyH_take (i := 39) (v := undef) rfl (by kernel_rfl) (by kernel_rfl) (by kernel_rfl) (fun _ _ _ h => h) (Or.inr ⟨by rfl, rfl⟩) hHeld ?_
        simp only [Act.put, pz0, pz1, pz2, pz3, pz4, pz5]
        refine wpAnyH_take (i := 40) (v := ?v30) rfl (by kernel_rfl) (by kernel_rfl) (by kernel_rfl) (fun _ _ _ h => h) (Or.inl ⟨by rfl, ?hy30⟩) hHeld ?rest30
        case hy30 => (intro w' hSw; (try dsimp only at hSw); first | (go_simp; done) | (go_simp; with_reducible rfl))
        simp only [Act.put, pz0, pz1, pz2, pz3, pz4, pz5]
        refine wpAnyH_done (by kernel_rfl) ?_ _
        refine NoPanic.normal ?_
        have hz0 := hba.drew
        have rz0 := hr1.drew
        have hz1 := hz0.trans (hqb.mono hz0.size)
        have rz1 := rz0.below hqb
        clear hHeld k0 k1 k2 k3 k4 k5 t0 t1 t2 t3 t4 t5
        go_wp2_with fail
        go_ret
        exact ⟨retB HF.out.symm, hz1⟩
      have HA := Lib.hid hat
      have HUQ := Lib.hid (HUN.out hat)
      clear hat
      cases hkd : (decide (1 ≤ cl.kind) && decide (cl.kind ≤ 2))
      · skip
        have HKD := Lib.hid hkd
        have HF := Lib.hid (HNO.out (by unfold colB; rw [kind_in, hkd, Bool.false_and, Bool.and_false]))
        clear hkd hn
        go_wp2_with fail
        generalize wr.alloc (.cells #[.string cl.name, .int .i64 cl.kind, .bool cl.nn, .int .i64 cl.d.k, .int .i64 cl.d.n, .string cl.d.s] 74) = x1 at *
        obtain ⟨⟨k0, k1, k2, k3, k4, k5⟩, -⟩ := rk.all6
        obtain ⟨⟨t0, t1, t2, t3, t4, t5⟩, -⟩ := hr1.all6
        refine wp_region_noPanic ?_
        refine wp_region_held_drew (S := fun w' => w'.cell? ⟨wr.heap.size, 0, none⟩ = some (.string cl.name) ∧ w'.cell? ⟨wr.heap.size, 1, none⟩ = some (.int .i64 cl.kind) ∧ w'.cell? ⟨wr.heap.size, 2, none⟩ = some (.bool cl.nn) ∧ w'.cell? ⟨wr.heap.size, 3, none⟩ = some (.int .i64 cl.d.k) ∧ w'.cell? ⟨wr.heap.size, 4, none⟩ = some (.int .i64 cl.d.n) ∧ w'.cell? ⟨wr.heap.size, 5, none⟩ = some (.string cl.d.s) ∧ w'.cell? ⟨w.heap.size, 1, none⟩ = some (.slice (some ⟨b, off, none⟩) x.cols.length c1)) (by kernel_rfl) ⟨k0, k1, k2, k3, k4, k5, t1⟩ (fun hHeld => ?_)
        refine wpAnyH_take (i := 0) (v := ?v31) rfl (by kernel_rfl) (by kernel_rfl) (by kernel_rfl) (fun _ _ _ h => h) (Or.inl ⟨by rfl, ?hy31⟩) hHeld ?rest31
        case hy31 => (intro w' hSw; (try dsimp only at hSw); first | (go_simp; done) | (go_simp; with_reducible rfl))
        simp only [Act.put, pz0, pz1, pz2, pz3, pz4, pz5]
        refine wpAnyH_take (i := 1) (v := ?v32) rfl (by kernel_rfl) (by kernel_rfl) (by kernel_rfl) (fun _ _ _ h => h) (Or.inl ⟨by rfl, ?hy32⟩) hHeld ?rest32
        case hy32 => (intro w' hSw; (try dsimp only at hSw); first | (go_simp; done) | (go_simp; with_reducible rfl))
        simp only [Act.put, pz0, pz1, pz2, pz3, pz4, pz5]
        refine wpAnyH_ready (rs := [2]) (by kernel_rfl) (by simp) ?_
        refine AllReadyH.cons rfl (fun K hK => ?_) AllReadyH.nil
        go_simp
        refine (specName _ _ HZ.out).mono ?_
        rintro e wa ⟨rfl, rfl⟩
        rw [HN.out]
        go_wp2_with fail
        refine hK.out _ _ hHeld (fun hHeld => ?_)
        clear hK K
        (try simp only [Act.put, pz0, pz1, pz2, pz3, pz4, pz5])
        refine wpAnyH_take (i := 3) (v := ?v33) rfl (by kernel_rfl) (by kernel_rfl) (by kernel_rfl) (fun _ _ _ h => h) (Or.inl ⟨by rfl, ?hy33⟩) hHeld ?rest33
        case hy33 => (intro w' hSw; (try dsimp only at hSw); first | (go_simp; done) | (go_simp; with_reducible rfl))
        simp only [Act.put, pz0, pz1, pz2, pz3, pz4, pz5]
        refine wpAnyH_take (i := 4) (v := ?v34) rfl (by kernel_rfl) (by kernel_rfl) (by kernel_rfl) (fun _ _ _ h => h) (Or.inl ⟨by rfl, ?hy34⟩) hHeld ?rest34
        case hy34 => (intro w' hSw; (try dsimp only at hSw); first | (go_simp; done) | (go_simp; with_reducible rfl))
        simp only [Act.put, pz0, pz1, pz2, pz3, pz4, pz5]
        refine wpAnyH_take (i := 5) (v := ?v35) rfl (by kernel_rfl) (by kernel_rfl) (by kernel_rfl) (fun _ _ _ h => h) (Or.inl ⟨by rfl, ?hy35⟩) hHeld ?rest35
        case hy35 => (intro w' hSw; (try dsimp only at hSw); first | (go_simp; done) | (go_simp; with_reducible rfl))
        simp only [Act.put, pz0, pz1, pz2, pz3, pz4, pz5]
        refine wpAnyH_take (i := 6) (v := ?v36) rfl (by kernel_rfl) (by kernel_rfl) (by kernel_rfl) (fun _ _ _ h => h) (Or.inl ⟨by rfl, ?hy36⟩) hHeld ?rest36
        case hy36 => (intro w' hSw; (try dsimp only at hSw); first | (go_simp; done) | (go_simp; with_reducible rfl))
        simp only [Act.put, pz0, pz1, pz2, pz3, pz4, pz5]
        refine wpAnyH_take (i := 7) (v := ?v37) rfl (by kernel_rfl) (by kernel_rfl) (by kernel_rfl) (fun _ _ _ h => h) (Or.inl ⟨by rfl, ?hy37⟩) hHeld ?rest37
        case hy37 => (intro w' hSw; (try dsimp only at hSw); first | (go_simp; done) | (go_simp; with_reducible rfl))
        simp only [Act.put, pz0, pz1, pz2, pz3, pz4, pz5]
        refine wpAnyH_take (i := 8) (v := ?v38) rfl (by kernel_rfl) (by kernel_rfl) (by kernel_rfl) (fun _ _ _ h => h) (Or.inl ⟨by rfl, ?hy38⟩) hHeld ?rest38
        case hy38 => (intro w' hSw; (try dsimp only at hSw); first | (go_simp; done) | (go_simp; with_reducible rfl))
        simp only [Act.put, pz0, pz1, pz2, pz3, pz4, pz5]
        refine wpAnyH_take (i := 9) (v := ?v39) rfl (by kernel_rfl) (by kernel_rfl) (by kernel_rfl) (fun _ _ _ h => h) (Or.inl ⟨by rfl, ?hy39⟩) hHeld ?rest39
        case hy39 => (intro w' hSw; (try dsimp only at hSw); first | (go_simp; done) | (go_simp; with_reducible rfl))
        simp only [Act.put, pz0, pz1, pz2, pz3, pz4, pz5]
        refine wpAnyH_take (i := 10) (v := ?v40) rfl (by kernel_rfl) (by kernel_rfl) (by kernel_rfl) (fun _ _ _ h => h) (Or.inl ⟨by rfl, ?hy40⟩) hHeld ?rest40
        case hy40 => (intro w' hSw; (try dsimp only at hSw); first | (go_simp; done) | (go_simp; with_reducible rfl))
        simp only [Act.put, pz0, pz1, pz2, pz3, pz4, pz5]
        refine wpAnyH_take (i := 11) (v := ?v41) rfl (by kernel_rfl) (by kernel_rfl) (by kernel_rfl) (fun _ _ _ h => h) (Or.inl ⟨by rfl, ?hy41⟩) hHeld ?rest41
        case hy41 => (intro w' hSw; (try dsimp only at hSw); first | (go_simp; done) | (go_simp; with_reducible rfl))
        simp only [Act.put, pz0, pz1, pz2, pz3, pz4, pz5]
        refine wpAnyH_ready (rs := [12]) (by kernel_rfl) (by simp) ?_
        refine AllReadyH.cons rfl (fun K hK => ?_) AllReadyH.nil
        go_simp
        refine (specColAt _ k c1 _ _ _ _ _ (x.cols.take k) _ ok _ ((hsl.drew ClR.stays).take (m := k) (by omega)) (by omega)).mono ?_
        rintro e wb ⟨rfl, hqb⟩
        rw [HA.out]
        go_wp2_with fail
        refine hK.out _ _ ⟨below_keep hqb _ _ hHeld.1, below_keep hqb _ _ hHeld.2.1, below_keep hqb _ _ hHeld.2.2.1, below_keep hqb _ _ hHeld.2.2.2.1, below_keep hqb _ _ hHeld.2.2.2.2.1, below_keep hqb _ _ hHeld.2.2.2.2.2.1, below_keep hqb _ _ hHeld.2.2.2.2.2.2⟩ (fun hHeld => ?_)
        clear hK K
        (try simp only [Act.put, pz0, pz1, pz2, pz3, pz4, pz5])
        refine wpAnyH_take (i := 13) (v := ?v42) rfl (by kernel_rfl) (by kernel_rfl) (by kernel_rfl) (fun _ _ _ h => h) (Or.inl ⟨by rfl, ?hy42⟩) hHeld ?rest42
        case hy42 => (intro w' hSw; (try dsimp only at hSw); first | (go_simp; done) | (go_simp; with_reducible rfl))
        simp only [Act.put, pz0, pz1, pz2, pz3, pz4, pz5]
        refine wpAnyH_take (i := 14) (v := ?v43) rfl (by kernel_rfl) (by kernel_rfl) (by kernel_rfl) (fun _ _ _ h => h) (Or.inl ⟨by rfl, ?hy43⟩) hHeld ?rest43
        case hy43 => (intro w' hSw; (try dsimp only at hSw); first | (go_simp; done) | (go_simp; with_reducible rfl))
        simp only [Act.put, pz0, pz1, pz2, pz3, pz4, pz5]
        refine wpAnyH_take (i := 15) (v := ?v44) rfl (by kernel_rfl) (by kernel_rfl) (by kernel_rfl) (fun _ _ _ h => h) (Or.inl ⟨by rfl, ?hy44⟩) hHeld ?rest44
        case hy44 => (intro w' hSw; (try dsimp only at hSw); first | (go_simp; done) | (go_simp; with_reducible rfl))
        simp only [Act.put, pz0, pz1, pz2, pz3, pz4, pz5]
        refine wpAnyH_take (i := 16) (v := ?v45) rfl (by kernel_rfl) (by kernel_rfl) (by kernel_rfl) (fun _ _ _ h => h) (Or.inl ⟨by rfl, ?hy45⟩) hHeld ?rest45
        case hy45 => (intro w' hSw; (try dsimp only at hSw); first | (go_simp; done) | (go_simp; with_reducible rfl))
        simp only [Act.put, pz0, pz1, pz2, pz3, pz4, pz5]
        refine wpAnyH_take (i := 17) (v := ?v46) rfl (by kernel_rfl) (by kernel_rfl) (by kernel_rfl) (fun _ _ _ h => h) (Or.inl ⟨by rfl, ?hy46⟩) hHeld ?rest46
        case hy46 => (intro w' hSw; (try dsimp only at hSw); first | (go_simp; done) | (go_simp; with_reducible rfl))
        simp only [Act.put, pz0, pz1, pz2, pz3, pz4, pz5]
        refine wpAnyH_ready (rs := [18]) (by kernel_rfl) (by simp) ?_
        refine AllReadyH.cons rfl (fun K hK => ?_) AllReadyH.nil
        go_simp
        refine (specIn _ _ _ _).mono ?_
        rintro e wc ⟨rfl, rfl⟩
        rw [HKD.out]
        go_wp2_with fail
        refine hK.out _ _ hHeld (fun hHeld => ?_)
        clear hK K
        (try simp only [Act.put, pz0, pz1, pz2, pz3, pz4, pz5])
        refine wpAnyH_take (i := 19) (v := ?v47) rfl (by kernel_rfl) (by kernel_rfl) (by kernel_rfl) (fun _ _ _ h => h) (Or.inl ⟨by rfl, ?hy47⟩) hHeld ?rest47
        case hy47 => (intro w' hSw; (try dsimp only at hSw); first | (go_simp; done) | (go_simp; with_reducible rfl))
        simp only [Act.put, pz0, pz1, pz2, pz3, pz4, pz5]
        refine wpAnyH_take (i := 20) (v := ?v48) rfl (by kernel_rfl) (by kernel_rfl) (by kernel_rfl) (fun _ _ _ h => h) (Or.inl ⟨by rfl, ?hy48⟩) hHeld ?rest48
        case hy48 => (intro w' hSw; (try dsimp only at hSw); first | (go_simp; done) | (go_simp; with_reducible rfl))
        simp only [Act.put, pz0, pz1, pz2, pz3, pz4, pz5]
        refine wpAnyH_take (i := 21) (v := ?v49) rfl (by kernel_rfl) (by kernel_rfl) (by kernel_rfl) (fun _ _ _ h => h) (Or.inl ⟨by rfl, ?hy49⟩) hHeld ?rest49
        case hy49 => (intro w' hSw; (try dsimp only at hSw); first | (go_simp; done) | (go_simp; with_reducible rfl))
        simp only [Act.put, pz0, pz1, pz2, pz3, pz4, pz5]
        refine wpAnyH_take (i := 22) (v := undef) rfl (by kernel_rfl) (by kernel_rfl) (by kernel_rfl) (fun _ _ _ h => h) (Or.inr ⟨by rfl, rfl⟩) hHeld ?_
        simp only [Act.put, pz0, pz1, pz2, pz3, pz4, pz5]
        refine wpAnyH_take (i := 23) (v := undef) rfl (by kernel_rfl) (by kernel_rfl) (by kernel_rfl) (fun _ _ _ h => h) (Or.inr ⟨by rfl, rfl⟩) hHeld ?_
        simp only [Act.put, pz0, pz1, pz2, pz3, pz4, pz5]
        refine wpAnyH_take (i := 24) (v := undef) rfl (by kernel_rfl) (by kernel_rfl) (by kernel_rfl) (fun _ _ _ h => h) (Or.inr ⟨by rfl, rfl⟩) hHeld ?_
        simp only [Act.put, pz0, pz1, pz2, pz3, pz4, pz5]
        refine wpAnyH_take (i := 25) (v := undef) rfl (by kernel_rfl) (by kernel_rfl) (by kernel_rfl) (fun _ _ _ h => h) (Or.inr ⟨by rfl, rfl⟩) hHeld ?_
        simp only [Act.put, pz0, pz1, pz2, pz3, pz4, pz5]
        refine wpAnyH_take (i := 26) (v := ?v50) rfl (by kernel_rfl) (by kernel_rfl) (by kernel_rfl) (fun _ _ _ h => h) (Or.inl ⟨by rfl, ?hy50⟩) hHeld ?rest50
        case hy50 => (intro w' hSw; (try dsimp only at hSw); first | (go_simp; done) | (go_simp; with_reducible rfl))
        simp only [Act.put, pz0, pz1, pz2, pz3, pz4, pz5]
        refine wpAnyH_take (i := 27) (v := ?v51) rfl (by kernel_rfl) (by kernel_rfl) (by kernel_rfl) (fun _ _ _ h => h) (Or.inl ⟨by rfl, ?hy51⟩) hHeld ?rest51
        case hy51 => (intro w' hSw; (try dsimp only at hSw); first | (go_simp; done) | (go_simp; with_reducible rfl))
        simp only [Act.put, pz0, pz1, pz2, pz3, pz4, pz5]
        refine wpAnyH_take (i := 28) (v := undef) rfl (by kernel_rfl) (by kernel_rfl) (by kernel_rfl) (fun _ _ _ h => h) (Or.inr ⟨by rfl, rfl⟩) hHeld ?_
        simp only [Act.put, pz0, pz1, pz2, pz3, pz4, pz5]
        refine wpAnyH_take (i := 29) (v := undef) rfl (by kernel_rfl) (by kernel_rfl) (by kernel_rfl) (fun _ _ _ h => h) (Or.inr ⟨by rfl, rfl⟩) hHeld ?_
        simp only [Act.put, pz0, pz1, pz2, pz3, pz4, pz5]
        refine wpAnyH_take (i := 30) (v := undef) rfl (by kernel_rfl) (by kernel_rfl) (by kernel_rfl) (fun _ _ _ h => h) (Or.inr ⟨by rfl, rfl⟩) hHeld ?_
        simp only [Act.put, pz0, pz1, pz2, pz3, pz4, pz5]
        refine wpAnyH_take (i := 31) (v := undef) rfl (by kernel_rfl) (by kernel_rfl) (by kernel_rfl) (fun _ _ _ h => h) (Or.inr ⟨by rfl, rfl⟩) hHeld ?_
        simp only [Act.put, pz0, pz1, pz2, pz3, pz4, pz5]
        refine wpAnyH_take (i := 32) (v := undef) rfl (by kernel_rfl) (by kernel_rfl) (by kernel_rfl) (fun _ _ _ h => h) (Or.inr ⟨by rfl, rfl⟩) hHeld ?_
        simp only [Act.put, pz0, pz1, pz2, pz3, pz4, pz5]
        refine wpAnyH_take (i := 33) (v := undef) rfl (by kernel_rfl) (by kernel_rfl) (by kernel_rfl) (fun _ _ _ h => h) (Or.inr ⟨by rfl, rfl⟩) hHeld ?_
        simp only [Act.put, pz0, pz1, pz2, pz3, pz4, pz5]
        refine wpAnyH_take (i := 34) (v := undef) rfl (by kernel_rfl) (by kernel_rfl) (by kernel_rfl) (fun _ _ _ h => h) (Or.inr ⟨by rfl, rfl⟩) hHeld ?_
        simp only [Act.put, pz0, pz1, pz2, pz3, pz4, pz5]
        refine wpAnyH_take (i := 35) (v := undef) rfl (by kernel_rfl) (by kernel_rfl) (by kernel_rfl) (fun _ _ _ h => h) (Or.inr ⟨by rfl, rfl⟩) hHeld ?_
        simp only [Act.put, pz0, pz1, pz2, pz3, pz4, pz5]
        refine wpAnyH_take (i := 36) (v := undef) rfl (by kernel_rfl) (by kernel_rfl) (by kernel_rfl) (fun _ _ _ h => h) (Or.inr ⟨by rfl, rfl⟩) hHeld ?_
        simp only [Act.put, pz0, pz1, pz2, pz3, pz4, pz5]
        refine wpAnyH_take (i := 37) (v := undef) rfl (by kernel_rfl) (by kernel_rfl) (by kernel_rfl) (fun _ _ _ h => h) (Or.inr ⟨by rfl, rfl⟩) hHeld ?_
        simp only [Act.put, pz0, pz1, pz2, pz3, pz4, pz5]
        refine wpAnyH_take (i := 38) (v := undef) rfl (by kernel_rfl) (by kernel_rfl) (by kernel_rfl) (fun _ _ _ h => h) (Or.inr ⟨by rfl, rfl⟩) hHeld ?_
        simp only [Act.put, pz0, pz1, pz2, pz3, pz4, pz5]
        refine wpAnyH_take (i := 39) (v := undef) rfl (by kernel_rfl) (by kernel_rfl) (by kernel_rfl) (fun _ _ _ h => h) (Or.inr ⟨by rfl, rfl⟩) hHeld ?_
        simp only [Act.put, pz0, pz1, pz2, pz3, pz4, pz5]
        refine wpAnyH_take (i := 40) (v := ?v52) rfl (by kernel_rfl) (by kernel_rfl) (by kernel_rfl) (fun _ _ _ h => h) (Or.inl ⟨by rfl, ?hy52⟩) hHeld ?rest52
        case hy52 => (intro w' hSw; (try dsimp only at hSw); first | (go_simp; done) | (go_simp; with_reducible rfl))
        simp only [Act.put, pz0, pz1, pz2, pz3, pz4, pz5]
        refine wpAnyH_done (by kernel_rfl) ?_ _
        refine NoPanic.normal ?_
        have hz0 := hba.drew
        have rz0 := hr1.drew
        have hz1 := hz0.trans (hqb.mono hz0.size)
        have rz1 := rz0.below hqb
        clear hHeld k0 k1 k2 k3 k4 k5 t0 t1 t2 t3 t4 t5
        go_wp2_with fail
        go_ret
        exact ⟨retB HF.out.symm, hz1⟩
      have HKD := Lib.hid hkd
      cases hv : valOkB cl.d.k cl.d.n cl.d.s
      · skip
        have HV := Lib.hid hv
        have HF := Lib.hid (HNO.out (by unfold colB fitsB; rw [hv, Bool.false_and, Bool.and_false, Bool.and_false]))
        clear hkd hn hv
        go_wp2_with fail
        generalize wr.alloc (.cells #[.string cl.name, .int .i64 cl.kind, .bool cl.nn, .int .i64 cl.d.k, .int .i64 cl.d.n, .string cl.d.s] 74) = x1 at *
        obtain ⟨⟨k0, k1, k2, k3, k4, k5⟩, -⟩ := rk.all6
        obtain ⟨⟨t0, t1, t2, t3, t4, t5⟩, -⟩ := hr1.all6
        refine wp_region_noPanic ?_
        refine wp_region_held_drew (S := fun w' => w'.cell? ⟨wr.heap.size, 0, none⟩ = some (.string cl.name) ∧ w'.cell? ⟨wr.heap.size, 1, none⟩ = some (.int .i64 cl.kind) ∧ w'.cell? ⟨wr.heap.size, 2, none⟩ = some (.bool cl.nn) ∧ w'.cell? ⟨wr.heap.size, 3, none⟩ = some (.int .i64 cl.d.k) ∧ w'.cell? ⟨wr.heap.size, 4, none⟩ = some (.int .i64 cl.d.n) ∧ w'.cell? ⟨wr.heap.size, 5, none⟩ = some (.string cl.d.s) ∧ w'.cell? ⟨w.heap.size, 1, none⟩ = some (.slice (some ⟨b, off, none⟩) x.cols.length c1)) (by kernel_rfl) ⟨k0, k1, k2, k3, k4, k5, t1⟩ (fun hHeld => ?_)
        refine wpAnyH_take (i := 0) (v := ?v53) rfl (by kernel_rfl) (by kernel_rfl) (by kernel_rfl) (fun _ _ _ h => h) (Or.inl ⟨by rfl, ?hy53⟩) hHeld ?rest53
        case hy53 => (intro w' hSw; (try dsimp only at hSw); first | (go_simp; done) | (go_simp; with_reducible rfl))
        simp only [Act.put, pz0, pz1, pz2, pz3, pz4, pz5]
        refine wpAnyH_take (i := 1) (v := ?v54) rfl (by kernel_rfl) (by kernel_rfl) (by kernel_rfl) (fun _ _ _ h => h) (Or.inl ⟨by rfl, ?hy54⟩) hHeld ?rest54
        case hy54 => (intro w' hSw; (try dsimp only at hSw); first | (go_simp; done) | (go_simp; with_reducible rfl))
        simp only [Act.put, pz0, pz1, pz2, pz3, pz4, pz5]
        refine wpAnyH_ready (rs := [2]) (by kernel_rfl) (by simp) ?_
        refine AllReadyH.cons rfl (fun K hK => ?_) AllReadyH.nil
        go_simp
        refine (specName _ _ HZ.out).mono ?_
        rintro e wa ⟨rfl, rfl⟩
        rw [HN.out]
        go_wp2_with fail
        refine hK.out _ _ hHeld (fun hHeld => ?_)
        clear hK K
        (try simp only [Act.put, pz0, pz1, pz2, pz3, pz4, pz5])
        refine wpAnyH_take (i := 3) (v := ?v55) rfl (by kernel_rfl) (by kernel_rfl) (by kernel_rfl) (fun _ _ _ h => h) (Or.inl ⟨by rfl, ?hy55⟩) hHeld ?rest55
        case hy55 => (intro w' hSw; (try dsimp only at hSw); first | (go_simp; done) | (go_simp; with_reducible rfl))
        simp only [Act.put, pz0, pz1, pz2, pz3, pz4, pz5]
        refine wpAnyH_take (i := 4) (v := ?v56) rfl (by kernel_rfl) (by kernel_rfl) (by kernel_rfl) (fun _ _ _ h => h) (Or.inl ⟨by rfl, ?hy56⟩) hHeld ?rest56
        case hy56 => (intro w' hSw; (try dsimp only at hSw); first | (go_simp; done) | (go_simp; with_reducible rfl))
        simp only [Act.put, pz0, pz1, pz2, pz3, pz4, pz5]
        refine wpAnyH_take (i := 5) (v := ?v57) rfl (by kernel_rfl) (by kernel_rfl) (by kernel_rfl) (fun _ _ _ h => h) (Or.inl ⟨by rfl, ?hy57⟩) hHeld ?rest57
        case hy57 => (intro w' hSw; (try dsimp only at hSw); first | (go_simp; done) | (go_simp; with_reducible rfl))
        simp only [Act.put, pz0, pz1, pz2, pz3, pz4, pz5]
        refine wpAnyH_take (i := 6) (v := ?v58) rfl (by kernel_rfl) (by kernel_rfl) (by kernel_rfl) (fun _ _ _ h => h) (Or.inl ⟨by rfl, ?hy58⟩) hHeld ?rest58
        case hy58 => (intro w' hSw; (try dsimp only at hSw); first | (go_simp; done) | (go_simp; with_reducible rfl))
        simp only [Act.put, pz0, pz1, pz2, pz3, pz4, pz5]
        refine wpAnyH_take (i := 7) (v := ?v59) rfl (by kernel_rfl) (by kernel_rfl) (by kernel_rfl) (fun _ _ _ h => h) (Or.inl ⟨by rfl, ?hy59⟩) hHeld ?rest59
        case hy59 => (intro w' hSw; (try dsimp only at hSw); first | (go_simp; done) | (go_simp; with_reducible rfl))
        simp only [Act.put, pz0, pz1, pz2, pz3, pz4, pz5]
        refine wpAnyH_take (i := 8) (v := ?v60) rfl (by kernel_rfl) (by kernel_rfl) (by kernel_rfl) (fun _ _ _ h => h) (Or.inl ⟨by rfl, ?hy60⟩) hHeld ?rest60
        case hy60 => (intro w' hSw; (try dsimp only at hSw); first | (go_simp; done) | (go_simp; with_reducible rfl))
        simp only [Act.put, pz0, pz1, pz2, pz3, pz4, pz5]
        refine wpAnyH_take (i := 9) (v := ?v61) rfl (by kernel_rfl) (by kernel_rfl) (by kernel_rfl) (fun _ _ _ h => h) (Or.inl ⟨by rfl, ?hy61⟩) hHeld ?rest61
        case hy61 => (intro w' hSw; (try dsimp only at hSw); first | (go_simp; done) | (go_simp; with_reducible rfl))
        simp only [Act.put, pz0, pz1, pz2, pz3, pz4, pz5]
        refine wpAnyH_take (i := 10) (v := ?v62) rfl (by kernel_rfl) (by kernel_rfl) (by kernel_rfl) (fun _ _ _ h => h) (Or.inl ⟨by rfl, ?hy62⟩) hHeld ?rest62
        case hy62 => (intro w' hSw; (try dsimp only at hSw); first | (go_simp; done) | (go_simp; with_reducible rfl))
        simp only [Act.put, pz0, pz1, pz2, pz3, pz4, pz5]
        refine wpAnyH_take (i := 11) (v := ?v63) rfl (by kernel_rfl) (by kernel_rfl) (by kernel_rfl) (fun _ _ _ h => h) (Or.inl ⟨by rfl, ?hy63⟩) hHeld ?rest63
        case hy63 => (intro w' hSw; (try dsimp only at hSw); first | (go_simp; done) | (go_simp; with_reducible rfl))
        simp only [Act.put, pz0, pz1, pz2, pz3, pz4, pz5]
        refine wpAnyH_ready (rs := [12]) (by kernel_rfl) (by simp) ?_
        refine AllReadyH.cons rfl (fun K hK => ?_) AllReadyH.nil
        go_simp
        refine (specColAt _ k c1 _ _ _ _ _ (x.cols.take k) _ ok _ ((hsl.drew ClR.stays).take (m := k) (by omega)) (by omega)).mono ?_
        rintro e wb ⟨rfl, hqb⟩
        rw [HA.out]
        go_wp2_with fail
        refine hK.out _ _ ⟨below_keep hqb _ _ hHeld.1, below_keep hqb _ _ hHeld.2.1, below_keep hqb _ _ hHeld.2.2.1, below_keep hqb _ _ hHeld.2.2.2.1, below_keep hqb _ _ hHeld.2.2.2.2.1, below_keep hqb _ _ hHeld.2.2.2.2.2.1, below_keep hqb _ _ hHeld.2.2.2.2.2.2⟩ (fun hHeld => ?_)
        clear hK K
        (try simp only [Act.put, pz0, pz1, pz2, pz3, pz4, pz5])
        refine wpAnyH_take (i := 13) (v := ?v64) rfl (by kernel_rfl) (by kernel_rfl) (by kernel_rfl) (fun _ _ _ h => h) (Or.inl ⟨by rfl, ?hy64⟩) hHeld ?rest64
        case hy64 => (intro w' hSw; (try dsimp only at hSw); first | (go_simp; done) | (go_simp; with_reducible rfl))
        simp only [Act.put, pz0, pz1, pz2, pz3, pz4, pz5]
        refine wpAnyH_take (i := 14) (v := ?v65) rfl (by kernel_rfl) (by kernel_rfl) (by kernel_rfl) (fun _ _ _ h => h) (Or.inl ⟨by rfl, ?hy65⟩) hHeld ?rest65
        case hy65 => (intro w' hSw; (try dsimp only at hSw); first | (go_simp; done) | (go_simp; with_reducible rfl))
        simp only [Act.put, pz0, pz1, pz2, pz3, pz4, pz5]
        refine wpAnyH_take (i := 15) (v := ?v66) rfl (by kernel_rfl) (by kernel_rfl) (by kernel_rfl) (fun _ _ _ h => h) (Or.inl ⟨by rfl, ?hy66⟩) hHeld ?rest66
        case hy66 => (intro w' hSw; (try dsimp only at hSw); first | (go_simp; done) | (go_simp; with_reducible rfl))
        simp only [Act.put, pz0, pz1, pz2, pz3, pz4, pz5]
        refine wpAnyH_take (i := 16) (v := ?v67) rfl (by kernel_rfl) (by kernel_rfl) (by kernel_rfl) (fun _ _ _ h => h) (Or.inl ⟨by rfl, ?hy67⟩) hHeld ?rest67
        case hy67 => (intro w' hSw; (try dsimp only at hSw); first | (go_simp; done) | (go_simp; with_reducible rfl))
        simp only [Act.put, pz0, pz1, pz2, pz3, pz4, pz5]
        refine wpAnyH_take (i := 17) (v := ?v68) rfl (by kernel_rfl) (by kernel_rfl) (by kernel_rfl) (fun _ _ _ h => h) (Or.inl ⟨by rfl, ?hy68⟩) hHeld ?rest68
        case hy68 => (intro w' hSw; (try dsimp only at hSw); first | (go_simp; done) | (go_simp; with_reducible rfl))
        simp only [Act.put, pz0, pz1, pz2, pz3, pz4, pz5]
        refine wpAnyH_ready (rs := [18]) (by kernel_rfl) (by simp) ?_
        refine AllReadyH.cons rfl (fun K hK => ?_) AllReadyH.nil
        go_simp
        refine (specIn _ _ _ _).mono ?_
        rintro e wc ⟨rfl, rfl⟩
        rw [HKD.out]
        go_wp2_with fail
        refine hK.out _ _ hHeld (fun hHeld => ?_)
        clear hK K
        (try simp only [Act.put, pz0, pz1, pz2, pz3, pz4, pz5])
        refine wpAnyH_take (i := 19) (v := ?v69) rfl (by kernel_rfl) (by kernel_rfl) (by kernel_rfl) (fun _ _ _ h => h) (Or.inl ⟨by rfl, ?hy69⟩) hHeld ?rest69
        case hy69 => (intro w' hSw; (try dsimp only at hSw); first | (go_simp; done) | (go_simp; with_reducible rfl))
        simp only [Act.put, pz0, pz1, pz2, pz3, pz4, pz5]
        refine wpAnyH_take (i := 20) (v := ?v70) rfl (by kernel_rfl) (by kernel_rfl) (by kernel_rfl) (fun _ _ _ h => h) (Or.inl ⟨by rfl, ?hy70⟩) hHeld ?rest70
        case hy70 => (intro w' hSw; (try dsimp only at hSw); first | (go_simp; done) | (go_simp; with_reducible rfl))
        simp only [Act.put, pz0, pz1, pz2, pz3, pz4, pz5]
        refine wpAnyH_take (i := 21) (v := ?v71) rfl (by kernel_rfl) (by kernel_rfl) (by kernel_rfl) (fun _ _ _ h => h) (Or.inl ⟨by rfl, ?hy71⟩) hHeld ?rest71
        case hy71 => (intro w' hSw; (try dsimp only at hSw); first | (go_simp; done) | (go_simp; with_reducible rfl))
        simp only [Act.put, pz0, pz1, pz2, pz3, pz4, pz5]
        refine wpAnyH_take (i := 22) (v := ?v72) rfl (by kernel_rfl) (by kernel_rfl) (by kernel_rfl) (fun _ _ _ h => h) (Or.inl ⟨by rfl, ?hy72⟩) hHeld ?rest72
        case hy72 => (intro w' hSw; (try dsimp only at hSw); first | (go_simp; done) | (go_simp; with_reducible rfl))
        simp only [Act.put, pz0, pz1, pz2, pz3, pz4, pz5]
        refine wpAnyH_take (i := 23) (v := ?v73) rfl (by kernel_rfl) (by kernel_rfl) (by kernel_rfl) (fun _ _ _ h => h) (Or.inl ⟨by rfl, ?hy73⟩) hHeld ?rest73
        case hy73 => (intro w' hSw; (try dsimp only at hSw); first | (go_simp; done) | (go_simp; with_reducible rfl))
        simp only [Act.put, pz0, pz1, pz2, pz3, pz4, pz5]
        refine wpAnyH_ready (rs := [24]) (by kernel_rfl) (by simp) ?_
        refine AllReadyH.cons rfl (fun K hK => ?_) AllReadyH.nil
        go_simp
        refine (specValOk _ _ _ _).mono ?_
        rintro e wd ⟨rfl, hqd⟩
        rw [HV.out]
        go_wp2_with fail
        refine hK.out _ _ ⟨below_keep hqd _ _ hHeld.1, below_keep hqd _ _ hHeld.2.1, below_keep hqd _ _ hHeld.2.2.1, below_keep hqd _ _ hHeld.2.2.2.1, below_keep hqd _ _ hHeld.2.2.2.2.1, below_keep hqd _ _ hHeld.2.2.2.2.2.1, below_keep hqd _ _ hHeld.2.2.2.2.2.2⟩ (fun hHeld => ?_)
        clear hK K
        (try simp only [Act.put, pz0, pz1, pz2, pz3, pz4, pz5])
        refine wpAnyH_take (i := 25) (v := ?v74) rfl (by kernel_rfl) (by kernel_rfl) (by kernel_rfl) (fun _ _ _ h => h) (Or.inl ⟨by rfl, ?hy74⟩) hHeld ?rest74
        case hy74 => (intro w' hSw; (try dsimp only at hSw); first | (go_simp; done) | (go_simp; with_reducible rfl))
        simp only [Act.put, pz0, pz1, pz2, pz3, pz4, pz5]
        refine wpAnyH_take (i := 26) (v := ?v75) rfl (by kernel_rfl) (by kernel_rfl) (by kernel_rfl) (fun _ _ _ h => h) (Or.inl ⟨by rfl, ?hy75⟩) hHeld ?rest75
        case hy75 => (intro w' hSw; (try dsimp only at hSw); first | (go_simp; done) | (go_simp; with_reducible rfl))
        simp only [Act.put, pz0, pz1, pz2, pz3, pz4, pz5]
        refine wpAnyH_take (i := 27) (v := ?v76) rfl (by kernel_rfl) (by kernel_rfl) (by kernel_rfl) (fun _ _ _ h => h) (Or.inl ⟨by rfl, ?hy76⟩) hHeld ?rest76
        case hy76 => (intro w' hSw; (try dsimp only at hSw); first | (go_simp; done) | (go_simp; with_reducible rfl))
        simp only [Act.put, pz0, pz1, pz2, pz3, pz4, pz5]
        refine wpAnyH_take (i := 28) (v := undef) rfl (by kernel_rfl) (by kernel_rfl) (by kernel_rfl) (fun _ _ _ h => h) (Or.inr ⟨by rfl, rfl⟩) hHeld ?_
        simp only [Act.put, pz0, pz1, pz2, pz3, pz4, pz5]
        refine wpAnyH_take (i := 29) (v := undef) rfl (by kernel_rfl) (by kernel_rfl) (by kernel_rfl) (fun _ _ _ h => h) (Or.inr ⟨by rfl, rfl⟩) hHeld ?_
        simp only [Act.put, pz0, pz1, pz2, pz3, pz4, pz5]
        refine wpAnyH_take (i := 30) (v := undef) rfl (by kernel_rfl) (by kernel_rfl) (by kernel_rfl) (fun _ _ _ h => h) (Or.inr ⟨by rfl, rfl⟩) hHeld ?_
        simp only [Act.put, pz0, pz1, pz2, pz3, pz4, pz5]
        refine wpAnyH_take (i := 31) (v := undef) rfl (by kernel_rfl) (by kernel_rfl) (by kernel_rfl) (fun _ _ _ h => h) (Or.inr ⟨by rfl, rfl⟩) hHeld ?_
        simp only [Act.put, pz0, pz1, pz2, pz3, pz4, pz5]
        refine wpAnyH_take (i := 32) (v := undef) rfl (by kernel_rfl) (by kernel_rfl) (by kernel_rfl) (fun _ _ _ h => h) (Or.inr ⟨by rfl, rfl⟩) hHeld ?_
        simp only [Act.put, pz0, pz1, pz2, pz3, pz4, pz5]
        refine wpAnyH_take (i := 33) (v := undef) rfl (by kernel_rfl) (by kernel_rfl) (by kernel_rfl) (fun _ _ _ h => h) (Or.inr ⟨by rfl, rfl⟩) hHeld ?_
        simp only [Act.put, pz0, pz1, pz2, pz3, pz4, pz5]
        refine wpAnyH_take (i := 34) (v := undef) rfl (by kernel_rfl) (by kernel_rfl) (by kernel_rfl) (fun _ _ _ h => h) (Or.inr ⟨by rfl, rfl⟩) hHeld ?_
        simp only [Act.put, pz0, pz1, pz2, pz3, pz4, pz5]
        refine wpAnyH_take (i := 35) (v := undef) rfl (by kernel_rfl) (by kernel_rfl) (by kernel_rfl) (fun _ _ _ h => h) (Or.inr ⟨by rfl, rfl⟩) hHeld ?_
        simp only [Act.put, pz0, pz1, pz2, pz3, pz4, pz5]
        refine wpAnyH_take (i := 36) (v := undef) rfl (by kernel_rfl) (by kernel_rfl) (by kernel_rfl) (fun _ _ _ h => h) (Or.inr ⟨by rfl, rfl⟩) hHeld ?_
        simp only [Act.put, pz0, pz1, pz2, pz3, pz4, pz5]
        refine wpAnyH_take (i := 37) (v := undef) rfl (by kernel_rfl) (by kernel_rfl) (by kernel_rfl) (fun _ _ _ h => h) (Or.inr ⟨by rfl, rfl⟩) hHeld ?_
        simp only [Act.put, pz0, pz1, pz2, pz3, pz4, pz5]
        refine wpAnyH_take (i := 38) (v := undef) rfl (by kernel_rfl) (by kernel_rfl) (by kernel_rfl) (fun _ _ _ h => h) (Or.inr ⟨by rfl, rfl⟩) hHeld ?_
        simp only [Act.put, pz0, pz1, pz2, pz3, pz4, pz5]
        refine wpAnyH_take (i := 39) (v := undef) rfl (by kernel_rfl) (by kernel_rfl) (by kernel_rfl) (fun _ _ _ h => h) (Or.inr ⟨by rfl, rfl⟩) hHeld ?_
        simp only [Act.put, pz0, pz1, pz2, pz3, pz4, pz5]
        refine wpAnyH_take (i := 40) (v := ?v77) rfl (by kernel_rfl) (by kernel_rfl) (by kernel_rfl) (fun _ _ _ h => h) (Or.inl ⟨by rfl, ?hy77⟩) hHeld ?rest77
        case hy77 => (intro w' hSw; (try dsimp only at hSw); first | (go_simp; done) | (go_simp; with_reducible rfl))
        simp only [Act.put, pz0, pz1, pz2, pz3, pz4, pz5]
        refine wpAnyH_done (by kernel_rfl) ?_ _
        refine NoPanic.normal ?_
        have hz0 := hba.drew
        have rz0 := hr1.drew
        have hz1 := hz0.trans (hqb.mono hz0.size)
        have rz1 := rz0.below hqb
        have hz2 := hz1.trans (hqd.mono hz1.size)
        have rz2 := rz1.below hqd
        clear hHeld k0 k1 k2 k3 k4 k5 t0 t1 t2 t3 t4 t5
        go_wp2_with fail
        go_ret
        exact ⟨retB HF.out.symm, hz2⟩
      have HV := Lib.hid hv
      by_cases hd0 : cl.d.k = 0
      · skip
        have HCA := Lib.hid (HCN.out (by unfold colB fitsB; rw [kind_in, hn, hkd, hv, hd0]; rfl))
        have e0 : (cl.d.k == 0) = true := by simpa using hd0
        have e1 : (cl.d.k != 0) = false := by simpa using hd0
        clear hkd hn hv hd0
        go_wp2_with fail
        generalize wr.alloc (.cells #[.string cl.name, .int .i64 cl.kind, .bool cl.nn, .int .i64 cl.d.k, .int .i64 cl.d.n, .string cl.d.s] 74) = x1 at *
        obtain ⟨⟨k0, k1, k2, k3, k4, k5⟩, -⟩ := rk.all6
        obtain ⟨⟨t0, t1, t2, t3, t4, t5⟩, -⟩ := hr1.all6
        refine wp_region_noPanic ?_
        refine wp_region_held_drew (S := fun w' => w'.cell? ⟨wr.heap.size, 0, none⟩ = some (.string cl.name) ∧ w'.cell? ⟨wr.heap.size, 1, none⟩ = some (.int .i64 cl.kind) ∧ w'.cell? ⟨wr.heap.size, 2, none⟩ = some (.bool cl.nn) ∧ w'.cell? ⟨wr.heap.size, 3, none⟩ = some (.int .i64 cl.d.k) ∧ w'.cell? ⟨wr.heap.size, 4, none⟩ = some (.int .i64 cl.d.n) ∧ w'.cell? ⟨wr.heap.size, 5, none⟩ = some (.string cl.d.s) ∧ w'.cell? ⟨w.heap.size, 1, none⟩ = some (.slice (some ⟨b, off, none⟩) x.cols.length c1)) (by kernel_rfl) ⟨k0, k1, k2, k3, k4, k5, t1⟩ (fun hHeld => ?_)
        refine wpAnyH_take (i := 0) (v := ?v78) rfl (by kernel_rfl) (by kernel_rfl) (by kernel_rfl) (fun _ _ _ h => h) (Or.inl ⟨by rfl, ?hy78⟩) hHeld ?rest78
        case hy78 => (intro w' hSw; (try dsimp only at hSw); first | (go_simp; done) | (go_simp; with_reducible rfl))
        simp only [Act.put, pz0, pz1, pz2, pz3, pz4, pz5]
        refine wpAnyH_take (i := 1) (v := ?v79) rfl (by kernel_rfl) (by kernel_rfl) (by kernel_rfl) (fun _ _ _ h => h) (Or.inl ⟨by rfl, ?hy79⟩) hHeld ?rest79
        case hy79 => (intro w' hSw; (try dsimp only at hSw); first | (go_simp; done) | (go_simp; with_reducible rfl))
        simp only [Act.put, pz0, pz1, pz2, pz3, pz4, pz5]
        refine wpAnyH_ready (rs := [2]) (by kernel_rfl) (by simp) ?_
        refine AllReadyH.cons rfl (fun K hK => ?_) AllReadyH.nil
        go_simp
        refine (specName _ _ HZ.out).mono ?_
        rintro e wa ⟨rfl, rfl⟩
        rw [HN.out]
        go_wp2_with fail
        refine hK.out _ _ hHeld (fun hHeld => ?_)
        clear hK K
        (try simp only [Act.put, pz0, pz1, pz2, pz3, pz4, pz5])
        refine wpAnyH_take (i := 3) (v := ?v80) rfl (by kernel_rfl) (by kernel_rfl) (by kernel_rfl) (fun _ _ _ h => h) (Or.inl ⟨by rfl, ?hy80⟩) hHeld ?rest80
        case hy80 => (intro w' hSw; (try dsimp only at hSw); first | (go_simp; done) | (go_simp; with_reducible rfl))
        simp only [Act.put, pz0, pz1, pz2, pz3, pz4, pz5]
        refine wpAnyH_take (i := 4) (v := ?v81) rfl (by kernel_rfl) (by kernel_rfl) (by kernel_rfl) (fun _ _ _ h => h) (Or.inl ⟨by rfl, ?hy81⟩) hHeld ?rest81
        case hy81 => (intro w' hSw; (try dsimp only at hSw); first | (go_simp; done) | (go_simp; with_reducible rfl))
        simp only [Act.put, pz0, pz1, pz2, pz3, pz4, pz5]
        refine wpAnyH_take (i := 5) (v := ?v82) rfl (by kernel_rfl) (by kernel_rfl) (by kernel_rfl) (fun _ _ _ h => h) (Or.inl ⟨by rfl, ?hy82⟩) hHeld ?rest82
        case hy82 => (intro w' hSw; (try dsimp only at hSw); first | (go_simp; done) | (go_simp; with_reducible rfl))
        simp only [Act.put, pz0, pz1, pz2, pz3, pz4, pz5]
        refine wpAnyH_take (i := 6) (v := ?v83) rfl (by kernel_rfl) (by kernel_rfl) (by kernel_rfl) (fun _ _ _ h => h) (Or.inl ⟨by rfl, ?hy83⟩) hHeld ?rest83
        case hy83 => (intro w' hSw; (try dsimp only at hSw); first | (go_simp; done) | (go_simp; with_reducible rfl))
        simp only [Act.put, pz0, pz1, pz2, pz3, pz4, pz5]
        refine wpAnyH_take (i := 7) (v := ?v84) rfl (by kernel_rfl) (by kernel_rfl) (by kernel_rfl) (fun _ _ _ h => h) (Or.inl ⟨by rfl, ?hy84⟩) hHeld ?rest84
        case hy84 => (intro w' hSw; (try dsimp only at hSw); first | (go_simp; done) | (go_simp; with_reducible rfl))
        simp only [Act.put, pz0, pz1, pz2, pz3, pz4, pz5]
        refine wpAnyH_take (i := 8) (v := ?v85) rfl (by kernel_rfl) (by kernel_rfl) (by kernel_rfl) (fun _ _ _ h => h) (Or.inl ⟨by rfl, ?hy85⟩) hHeld ?rest85
        case hy85 => (intro w' hSw; (try dsimp only at hSw); first | (go_simp; done) | (go_simp; with_reducible rfl))
        simp only [Act.put, pz0, pz1, pz2, pz3, pz4, pz5]
        refine wpAnyH_take (i := 9) (v := ?v86) rfl (by kernel_rfl) (by kernel_rfl) (by kernel_rfl) (fun _ _ _ h => h) (Or.inl ⟨by rfl, ?hy86⟩) hHeld ?rest86
        case hy86 => (intro w' hSw; (try dsimp only at hSw); first | (go_simp; done) | (go_simp; with_reducible rfl))
        simp only [Act.put, pz0, pz1, pz2, pz3, pz4, pz5]
        refine wpAnyH_take (i := 10) (v := ?v87) rfl (by kernel_rfl) (by kernel_rfl) (by kernel_rfl) (fun _ _ _ h => h) (Or.inl ⟨by rfl, ?hy87⟩) hHeld ?rest87
        case hy87 => (intro w' hSw; (try dsimp only at hSw); first | (go_simp; done) | (go_simp; with_reducible rfl))
        simp only [Act.put, pz0, pz1, pz2, pz3, pz4, pz5]
        refine wpAnyH_take (i := 11) (v := ?v88) rfl (by kernel_rfl) (by kernel_rfl) (by kernel_rfl) (fun _ _ _ h => h) (Or.inl ⟨by rfl, ?hy88⟩) hHeld ?rest88
        case hy88 => (intro w' hSw; (try dsimp only at hSw); first | (go_simp; done) | (go_simp; with_reducible rfl))
        simp only [Act.put, pz0, pz1, pz2, pz3, pz4, pz5]
        refine wpAnyH_ready (rs := [12]) (by kernel_rfl) (by simp) ?_
        refine AllReadyH.cons rfl (fun K hK => ?_) AllReadyH.nil
        go_simp
        refine (specColAt _ k c1 _ _ _ _ _ (x.cols.take k) _ ok _ ((hsl.drew ClR.stays).take (m := k) (by omega)) (by omega)).mono ?_
        rintro e wb ⟨rfl, hqb⟩
        rw [HA.out]
        go_wp2_with fail
        refine hK.out _ _ ⟨below_keep hqb _ _ hHeld.1, below_keep hqb _ _ hHeld.2.1, below_keep hqb _ _ hHeld.2.2.1, below_keep hqb _ _ hHeld.2.2.2.1, below_keep hqb _ _ hHeld.2.2.2.2.1, below_keep hqb _ _ hHeld.2.2.2.2.2.1, below_keep hqb _ _ hHeld.2.2.2.2.2.2⟩ (fun hHeld => ?_)
        clear hK K
        (try simp only [Act.put, pz0, pz1, pz2, pz3, pz4, pz5])
        refine wpAnyH_take (i := 13) (v := ?v89) rfl (by kernel_rfl) (by kernel_rfl) (by kernel_rfl) (fun _ _ _ h => h) (Or.inl ⟨by rfl, ?hy89⟩) hHeld ?rest89
        case hy89 => (intro w' hSw; (try dsimp only at hSw); first | (go_simp; done) | (go_simp; with_reducible rfl))
        simp only [Act.put, pz0, pz1, pz2, pz3, pz4, pz5]
        refine wpAnyH_take (i := 14) (v := ?v90) rfl (by kernel_rfl) (by kernel_rfl) (by kernel_rfl) (fun _ _ _ h => h) (Or.inl ⟨by rfl, ?hy90⟩) hHeld ?rest90
        case hy90 => (intro w' hSw; (try dsimp only at hSw); first | (go_simp; done) | (go_simp; with_reducible rfl))
        simp only [Act.put, pz0, pz1, pz2, pz3, pz4, pz5]
        refine wpAnyH_take (i := 15) (v := ?v91) rfl (by kernel_rfl) (by kernel_rfl) (by kernel_rfl) (fun _ _ _ h => h) (Or.inl ⟨by rfl, ?hy91⟩) hHeld ?rest91
        case hy91 => (intro w' hSw; (try dsimp only at hSw); first | (go_simp; done) | (go_simp; with_reducible rfl))
        simp only [Act.put, pz0, pz1, pz2, pz3, pz4, pz5]
        refine wpAnyH_take (i := 16) (v := ?v92) rfl (by kernel_rfl) (by kernel_rfl) (by kernel_rfl) (fun _ _ _ h => h) (Or.inl ⟨by rfl, ?hy92⟩) hHeld ?rest92
        case hy92 => (intro w' hSw; (try dsimp only at hSw); first | (go_simp; done) | (go_simp; with_reducible rfl))
        simp only [Act.put, pz0, pz1, pz2, pz3, pz4, pz5]
        refine wpAnyH_take (i := 17) (v := ?v93) rfl (by kernel_rfl) (by kernel_rfl) (by kernel_rfl) (fun _ _ _ h => h) (Or.inl ⟨by rfl, ?hy93⟩) hHeld ?rest93
        case hy93 => (intro w' hSw; (try dsimp only at hSw); first | (go_simp; done) | (go_simp; with_reducible rfl))
        simp only [Act.put, pz0, pz1, pz2, pz3, pz4, pz5]
        refine wpAnyH_ready (rs := [18]) (by kernel_rfl) (by simp) ?_
        refine AllReadyH.cons rfl (fun K hK => ?_) AllReadyH.nil
        go_simp
        refine (specIn _ _ _ _).mono ?_
        rintro e wc ⟨rfl, rfl⟩
        rw [HKD.out]
        go_wp2_with fail
        refine hK.out _ _ hHeld (fun hHeld => ?_)
        clear hK K
        (try simp only [Act.put, pz0, pz1, pz2, pz3, pz4, pz5])
        refine wpAnyH_take (i := 19) (v := ?v94) rfl (by kernel_rfl) (by kernel_rfl) (by kernel_rfl) (fun _ _ _ h => h) (Or.inl ⟨by rfl, ?hy94⟩) hHeld ?rest94
        case hy94 => (intro w' hSw; (try dsimp only at hSw); first | (go_simp; done) | (go_simp; with_reducible rfl))
        simp only [Act.put, pz0, pz1, pz2, pz3, pz4, pz5]
        refine wpAnyH_take (i := 20) (v := ?v95) rfl (by kernel_rfl) (by kernel_rfl) (by kernel_rfl) (fun _ _ _ h => h) (Or.inl ⟨by rfl, ?hy95⟩) hHeld ?rest95
        case hy95 => (intro w' hSw; (try dsimp only at hSw); first | (go_simp; done) | (go_simp; with_reducible rfl))
        simp only [Act.put, pz0, pz1, pz2, pz3, pz4, pz5]
        refine wpAnyH_take (i := 21) (v := ?v96) rfl (by kernel_rfl) (by kernel_rfl) (by kernel_rfl) (fun _ _ _ h => h) (Or.inl ⟨by rfl, ?hy96⟩) hHeld ?rest96
        case hy96 => (intro w' hSw; (try dsimp only at hSw); first | (go_simp; done) | (go_simp; with_reducible rfl))
        simp only [Act.put, pz0, pz1, pz2, pz3, pz4, pz5]
        refine wpAnyH_take (i := 22) (v := ?v97) rfl (by kernel_rfl) (by kernel_rfl) (by kernel_rfl) (fun _ _ _ h => h) (Or.inl ⟨by rfl, ?hy97⟩) hHeld ?rest97
        case hy97 => (intro w' hSw; (try dsimp only at hSw); first | (go_simp; done) | (go_simp; with_reducible rfl))
        simp only [Act.put, pz0, pz1, pz2, pz3, pz4, pz5]
        refine wpAnyH_take (i := 23) (v := ?v98) rfl (by kernel_rfl) (by kernel_rfl) (by kernel_rfl) (fun _ _ _ h => h) (Or.inl ⟨by rfl, ?hy98⟩) hHeld ?rest98
        case hy98 => (intro w' hSw; (try dsimp only at hSw); first | (go_simp; done) | (go_simp; with_reducible rfl))
        simp only [Act.put, pz0, pz1, pz2, pz3, pz4, pz5]
        refine wpAnyH_ready (rs := [24]) (by kernel_rfl) (by simp) ?_
        refine AllReadyH.cons rfl (fun K hK => ?_) AllReadyH.nil
        go_simp
        refine (specValOk _ _ _ _).mono ?_
        rintro e wd ⟨rfl, hqd⟩
        rw [HV.out]
        go_wp2_with fail
        refine hK.out _ _ ⟨below_keep hqd _ _ hHeld.1, below_keep hqd _ _ hHeld.2.1, below_keep hqd _ _ hHeld.2.2.1, below_keep hqd _ _ hHeld.2.2.2.1, below_keep hqd _ _ hHeld.2.2.2.2.1, below_keep hqd _ _ hHeld.2.2.2.2.2.1, below_keep hqd _ _ hHeld.2.2.2.2.2.2⟩ (fun hHeld => ?_)
        clear hK K
        (try simp only [Act.put, pz0, pz1, pz2, pz3, pz4, pz5])
        refine wpAnyH_take (i := 25) (v := ?v99) rfl (by kernel_rfl) (by kernel_rfl) (by kernel_rfl) (fun _ _ _ h => h) (Or.inl ⟨by rfl, ?hy99⟩) hHeld ?rest99
        case hy99 => (intro w' hSw; (try dsimp only at hSw); first | (go_simp; done) | (go_simp; with_reducible rfl))
        simp only [Act.put, pz0, pz1, pz2, pz3, pz4, pz5]
        refine wpAnyH_take (i := 26) (v := ?v100) rfl (by kernel_rfl) (by kernel_rfl) (by kernel_rfl) (fun _ _ _ h => h) (Or.inl ⟨by rfl, ?hy100⟩) hHeld ?rest100
        case hy100 => (intro w' hSw; (try dsimp only at hSw); first | (go_simp; done) | (go_simp; with_reducible rfl))
        simp only [Act.put, pz0, pz1, pz2, pz3, pz4, pz5]
        refine wpAnyH_take (i := 27) (v := ?v101) rfl (by kernel_rfl) (by kernel_rfl) (by kernel_rfl) (fun _ _ _ h => h) (Or.inl ⟨by rfl, ?hy101⟩) hHeld ?rest101
        case hy101 => (intro w' hSw; (try dsimp only at hSw); first | (go_simp; done) | (go_simp; with_reducible rfl))
        simp only [Act.put, pz0, pz1, pz2, pz3, pz4, pz5]
        refine wpAnyH_take (i := 28) (v := ?v102) rfl (by kernel_rfl) (by kernel_rfl) (by kernel_rfl) (fun _ _ _ h => h) (Or.inl ⟨by rfl, ?hy102⟩) hHeld ?rest102
        case hy102 => (intro w' hSw; (try dsimp only at hSw); first | (go_simp; done) | (go_simp; with_reducible rfl))
        simp only [Act.put, pz0, pz1, pz2, pz3, pz4, pz5]
        refine wpAnyH_take (i := 29) (v := ?v103) rfl (by kernel_rfl) (by kernel_rfl) (by kernel_rfl) (fun _ _ _ h => h) (Or.inl ⟨by rfl, ?hy103⟩) hHeld ?rest103
        case hy103 => (intro w' hSw; (try dsimp only at hSw); first | (go_simp; done) | (go_simp; with_reducible rfl))
        simp only [Act.put, pz0, pz1, pz2, pz3, pz4, pz5]
        refine wpAnyH_take (i := 30) (v := ?v104) rfl (by kernel_rfl) (by kernel_rfl) (by kernel_rfl) (fun _ _ _ h => h) (Or.inl ⟨by rfl, ?hy104⟩) hHeld ?rest104
        case hy104 => (intro w' hSw; (try dsimp only at hSw); first | (go_simp; done) | (go_simp; with_reducible rfl))
        simp only [Act.put, pz0, pz1, pz2, pz3, pz4, pz5]
        refine wpAnyH_take (i := 31) (v := ?v105) rfl (by kernel_rfl) (by kernel_rfl) (by kernel_rfl) (fun _ _ _ h => h) (Or.inl ⟨by rfl, ?hy105⟩) hHeld ?rest105
        case hy105 => (intro w' hSw; (try dsimp only at hSw); first | (go_simp; done) | (go_simp; with_reducible rfl))
        simp only [Act.put, pz0, pz1, pz2, pz3, pz4, pz5]
        refine wpAnyH_take (i := 32) (v := ?v106) rfl (by kernel_rfl) (by kernel_rfl) (by kernel_rfl) (fun _ _ _ h => h) (Or.inl ⟨by rfl, ?hy106⟩) hHeld ?rest106
        case hy106 => (intro w' hSw; (try dsimp only at hSw); first | (go_simp; done) | (go_simp; with_reducible rfl))
        simp only [Act.put, pz0, pz1, pz2, pz3, pz4, pz5]
        refine wpAnyH_take (i := 33) (v := undef) rfl (by kernel_rfl) (by kernel_rfl) (by kernel_rfl) (fun _ _ _ h => h) (Or.inr ⟨by rfl, rfl⟩) hHeld ?_
        simp only [Act.put, pz0, pz1, pz2, pz3, pz4, pz5]
        refine wpAnyH_take (i := 34) (v := undef) rfl (by kernel_rfl) (by kernel_rfl) (by kernel_rfl) (fun _ _ _ h => h) (Or.inr ⟨by rfl, rfl⟩) hHeld ?_
        simp only [Act.put, pz0, pz1, pz2, pz3, pz4, pz5]
        refine wpAnyH_take (i := 35) (v := undef) rfl (by kernel_rfl) (by kernel_rfl) (by kernel_rfl) (fun _ _ _ h => h) (Or.inr ⟨by rfl, rfl⟩) hHeld ?_
        simp only [Act.put, pz0, pz1, pz2, pz3, pz4, pz5]
        refine wpAnyH_take (i := 36) (v := undef) rfl (by kernel_rfl) (by kernel_rfl) (by kernel_rfl) (fun _ _ _ h => h) (Or.inr ⟨by rfl, rfl⟩) hHeld ?_
        simp only [Act.put, pz0, pz1, pz2, pz3, pz4, pz5]
        refine wpAnyH_take (i := 37) (v := undef) rfl (by kernel_rfl) (by kernel_rfl) (by kernel_rfl) (fun _ _ _ h => h) (Or.inr ⟨by rfl, rfl⟩) hHeld ?_
        simp only [Act.put, pz0, pz1, pz2, pz3, pz4, pz5]
        refine wpAnyH_take (i := 38) (v := undef) rfl (by kernel_rfl) (by kernel_rfl) (by kernel_rfl) (fun _ _ _ h => h) (Or.inr ⟨by rfl, rfl⟩) hHeld ?_
        simp only [Act.put, pz0, pz1, pz2, pz3, pz4, pz5]
        refine wpAnyH_take (i := 39) (v := ?v107) rfl (by kernel_rfl) (by kernel_rfl) (by kernel_rfl) (fun _ _ _ h => h) (Or.inl ⟨by rfl, ?hy107⟩) hHeld ?rest107
        case hy107 => (intro w' hSw; (try dsimp only at hSw); first | (go_simp; done) | (go_simp; with_reducible rfl))
        simp only [Act.put, pz0, pz1, pz2, pz3, pz4, pz5]
        refine wpAnyH_take (i := 40) (v := ?v108) rfl (by kernel_rfl) (by kernel_rfl) (by kernel_rfl) (fun _ _ _ h => h) (Or.inl ⟨by rfl, ?hy108⟩) hHeld ?rest108
        case hy108 => (intro w' hSw; (try dsimp only at hSw); first | (go_simp; done) | (go_simp; with_reducible rfl))
        simp only [Act.put, pz0, pz1, pz2, pz3, pz4, pz5]
        refine wpAnyH_done (by kernel_rfl) ?_ _
        refine NoPanic.normal ?_
        have hz0 := hba.drew
        have rz0 := hr1.drew
        have hz1 := hz0.trans (hqb.mono hz0.size)
        have rz1 := rz0.below hqb
        have hz2 := hz1.trans (hqd.mono hz1.size)
        have rz2 := rz1.below hqd
        clear hHeld k0 k1 k2 k3 k4 k5 t0 t1 t2 t3 t4 t5
        go_wp2_with fail
        go_roundw
        case rel => exact ⟨k + 1, by omega, by go_num, HCA, HUQ, rz2, hz2⟩
        case measure => simp [intOf]; omega
      have e0 : (cl.d.k == 0) = false := by simpa using hd0
      have e1 : (cl.d.k != 0) = true := by simpa using hd0
      by_cases hdk : cl.d.k = cl.kind
      · skip
        have HCA := Lib.hid (HCN.out (by unfold colB fitsB; rw [kind_in, hn, hkd, hv, hdk]; simp))
        have e2 : (cl.d.k == cl.kind) = true := by simpa using hdk
        have e3 : (cl.d.k != cl.kind) = false := by simpa using hdk
        clear hkd hn hv hd0 hdk
        go_wp2_with fail
        generalize wr.alloc (.cells #[.string cl.name, .int .i64 cl.kind, .bool cl.nn, .int .i64 cl.d.k, .int .i64 cl.d.n, .string cl.d.s] 74) = x1 at *
        obtain ⟨⟨k0, k1, k2, k3, k4, k5⟩, -⟩ := rk.all6
        obtain ⟨⟨t0, t1, t2, t3, t4, t5⟩, -⟩ := hr1.all6
        refine wp_region_noPanic ?_
        refine wp_region_held_drew (S := fun w' => w'.cell? ⟨wr.heap.size, 0, none⟩ = some (.string cl.name) ∧ w'.cell? ⟨wr.heap.size, 1, none⟩ = some (.int .i64 cl.kind) ∧ w'.cell? ⟨wr.heap.size, 2, none⟩ = some (.bool cl.nn) ∧ w'.cell? ⟨wr.heap.size, 3, none⟩ = some (.int .i64 cl.d.k) ∧ w'.cell? ⟨wr.heap.size, 4, none⟩ = some (.int .i64 cl.d.n) ∧ w'.cell? ⟨wr.heap.size, 5, none⟩ = some (.string cl.d.s) ∧ w'.cell? ⟨w.heap.size, 1, none⟩ = some (.slice (some ⟨b, off, none⟩) x.cols.length c1)) (by kernel_rfl) ⟨k0, k1, k2, k3, k4, k5, t1⟩ (fun hHeld => ?_)
        refine wpAnyH_take (i := 0) (v := ?v109) rfl (by kernel_rfl) (by kernel_rfl) (by kernel_rfl) (fun _ _ _ h => h) (Or.inl ⟨by rfl, ?hy109⟩) hHeld ?rest109
        case hy109 => (intro w' hSw; (try dsimp only at hSw); first | (go_simp; done) | (go_simp; with_reducible rfl))
        simp only [Act.put, pz0, pz1, pz2, pz3, pz4, pz5]
        refine wpAnyH_take (i := 1) (v := ?v110) rfl (by kernel_rfl) (by kernel_rfl) (by kernel_rfl) (fun _ _ _ h => h) (Or.inl ⟨by rfl, ?hy110⟩) hHeld ?rest110
        case hy110 => (intro w' hSw; (try dsimp only at hSw); first | (go_simp; done) | (go_simp; with_reducible rfl))
        simp only [Act.put, pz0, pz1, pz2, pz3, pz4, pz5]
        refine wpAnyH_ready (rs := [2]) (by kernel_rfl) (by simp) ?_
        refine AllReadyH.cons rfl (fun K hK => ?_) AllReadyH.nil
        go_simp
        refine (specName _ _ HZ.out).mono ?_
        rintro e wa ⟨rfl, rfl⟩
        rw [HN.out]
        go_wp2_with fail
        refine hK.out _ _ hHeld (fun hHeld => ?_)
        clear hK K
        (try simp only [Act.put, pz0, pz1, pz2, pz3, pz4, pz5])
        refine wpAnyH_take (i := 3) (v := ?v111) rfl (by kernel_rfl) (by kernel_rfl) (by kernel_rfl) (fun _ _ _ h => h) (Or.inl ⟨by rfl, ?hy111⟩) hHeld ?rest111
        case hy111 => (intro w' hSw; (try dsimp only at hSw); first | (go_simp; done) | (go_simp; with_reducible rfl))
        simp only [Act.put, pz0, pz1, pz2, pz3, pz4, pz5]
        refine wpAnyH_take (i := 4) (v := ?v112) rfl (by kernel_rfl) (by kernel_rfl) (by kernel_rfl) (fun _ _ _ h => h) (Or.inl ⟨by rfl, ?hy112⟩) hHeld ?rest112
        case hy112 => (intro w' hSw; (try dsimp only at hSw); first | (go_simp; done) | (go_simp; with_reducible rfl))
        simp only [Act.put, pz0, pz1, pz2, pz3, pz4, pz5]
        refine wpAnyH_take (i := 5) (v := ?v113) rfl (by kernel_rfl) (by kernel_rfl) (by kernel_rfl) (fun _ _ _ h => h) (Or.inl ⟨by rfl, ?hy113⟩) hHeld ?rest113
        case hy113 => (intro w' hSw; (try dsimp only at hSw); first | (go_simp; done) | (go_simp; with_reducible rfl))
        simp only [Act.put, pz0, pz1, pz2, pz3, pz4, pz5]
        refine wpAnyH_take (i := 6) (v := ?v114) rfl (by kernel_rfl) (by kernel_rfl) (by kernel_rfl) (fun _ _ _ h => h) (Or.inl ⟨by rfl, ?hy114⟩) hHeld ?rest114
        case hy114 => (intro w' hSw; (try dsimp only at hSw); first | (go_simp; done) | (go_simp; with_reducible rfl))
        simp only [Act.put, pz0, pz1, pz2, pz3, pz4, pz5]
        refine wpAnyH_take (i := 7) (v := ?v115) rfl (by kernel_rfl) (by kernel_rfl) (by kernel_rfl) (fun _ _ _ h => h) (Or.inl ⟨by rfl, ?hy115⟩) hHeld ?rest115
        case hy115 => (intro w' hSw; (try dsimp only at hSw); first | (go_simp; done) | (go_simp; with_reducible rfl))
        simp only [Act.put, pz0, pz1, pz2, pz3, pz4, pz5]
        refine wpAnyH_take (i := 8) (v := ?v116) rfl (by kernel_rfl) (by kernel_rfl) (by kernel_rfl) (fun _ _ _ h => h) (Or.inl ⟨by rfl, ?hy116⟩) hHeld ?rest116
        case hy116 => (intro w' hSw; (try dsimp only at hSw); first | (go_simp; done) | (go_simp; with_reducible rfl))
        simp only [Act.put, pz0, pz1, pz2, pz3, pz4, pz5]
        refine wpAnyH_take (i := 9) (v := ?v117) rfl (by kernel_rfl) (by kernel_rfl) (by kernel_rfl) (fun _ _ _ h => h) (Or.inl ⟨by rfl, ?hy117⟩) hHeld ?rest117
        case hy117 => (intro w' hSw; (try dsimp only at hSw); first | (go_simp; done) | (go_simp; with_reducible rfl))
        simp only [Act.put, pz0, pz1, pz2, pz3, pz4, pz5]
        refine wpAnyH_take (i := 10) (v := ?v118) rfl (by kernel_rfl) (by kernel_rfl) (by kernel_rfl) (fun _ _ _ h => h) (Or.inl ⟨by rfl, ?hy118⟩) hHeld ?rest118
        case hy118 => (intro w' hSw; (try dsimp only at hSw); first | (go_simp; done) | (go_simp; with_reducible rfl))
        simp only [Act.put, pz0, pz1, pz2, pz3, pz4, pz5]
        refine wpAnyH_take (i := 11) (v := ?v119) rfl (by kernel_rfl) (by kernel_rfl) (by kernel_rfl) (fun _ _ _ h => h) (Or.inl ⟨by rfl, ?hy119⟩) hHeld ?rest119
        case hy119 => (intro w' hSw; (try dsimp only at hSw); first | (go_simp; done) | (go_simp; with_reducible rfl))
        simp only [Act.put, pz0, pz1, pz2, pz3, pz4, pz5]
        refine wpAnyH_ready (rs := [12]) (by kernel_rfl) (by simp) ?_
        refine AllReadyH.cons rfl (fun K hK => ?_) AllReadyH.nil
        go_simp
        refine (specColAt _ k c1 _ _ _ _ _ (x.cols.take k) _ ok _ ((hsl.drew ClR.stays).take (m := k) (by omega)) (by omega)).mono ?_
        rintro e wb ⟨rfl, hqb⟩
        rw [HA.out]
        go_wp2_with fail
        refine hK.out _ _ ⟨below_keep hqb _ _ hHeld.1, below_keep hqb _ _ hHeld.2.1, below_keep hqb _ _ hHeld.2.2.1, below_keep hqb _ _ hHeld.2.2.2.1, below_keep hqb _ _ hHeld.2.2.2.2.1, below_keep hqb _ _ hHeld.2.2.2.2.2.1, below_keep hqb _ _ hHeld.2.2.2.2.2.2⟩ (fun hHeld => ?_)
        clear hK K
        (try simp only [Act.put, pz0, pz1, pz2, pz3, pz4, pz5])
        refine wpAnyH_take (i := 13) (v := ?v120) rfl (by kernel_rfl) (by kernel_rfl) (by kernel_rfl) (fun _ _ _ h => h) (Or.inl ⟨by rfl, ?hy120⟩) hHeld ?rest120
        case hy120 => (intro w' hSw; (try dsimp only at hSw); first | (go_simp; done) | (go_simp; with_reducible rfl))
        simp only [Act.put, pz0, pz1, pz2, pz3, pz4, pz5]
        refine wpAnyH_take (i := 14) (v := ?v121) rfl (by kernel_rfl) (by kernel_rfl) (by kernel_rfl) (fun _ _ _ h => h) (Or.inl ⟨by rfl, ?hy121⟩) hHeld ?rest121
        case hy121 => (intro w' hSw; (try dsimp only at hSw); first | (go_simp; done) | (go_simp; with_reducible rfl))
        simp only [Act.put, pz0, pz1, pz2, pz3, pz4, pz5]
        refine wpAnyH_take (i := 15) (v := ?v122) rfl (by kernel_rfl) (by kernel_rfl) (by kernel_rfl) (fun _ _ _ h => h) (Or.inl ⟨by rfl, ?hy122⟩) hHeld ?rest122
        case hy122 => (intro w' hSw; (try dsimp only at hSw); first | (go_simp; done) | (go_simp; with_reducible rfl))
        simp only [Act.put, pz0, pz1, pz2, pz3, pz4, pz5]
        refine wpAnyH_take (i := 16) (v := ?v123) rfl (by kernel_rfl) (by kernel_rfl) (by kernel_rfl) (fun _ _ _ h => h) (Or.inl ⟨by rfl, ?hy123⟩) hHeld ?rest123
        case hy123 => (intro w' hSw; (try dsimp only at hSw); first | (go_simp; done) | (go_simp; with_reducible rfl))
        simp only [Act.put, pz0, pz1, pz2, pz3, pz4, pz5]
        refine wpAnyH_take (i := 17) (v := ?v124) rfl (by kernel_rfl) (by kernel_rfl) (by kernel_rfl) (fun _ _ _ h => h) (Or.inl ⟨by rfl, ?hy124⟩) hHeld ?rest124
        case hy124 => (intro w' hSw; (try dsimp only at hSw); first | (go_simp; done) | (go_simp; with_reducible rfl))
        simp only [Act.put, pz0, pz1, pz2, pz3, pz4, pz5]
        refine wpAnyH_ready (rs := [18]) (by kernel_rfl) (by simp) ?_
        refine AllReadyH.cons rfl (fun K hK => ?_) AllReadyH.nil
        go_simp
        refine (specIn _ _ _ _).mono ?_
        rintro e wc ⟨rfl, rfl⟩
        rw [HKD.out]
        go_wp2_with fail
        refine hK.out _ _ hHeld (fun hHeld => ?_)
        clear hK K
        (try simp only [Act.put, pz0, pz1, pz2, pz3, pz4, pz5])
        refine wpAnyH_take (i := 19) (v := ?v125) rfl (by kernel_rfl) (by kernel_rfl) (by kernel_rfl) (fun _ _ _ h => h) (Or.inl ⟨by rfl, ?hy125⟩) hHeld ?rest125
        case hy125 => (intro w' hSw; (try dsimp only at hSw); first | (go_simp; done) | (go_simp; with_reducible rfl))
        simp only [Act.put, pz0, pz1, pz2, pz3, pz4, pz5]
        refine wpAnyH_take (i := 20) (v := ?v126) rfl (by kernel_rfl) (by kernel_rfl) (by kernel_rfl) (fun _ _ _ h => h) (Or.inl ⟨by rfl, ?hy126⟩) hHeld ?rest126
        case hy126 => (intro w' hSw; (try dsimp only at hSw); first | (go_simp; done) | (go_simp; with_reducible rfl))
        simp only [Act.put, pz0, pz1, pz2, pz3, pz4, pz5]
        refine wpAnyH_take (i := 21) (v := ?v127) rfl (by kernel_rfl) (by kernel_rfl) (by kernel_rfl) (fun _ _ _ h => h) (Or.inl ⟨by rfl, ?hy127⟩) hHeld ?rest127
        case hy127 => (intro w' hSw; (try dsimp only at hSw); first | (go_simp; done) | (go_simp; with_reducible rfl))
        simp only [Act.put, pz0, pz1, pz2, pz3, pz4, pz5]
        refine wpAnyH_take (i := 22) (v := ?v128) rfl (by kernel_rfl) (by kernel_rfl) (by kernel_rfl) (fun _ _ _ h => h) (Or.inl ⟨by rfl, ?hy128⟩) hHeld ?rest128
        case hy128 => (intro w' hSw; (try dsimp only at hSw); first | (go_simp; done) | (go_simp; with_reducible rfl))
        simp only [Act.put, pz0, pz1, pz2, pz3, pz4, pz5]
        refine wpAnyH_take (i := 23) (v := ?v129) rfl (by kernel_rfl) (by kernel_rfl) (by kernel_rfl) (fun _ _ _ h => h) (Or.inl ⟨by rfl, ?hy129⟩) hHeld ?rest129
        case hy129 => (intro w' hSw; (try dsimp only at hSw); first | (go_simp; done) | (go_simp; with_reducible rfl))
        simp only [Act.put, pz0, pz1, pz2, pz3, pz4, pz5]
        refine wpAnyH_ready (rs := [24]) (by kernel_rfl) (by simp) ?_
        refine AllReadyH.cons rfl (fun K hK => ?_) AllReadyH.nil
        go_simp
        refine (specValOk _ _ _ _).mono ?_
        rintro e wd ⟨rfl, hqd⟩
        rw [HV.out]
        go_wp2_with fail
        refine hK.out _ _ ⟨below_keep hqd _ _ hHeld.1, below_keep hqd _ _ hHeld.2.1, below_keep hqd _ _ hHeld.2.2.1, below_keep hqd _ _ hHeld.2.2.2.1, below_keep hqd _ _ hHeld.2.2.2.2.1, below_keep hqd _ _ hHeld.2.2.2.2.2.1, below_keep hqd _ _ hHeld.2.2.2.2.2.2⟩ (fun hHeld => ?_)
        clear hK K
        (try simp only [Act.put, pz0, pz1, pz2, pz3, pz4, pz5])
        refine wpAnyH_take (i := 25) (v := ?v130) rfl (by kernel_rfl) (by kernel_rfl) (by kernel_rfl) (fun _ _ _ h => h) (Or.inl ⟨by rfl, ?hy130⟩) hHeld ?rest130
        case hy130 => (intro w' hSw; (try dsimp only at hSw); first | (go_simp; done) | (go_simp; with_reducible rfl))
        simp only [Act.put, pz0, pz1, pz2, pz3, pz4, pz5]
        refine wpAnyH_take (i := 26) (v := ?v131) rfl (by kernel_rfl) (by kernel_rfl) (by kernel_rfl) (fun _ _ _ h => h) (Or.inl ⟨by rfl, ?hy131⟩) hHeld ?rest131
        case hy131 => (intro w' hSw; (try dsimp only at hSw); first | (go_simp; done) | (go_simp; with_reducible rfl))
        simp only [Act.put, pz0, pz1, pz2, pz3, pz4, pz5]
        refine wpAnyH_take (i := 27) (v := ?v132) rfl (by kernel_rfl) (by kernel_rfl) (by kernel_rfl) (fun _ _ _ h => h) (Or.inl ⟨by rfl, ?hy132⟩) hHeld ?rest132
        case hy132 => (intro w' hSw; (try dsimp only at hSw); first | (go_simp; done) | (go_simp; with_reducible rfl))
        simp only [Act.put, pz0, pz1, pz2, pz3, pz4, pz5]
        refine wpAnyH_take (i := 28) (v := ?v133) rfl (by kernel_rfl) (by kernel_rfl) (by kernel_rfl) (fun _ _ _ h => h) (Or.inl ⟨by rfl, ?hy133⟩) hHeld ?rest133
        case hy133 => (intro w' hSw; (try dsimp only at hSw); first | (go_simp; done) | (go_simp; with_reducible rfl))
        simp only [Act.put, pz0, pz1, pz2, pz3, pz4, pz5]
        refine wpAnyH_take (i := 29) (v := ?v134) rfl (by kernel_rfl) (by kernel_rfl) (by kernel_rfl) (fun _ _ _ h => h) (Or.inl ⟨by rfl, ?hy134⟩) hHeld ?rest134
        case hy134 => (intro w' hSw; (try dsimp only at hSw); first | (go_simp; done) | (go_simp; with_reducible rfl))
        simp only [Act.put, pz0, pz1, pz2, pz3, pz4, pz5]
        refine wpAnyH_take (i := 30) (v := ?v135) rfl (by kernel_rfl) (by kernel_rfl) (by kernel_rfl) (fun _ _ _ h => h) (Or.inl ⟨by rfl, ?hy135⟩) hHeld ?rest135
        case hy135 => (intro w' hSw; (try dsimp only at hSw); first | (go_simp; done) | (go_simp; with_reducible rfl))
        simp only [Act.put, pz0, pz1, pz2, pz3, pz4, pz5]
        refine wpAnyH_take (i := 31) (v := ?v136) rfl (by kernel_rfl) (by kernel_rfl) (by kernel_rfl) (fun _ _ _ h => h) (Or.inl ⟨by rfl, ?hy136⟩) hHeld ?rest136
        case hy136 => (intro w' hSw; (try dsimp only at hSw); first | (go_simp; done) | (go_simp; with_reducible rfl))
        simp only [Act.put, pz0, pz1, pz2, pz3, pz4, pz5]
        refine wpAnyH_take (i := 32) (v := ?v137) rfl (by kernel_rfl) (by kernel_rfl) (by kernel_rfl) (fun _ _ _ h => h) (Or.inl ⟨by rfl, ?hy137⟩) hHeld ?rest137
        case hy137 => (intro w' hSw; (try dsimp only at hSw); first | (go_simp; done) | (go_simp; with_reducible rfl))
        simp only [Act.put, pz0, pz1, pz2, pz3, pz4, pz5]
        refine wpAnyH_take (i := 33) (v := ?v138) rfl (by kernel_rfl) (by kernel_rfl) (by kernel_rfl) (fun _ _ _ h => h) (Or.inl ⟨by rfl, ?hy138⟩) hHeld ?rest138
        case hy138 => (intro w' hSw; (try dsimp only at hSw); first | (go_simp; done) | (go_simp; with_reducible rfl))
        simp only [Act.put, pz0, pz1, pz2, pz3, pz4, pz5]
        refine wpAnyH_take (i := 34) (v := ?v139) rfl (by kernel_rfl) (by kernel_rfl) (by kernel_rfl) (fun _ _ _ h => h) (Or.inl ⟨by rfl, ?hy139⟩) hHeld ?rest139
        case hy139 => (intro w' hSw; (try dsimp only at hSw); first | (go_simp; done) | (go_simp; with_reducible rfl))
        simp only [Act.put, pz0, pz1, pz2, pz3, pz4, pz5]
        refine wpAnyH_take (i := 35) (v := ?v140) rfl (by kernel_rfl) (by kernel_rfl) (by kernel_rfl) (fun _ _ _ h => h) (Or.inl ⟨by rfl, ?hy140⟩) hHeld ?rest140
        case hy140 => (intro w' hSw; (try dsimp only at hSw); first | (go_simp; done) | (go_simp; with_reducible rfl))
        simp only [Act.put, pz0, pz1, pz2, pz3, pz4, pz5]
        refine wpAnyH_take (i := 36) (v := ?v141) rfl (by kernel_rfl) (by kernel_rfl) (by kernel_rfl) (fun _ _ _ h => h) (Or.inl ⟨by rfl, ?hy141⟩) hHeld ?rest141
        case hy141 => (intro w' hSw; (try dsimp only at hSw); first | (go_simp; done) | (go_simp; with_reducible rfl))
        simp only [Act.put, pz0, pz1, pz2, pz3, pz4, pz5]
        refine wpAnyH_take (i := 37) (v := ?v142) rfl (by kernel_rfl) (by kernel_rfl) (by kernel_rfl) (fun _ _ _ h => h) (Or.inl ⟨by rfl, ?hy142⟩) hHeld ?rest142
        case hy142 => (intro w' hSw; (try dsimp only at hSw); first | (go_simp; done) | (go_simp; with_reducible rfl))
        simp only [Act.put, pz0, pz1, pz2, pz3, pz4, pz5]
        refine wpAnyH_take (i := 38) (v := ?v143) rfl (by kernel_rfl) (by kernel_rfl) (by kernel_rfl) (fun _ _ _ h => h) (Or.inl ⟨by rfl, ?hy143⟩) hHeld ?rest143
        case hy143 => (intro w' hSw; (try dsimp only at hSw); first | (go_simp; done) | (go_simp; with_reducible rfl))
        simp only [Act.put, pz0, pz1, pz2, pz3, pz4, pz5]
        refine wpAnyH_take (i := 39) (v := ?v144) rfl (by kernel_rfl) (by kernel_rfl) (by kernel_rfl) (fun _ _ _ h => h) (Or.inl ⟨by rfl, ?hy144⟩) hHeld ?rest144
        case hy144 => (intro w' hSw; (try dsimp only at hSw); first | (go_simp; done) | (go_simp; with_reducible rfl))
        simp only [Act.put, pz0, pz1, pz2, pz3, pz4, pz5]
        refine wpAnyH_take (i := 40) (v := ?v145) rfl (by kernel_rfl) (by kernel_rfl) (by kernel_rfl) (fun _ _ _ h => h) (Or.inl ⟨by rfl, ?hy145⟩) hHeld ?rest145
        case hy145 => (intro w' hSw; (try dsimp only at hSw); first | (go_simp; done) | (go_simp; with_reducible rfl))
        simp only [Act.put, pz0, pz1, pz2, pz3, pz4, pz5]
        refine wpAnyH_done (by kernel_rfl) ?_ _
        refine NoPanic.normal ?_
        have hz0 := hba.drew
        have rz0 := hr1.drew
        have hz1 := hz0.trans (hqb.mono hz0.size)
        have rz1 := rz0.below hqb
        have hz2 := hz1.trans (hqd.mono hz1.size)
        have rz2 := rz1.below hqd
        clear hHeld k0 k1 k2 k3 k4 k5 t0 t1 t2 t3 t4 t5
        go_wp2_with fail
        go_roundw
        case rel => exact ⟨k + 1, by omega, by go_num, HCA, HUQ, rz2, hz2⟩
        case measure => simp [intOf]; omega
      · skip
        have HF := Lib.hid (HNO.out (by unfold colB fitsB; rw [e0, show (cl.d.k == cl.kind) = false by simpa using hdk]; simp))
        have e2 : (cl.d.k == cl.kind) = false := by simpa using hdk
        have e3 : (cl.d.k != cl.kind) = true := by simpa using hdk
        clear hkd hn hv hd0 hdk
        go_wp2_with fail
        generalize wr.alloc (.cells #[.string cl.name, .int .i64 cl.kind, .bool cl.nn, .int .i64 cl.d.k, .int .i64 cl.d.n, .string cl.d.s] 74) = x1 at *
        obtain ⟨⟨k0, k1, k2, k3, k4, k5⟩, -⟩ := rk.all6
        obtain ⟨⟨t0, t1, t2, t3, t4, t5⟩, -⟩ := hr1.all6
        refine wp_region_noPanic ?_
        refine wp_region_held_drew (S := fun w' => w'.cell? ⟨wr.heap.size, 0, none⟩ = some (.string cl.name) ∧ w'.cell? ⟨wr.heap.size, 1, none⟩ = some (.int .i64 cl.kind) ∧ w'.cell? ⟨wr.heap.size, 2, none⟩ = some (.bool cl.nn) ∧ w'.cell? ⟨wr.heap.size, 3, none⟩ = some (.int .i64 cl.d.k) ∧ w'.cell? ⟨wr.heap.size, 4, none⟩ = some (.int .i64 cl.d.n) ∧ w'.cell? ⟨wr.heap.size, 5, none⟩ = some (.string cl.d.s) ∧ w'.cell? ⟨w.heap.size, 1, none⟩ = some (.slice (some ⟨b, off, none⟩) x.cols.length c1)) (by kernel_rfl) ⟨k0, k1, k2, k3, k4, k5, t1⟩ (fun hHeld => ?_)
        refine wpAnyH_take (i := 0) (v := ?v146) rfl (by kernel_rfl) (by kernel_rfl) (by kernel_rfl) (fun _ _ _ h => h) (Or.inl ⟨by rfl, ?hy146⟩) hHeld ?rest146
        case hy146 => (intro w' hSw; (try dsimp only at hSw); first | (go_simp; done) | (go_simp; with_reducible rfl))
        simp only [Act.put, pz0, pz1, pz2, pz3, pz4, pz5]
        refine wpAnyH_take (i := 1) (v := ?v147) rfl (by kernel_rfl) (by kernel_rfl) (by kernel_rfl) (fun _ _ _ h => h) (Or.inl ⟨by rfl, ?hy147⟩) hHeld ?rest147
        case hy147 => (intro w' hSw; (try dsimp only at hSw); first | (go_simp; done) | (go_simp; with_reducible rfl))
        simp only [Act.put, pz0, pz1, pz2, pz3, pz4, pz5]
        refine wpAnyH_ready (rs := [2]) (by kernel_rfl) (by simp) ?_
        refine AllReadyH.cons rfl (fun K hK => ?_) AllReadyH.nil
        go_simp
        refine (specName _ _ HZ.out).mono ?_
        rintro e wa ⟨rfl, rfl⟩
        rw [HN.out]
        go_wp2_with fail
        refine hK.out _ _ hHeld (fun hHeld => ?_)
        clear hK K
        (try simp only [Act.put, pz0, pz1, pz2, pz3, pz4, pz5])
        refine wpAnyH_take (i := 3) (v := ?v148) rfl (by kernel_rfl) (by kernel_rfl) (by kernel_rfl) (fun _ _ _ h => h) (Or.inl ⟨by rfl, ?hy148⟩) hHeld ?rest148
        case hy148 => (intro w' hSw; (try dsimp only at hSw); first | (go_simp; done) | (go_simp; with_reducible rfl))
        simp only [Act.put, pz0, pz1, pz2, pz3, pz4, pz5]
        refine wpAnyH_take (i := 4) (v := ?v149) rfl (by kernel_rfl) (by kernel_rfl) (by kernel_rfl) (fun _ _ _ h => h) (Or.inl ⟨by rfl, ?hy149⟩) hHeld ?rest149
        case hy149 => (intro w' hSw; (try dsimp only at hSw); first | (go_simp; done) | (go_simp; with_reducible rfl))
        simp only [Act.put, pz0, pz1, pz2, pz3, pz4, pz5]
        refine wpAnyH_take (i := 5) (v := ?v150) rfl (by kernel_rfl) (by kernel_rfl) (by kernel_rfl) (fun _ _ _ h => h) (Or.inl ⟨by rfl, ?hy150⟩) hHeld ?rest150
        case hy150 => (intro w' hSw; (try dsimp only at hSw); first | (go_simp; done) | (go_simp; with_reducible rfl))
        simp only [Act.put, pz0, pz1, pz2, pz3, pz4, pz5]
        refine wpAnyH_take (i := 6) (v := ?v151) rfl (by kernel_rfl) (by kernel_rfl) (by kernel_rfl) (fun _ _ _ h => h) (Or.inl ⟨by rfl, ?hy151⟩) hHeld ?rest151
        case hy151 => (intro w' hSw; (try dsimp only at hSw); first | (go_simp; done) | (go_simp; with_reducible rfl))
        simp only [Act.put, pz0, pz1, pz2, pz3, pz4, pz5]
        refine wpAnyH_take (i := 7) (v := ?v152) rfl (by kernel_rfl) (by kernel_rfl) (by kernel_rfl) (fun _ _ _ h => h) (Or.inl ⟨by rfl, ?hy152⟩) hHeld ?rest152
        case hy152 => (intro w' hSw; (try dsimp only at hSw); first | (go_simp; done) | (go_simp; with_reducible rfl))
        simp only [Act.put, pz0, pz1, pz2, pz3, pz4, pz5]
        refine wpAnyH_take (i := 8) (v := ?v153) rfl (by kernel_rfl) (by kernel_rfl) (by kernel_rfl) (fun _ _ _ h => h) (Or.inl ⟨by rfl, ?hy153⟩) hHeld ?rest153
        case hy153 => (intro w' hSw; (try dsimp only at hSw); first | (go_simp; done) | (go_simp; with_reducible rfl))
        simp only [Act.put, pz0, pz1, pz2, pz3, pz4, pz5]
        refine wpAnyH_take (i := 9) (v := ?v154) rfl (by kernel_rfl) (by kernel_rfl) (by kernel_rfl) (fun _ _ _ h => h) (Or.inl ⟨by rfl, ?hy154⟩) hHeld ?rest154
        case hy154 => (intro w' hSw; (try dsimp only at hSw); first | (go_simp; done) | (go_simp; with_reducible rfl))
        simp only [Act.put, pz0, pz1, pz2, pz3, pz4, pz5]
        refine wpAnyH_take (i := 10) (v := ?v155) rfl (by kernel_rfl) (by kernel_rfl) (by kernel_rfl) (fun _ _ _ h => h) (Or.inl ⟨by rfl, ?hy155⟩) hHeld ?rest155
        case hy155 => (intro w' hSw; (try dsimp only at hSw); first | (go_simp; done) | (go_simp; with_reducible rfl))
        simp only [Act.put, pz0, pz1, pz2, pz3, pz4, pz5]
        refine wpAnyH_take (i := 11) (v := ?v156) rfl (by kernel_rfl) (by kernel_rfl) (by kernel_rfl) (fun _ _ _ h => h) (Or.inl ⟨by rfl, ?hy156⟩) hHeld ?rest156
        case hy156 => (intro w' hSw; (try dsimp only at hSw); first | (go_simp; done) | (go_simp; with_reducible rfl))
        simp only [Act.put, pz0, pz1, pz2, pz3, pz4, pz5]
        refine wpAnyH_ready (rs := [12]) (by kernel_rfl) (by simp) ?_
        refine AllReadyH.cons rfl (fun K hK => ?_) AllReadyH.nil
        go_simp
        refine (specColAt _ k c1 _ _ _ _ _ (x.cols.take k) _ ok _ ((hsl.drew ClR.stays).take (m := k) (by omega)) (by omega)).mono ?_
        rintro e wb ⟨rfl, hqb⟩
        rw [HA.out]
        go_wp2_with fail
        refine hK.out _ _ ⟨below_keep hqb _ _ hHeld.1, below_keep hqb _ _ hHeld.2.1, below_keep hqb _ _ hHeld.2.2.1, below_keep hqb _ _ hHeld.2.2.2.1, below_keep hqb _ _ hHeld.2.2.2.2.1, below_keep hqb _ _ hHeld.2.2.2.2.2.1, below_keep hqb _ _ hHeld.2.2.2.2.2.2⟩ (fun hHeld => ?_)
        clear hK K
        (try simp only [Act.put, pz0, pz1, pz2, pz3, pz4, pz5])
        refine wpAnyH_take (i := 13) (v := ?v157) rfl (by kernel_rfl) (by kernel_rfl) (by kernel_rfl) (fun _ _ _ h => h) (Or.inl ⟨by rfl, ?hy157⟩) hHeld ?rest157
        case hy157 => (intro w' hSw; (try dsimp only at hSw); first | (go_simp; done) | (go_simp; with_reducible rfl))
        simp only [Act.put, pz0, pz1, pz2, pz3, pz4, pz5]
        refine wpAnyH_take (i := 14) (v := ?v158) rfl (by kernel_rfl) (by kernel_rfl) (by kernel_rfl) (fun _ _ _ h => h) (Or.inl ⟨by rfl, ?hy158⟩) hHeld ?rest158
        case hy158 => (intro w' hSw; (try dsimp only at hSw); first | (go_simp; done) | (go_simp; with_reducible rfl))
        simp only [Act.put, pz0, pz1, pz2, pz3, pz4, pz5]
        refine wpAnyH_take (i := 15) (v := ?v159) rfl (by kernel_rfl) (by kernel_rfl) (by kernel_rfl) (fun _ _ _ h => h) (Or.inl ⟨by rfl, ?hy159⟩) hHeld ?rest159
        case hy159 => (intro w' hSw; (try dsimp only at hSw); first | (go_simp; done) | (go_simp; with_reducible rfl))
        simp only [Act.put, pz0, pz1, pz2, pz3, pz4, pz5]
        refine wpAnyH_take (i := 16) (v := ?v160) rfl (by kernel_rfl) (by kernel_rfl) (by kernel_rfl) (fun _ _ _ h => h) (Or.inl ⟨by rfl, ?hy160⟩) hHeld ?rest160
        case hy160 => (intro w' hSw; (try dsimp only at hSw); first | (go_simp; done) | (go_simp; with_reducible rfl))
        simp only [Act.put, pz0, pz1, pz2, pz3, pz4, pz5]
        refine wpAnyH_take (i := 17) (v := ?v161) rfl (by kernel_rfl) (by kernel_rfl) (by kernel_rfl) (fun _ _ _ h => h) (Or.inl ⟨by rfl, ?hy161⟩) hHeld ?rest161
        case hy161 => (intro w' hSw; (try dsimp only at hSw); first | (go_simp; done) | (go_simp; with_reducible rfl))
        simp only [Act.put, pz0, pz1, pz2, pz3, pz4, pz5]
        refine wpAnyH_ready (rs := [18]) (by kernel_rfl) (by simp) ?_
        refine AllReadyH.cons rfl (fun K hK => ?_) AllReadyH.nil
        go_simp
        refine (specIn _ _ _ _).mono ?_
        rintro e wc ⟨rfl, rfl⟩
        rw [HKD.out]
        go_wp2_with fail
        refine hK.out _ _ hHeld (fun hHeld => ?_)
        clear hK K
        (try simp only [Act.put, pz0, pz1, pz2, pz3, pz4, pz5])
        refine wpAnyH_take (i := 19) (v := ?v162) rfl (by kernel_rfl) (by kernel_rfl) (by kernel_rfl) (fun _ _ _ h => h) (Or.inl ⟨by rfl, ?hy162⟩) hHeld ?rest162
        case hy162 => (intro w' hSw; (try dsimp only at hSw); first | (go_simp; done) | (go_simp; with_reducible rfl))
        simp only [Act.put, pz0, pz1, pz2, pz3, pz4, pz5]
        refine wpAnyH_take (i := 20) (v := ?v163) rfl (by kernel_rfl) (by kernel_rfl) (by kernel_rfl) (fun _ _ _ h => h) (Or.inl ⟨by rfl, ?hy163⟩) hHeld ?rest163
        case hy163 => (intro w' hSw; (try dsimp only at hSw); first | (go_simp; done) | (go_simp; with_reducible rfl))
        simp only [Act.put, pz0, pz1, pz2, pz3, pz4, pz5]
        refine wpAnyH_take (i := 21) (v := ?v164) rfl (by kernel_rfl) (by kernel_rfl) (by kernel_rfl) (fun _ _ _ h => h) (Or.inl ⟨by rfl, ?hy164⟩) hHeld ?rest164
        case hy164 => (intro w' hSw; (try dsimp only at hSw); first | (go_simp; done) | (go_simp; with_reducible rfl))
        simp only [Act.put, pz0, pz1, pz2, pz3, pz4, pz5]
        refine wpAnyH_take (i := 22) (v := ?v165) rfl (by kernel_rfl) (by kernel_rfl) (by kernel_rfl) (fun _ _ _ h => h) (Or.inl ⟨by rfl, ?hy165⟩) hHeld ?rest165
        case hy165 => (intro w' hSw; (try dsimp only at hSw); first | (go_simp; done) | (go_simp; with_reducible rfl))
        simp only [Act.put, pz0, pz1, pz2, pz3, pz4, pz5]
        refine wpAnyH_take (i := 23) (v := ?v166) rfl (by kernel_rfl) (by kernel_rfl) (by kernel_rfl) (fun _ _ _ h => h) (Or.inl ⟨by rfl, ?hy166⟩) hHeld ?rest166
        case hy166 => (intro w' hSw; (try dsimp only at hSw); first | (go_simp; done) | (go_simp; with_reducible rfl))
        simp only [Act.put, pz0, pz1, pz2, pz3, pz4, pz5]
        refine wpAnyH_ready (rs := [24]) (by kernel_rfl) (by simp) ?_
        refine AllReadyH.cons rfl (fun K hK => ?_) AllReadyH.nil
        go_simp
        refine (specValOk _ _ _ _).mono ?_
        rintro e wd ⟨rfl, hqd⟩
        rw [HV.out]
        go_wp2_with fail
        refine hK.out _ _ ⟨below_keep hqd _ _ hHeld.1, below_keep hqd _ _ hHeld.2.1, below_keep hqd _ _ hHeld.2.2.1, below_keep hqd _ _ hHeld.2.2.2.1, below_keep hqd _ _ hHeld.2.2.2.2.1, below_keep hqd _ _ hHeld.2.2.2.2.2.1, below_keep hqd _ _ hHeld.2.2.2.2.2.2⟩ (fun hHeld => ?_)
        clear hK K
        (try simp only [Act.put, pz0, pz1, pz2, pz3, pz4, pz5])
        refine wpAnyH_take (i := 25) (v := ?v167) rfl (by kernel_rfl) (by kernel_rfl) (by kernel_rfl) (fun _ _ _ h => h) (Or.inl ⟨by rfl, ?hy167⟩) hHeld ?rest167
        case hy167 => (intro w' hSw; (try dsimp only at hSw); first | (go_simp; done) | (go_simp; with_reducible rfl))
        simp only [Act.put, pz0, pz1, pz2, pz3, pz4, pz5]
        refine wpAnyH_take (i := 26) (v := ?v168) rfl (by kernel_rfl) (by kernel_rfl) (by kernel_rfl) (fun _ _ _ h => h) (Or.inl ⟨by rfl, ?hy168⟩) hHeld ?rest168
        case hy168 => (intro w' hSw; (try dsimp only at hSw); first | (go_simp; done) | (go_simp; with_reducible rfl))
        simp only [Act.put, pz0, pz1, pz2, pz3, pz4, pz5]
        refine wpAnyH_take (i := 27) (v := ?v169) rfl (by kernel_rfl) (by kernel_rfl) (by kernel_rfl) (fun _ _ _ h => h) (Or.inl ⟨by rfl, ?hy169⟩) hHeld ?rest169
        case hy169 => (intro w' hSw; (try dsimp only at hSw); first | (go_simp; done) | (go_simp; with_reducible rfl))
        simp only [Act.put, pz0, pz1, pz2, pz3, pz4, pz5]
        refine wpAnyH_take (i := 28) (v := ?v170) rfl (by kernel_rfl) (by kernel_rfl) (by kernel_rfl) (fun _ _ _ h => h) (Or.inl ⟨by rfl, ?hy170⟩) hHeld ?rest170
        case hy170 => (intro w' hSw; (try dsimp only at hSw); first | (go_simp; done) | (go_simp; with_reducible rfl))
        simp only [Act.put, pz0, pz1, pz2, pz3, pz4, pz5]
        refine wpAnyH_take (i := 29) (v := ?v171) rfl (by kernel_rfl) (by kernel_rfl) (by kernel_rfl) (fun _ _ _ h => h) (Or.inl ⟨by rfl, ?hy171⟩) hHeld ?rest171
        case hy171 => (intro w' hSw; (try dsimp only at hSw); first | (go_simp; done) | (go_simp; with_reducible rfl))
        simp only [Act.put, pz0, pz1, pz2, pz3, pz4, pz5]
        refine wpAnyH_take (i := 30) (v := ?v172) rfl (by kernel_rfl) (by kernel_rfl) (by kernel_rfl) (fun _ _ _ h => h) (Or.inl ⟨by rfl, ?hy172⟩) hHeld ?rest172
        case hy172 => (intro w' hSw; (try dsimp only at hSw); first | (go_simp; done) | (go_simp; with_reducible rfl))
        simp only [Act.put, pz0, pz1, pz2, pz3, pz4, pz5]
        refine wpAnyH_take (i := 31) (v := ?v173) rfl (by kernel_rfl) (by kernel_rfl) (by kernel_rfl) (fun _ _ _ h => h) (Or.inl ⟨by rfl, ?hy173⟩) hHeld ?rest173
        case hy173 => (intro w' hSw; (try dsimp only at hSw); first | (go_simp; done) | (go_simp; with_reducible rfl))
        simp only [Act.put, pz0, pz1, pz2, pz3, pz4, pz5]
        refine wpAnyH_take (i := 32) (v := ?v174) rfl (by kernel_rfl) (by kernel_rfl) (by kernel_rfl) (fun _ _ _ h => h) (Or.inl ⟨by rfl, ?hy174⟩) hHeld ?rest174
        case hy174 => (intro w' hSw; (try dsimp only at hSw); first | (go_simp; done) | (go_simp; with_reducible rfl))
        simp only [Act.put, pz0, pz1, pz2, pz3, pz4, pz5]
        refine wpAnyH_take (i := 33) (v := ?v175) rfl (by kernel_rfl) (by kernel_rfl) (by kernel_rfl) (fun _ _ _ h => h) (Or.inl ⟨by rfl, ?hy175⟩) hHeld ?rest175
        case hy175 => (intro w' hSw; (try dsimp only at hSw); first | (go_simp; done) | (go_simp; with_reducible rfl))
        simp only [Act.put, pz0, pz1, pz2, pz3, pz4, pz5]
        refine wpAnyH_take (i := 34) (v := ?v176) rfl (by kernel_rfl) (by kernel_rfl) (by kernel_rfl) (fun _ _ _ h => h) (Or.inl ⟨by rfl, ?hy176⟩) hHeld ?rest176
        case hy176 => (intro w' hSw; (try dsimp only at hSw); first | (go_simp; done) | (go_simp; with_reducible rfl))
        simp only [Act.put, pz0, pz1, pz2, pz3, pz4, pz5]
        refine wpAnyH_take (i := 35) (v := ?v177) rfl (by kernel_rfl) (by kernel_rfl) (by kernel_rfl) (fun _ _ _ h => h) (Or.inl ⟨by rfl, ?hy177⟩) hHeld ?rest177
        case hy177 => (intro w' hSw; (try dsimp only at hSw); first | (go_simp; done) | (go_simp; with_reducible rfl))
        simp only [Act.put, pz0, pz1, pz2, pz3, pz4, pz5]
        refine wpAnyH_take (i := 36) (v := ?v178) rfl (by kernel_rfl) (by kernel_rfl) (by kernel_rfl) (fun _ _ _ h => h) (Or.inl ⟨by rfl, ?hy178⟩) hHeld ?rest178
        case hy178 => (intro w' hSw; (try dsimp only at hSw); first | (go_simp; done) | (go_simp; with_reducible rfl))
        simp only [Act.put, pz0, pz1, pz2, pz3, pz4, pz5]
        refine wpAnyH_take (i := 37) (v := ?v179) rfl (by kernel_rfl) (by kernel_rfl) (by kernel_rfl) (fun _ _ _ h => h) (Or.inl ⟨by rfl, ?hy179⟩) hHeld ?rest179
        case hy179 => (intro w' hSw; (try dsimp only at hSw); first | (go_simp; done) | (go_simp; with_reducible rfl))
        simp only [Act.put, pz0, pz1, pz2, pz3, pz4, pz5]
        refine wpAnyH_take (i := 38) (v := ?v180) rfl (by kernel_rfl) (by kernel_rfl) (by kernel_rfl) (fun _ _ _ h => h) (Or.inl ⟨by rfl, ?hy180⟩) hHeld ?rest180
        case hy180 => (intro w' hSw; (try dsimp only at hSw); first | (go_simp; done) | (go_simp; with_reducible rfl))
        simp only [Act.put, pz0, pz1, pz2, pz3, pz4, pz5]
        refine wpAnyH_take (i := 39) (v := ?v181) rfl (by kernel_rfl) (by kernel_rfl) (by kernel_rfl) (fun _ _ _ h => h) (Or.inl ⟨by rfl, ?hy181⟩) hHeld ?rest181
        case hy181 => (intro w' hSw; (try dsimp only at hSw); first | (go_simp; done) | (go_simp; with_reducible rfl))
        simp only [Act.put, pz0, pz1, pz2, pz3, pz4, pz5]
        refine wpAnyH_take (i := 40) (v := ?v182) rfl (by kernel_rfl) (by kernel_rfl) (by kernel_rfl) (fun _ _ _ h => h) (Or.inl ⟨by rfl, ?hy182⟩) hHeld ?rest182
        case hy182 => (intro w' hSw; (try dsimp only at hSw); first | (go_simp; done) | (go_simp; with_reducible rfl))
        simp only [Act.put, pz0, pz1, pz2, pz3, pz4, pz5]
        refine wpAnyH_done (by kernel_rfl) ?_ _
        refine NoPanic.normal ?_
        have hz0 := hba.drew
        have rz0 := hr1.drew
        have hz1 := hz0.trans (hqb.mono hz0.size)
        have rz1 := rz0.below hqb
        have hz2 := hz1.trans (hqd.mono hz1.size)
        have rz2 := rz1.below hqd
        clear hHeld k0 k1 k2 k3 k4 k5 t0 t1 t2 t3 t4 t5
        go_wp2_with fail
        go_ret
        exact ⟨retB HF.out.symm, hz2⟩
    · have e : x.cols.take k = x.cols := List.take_of_length_le (by omega)
      have e2 : (x.cols.map Cl.name).drop k = [] := List.drop_eq_nil_of_le (by simp; omega)
      have g1 := hall.out
      have g2 := huq.out
      rw [e] at g1
      rw [e2] at g2
      have HC := Lib.hid (show colsB x.cols = true by
        unfold colsB; rw [g1, g2]
        have := H8.out
        simp at this
        simp [uniqGo]; omega)
      clear e e2 g1 g2 hall huq a0 a1 a2 a3 a4 a5
      obtain ⟨⟨a0, a1, a2, a3, a4, a5⟩, -⟩ := hr.all6
      go_wp2_with fail
      clear a0 a1 a2 a3 a4 a5
      go_loopw [6] (fun i wr => ∃ k : Nat, k ≤ x.key.length ∧ i = .int .i64 k ∧ Hid ((x.key.take k).all (nnAt x.cols) = true) ∧ Row wr w.heap.size 61 #[.string x.name, .slice A1 x.cols.length c1, .slice A2 x.key.length c2, .slice A3 x.uniqs.length c3, .slice A4 x.checks.length c4, .slice A5 x.fks.length c5] ∧ Below w.heap.size w wr) (fun i _ => x.key.length - (intOf i).toNat)
      case atStart => exact ⟨0, by omega, rfl, Lib.hid (by simp), hr, hb⟩
      case round =>
        clear hr hb hlt
        obtain ⟨k, hk, rfl, hall, hr, hb⟩ := hrel
        obtain ⟨⟨a0, a1, a2, a3, a4, a5⟩, -⟩ := hr.all6
        by_cases hlt : k < x.key.length
        · obtain ⟨bk, offk, -, ek, q0⟩ := IntR.at_ (h2.below IntR.stays hb) hlt
          rw [ek] at a2
          have hin := HIN.out _ (List.getElem_mem hlt)
          have hsn := all_take (nnAt x.cols) x.key k hlt
          rw [hall.out, Bool.true_and] at hsn
          have hno := fun hf => all_no (nnAt x.cols) x.key k hlt hf
          obtain ⟨j, hj⟩ : ∃ j : Nat, x.key[k] = (j : Int) := ⟨x.key[k].toNat, by omega⟩
          rw [hj] at q0 hsn hno hin
          have hjl : j < x.cols.length := by omega
          obtain ⟨bc, offc, -, ec, p0, p1, p2, p3, p4, p5⟩ := ClR.at_ (h1.below ClR.stays hb) hjl
          rw [ec] at a1
          have hnn : nnAt x.cols j = x.cols[j].nn := by unfold nnAt; simp [List.getElem?_eq_getElem hjl]
          have i0 : (0 : Int) ≤ j := by omega
          have i1 : (j : Int) < x.cols.length := by omega
          have i2 : (0 : Int) ≤ k := by omega
          have i3 : (k : Int) < x.key.length := by omega
          cases hnb : x.cols[j].nn
          · rw [hnb] at p2
            have HF := Lib.hid (show tableB x = false by unfold tableB keyB; rw [hno (hnn.trans hnb)]; simp)
            clear hsn hno hnn hnb hj hall ek ec
            go_wp2_with fail
            go_quiet (fail)
            go_wp2_with fail
            go_ret
            exact ⟨retB HF.out.symm, below_drewN hb _⟩
          · rw [hnb] at p2
            have HA := Lib.hid (hsn.trans (hnn.trans hnb))
            clear hsn hno hnn hnb hj hall ek ec
            go_wp2_with fail
            go_quiet (fail)
            go_wp2_with fail
            go_roundw
            case rel => exact ⟨k + 1, by omega, by go_num, HA, hr.drewN _, below_drewN hb _⟩
            case measure => simp [intOf]; omega
        · have e : x.key.take k = x.key := List.take_of_length_le (by omega)
          have g1 := hall.out
          rw [e] at g1
          have HKB := Lib.hid (show keyB x.cols x.key = true by unfold keyB; rw [g1, HK.out]; rfl)
          clear e g1 hall
          go_wp2_with fail
          clear a0 a1 a2 a3 a4 a5
          go_loopw [7] (fun i wr => ∃ k : Nat, k ≤ x.uniqs.length ∧ i = .int .i64 k ∧ Hid ((x.uniqs.take k).all (fun u : Uq => colsInB u.cols x.cols.length) = true) ∧ Row wr w.heap.size 61 #[.string x.name, .slice A1 x.cols.length c1, .slice A2 x.key.length c2, .slice A3 x.uniqs.length c3, .slice A4 x.checks.length c4, .slice A5 x.fks.length c5] ∧ Below w.heap.size w wr) (fun i _ => x.uniqs.length - (intOf i).toNat)
          case atStart => exact ⟨0, by omega, rfl, Lib.hid (by simp), hr, hb⟩
          case round =>
            clear hr hb hlt
            obtain ⟨k, hk, rfl, hall, hr, hb⟩ := hrel
            obtain ⟨⟨a0, a1, a2, a3, a4, a5⟩, -⟩ := hr.all6
            by_cases hlt : k < x.uniqs.length
            · obtain ⟨b, off, A9, n9, c9, -, ea, q0, s0, hcp9⟩ := UqR.at_ (h3.below UqR.stays hb) hlt
              rw [ea] at a3
              obtain rfl : x.uniqs[k].cols.length = n9 := s0.1
              have hsn := all_take (fun u : Uq => colsInB u.cols x.cols.length) x.uniqs k hlt
              rw [hall.out, Bool.true_and] at hsn
              have hno := fun hf => all_no (fun u : Uq => colsInB u.cols x.cols.length) x.uniqs k hlt hf
              have hk9 : x.uniqs[k].cols.length ≤ 1048576 := by have := HS3.out; have := sum_mem_le Uq.sz x.uniqs k hlt; unfold szL at *; simp only [Uq.sz] at *; (try unfold szL at *); omega
              have i2 : (0 : Int) ≤ k := by omega
              have i3 : (k : Int) < x.uniqs.length := by omega
              cases hc : colsInB x.uniqs[k].cols x.cols.length
              · have HC9 := Lib.hid hc
                have HF := Lib.hid (show tableB x = false by unfold tableB uqsB; rw [hno hc]; simp)
                clear hsn hno hc hall ea
                go_wp2_with fail
                refine (specCols A9 x.uniqs[k].cols.length c9 x.uniqs[k].cols x.cols.length ok _ s0 hcp9 hk9 (by omega) (by omega)).mono ?_
                rintro e w1 ⟨rfl, hq⟩
                rw [HC9.out]
                go_wp2_with fail
                go_ret
                exact ⟨retB HF.out.symm, hb.trans (hq.mono hb.size)⟩
              · have HC9 := Lib.hid hc
                have HA := Lib.hid (hsn.trans hc)
                clear hsn hno hc hall ea
                go_wp2_with fail
                refine (specCols A9 x.uniqs[k].cols.length c9 x.uniqs[k].cols x.cols.length ok _ s0 hcp9 hk9 (by omega) (by omega)).mono ?_
                rintro e w1 ⟨rfl, hq⟩
                rw [HC9.out]
                go_wp2_with fail
                go_roundw
                case rel => exact ⟨k + 1, by omega, by go_num, HA, hr.below hq, hb.trans (hq.mono hb.size)⟩
                case measure => simp [intOf]; omega
            · have e : x.uniqs.take k = x.uniqs := List.take_of_length_le (by omega)
              have g1 := hall.out
              rw [e] at g1
              have HUB := Lib.hid (show uqsB x.cols x.uniqs = true by unfold uqsB; rw [g1, decide_eq_true (by omega)]; rfl)
              clear e g1 hall
              go_wp2_with fail
              clear a0 a1 a2 a3 a4 a5
              go_loopw [8] (fun i wr => ∃ k : Nat, k ≤ x.checks.length ∧ i = .int .i64 k ∧ Hid ((x.checks.take k).all (fun u : Ck => exprB u.expr x.cols.length) = true) ∧ Row wr w.heap.size 61 #[.string x.name, .slice A1 x.cols.length c1, .slice A2 x.key.length c2, .slice A3 x.uniqs.length c3, .slice A4 x.checks.length c4, .slice A5 x.fks.length c5] ∧ Below w.heap.size w wr) (fun i _ => x.checks.length - (intOf i).toNat)
              case atStart => exact ⟨0, by omega, rfl, Lib.hid (by simp), hr, hb⟩
              case round =>
                clear hr hb hlt
                obtain ⟨k, hk, rfl, hall, hr, hb⟩ := hrel
                obtain ⟨⟨a0, a1, a2, a3, a4, a5⟩, -⟩ := hr.all6
                by_cases hlt : k < x.checks.length
                · obtain ⟨b, off, A9, n9, c9, -, ea, q0, s0, hcp9⟩ := CkR.at_ (h4.below CkR.stays hb) hlt
                  rw [ea] at a4
                  obtain rfl : x.checks[k].expr.length = n9 := s0.1
                  have hsn := all_take (fun u : Ck => exprB u.expr x.cols.length) x.checks k hlt
                  rw [hall.out, Bool.true_and] at hsn
                  have hno := fun hf => all_no (fun u : Ck => exprB u.expr x.cols.length) x.checks k hlt hf
                  have hk9 : x.checks[k].expr.length ≤ 1048576 := by have := HS4.out; have := sum_mem_le Ck.sz x.checks k hlt; unfold szL at *; simp only [Ck.sz] at *; (try unfold szL at *); omega
                  have i2 : (0 : Int) ≤ k := by omega
                  have i3 : (k : Int) < x.checks.length := by omega
                  cases hc : l2B x.checks[k].expr x.cols.length
                  · have HC9 := Lib.hid hc
                    have HF := Lib.hid (show tableB x = false by unfold tableB cksB; rw [hno ((exprB_l2n (by omega)).trans hc)]; simp)
                    clear hsn hno hc hall ea
                    go_wp2_with fail
                    refine (specL2Expr A9 x.checks[k].expr.length c9 x.checks[k].expr x.cols.length _ (Sl.cellz (fun _ => rfl) s0) (by unfold maxLen; omega) (by omega) (by omega)).mono ?_
                    rintro e w1 ⟨rfl, hq⟩
                    rw [HC9.out]
                    go_wp2_with fail
                    go_ret
                    exact ⟨retB HF.out.symm, hb.trans (hq.mono hb.size)⟩
                  · have HC9 := Lib.hid hc
                    have HA := Lib.hid (hsn.trans ((exprB_l2n (by omega)).trans hc))
                    clear hsn hno hc hall ea
                    go_wp2_with fail
                    refine (specL2Expr A9 x.checks[k].expr.length c9 x.checks[k].expr x.cols.length _ (Sl.cellz (fun _ => rfl) s0) (by unfold maxLen; omega) (by omega) (by omega)).mono ?_
                    rintro e w1 ⟨rfl, hq⟩
                    rw [HC9.out]
                    go_wp2_with fail
                    go_roundw
                    case rel => exact ⟨k + 1, by omega, by go_num, HA, hr.below hq, hb.trans (hq.mono hb.size)⟩
                    case measure => simp [intOf]; omega
                · have e : x.checks.take k = x.checks := List.take_of_length_le (by omega)
                  have g1 := hall.out
                  rw [e] at g1
                  have HEB := Lib.hid (show cksB x.cols x.checks = true by unfold cksB; rw [g1, decide_eq_true (by omega)]; rfl)
                  clear e g1 hall
                  go_wp2_with fail
                  clear a0 a1 a2 a3 a4 a5
                  go_loopw [9] (fun i wr => ∃ k : Nat, k ≤ x.fks.length ∧ i = .int .i64 k ∧ Hid ((x.fks.take k).all (fkB x.cols.length) = true) ∧ Row wr w.heap.size 61 #[.string x.name, .slice A1 x.cols.length c1, .slice A2 x.key.length c2, .slice A3 x.uniqs.length c3, .slice A4 x.checks.length c4, .slice A5 x.fks.length c5] ∧ Below w.heap.size w wr) (fun i _ => x.fks.length - (intOf i).toNat)
                  case atStart => exact ⟨0, by omega, rfl, Lib.hid (by simp), hr, hb⟩
                  case round =>
                    clear hr hb hlt
                    obtain ⟨k, hk, rfl, hall, hr, hb⟩ := hrel
                    obtain ⟨⟨a0, a1, a2, a3, a4, a5⟩, -⟩ := hr.all6
                    by_cases hlt : k < x.fks.length
                    · obtain ⟨b, off, A9, n9, c9, -, ea, q0, q1, q2, q3, q4, s0, hcp9⟩ := FkR.at_ (h5.below FkR.stays hb) hlt
                      rw [ea] at a5
                      obtain rfl : x.fks[k].cols.length = n9 := s0.1
                      have hsn := all_take (fkB x.cols.length) x.fks k hlt
                      rw [hall.out, Bool.true_and] at hsn
                      have hno := fun hf => all_no (fkB x.cols.length) x.fks k hlt hf
                      obtain ⟨hk9, hk8⟩ : x.fks[k].cols.length ≤ 1048576 ∧ x.fks[k].table.size ≤ 1048576 := by have := HS5.out; have := sum_mem_le Fk.sz x.fks k hlt; unfold szL at *; simp only [Fk.sz] at *; omega
                      have HK9 := Lib.hid hk9
                      have HK8 := Lib.hid (show x.fks[k].table.size ≤ maxLen by unfold maxLen; omega)
                      have i2 : (0 : Int) ≤ k := by omega
                      have i3 : (k : Int) < x.fks.length := by omega
                      have hbx := (Below.refl wr.heap.size wr).alloc (Nat.le_refl _) (.cells #[.slice A9 x.fks[k].cols.length c9, .string x.fks[k].table, .int .i64 x.fks[k].del, .int .i64 x.fks[k].upd, .bool x.fks[k].dfr] 87)
                      have hba := hb.trans (hbx.mono hb.size)
                      have s1 := s0.below IntR.stays hbx
                      have hr1 := hr.below hbx
                      have rf := Row.new wr 87 #[.slice A9 x.fks[k].cols.length c9, .string x.fks[k].table, .int .i64 x.fks[k].del, .int .i64 x.fks[k].upd, .bool x.fks[k].dfr]
                      have HNO := Lib.hid (fun hf => show tableB x = false by unfold tableB fksB; rw [hno hf]; simp)
                      have HSN := Lib.hid hsn
                      clear hsn hno hall ea hk9 hk8
                      cases hc9 : colsInB x.fks[k].cols x.cols.length
                      · have HC9 := Lib.hid hc9
                        have HF := Lib.hid (HNO.out (by unfold fkB; rw [act_in, act_in, hc9]; simp))
                        clear hc9
                        go_wp2_with fail
                        refine (specCols A9 x.fks[k].cols.length c9 x.fks[k].cols x.cols.length ok _ s1 hcp9 HK9.out (by omega) (by omega)).mono ?_
                        rintro e w1 ⟨rfl, hq⟩
                        obtain ⟨⟨f0, f1, f2, f3, f4⟩, -⟩ := (rf.below hq).five
                        rw [HC9.out]
                        go_wp2_with fail
                        go_ret
                        exact ⟨retB HF.out.symm, hba.trans (hq.mono hba.size)⟩
                      have HC9 := Lib.hid hc9
                      clear hc9
                      cases hn9 : nameB x.fks[k].table
                      · have HN9 := Lib.hid hn9
                        have HF := Lib.hid (HNO.out (by unfold fkB; rw [act_in, act_in, HC9.out, hn9]; simp))
                        clear hn9
                        go_wp2_with fail
                        refine (specCols A9 x.fks[k].cols.length c9 x.fks[k].cols x.cols.length ok _ s1 hcp9 HK9.out (by omega) (by omega)).mono ?_
                        rintro e w1 ⟨rfl, hq⟩
                        obtain ⟨⟨f0, f1, f2, f3, f4⟩, -⟩ := (rf.below hq).five
                        rw [HC9.out]
                        go_wp2_with fail
                        refine (specName _ _ HK8.out).mono ?_
                        rintro e w2 ⟨rfl, rfl⟩
                        rw [HN9.out]
                        go_wp2_with fail
                        go_ret
                        exact ⟨retB HF.out.symm, hba.trans (hq.mono hba.size)⟩
                      have HN9 := Lib.hid hn9
                      clear hn9
                      cases hd9 : (decide (0 ≤ x.fks[k].del) && decide (x.fks[k].del ≤ 2))
                      · have HD9 := Lib.hid hd9
                        have HF := Lib.hid (HNO.out (by unfold fkB; rw [act_in, act_in, HC9.out, HN9.out, hd9]; simp))
                        clear hd9
                        go_wp2_with fail
                        refine (specCols A9 x.fks[k].cols.length c9 x.fks[k].cols x.cols.length ok _ s1 hcp9 HK9.out (by omega) (by omega)).mono ?_
                        rintro e w1 ⟨rfl, hq⟩
                        obtain ⟨⟨f0, f1, f2, f3, f4⟩, -⟩ := (rf.below hq).five
                        rw [HC9.out]
                        go_wp2_with fail
                        refine (specName _ _ HK8.out).mono ?_
                        rintro e w2 ⟨rfl, rfl⟩
                        rw [HN9.out]
                        go_wp2_with fail
                        refine (specIn _ _ _ _).mono ?_
                        rintro e w2 ⟨rfl, rfl⟩
                        rw [HD9.out]
                        go_wp2_with fail
                        go_ret
                        exact ⟨retB HF.out.symm, hba.trans (hq.mono hba.size)⟩
                      have HD9 := Lib.hid hd9
                      clear hd9
                      cases hu9 : (decide (0 ≤ x.fks[k].upd) && decide (x.fks[k].upd ≤ 2))
                      · have HU9 := Lib.hid hu9
                        have HF := Lib.hid (HNO.out (by unfold fkB; rw [act_in, act_in, HC9.out, HN9.out, HD9.out, hu9]; simp))
                        clear hu9
                        go_wp2_with fail
                        refine (specCols A9 x.fks[k].cols.length c9 x.fks[k].cols x.cols.length ok _ s1 hcp9 HK9.out (by omega) (by omega)).mono ?_
                        rintro e w1 ⟨rfl, hq⟩
                        obtain ⟨⟨f0, f1, f2, f3, f4⟩, -⟩ := (rf.below hq).five
                        rw [HC9.out]
                        go_wp2_with fail
                        refine (specName _ _ HK8.out).mono ?_
                        rintro e w2 ⟨rfl, rfl⟩
                        rw [HN9.out]
                        go_wp2_with fail
                        refine (specIn _ _ _ _).mono ?_
                        rintro e w2 ⟨rfl, rfl⟩
                        rw [HD9.out]
                        go_wp2_with fail
                        refine (specIn _ _ _ _).mono ?_
                        rintro e w2 ⟨rfl, rfl⟩
                        rw [HU9.out]
                        go_wp2_with fail
                        go_ret
                        exact ⟨retB HF.out.symm, hba.trans (hq.mono hba.size)⟩
                      have HU9 := Lib.hid hu9
                      clear hu9
                      have HA := Lib.hid (HSN.out.trans (show fkB x.cols.length x.fks[k] = true by unfold fkB; rw [act_in, act_in, HC9.out, HN9.out, HD9.out, HU9.out]; rfl))
                      go_wp2_with fail
                      refine (specCols A9 x.fks[k].cols.length c9 x.fks[k].cols x.cols.length ok _ s1 hcp9 HK9.out (by omega) (by omega)).mono ?_
                      rintro e w1 ⟨rfl, hq⟩
                      obtain ⟨⟨f0, f1, f2, f3, f4⟩, -⟩ := (rf.below hq).five
                      rw [HC9.out]
                      go_wp2_with fail
                      refine (specName _ _ HK8.out).mono ?_
                      rintro e w2 ⟨rfl, rfl⟩
                      rw [HN9.out]
                      go_wp2_with fail
                      refine (specIn _ _ _ _).mono ?_
                      rintro e w2 ⟨rfl, rfl⟩
                      rw [HD9.out]
                      go_wp2_with fail
                      refine (specIn _ _ _ _).mono ?_
                      rintro e w2 ⟨rfl, rfl⟩
                      rw [HU9.out]
                      go_wp2_with fail
                      go_roundw
                      case rel => exact ⟨k + 1, by omega, by go_num, HA, hr1.below hq, hba.trans (hq.mono hba.size)⟩
                      case measure => simp [intOf]; omega
                    · have e : x.fks.take k = x.fks := List.take_of_length_le (by omega)
                      have g1 := hall.out
                      rw [e] at g1
                      have HFB := Lib.hid (show fksB x.cols x.fks = true by unfold fksB; rw [g1, decide_eq_true (by omega)]; rfl)
                      clear e g1 hall
                      go_wp2_with fail
                      go_ret
                      exact ⟨retB (by unfold tableB; rw [HN0.out, HC.out, HKB.out, HUB.out, HEB.out, HFB.out]; rfl), hb⟩
set_option maxRecDepth 100000 in
set_option maxHeartbeats 4000000 in
theorem specSchemaOk (AS : Option Addr) (nS cS : Nat) (s : List Tb) (ok : Nat → Prop) (w : World) (hs : Sl TbR 6 ok w AS nS s) (hcp : nS ≤ cS) (hsz : szL Tb.sz s ≤ 1048576) :
    Calls Tryz.prog 33 #[.slice AS nS cS] w fun e w' => e = .returned (.bool (schemaB s)) ∧ Below w.heap.size w w' := by
  obtain rfl : s.length = nS := hs.1
  have hn : s.length ≤ 1048576 := by unfold szL at hsz; omega
  have HSZ := Lib.hid hsz
  have HT := Lib.hid (fun k (hlt : k < s.length) => show s[k].sz ≤ 1048576 by have := HSZ.out; have := sum_mem_le Tb.sz s k hlt; unfold szL at *; omega)
  clear hsz
  go_enter Tryz.func33, Tryz.ntmps33
  go_wp2_with fail
  go_loopw [3] (fun i wr => ∃ k : Nat, k ≤ s.length ∧ i = .int .i64 k ∧ Hid ((s.take k).all tableB = true) ∧ Hid (uniqGo [] (s.map Tb.name) = uniqGo ((s.map Tb.name).take k) ((s.map Tb.name).drop k)) ∧ Below w.heap.size w wr) (fun i _ => s.length - (intOf i).toNat)
  case atStart => exact ⟨0, by omega, rfl, Lib.hid (by simp), Lib.hid (by simp), Below.refl _ _⟩
  case round =>
    obtain ⟨k, hk, rfl, hall, huq, hb⟩ := hrel
    by_cases hlt : k < s.length
    · have hsw := hs.below TbR.stays hb
      obtain ⟨b, off, A1, n1, c1, A2, n2, c2, A3, n3, c3, A4, n4, c4, A5, n5, c5, -, ea, q0, q1, q2, q3, q4, q5, s1, s2, s3, s4, s5, hcps⟩ := TbR.at_ hsw hlt
      subst ea
      have HCP := Lib.hid hcps
      clear hcps
      have hsn := all_take tableB s k hlt
      rw [hall.out, Bool.true_and] at hsn
      have hno := fun hf => all_no tableB s k hlt hf
      have hug := uniqGo_at (s.map Tb.name) k (by simpa using hlt)
      rw [← huq.out, List.getElem_map, ← List.map_take] at hug
      have HX := Lib.hid (HT.out k hlt)
      have i0 : (0 : Int) ≤ k := by omega
      have i1 : (k : Int) < s.length := by omega
      have i3 : (k : Int) ≤ cS := by omega
      cases hc : tableB s[k]
      · skip
        have HTB := Lib.hid hc
        have HF := Lib.hid (show schemaB s = false by unfold schemaB; rw [hno hc]; simp)
        clear hc hno hsn hug hall huq
        go_wp2_with fail
        refine wp_region_noPanic ?_
        refine wp_region_held_drew (S := fun w' => w'.cell? ⟨b, off + k * 6, none⟩ = some (.string s[k].name) ∧ w'.cell? ⟨b, off + k * 6 + 1, none⟩ = some (.slice A1 n1 c1) ∧ w'.cell? ⟨b, off + k * 6 + 2, none⟩ = some (.slice A2 n2 c2) ∧ w'.cell? ⟨b, off + k * 6 + 3, none⟩ = some (.slice A3 n3 c3) ∧ w'.cell? ⟨b, off + k * 6 + 4, none⟩ = some (.slice A4 n4 c4) ∧ w'.cell? ⟨b, off + k * 6 + 5, none⟩ = some (.slice A5 n5 c5)) (by kernel_rfl) ⟨q0, q1, q2, q3, q4, q5⟩ (fun hHeld => ?_)
        refine wpAnyH_take (i := 0) (v := ?v1) rfl (by kernel_rfl) (by kernel_rfl) (by kernel_rfl) (fun _ _ _ h => h) (Or.inl ⟨by rfl, ?hy1⟩) hHeld ?rest1
        case hy1 => (intro w' hSw; (try dsimp only at hSw); first | (go_simp; done) | (go_simp; with_reducible rfl))
        simp only [Act.put, pz0, pz1, pz2, pz3, pz4, pz5]
        refine wpAnyH_take (i := 1) (v := ?v2) rfl (by kernel_rfl) (by kernel_rfl) (by kernel_rfl) (fun _ _ _ h => h) (Or.inl ⟨by rfl, ?hy2⟩) hHeld ?rest2
        case hy2 => (intro w' hSw; (try dsimp only at hSw); first | (go_simp; done) | (go_simp; with_reducible rfl))
        simp only [Act.put, pz0, pz1, pz2, pz3, pz4, pz5]
        refine wpAnyH_take (i := 2) (v := ?v3) rfl (by kernel_rfl) (by kernel_rfl) (by kernel_rfl) (fun _ _ _ h => h) (Or.inl ⟨by rfl, ?hy3⟩) hHeld ?rest3
        case hy3 => (intro w' hSw; (try dsimp only at hSw); first | (go_simp; done) | (go_simp; with_reducible rfl))
        simp only [Act.put, pz0, pz1, pz2, pz3, pz4, pz5]
        refine wpAnyH_take (i := 3) (v := ?v4) rfl (by kernel_rfl) (by kernel_rfl) (by kernel_rfl) (fun _ _ _ h => h) (Or.inl ⟨by rfl, ?hy4⟩) hHeld ?rest4
        case hy4 => (intro w' hSw; (try dsimp only at hSw); first | (go_simp; done) | (go_simp; with_reducible rfl))
        simp only [Act.put, pz0, pz1, pz2, pz3, pz4, pz5]
        refine wpAnyH_ready (rs := [4]) (by kernel_rfl) (by simp) ?_
        refine AllReadyH.cons rfl (fun K hK => ?_) AllReadyH.nil
        go_simp
        refine (specTableOk s[k] A1 n1 c1 A2 n2 c2 A3 n3 c3 A4 n4 c4 A5 n5 c5 ok _ (s1.drew ClR.stays) (s2.drew IntR.stays) (s3.drew UqR.stays) (s4.drew CkR.stays) (s5.drew FkR.stays) HCP.out HX.out).mono ?_
        rintro e wc ⟨rfl, hqc⟩
        rw [HTB.out]
        go_wp2_with fail
        refine hK.out _ _ ⟨below_keep hqc _ _ hHeld.1, below_keep hqc _ _ hHeld.2.1, below_keep hqc _ _ hHeld.2.2.1, below_keep hqc _ _ hHeld.2.2.2.1, below_keep hqc _ _ hHeld.2.2.2.2.1, below_keep hqc _ _ hHeld.2.2.2.2.2⟩ (fun hHeld => ?_)
        clear hK K
        (try simp only [Act.put, pz0, pz1, pz2, pz3, pz4, pz5])
        refine wpAnyH_take (i := 5) (v := ?v5) rfl (by kernel_rfl) (by kernel_rfl) (by kernel_rfl) (fun _ _ _ h => h) (Or.inl ⟨by rfl, ?hy5⟩) hHeld ?rest5
        case hy5 => (intro w' hSw; (try dsimp only at hSw); first | (go_simp; done) | (go_simp; with_reducible rfl))
        simp only [Act.put, pz0, pz1, pz2, pz3, pz4, pz5]
        refine wpAnyH_take (i := 6) (v := ?v6) rfl (by kernel_rfl) (by kernel_rfl) (by kernel_rfl) (fun _ _ _ h => h) (Or.inl ⟨by rfl, ?hy6⟩) hHeld ?rest6
        case hy6 => (intro w' hSw; (try dsimp only at hSw); first | (go_simp; done) | (go_simp; with_reducible rfl))
        simp only [Act.put, pz0, pz1, pz2, pz3, pz4, pz5]
        refine wpAnyH_take (i := 7) (v := undef) rfl (by kernel_rfl) (by kernel_rfl) (by kernel_rfl) (fun _ _ _ h => h) (Or.inr ⟨by rfl, rfl⟩) hHeld ?_
        simp only [Act.put, pz0, pz1, pz2, pz3, pz4, pz5]
        refine wpAnyH_take (i := 8) (v := undef) rfl (by kernel_rfl) (by kernel_rfl) (by kernel_rfl) (fun _ _ _ h => h) (Or.inr ⟨by rfl, rfl⟩) hHeld ?_
        simp only [Act.put, pz0, pz1, pz2, pz3, pz4, pz5]
        refine wpAnyH_take (i := 9) (v := undef) rfl (by kernel_rfl) (by kernel_rfl) (by kernel_rfl) (fun _ _ _ h => h) (Or.inr ⟨by rfl, rfl⟩) hHeld ?_
        simp only [Act.put, pz0, pz1, pz2, pz3, pz4, pz5]
        refine wpAnyH_take (i := 10) (v := undef) rfl (by kernel_rfl) (by kernel_rfl) (by kernel_rfl) (fun _ _ _ h => h) (Or.inr ⟨by rfl, rfl⟩) hHeld ?_
        simp only [Act.put, pz0, pz1, pz2, pz3, pz4, pz5]
        refine wpAnyH_take (i := 11) (v := undef) rfl (by kernel_rfl) (by kernel_rfl) (by kernel_rfl) (fun _ _ _ h => h) (Or.inr ⟨by rfl, rfl⟩) hHeld ?_
        simp only [Act.put, pz0, pz1, pz2, pz3, pz4, pz5]
        refine wpAnyH_take (i := 12) (v := undef) rfl (by kernel_rfl) (by kernel_rfl) (by kernel_rfl) (fun _ _ _ h => h) (Or.inr ⟨by rfl, rfl⟩) hHeld ?_
        simp only [Act.put, pz0, pz1, pz2, pz3, pz4, pz5]
        refine wpAnyH_take (i := 13) (v := undef) rfl (by kernel_rfl) (by kernel_rfl) (by kernel_rfl) (fun _ _ _ h => h) (Or.inr ⟨by rfl, rfl⟩) hHeld ?_
        simp only [Act.put, pz0, pz1, pz2, pz3, pz4, pz5]
        refine wpAnyH_take (i := 14) (v := undef) rfl (by kernel_rfl) (by kernel_rfl) (by kernel_rfl) (fun _ _ _ h => h) (Or.inr ⟨by rfl, rfl⟩) hHeld ?_
        simp only [Act.put, pz0, pz1, pz2, pz3, pz4, pz5]
        refine wpAnyH_take (i := 15) (v := undef) rfl (by kernel_rfl) (by kernel_rfl) (by kernel_rfl) (fun _ _ _ h => h) (Or.inr ⟨by rfl, rfl⟩) hHeld ?_
        simp only [Act.put, pz0, pz1, pz2, pz3, pz4, pz5]
        refine wpAnyH_take (i := 16) (v := undef) rfl (by kernel_rfl) (by kernel_rfl) (by kernel_rfl) (fun _ _ _ h => h) (Or.inr ⟨by rfl, rfl⟩) hHeld ?_
        simp only [Act.put, pz0, pz1, pz2, pz3, pz4, pz5]
        refine wpAnyH_take (i := 17) (v := ?v7) rfl (by kernel_rfl) (by kernel_rfl) (by kernel_rfl) (fun _ _ _ h => h) (Or.inl ⟨by rfl, ?hy7⟩) hHeld ?rest7
        case hy7 => (intro w' hSw; (try dsimp only at hSw); first | (go_simp; done) | (go_simp; with_reducible rfl))
        simp only [Act.put, pz0, pz1, pz2, pz3, pz4, pz5]
        refine wpAnyH_done (by kernel_rfl) ?_ _
        refine NoPanic.normal ?_
        have hz := hb.drew.trans (hqc.mono hb.drew.size)
        clear hHeld q0 q1 q2 q3 q4 q5
        go_wp2_with fail
        go_ret
        exact ⟨retB HF.out.symm, hz⟩
      have HTB := Lib.hid hc
      by_cases hat : atN ((s.take k).map Tb.name) s[k].name = -1
      case neg =>
        obtain ⟨j, hj, hj0⟩ : ∃ j : Int, j = atN ((s.take k).map Tb.name) s[k].name ∧ 0 ≤ j := ⟨_, rfl, by rcases atN_rng ((s.take k).map Tb.name) s[k].name with h | h; exact absurd h hat; exact h.1⟩
        have HJ := Lib.hid hj
        have HF := Lib.hid (show schemaB s = false by unfold schemaB; rw [hug, decide_eq_false hat]; simp)
        clear hc hno hsn hug hall huq hat hj
        go_wp2_with fail
        refine wp_region_noPanic ?_
        refine wp_region_held_drew (S := fun w' => w'.cell? ⟨b, off + k * 6, none⟩ = some (.string s[k].name) ∧ w'.cell? ⟨b, off + k * 6 + 1, none⟩ = some (.slice A1 n1 c1) ∧ w'.cell? ⟨b, off + k * 6 + 2, none⟩ = some (.slice A2 n2 c2) ∧ w'.cell? ⟨b, off + k * 6 + 3, none⟩ = some (.slice A3 n3 c3) ∧ w'.cell? ⟨b, off + k * 6 + 4, none⟩ = some (.slice A4 n4 c4) ∧ w'.cell? ⟨b, off + k * 6 + 5, none⟩ = some (.slice A5 n5 c5)) (by kernel_rfl) ⟨q0, q1, q2, q3, q4, q5⟩ (fun hHeld => ?_)
        refine wpAnyH_take (i := 0) (v := ?v8) rfl (by kernel_rfl) (by kernel_rfl) (by kernel_rfl) (fun _ _ _ h => h) (Or.inl ⟨by rfl, ?hy8⟩) hHeld ?rest8
        case hy8 => (intro w' hSw; (try dsimp only at hSw); first | (go_simp; done) | (go_simp; with_reducible rfl))
        simp only [Act.put, pz0, pz1, pz2, pz3, pz4, pz5]
        refine wpAnyH_take (i := 1) (v := ?v9) rfl (by kernel_rfl) (by kernel_rfl) (by kernel_rfl) (fun _ _ _ h => h) (Or.inl ⟨by rfl, ?hy9⟩) hHeld ?rest9
        case hy9 => (intro w' hSw; (try dsimp only at hSw); first | (go_simp; done) | (go_simp; with_reducible rfl))
        simp only [Act.put, pz0, pz1, pz2, pz3, pz4, pz5]
        refine wpAnyH_take (i := 2) (v := ?v10) rfl (by kernel_rfl) (by kernel_rfl) (by kernel_rfl) (fun _ _ _ h => h) (Or.inl ⟨by rfl, ?hy10⟩) hHeld ?rest10
        case hy10 => (intro w' hSw; (try dsimp only at hSw); first | (go_simp; done) | (go_simp; with_reducible rfl))
        simp only [Act.put, pz0, pz1, pz2, pz3, pz4, pz5]
        refine wpAnyH_take (i := 3) (v := ?v11) rfl (by kernel_rfl) (by kernel_rfl) (by kernel_rfl) (fun _ _ _ h => h) (Or.inl ⟨by rfl, ?hy11⟩) hHeld ?rest11
        case hy11 => (intro w' hSw; (try dsimp only at hSw); first | (go_simp; done) | (go_simp; with_reducible rfl))
        simp only [Act.put, pz0, pz1, pz2, pz3, pz4, pz5]
        refine wpAnyH_ready (rs := [4]) (by kernel_rfl) (by simp) ?_
        refine AllReadyH.cons rfl (fun K hK => ?_) AllReadyH.nil
        go_simp
        refine (specTableOk s[k] A1 n1 c1 A2 n2 c2 A3 n3 c3 A4 n4 c4 A5 n5 c5 ok _ (s1.drew ClR.stays) (s2.drew IntR.stays) (s3.drew UqR.stays) (s4.drew CkR.stays) (s5.drew FkR.stays) HCP.out HX.out).mono ?_
        rintro e wc ⟨rfl, hqc⟩
        rw [HTB.out]
        go_wp2_with fail
        refine hK.out _ _ ⟨below_keep hqc _ _ hHeld.1, below_keep hqc _ _ hHeld.2.1, below_keep hqc _ _ hHeld.2.2.1, below_keep hqc _ _ hHeld.2.2.2.1, below_keep hqc _ _ hHeld.2.2.2.2.1, below_keep hqc _ _ hHeld.2.2.2.2.2⟩ (fun hHeld => ?_)
        clear hK K
        (try simp only [Act.put, pz0, pz1, pz2, pz3, pz4, pz5])
        refine wpAnyH_take (i := 5) (v := ?v12) rfl (by kernel_rfl) (by kernel_rfl) (by kernel_rfl) (fun _ _ _ h => h) (Or.inl ⟨by rfl, ?hy12⟩) hHeld ?rest12
        case hy12 => (intro w' hSw; (try dsimp only at hSw); first | (go_simp; done) | (go_simp; with_reducible rfl))
        simp only [Act.put, pz0, pz1, pz2, pz3, pz4, pz5]
        refine wpAnyH_take (i := 6) (v := ?v13) rfl (by kernel_rfl) (by kernel_rfl) (by kernel_rfl) (fun _ _ _ h => h) (Or.inl ⟨by rfl, ?hy13⟩) hHeld ?rest13
        case hy13 => (intro w' hSw; (try dsimp only at hSw); first | (go_simp; done) | (go_simp; with_reducible rfl))
        simp only [Act.put, pz0, pz1, pz2, pz3, pz4, pz5]
        refine wpAnyH_take (i := 7) (v := ?v14) rfl (by kernel_rfl) (by kernel_rfl) (by kernel_rfl) (fun _ _ _ h => h) (Or.inl ⟨by rfl, ?hy14⟩) hHeld ?rest14
        case hy14 => (intro w' hSw; (try dsimp only at hSw); first | (go_simp; done) | (go_simp; with_reducible rfl))
        simp only [Act.put, pz0, pz1, pz2, pz3, pz4, pz5]
        refine wpAnyH_take (i := 8) (v := ?v15) rfl (by kernel_rfl) (by kernel_rfl) (by kernel_rfl) (fun _ _ _ h => h) (Or.inl ⟨by rfl, ?hy15⟩) hHeld ?rest15
        case hy15 => (intro w' hSw; (try dsimp only at hSw); first | (go_simp; done) | (go_simp; with_reducible rfl))
        simp only [Act.put, pz0, pz1, pz2, pz3, pz4, pz5]
        refine wpAnyH_take (i := 9) (v := ?v16) rfl (by kernel_rfl) (by kernel_rfl) (by kernel_rfl) (fun _ _ _ h => h) (Or.inl ⟨by rfl, ?hy16⟩) hHeld ?rest16
        case hy16 => (intro w' hSw; (try dsimp only at hSw); first | (go_simp; done) | (go_simp; with_reducible rfl))
        simp only [Act.put, pz0, pz1, pz2, pz3, pz4, pz5]
        refine wpAnyH_take (i := 10) (v := ?v17) rfl (by kernel_rfl) (by kernel_rfl) (by kernel_rfl) (fun _ _ _ h => h) (Or.inl ⟨by rfl, ?hy17⟩) hHeld ?rest17
        case hy17 => (intro w' hSw; (try dsimp only at hSw); first | (go_simp; done) | (go_simp; with_reducible rfl))
        simp only [Act.put, pz0, pz1, pz2, pz3, pz4, pz5]
        refine wpAnyH_take (i := 11) (v := ?v18) rfl (by kernel_rfl) (by kernel_rfl) (by kernel_rfl) (fun _ _ _ h => h) (Or.inl ⟨by rfl, ?hy18⟩) hHeld ?rest18
        case hy18 => (intro w' hSw; (try dsimp only at hSw); first | (go_simp; done) | (go_simp; with_reducible rfl))
        simp only [Act.put, pz0, pz1, pz2, pz3, pz4, pz5]
        refine wpAnyH_take (i := 12) (v := ?v19) rfl (by kernel_rfl) (by kernel_rfl) (by kernel_rfl) (fun _ _ _ h => h) (Or.inl ⟨by rfl, ?hy19⟩) hHeld ?rest19
        case hy19 => (intro w' hSw; (try dsimp only at hSw); first | (go_simp; done) | (go_simp; with_reducible rfl))
        simp only [Act.put, pz0, pz1, pz2, pz3, pz4, pz5]
        refine wpAnyH_take (i := 13) (v := ?v20) rfl (by kernel_rfl) (by kernel_rfl) (by kernel_rfl) (fun _ _ _ h => h) (Or.inl ⟨by rfl, ?hy20⟩) hHeld ?rest20
        case hy20 => (intro w' hSw; (try dsimp only at hSw); first | (go_simp; done) | (go_simp; with_reducible rfl))
        simp only [Act.put, pz0, pz1, pz2, pz3, pz4, pz5]
        refine wpAnyH_take (i := 14) (v := ?v21) rfl (by kernel_rfl) (by kernel_rfl) (by kernel_rfl) (fun _ _ _ h => h) (Or.inl ⟨by rfl, ?hy21⟩) hHeld ?rest21
        case hy21 => (intro w' hSw; (try dsimp only at hSw); first | (go_simp; done) | (go_simp; with_reducible rfl))
        simp only [Act.put, pz0, pz1, pz2, pz3, pz4, pz5]
        refine wpAnyH_ready (rs := [15]) (by kernel_rfl) (by simp) ?_
        refine AllReadyH.cons rfl (fun K hK => ?_) AllReadyH.nil
        go_simp
        refine (specL3At _ k cS (s.take k) _ ok _ (((hsw.drew TbR.stays).below TbR.stays hqc).take (m := k) (by omega)) (by omega)).mono ?_
        rintro e wd ⟨rfl, hqd⟩
        rw [← HJ.out]
        go_wp2_with fail
        refine hK.out _ _ ⟨below_keep hqd _ _ hHeld.1, below_keep hqd _ _ hHeld.2.1, below_keep hqd _ _ hHeld.2.2.1, below_keep hqd _ _ hHeld.2.2.2.1, below_keep hqd _ _ hHeld.2.2.2.2.1, below_keep hqd _ _ hHeld.2.2.2.2.2⟩ (fun hHeld => ?_)
        clear hK K
        (try simp only [Act.put, pz0, pz1, pz2, pz3, pz4, pz5])
        refine wpAnyH_take (i := 16) (v := ?v22) rfl (by kernel_rfl) (by kernel_rfl) (by kernel_rfl) (fun _ _ _ h => h) (Or.inl ⟨by rfl, ?hy22⟩) hHeld ?rest22
        case hy22 => (intro w' hSw; (try dsimp only at hSw); first | (go_simp; done) | (go_simp; with_reducible rfl))
        simp only [Act.put, pz0, pz1, pz2, pz3, pz4, pz5]
        refine wpAnyH_take (i := 17) (v := ?v23) rfl (by kernel_rfl) (by kernel_rfl) (by kernel_rfl) (fun _ _ _ h => h) (Or.inl ⟨by rfl, ?hy23⟩) hHeld ?rest23
        case hy23 => (intro w' hSw; (try dsimp only at hSw); first | (go_simp; done) | (go_simp; with_reducible rfl))
        simp only [Act.put, pz0, pz1, pz2, pz3, pz4, pz5]
        refine wpAnyH_done (by kernel_rfl) ?_ _
        refine NoPanic.normal ?_
        have hz := hb.drew.trans (hqc.mono hb.drew.size)
        have hz := hz.trans (hqd.mono hz.size)
        clear hHeld q0 q1 q2 q3 q4 q5
        go_wp2_with fail
        go_ret
        exact ⟨retB HF.out.symm, hz⟩
      case pos =>
        have HA := Lib.hid hat
        have HUQ := Lib.hid (show uniqGo [] (s.map Tb.name) = uniqGo ((s.map Tb.name).take (k + 1)) ((s.map Tb.name).drop (k + 1)) by rw [hug, decide_eq_true hat, Bool.true_and])
        have HAL := Lib.hid (hsn.trans hc)
        clear hc hno hsn hug hall huq hat
        go_wp2_with fail
        refine wp_region_noPanic ?_
        refine wp_region_held_drew (S := fun w' => w'.cell? ⟨b, off + k * 6, none⟩ = some (.string s[k].name) ∧ w'.cell? ⟨b, off + k * 6 + 1, none⟩ = some (.slice A1 n1 c1) ∧ w'.cell? ⟨b, off + k * 6 + 2, none⟩ = some (.slice A2 n2 c2) ∧ w'.cell? ⟨b, off + k * 6 + 3, none⟩ = some (.slice A3 n3 c3) ∧ w'.cell? ⟨b, off + k * 6 + 4, none⟩ = some (.slice A4 n4 c4) ∧ w'.cell? ⟨b, off + k * 6 + 5, none⟩ = some (.slice A5 n5 c5)) (by kernel_rfl) ⟨q0, q1, q2, q3, q4, q5⟩ (fun hHeld => ?_)
        refine wpAnyH_take (i := 0) (v := ?v24) rfl (by kernel_rfl) (by kernel_rfl) (by kernel_rfl) (fun _ _ _ h => h) (Or.inl ⟨by rfl, ?hy24⟩) hHeld ?rest24
        case hy24 => (intro w' hSw; (try dsimp only at hSw); first | (go_simp; done) | (go_simp; with_reducible rfl))
        simp only [Act.put, pz0, pz1, pz2, pz3, pz4, pz5]
        refine wpAnyH_take (i := 1) (v := ?v25) rfl (by kernel_rfl) (by kernel_rfl) (by kernel_rfl) (fun _ _ _ h => h) (Or.inl ⟨by rfl, ?hy25⟩) hHeld ?rest25
        case hy25 => (intro w' hSw; (try dsimp only at hSw); first | (go_simp; done) | (go_simp; with_reducible rfl))
        simp only [Act.put, pz0, pz1, pz2, pz3, pz4, pz5]
        refine wpAnyH_take (i := 2) (v := ?v26) rfl (by kernel_rfl) (by kernel_rfl) (by kernel_rfl) (fun _ _ _ h => h) (Or.inl ⟨by rfl, ?hy26⟩) hHeld ?rest26
        case hy26 => (intro w' hSw; (try dsimp only at hSw); first | (go_simp; done) | (go_simp; with_reducible rfl))
        simp only [Act.put, pz0, pz1, pz2, pz3, pz4, pz5]
        refine wpAnyH_take (i := 3) (v := ?v27) rfl (by kernel_rfl) (by kernel_rfl) (by kernel_rfl) (fun _ _ _ h => h) (Or.inl ⟨by rfl, ?hy27⟩) hHeld ?rest27
        case hy27 => (intro w' hSw; (try dsimp only at hSw); first | (go_simp; done) | (go_simp; with_reducible rfl))
        simp only [Act.put, pz0, pz1, pz2, pz3, pz4, pz5]
        refine wpAnyH_ready (rs := [4]) (by kernel_rfl) (by simp) ?_
        refine AllReadyH.cons rfl (fun K hK => ?_) AllReadyH.nil
        go_simp
        refine (specTableOk s[k] A1 n1 c1 A2 n2 c2 A3 n3 c3 A4 n4 c4 A5 n5 c5 ok _ (s1.drew ClR.stays) (s2.drew IntR.stays) (s3.drew UqR.stays) (s4.drew CkR.stays) (s5.drew FkR.stays) HCP.out HX.out).mono ?_
        rintro e wc ⟨rfl, hqc⟩
        rw [HTB.out]
        go_wp2_with fail
        refine hK.out _ _ ⟨below_keep hqc _ _ hHeld.1, below_keep hqc _ _ hHeld.2.1, below_keep hqc _ _ hHeld.2.2.1, below_keep hqc _ _ hHeld.2.2.2.1, below_keep hqc _ _ hHeld.2.2.2.2.1, below_keep hqc _ _ hHeld.2.2.2.2.2⟩ (fun hHeld => ?_)
        clear hK K
        (try simp only [Act.put, pz0, pz1, pz2, pz3, pz4, pz5])
        refine wpAnyH_take (i := 5) (v := ?v28) rfl (by kernel_rfl) (by kernel_rfl) (by kernel_rfl) (fun _ _ _ h => h) (Or.inl ⟨by rfl, ?hy28⟩) hHeld ?rest28
        case hy28 => (intro w' hSw; (try dsimp only at hSw); first | (go_simp; done) | (go_simp; with_reducible rfl))
        simp only [Act.put, pz0, pz1, pz2, pz3, pz4, pz5]
        refine wpAnyH_take (i := 6) (v := ?v29) rfl (by kernel_rfl) (by kernel_rfl) (by kernel_rfl) (fun _ _ _ h => h) (Or.inl ⟨by rfl, ?hy29⟩) hHeld ?rest29
        case hy29 => (intro w' hSw; (try dsimp only at hSw); first | (go_simp; done) | (go_simp; with_reducible rfl))
        simp only [Act.put, pz0, pz1, pz2, pz3, pz4, pz5]
        refine wpAnyH_take (i := 7) (v := ?v30) rfl (by kernel_rfl) (by kernel_rfl) (by kernel_rfl) (fun _ _ _ h => h) (Or.inl ⟨by rfl, ?hy30⟩) hHeld ?rest30
        case hy30 => (intro w' hSw; (try dsimp only at hSw); first | (go_simp; done) | (go_simp; with_reducible rfl))
        simp only [Act.put, pz0, pz1, pz2, pz3, pz4, pz5]
        refine wpAnyH_take (i := 8) (v := ?v31) rfl (by kernel_rfl) (by kernel_rfl) (by kernel_rfl) (fun _ _ _ h => h) (Or.inl ⟨by rfl, ?hy31⟩) hHeld ?rest31
        case hy31 => (intro w' hSw; (try dsimp only at hSw); first | (go_simp; done) | (go_simp; with_reducible rfl))
        simp only [Act.put, pz0, pz1, pz2, pz3, pz4, pz5]
        refine wpAnyH_take (i := 9) (v := ?v32) rfl (by kernel_rfl) (by kernel_rfl) (by kernel_rfl) (fun _ _ _ h => h) (Or.inl ⟨by rfl, ?hy32⟩) hHeld ?rest32
        case hy32 => (intro w' hSw; (try dsimp only at hSw); first | (go_simp; done) | (go_simp; with_reducible rfl))
        simp only [Act.put, pz0, pz1, pz2, pz3, pz4, pz5]
        refine wpAnyH_take (i := 10) (v := ?v33) rfl (by kernel_rfl) (by kernel_rfl) (by kernel_rfl) (fun _ _ _ h => h) (Or.inl ⟨by rfl, ?hy33⟩) hHeld ?rest33
        case hy33 => (intro w' hSw; (try dsimp only at hSw); first | (go_simp; done) | (go_simp; with_reducible rfl))
        simp only [Act.put, pz0, pz1, pz2, pz3, pz4, pz5]
        refine wpAnyH_take (i := 11) (v := ?v34) rfl (by kernel_rfl) (by kernel_rfl) (by kernel_rfl) (fun _ _ _ h => h) (Or.inl ⟨by rfl, ?hy34⟩) hHeld ?rest34
        case hy34 => (intro w' hSw; (try dsimp only at hSw); first | (go_simp; done) | (go_simp; with_reducible rfl))
        simp only [Act.put, pz0, pz1, pz2, pz3, pz4, pz5]
        refine wpAnyH_take (i := 12) (v := ?v35) rfl (by kernel_rfl) (by kernel_rfl) (by kernel_rfl) (fun _ _ _ h => h) (Or.inl ⟨by rfl, ?hy35⟩) hHeld ?rest35
        case hy35 => (intro w' hSw; (try dsimp only at hSw); first | (go_simp; done) | (go_simp; with_reducible rfl))
        simp only [Act.put, pz0, pz1, pz2, pz3, pz4, pz5]
        refine wpAnyH_take (i := 13) (v := ?v36) rfl (by kernel_rfl) (by kernel_rfl) (by kernel_rfl) (fun _ _ _ h => h) (Or.inl ⟨by rfl, ?hy36⟩) hHeld ?rest36
        case hy36 => (intro w' hSw; (try dsimp only at hSw); first | (go_simp; done) | (go_simp; with_reducible rfl))
        simp only [Act.put, pz0, pz1, pz2, pz3, pz4, pz5]
        refine wpAnyH_take (i := 14) (v := ?v37) rfl (by kernel_rfl) (by kernel_rfl) (by kernel_rfl) (fun _ _ _ h => h) (Or.inl ⟨by rfl, ?hy37⟩) hHeld ?rest37
        case hy37 => (intro w' hSw; (try dsimp only at hSw); first | (go_simp; done) | (go_simp; with_reducible rfl))
        simp only [Act.put, pz0, pz1, pz2, pz3, pz4, pz5]
        refine wpAnyH_ready (rs := [15]) (by kernel_rfl) (by simp) ?_
        refine AllReadyH.cons rfl (fun K hK => ?_) AllReadyH.nil
        go_simp
        refine (specL3At _ k cS (s.take k) _ ok _ (((hsw.drew TbR.stays).below TbR.stays hqc).take (m := k) (by omega)) (by omega)).mono ?_
        rintro e wd ⟨rfl, hqd⟩
        rw [HA.out]
        go_wp2_with fail
        refine hK.out _ _ ⟨below_keep hqd _ _ hHeld.1, below_keep hqd _ _ hHeld.2.1, below_keep hqd _ _ hHeld.2.2.1, below_keep hqd _ _ hHeld.2.2.2.1, below_keep hqd _ _ hHeld.2.2.2.2.1, below_keep hqd _ _ hHeld.2.2.2.2.2⟩ (fun hHeld => ?_)
        clear hK K
        (try simp only [Act.put, pz0, pz1, pz2, pz3, pz4, pz5])
        refine wpAnyH_take (i := 16) (v := ?v38) rfl (by kernel_rfl) (by kernel_rfl) (by kernel_rfl) (fun _ _ _ h => h) (Or.inl ⟨by rfl, ?hy38⟩) hHeld ?rest38
        case hy38 => (intro w' hSw; (try dsimp only at hSw); first | (go_simp; done) | (go_simp; with_reducible rfl))
        simp only [Act.put, pz0, pz1, pz2, pz3, pz4, pz5]
        refine wpAnyH_take (i := 17) (v := ?v39) rfl (by kernel_rfl) (by kernel_rfl) (by kernel_rfl) (fun _ _ _ h => h) (Or.inl ⟨by rfl, ?hy39⟩) hHeld ?rest39
        case hy39 => (intro w' hSw; (try dsimp only at hSw); first | (go_simp; done) | (go_simp; with_reducible rfl))
        simp only [Act.put, pz0, pz1, pz2, pz3, pz4, pz5]
        refine wpAnyH_done (by kernel_rfl) ?_ _
        refine NoPanic.normal ?_
        have hz := hb.drew.trans (hqc.mono hb.drew.size)
        have hz := hz.trans (hqd.mono hz.size)
        clear hHeld q0 q1 q2 q3 q4 q5
        go_wp2_with fail
        go_roundw
        case rel => exact ⟨k + 1, by omega, by go_num, Lib.hid HAL.out, Lib.hid HUQ.out, hz⟩
        case measure => simp [intOf]; omega
    · have e : s.take k = s := List.take_of_length_le (by omega)
      have e2 : (s.map Tb.name).drop k = [] := List.drop_eq_nil_of_le (by simp; omega)
      have g1 := hall.out
      have g2 := huq.out
      rw [e] at g1
      rw [e2] at g2
      have HALL := Lib.hid g1
      have HU := Lib.hid (show uniqGo [] (s.map Tb.name) = true by rw [g2]; simp [uniqGo])
      clear e e2 g1 g2 hall huq
      go_wp2_with fail
      clear hk hlt
      go_loopw [4] (fun i wr => ∃ k : Nat, k ≤ s.length ∧ i = .int .i64 k ∧ Hid ((s.take k).all (leadsB s) = true) ∧ Below w.heap.size w wr) (fun i _ => s.length - (intOf i).toNat)
      case atStart => exact ⟨0, by omega, rfl, Lib.hid (by simp), hb⟩
      case round =>
        clear hb
        obtain ⟨k, hk, rfl, hall, hb⟩ := hrel
        by_cases hlt : k < s.length
        case neg =>
          have e : s.take k = s := List.take_of_length_le (by omega)
          have g1 := hall.out
          rw [e] at g1
          by_cases h5 : (s.length : Int) ≤ 5
          · have HF := Lib.hid (show schemaB s = true by unfold schemaB; rw [decide_eq_true (by omega), HALL.out, HU.out, g1]; rfl)
            have h5' : decide ((s.length : Int) ≤ 5) = true := by simpa using h5
            clear e g1 hall
            go_wp2_with fail
            go_ret
            exact ⟨retB HF.out.symm, hb⟩
          · have HF := Lib.hid (show schemaB s = false by unfold schemaB; rw [decide_eq_false (by omega)]; rfl)
            have h5' : decide ((s.length : Int) ≤ 5) = false := by simpa using h5
            clear e g1 hall
            go_wp2_with fail
            go_ret
            exact ⟨retB HF.out.symm, hb⟩
        case pos =>
          have hsn := all_take (leadsB s) s k hlt
          rw [hall.out, Bool.true_and] at hsn
          have HNO := Lib.hid (fun hf : leadsB s s[k] = false => show schemaB s = false by unfold schemaB; rw [all_no (leadsB s) s k hlt hf]; simp)
          have HSN := Lib.hid hsn
          have HX := Lib.hid (HT.out k hlt)
          have HTK := Lib.hid (show tableB s[k] = true from List.all_eq_true.1 HALL.out _ (List.getElem_mem hlt))
          clear hsn hall
          have i0 : (0 : Int) ≤ k := by omega
          have i1 : (k : Int) < s.length := by omega
          go_wp2_with fail
          go_loopw [5] (fun i wr => ∃ m : Nat, m ≤ s[k].fks.length ∧ i = .int .i64 m ∧ Hid ((s[k].fks.take m).all (leadB s s[k]) = true) ∧ Below w.heap.size w wr) (fun i _ => s[k].fks.length - (intOf i).toNat)
          case atStart => exact ⟨0, by omega, rfl, Lib.hid (by simp), hb⟩
          case round =>
            clear hb
            obtain ⟨m, hm, rfl, hall, hb⟩ := hrel
            obtain ⟨b, off, A1, n1, c1, A2, n2, c2, A3, n3, c3, A4, n4, c4, A5, n5, c5, -, ea, q0, q1, q2, q3, q4, q5, s1, s2, -, -, s5, -⟩ := TbR.at_ (hs.below TbR.stays hb) hlt
            subst ea
            obtain rfl : s[k].fks.length = n5 := s5.1
            by_cases hlm : m < s[k].fks.length
            case neg =>
              have e : s[k].fks.take m = s[k].fks := List.take_of_length_le (by omega)
              have g1 := hall.out
              rw [e] at g1
              have HA := Lib.hid (HSN.out.trans g1)
              clear e g1 hall
              go_wp2_with fail
              go_roundw
              case rel => exact ⟨k + 1, by omega, by go_num, Lib.hid HA.out, hb⟩
              case measure => simp [intOf]; omega
            case pos =>
              have hsn := all_take (leadB s s[k]) s[k].fks m hlm
              rw [hall.out, Bool.true_and] at hsn
              have hno := fun hf : leadB s s[k] s[k].fks[m] = false => HNO.out (show leadsB s s[k] = false from all_no (leadB s s[k]) s[k].fks m hlm hf)
              have HI1 := Lib.hid (show ∀ y ∈ s[k].fks[m].cols, 0 ≤ y ∧ y < s[k].cols.length from fk_cols HTK.out hlm)
              obtain ⟨bf, offf, A9, n9, c9, -, ef, y0, y1, y2, y3, y4, hfc, -⟩ := FkR.at_ s5 hlm
              subst ef
              obtain rfl : s[k].fks[m].cols.length = n9 := hfc.1
              have HSN3 := Lib.hid hsn
              have HNO3 := Lib.hid hno
              clear hsn hno hall
              have hfin : s[k].fks[m].cols.length ≤ 1048576 := by have h1 := HX.out; have := sum_mem_le Fk.sz s[k].fks m hlm; simp only [Tb.sz, Fk.sz, szL] at *; omega
              have hfl : s[k].fks.length ≤ 1048576 := by have := HX.out; simp only [Tb.sz, szL] at this; omega
              generalize s[k].fks[m] = f at *
              have j0 : (0 : Int) ≤ m := by omega
              have j1' : (m : Int) < s[k].fks.length := by omega
              have hbx := (Below.refl wr.heap.size wr).alloc (Nat.le_refl _) (.cells #[.slice A9 f.cols.length c9, .string f.table, .int .i64 f.del, .int .i64 f.upd, .bool f.dfr] 87)
              have hba := hb.trans (hbx.mono hb.size)
              have rf := Row.new wr 87 #[.slice A9 f.cols.length c9, .string f.table, .int .i64 f.del, .int .i64 f.upd, .bool f.dfr]
              have hfc1 := hfc.below IntR.stays hbx
              obtain ⟨⟨f0, f1, f2, f3, f4⟩, -⟩ := rf.five
              clear hfc
              go_wp2_with fail
              generalize wr.alloc (.cells #[.slice A9 f.cols.length c9, .string f.table, .int .i64 f.del, .int .i64 f.upd, .bool f.dfr] 87) = z1 at *
              generalize wr.heap.size = gz at *
              refine (specL3At _ s.length cS s f.table ok _ (hs.below TbR.stays hba) hn).mono ?_
              rintro e w1 ⟨rfl, hb1⟩
              have hbc := hba.trans (hb1.mono hba.size)
              have rf1 := rf.below hb1
              have hfc2 := hfc1.below IntR.stays hb1
              clear f0 f1 f2 f3 f4 q0 q1 q2 q3 q4 q5 y0 y1 y2 y3 y4 s1 s2 hbx hb rf hfc1 hba hb1 s5
              obtain ⟨⟨f0, f1, f2, f3, f4⟩, -⟩ := rf1.five
              by_cases hat : atN (s.map Tb.name) f.table = -1
              · have HA := Lib.hid hat
                have HF := Lib.hid (HNO3.out (by unfold leadB; rw [decide_eq_false (by simp [hat])]; rfl))
                rw [hat]
                clear hat
                go_wp2_with fail
                go_quiet (fail)
                go_wp2_with fail
                go_ret
                exact ⟨retB HF.out.symm, below_drewN hbc _⟩
              obtain ⟨j, hj, hjl⟩ : ∃ j : Nat, atN (s.map Tb.name) f.table = (j : Int) ∧ j < s.length := by
                rcases atN_rng (s.map Tb.name) f.table with h | h
                · exact absurd h hat
                · rw [List.length_map] at h; exact ⟨(atN (s.map Tb.name) f.table).toNat, by omega, by omega⟩
              have hld : leadB s s[k] f = sameB s[k].cols f.cols s[j].cols s[j].key := by
                unfold leadB; rw [decide_eq_true hat, hj]; simp [List.getElem?_eq_getElem hjl]
              have HSN4 := Lib.hid (HSN3.out.trans hld)
              have HLD := Lib.hid hld
              have HTJ := Lib.hid (show tableB s[j] = true from List.all_eq_true.1 HALL.out _ (List.getElem_mem hjl))
              rw [hj]
              clear hat hj hld
              have k0 : (0 : Int) ≤ j := by omega
              have k1 : (j : Int) < s.length := by omega
              have k2 : ¬ ((j : Int) < 0) := by omega
              have k3 : decide ((j : Int) < 0) = false := decide_eq_false k2
              obtain ⟨bj, offj, B1, m1, d1, B2, m2, d2, B3, m3, d3, B4, m4, d4, B5, m5, d5, -, ej, z0, z1', z2, z3, z4, z5, t1, t2, -, -, -, -⟩ := TbR.at_ (hs.below TbR.stays hbc) hjl
              cases ej
              obtain rfl : s[j].key.length = m2 := t2.1
              cases hl : (s[j].key.length == f.cols.length)
              · have hne := beq_eq_false_iff_ne.1 hl
                have hl' : ¬ ((s[j].key.length : Int) = f.cols.length) := by omega
                have HF := Lib.hid (HNO3.out (by rw [HLD.out]; unfold sameB; rw [decide_eq_false (fun h => hne h.symm)]; rfl))
                clear hl hne
                go_wp2_with fail
                go_quiet (fail)
                go_wp2_with fail
                go_ret
                exact ⟨retB HF.out.symm, below_drewN hbc _⟩
              have hlen : s[j].key.length = f.cols.length := by simpa using hl
              have hl' : ((s[j].key.length : Int) = f.cols.length) := by omega
              have hz : (f.cols.zip s[j].key).length = f.cols.length := by simp [hlen]
              have HZ := Lib.hid hz
              have HL := Lib.hid hlen
              have HE := Lib.hid (show sameB s[k].cols f.cols s[j].cols s[j].key = (f.cols.zip s[j].key).all (kindV s[k].cols s[j].cols) by unfold sameB; rw [decide_eq_true hlen.symm]; rfl)
              clear hl hz hlen
              go_wp2_with fail
              go_quiet (fail)
              go_wp2_with fail
              clear f0 f1 f2 f3 f4 z0 z1' z2 z3 z4 z5 t1 t2 hl'
              have hbd := fun n => below_drewN hbc n
              go_loopw [8] (fun i wr => ∃ r : Nat, r ≤ f.cols.length ∧ i = .int .i64 r ∧ Hid (((f.cols.zip s[j].key).take r).all (kindV s[k].cols s[j].cols) = true) ∧ Row wr gz 87 #[.slice A9 f.cols.length c9, .string f.table, .int .i64 f.del, .int .i64 f.upd, .bool f.dfr] ∧ Sl IntR 1 ok wr A9 f.cols.length f.cols ∧ Below w.heap.size w wr) (fun i _ => f.cols.length - (intOf i).toNat)
              case atStart => exact ⟨0, by omega, rfl, Lib.hid (by simp), rf1.drewN _, hfc2.drewN IntR.stays _, hbd _⟩
              case round =>
                clear hbd hbc rf1 hfc2
                obtain ⟨r, hr', rfl, hall, hrf, hfc, hb⟩ := hrel
                obtain ⟨⟨f0, f1, f2, f3, f4⟩, -⟩ := hrf.five
                by_cases hlr : r < f.cols.length
                case neg =>
                  have e : (f.cols.zip s[j].key).take r = f.cols.zip s[j].key := List.take_of_length_le (by rw [HZ.out]; omega)
                  have g1 := hall.out
                  rw [e] at g1
                  have HA := Lib.hid (HSN4.out.trans (HE.out.trans g1))
                  clear e g1 hall
                  go_wp2_with fail
                  go_roundw
                  case rel => exact ⟨m + 1, by omega, by go_num, Lib.hid HA.out, hb⟩
                  case measure => simp [intOf]; omega
                case pos =>
                  have hlr2 : r < s[j].key.length := by have := HL.out; omega
                  obtain ⟨bq, offq, C1, e1, g1, C2, e2, g2, C3, e3, g3, C4, e4, g4, C5, e5, g5, -, eq, q0, q1, q2, q3, q4, q5, s1, -, -, -, -, -⟩ := TbR.at_ (hs.below TbR.stays hb) hlt
                  cases eq
                  obtain ⟨bj, offj, D1, m1, d1, D2, m2, d2, D3, m3, d3, D4, m4, d4, D5, m5, d5, -, ej, z0, z1', z2, z3, z4, z5, t1, t2, -, -, -, -⟩ := TbR.at_ (hs.below TbR.stays hb) hjl
                  cases ej
                  obtain rfl : s[j].key.length = m2 := t2.1
                  obtain rfl : s[k].cols.length = e1 := s1.1
                  obtain rfl : s[j].cols.length = m1 := t1.1
                  obtain ⟨bk, offk, -, ek, p0⟩ := IntR.at_ hfc hlr
                  subst ek
                  obtain ⟨bl, offl, -, el, p1⟩ := IntR.at_ t2 hlr2
                  subst el
                  have hi1 := HI1.out _ (List.getElem_mem hlr)
                  have hi2 := key_cols HTJ.out _ (List.getElem_mem hlr2)
                  have hsn := all_take (kindV s[k].cols s[j].cols) (f.cols.zip s[j].key) r (by rw [HZ.out]; exact hlr)
                  have hno := fun hf : kindV s[k].cols s[j].cols ((f.cols.zip s[j].key)[r]'(by rw [HZ.out]; exact hlr)) = false => all_no (kindV s[k].cols s[j].cols) (f.cols.zip s[j].key) r (by rw [HZ.out]; exact hlr) hf
                  obtain ⟨u1, hu1⟩ : ∃ j : Nat, f.cols[r] = (j : Int) := ⟨f.cols[r].toNat, by omega⟩
                  obtain ⟨u2, hu2⟩ : ∃ i : Nat, s[j].key[r] = (i : Int) := ⟨s[j].key[r].toNat, by omega⟩
                  rw [hu1] at p0 hi1
                  rw [hu2] at p1 hi2
                  have hjl1 : u1 < s[k].cols.length := by omega
                  have hjl2 : u2 < s[j].cols.length := by omega
                  have eg : kindV s[k].cols s[j].cols ((f.cols.zip s[j].key)[r]'(by rw [HZ.out]; exact hlr)) = (s[k].cols[u1].kind == s[j].cols[u2].kind) := by
                    rw [List.getElem_zip]; unfold kindV; simp only [hu1, hu2, kindAt_nat hjl1, kindAt_nat hjl2]
                  rw [hall.out, Bool.true_and, eg] at hsn
                  rw [eg] at hno
                  obtain ⟨bv, offv, -, ev, v0, v1, v2, v3, v4, v5⟩ := ClR.at_ s1 hjl1
                  subst ev
                  obtain ⟨bx, offx, -, ex, x0, x1, x2, x3, x4, x5⟩ := ClR.at_ t1 hjl2
                  subst ex
                  have r0 : (0 : Int) ≤ r := by omega
                  have r1 : (r : Int) < f.cols.length := by omega
                  have r2 : (r : Int) < s[j].key.length := by omega
                  have r3 : (0 : Int) ≤ u1 := by omega
                  have r4 : (u1 : Int) < s[k].cols.length := by omega
                  have r5 : (0 : Int) ≤ u2 := by omega
                  have r6 : (u2 : Int) < s[j].cols.length := by omega
                  clear eg hu1 hu2 hi1 hi2
                  cases hc : (s[k].cols[u1].kind == s[j].cols[u2].kind)
                  · have HF := Lib.hid (HNO3.out (by rw [HLD.out, HE.out]; exact hno hc))
                    have hc2 : (s[k].cols[u1].kind != s[j].cols[u2].kind) = true := by rw [bne, hc]; rfl
                    clear hsn hno hall
                    go_wp2_with fail
                    go_quiet (fail)
                    go_wp2_with fail
                    go_ret
                    exact ⟨retB HF.out.symm, below_drewN hb _⟩
                  · have HA := Lib.hid (hsn.trans hc)
                    have hc2 : (s[k].cols[u1].kind != s[j].cols[u2].kind) = false := by rw [bne, hc]; rfl
                    clear hsn hno hall
                    go_wp2_with fail
                    go_quiet (fail)
                    go_wp2_with fail
                    go_roundw
                    case rel => exact ⟨r + 1, by omega, by go_num, Lib.hid HA.out, hrf.drewN _, hfc.drewN IntR.stays _, below_drewN hb _⟩
                    case measure => simp [intOf]; omega
theorem ids_out {v last : Int} (hin : (decide (1 ≤ v) && decide (v ≤ 1000000000)) = false) (h0 : 0 ≤ last) (b : Bool) : (decide (last < v) && (decide (v ≤ 1000000000) && b)) = false := by
  rw [Bool.eq_false_iff]
  intro h
  simp only [Bool.and_eq_true, decide_eq_true_eq] at h
  rw [decide_eq_true (by omega), decide_eq_true h.2.1] at hin
  cases hin
set_option maxRecDepth 100000 in
set_option maxHeartbeats 4000000 in
theorem specL4Db (AS AD : Option Addr) (nS cS nD cD : Nat) (s : List Tb) (db : List Dt) (ok : Nat → Prop) (w : World) (hs : Sl TbR 6 ok w AS nS s) (hd : Sl DtR 1 ok w AD nD db) (hsz : szL Tb.sz s ≤ 1048576) (hdz : szL Dt.sz db ≤ 1048576) (hvs : ∀ d ∈ db, ∀ r ∈ d.rows, r.vals.length ≤ 1048576) (hS : schemaB s = true) :
    Calls Tryz.prog 34 #[.slice AS nS cS, .slice AD nD cD] w fun e w' => e = .returned (.bool (dbB s db)) ∧ Below w.heap.size w w' := by
  obtain rfl : s.length = nS := hs.1
  obtain rfl : db.length = nD := hd.1
  have hn1 : s.length ≤ 1048576 := by unfold szL at hsz; omega
  have hn2 : db.length ≤ 1048576 := by unfold szL at hdz; omega
  have HSZ := Lib.hid hsz
  have HDZ := Lib.hid hdz
  have HVS := Lib.hid hvs
  have HS := Lib.hid hS
  clear hsz hdz hvs hS
  cases hl : (db.length == s.length)
  · have hl' : ¬ ((db.length : Int) = s.length) := by have := beq_eq_false_iff_ne.1 hl; omega
    have HF := Lib.hid (show dbB s db = false by unfold dbB; rw [decide_eq_false (beq_eq_false_iff_ne.1 hl)]; simp)
    clear hl
    go_enter Tryz.func34, Tryz.ntmps34
    go_wp2_with fail
    go_ret
    exact ⟨retB HF.out.symm, Below.refl _ _⟩
  have hlen : db.length = s.length := by simpa using hl
  have hl' : (db.length : Int) = s.length := by omega
  have hz : (s.zip db).length = db.length := by simp [hlen]
  have HZ := Lib.hid hz
  have HL := Lib.hid hlen
  have HE := Lib.hid (show dbB s db = (s.zip db).all dbV by unfold dbB; rw [HS.out, decide_eq_true hlen]; rfl)
  clear hl hz hlen
  go_enter Tryz.func34, Tryz.ntmps34
  go_wp2_with fail
  clear hl'
  go_loopw [5] (fun i wr => ∃ k : Nat, k ≤ db.length ∧ i = .int .i64 k ∧ Hid (((s.zip db).take k).all dbV = true) ∧ Below w.heap.size w wr) (fun i _ => db.length - (intOf i).toNat)
  case atStart => exact ⟨0, by omega, rfl, Lib.hid (by simp), Below.refl _ _⟩
  case round =>
    obtain ⟨i, hk, rfl, hall, hb⟩ := hrel
    by_cases hlt : i < db.length
    case neg =>
      have e : (s.zip db).take i = s.zip db := List.take_of_length_le (by rw [HZ.out]; omega)
      have g1 := hall.out
      rw [e] at g1
      have HF := Lib.hid (show dbB s db = true by rw [HE.out]; exact g1)
      have i3 : ¬ (i : Int) < s.length := by have := HL.out; omega
      clear e g1 hall
      go_wp2_with fail
      go_ret
      exact ⟨retB HF.out.symm, hb⟩
    case pos =>
      have hlt2 : i < s.length := by have := HL.out; omega
      obtain ⟨bd, offd, AL, nL, cL, -, ed, y0, hrs, -⟩ := DtR.at_ (hd.below DtR.stays hb) hlt
      subst ed
      obtain rfl : db[i].rows.length = nL := hrs.1
      have hrn : db[i].rows.length ≤ 1048576 := by have h1 := HDZ.out; have := sum_mem_le Dt.sz db i hlt; simp only [szL, Dt.sz] at *; omega
      have HV := Lib.hid (HVS.out _ (List.getElem_mem hlt))
      have hsn := all_take dbV (s.zip db) i (by rw [HZ.out]; exact hlt)
      have hno := fun hf => all_no dbV (s.zip db) i (by rw [HZ.out]; exact hlt) hf
      have eg : dbV ((s.zip db)[i]'(by rw [HZ.out]; exact hlt)) = dataB s[i].cols db[i].rows := by rw [List.getElem_zip]; rfl
      rw [hall.out, Bool.true_and, eg] at hsn
      rw [eg] at hno
      have i0 : (0 : Int) ≤ i := by omega
      have i1 : (i : Int) < db.length := by omega
      have i2 : (i : Int) < s.length := by omega
      have HSN := Lib.hid hsn
      have HNO := Lib.hid (fun hf : dataB s[i].cols db[i].rows = false => show dbB s db = false by rw [HE.out]; exact hno hf)
      clear eg hsn hno hall
      go_wp2_with fail
      clear y0
      go_loopw [7] (fun m wr => ∃ (k : Nat) (last : Int), k ≤ db[i].rows.length ∧ m = .int .i64 k ∧ Hid (idsGo s[i].cols 0 db[i].rows = idsGo s[i].cols last (db[i].rows.drop k)) ∧ Hid (0 ≤ last ∧ (k = 0 → last = 0) ∧ (∀ q (hq : q + 1 = k) (h2 : q < db[i].rows.length), db[i].rows[q].id = last)) ∧ Sl RwR 2 ok wr AL db[i].rows.length db[i].rows ∧ Below w.heap.size w wr) (fun m _ => db[i].rows.length - (intOf m).toNat)
      case atStart => exact ⟨0, 0, by omega, rfl, Lib.hid (by simp), Lib.hid ⟨by omega, fun _ => rfl, fun q hq => by omega⟩, hrs, hb⟩
      case round =>
        clear hb hrs
        obtain ⟨k, last, hk, rfl, HGO, HLA, hrs, hb⟩ := hrel
        by_cases hlk : k < db[i].rows.length
        case neg =>
          have e : db[i].rows.drop k = [] := List.drop_eq_nil_of_le (by omega)
          have g1 := HGO.out
          rw [e] at g1
          by_cases h60 : 60 < (db[i].rows.length : Int)
          · have HF := Lib.hid (HNO.out (by unfold dataB; rw [decide_eq_false (by omega)]; rfl))
            clear e g1
            go_wp2_with fail
            go_ret
            exact ⟨retB HF.out.symm, hb⟩
          · have HA := Lib.hid (show ((s.zip db).take (i + 1)).all dbV = true by rw [HSN.out]; unfold dataB; rw [decide_eq_true (by omega), g1]; rfl)
            have h60' : decide (60 < (db[i].rows.length : Int)) = false := by simpa using h60
            clear e g1
            go_wp2_with fail
            go_roundw
            case rel => exact ⟨i + 1, by omega, by go_num, Lib.hid HA.out, hb⟩
            case measure => simp [intOf]; omega
        case pos =>
          obtain ⟨b, off, A1, n1, c1, A2, n2, c2, A3, n3, c3, A4, n4, c4, A5, n5, c5, -, ea, q0, q1, q2, q3, q4, q5, s1, -, -, -, -, -⟩ := TbR.at_ (hs.below TbR.stays hb) hlt2
          subst ea
          obtain rfl : s[i].cols.length = n1 := s1.1
          have HCN := Lib.hid (show s[i].cols.length ≤ 1048576 by have h1 := HSZ.out; have := sum_mem_le Tb.sz s i hlt2; simp only [szL, Tb.sz] at *; omega)
          obtain ⟨bl, offl, A9, n9, c9, -, el, r0, r1, hvl, -⟩ := RwR.at_ hrs hlk
          obtain rfl : db[i].rows[k].vals.length = n9 := hvl.1
          have hvv : Vals wr.drew A9 db[i].rows[k].vals.length db[i].rows[k].vals := Sl.cellz (fun _ => rfl) (hvl.drew VlR.stays)
          have HN9 := Lib.hid (HV.out _ (List.getElem_mem hlk))
          have hst := idsGo_at s[i].cols last db[i].rows k hlk
          have hbad := fun hf : idsGo s[i].cols last (db[i].rows.drop k) = false => HNO.out (by unfold dataB; rw [HGO.out, hf]; simp)
          have hla := HLA.out
          have HVK := Lib.hid (rfl : db[i].rows[k].id = db[i].rows[k].id)
          have j0 : (0 : Int) ≤ k := by omega
          have j1 : (k : Int) < db[i].rows.length := by omega
          have hpre : ∀ p, p + 1 = k → ∃ hp : p < db[i].rows.length, wr.cell? ⟨bl, offl + p * 2, none⟩ = some (.int .i64 db[i].rows[p].id) := by
            intro p hp
            obtain ⟨b2, off2, _, _, _, -, e2, z0, -⟩ := RwR.at_ hrs (i := p) (by omega)
            rw [el] at e2
            cases e2
            exact ⟨by omega, z0⟩
          subst el
          revert HVK
          generalize hvd : db[i].rows[k] = v at *
          intro HVK
          have HVK := Lib.hid (show db[i].rows[k].id = v.id by rw [hvd])
          cases hin : (decide (1 ≤ v.id) && decide (v.id ≤ 1000000000))
          · skip
            have HIN := Lib.hid hin
            have HF := Lib.hid (hbad (by rw [hst]; exact ids_out hin hla.1 _))
            clear hin hst hbad
            go_wp2_with fail
            refine wp_region_noPanic ?_
            refine wp_region_held_drew (S := fun w' => w'.cell? ⟨bl, offl + k * 2, none⟩ = some (.int .i64 v.id) ∧ w'.cell? ⟨bl, offl + k * 2 + 1, none⟩ = some (.slice A9 v.vals.length c9) ∧ w'.cell? ⟨b, off + i * 6, none⟩ = some (.string s[i].name) ∧ w'.cell? ⟨b, off + i * 6 + 1, none⟩ = some (.slice A1 s[i].cols.length c1) ∧ w'.cell? ⟨b, off + i * 6 + 2, none⟩ = some (.slice A2 n2 c2) ∧ w'.cell? ⟨b, off + i * 6 + 3, none⟩ = some (.slice A3 n3 c3) ∧ w'.cell? ⟨b, off + i * 6 + 4, none⟩ = some (.slice A4 n4 c4) ∧ w'.cell? ⟨b, off + i * 6 + 5, none⟩ = some (.slice A5 n5 c5)) (by kernel_rfl) ⟨r0, r1, q0, q1, q2, q3, q4, q5⟩ (fun hHeld => ?_)
            refine wpAnyH_take (i := 0) (v := ?v1) rfl (by kernel_rfl) (by kernel_rfl) (by kernel_rfl) (fun _ _ _ h => h) (Or.inl ⟨by rfl, ?hy1⟩) hHeld ?rest1
            case hy1 => (intro w' hSw; (try dsimp only at hSw); first | (go_simp; done) | (go_simp; with_reducible rfl))
            simp only [Act.put, pz0, pz1, pz2, pz3, pz4, pz5]
            refine wpAnyH_take (i := 1) (v := ?v2) rfl (by kernel_rfl) (by kernel_rfl) (by kernel_rfl) (fun _ _ _ h => h) (Or.inl ⟨by rfl, ?hy2⟩) hHeld ?rest2
            case hy2 => (intro w' hSw; (try dsimp only at hSw); first | (go_simp; done) | (go_simp; with_reducible rfl))
            simp only [Act.put, pz0, pz1, pz2, pz3, pz4, pz5]
            refine wpAnyH_take (i := 2) (v := ?v3) rfl (by kernel_rfl) (by kernel_rfl) (by kernel_rfl) (fun _ _ _ h => h) (Or.inl ⟨by rfl, ?hy3⟩) hHeld ?rest3
            case hy3 => (intro w' hSw; (try dsimp only at hSw); first | (go_simp; done) | (go_simp; with_reducible rfl))
            simp only [Act.put, pz0, pz1, pz2, pz3, pz4, pz5]
            refine wpAnyH_take (i := 3) (v := ?v4) rfl (by kernel_rfl) (by kernel_rfl) (by kernel_rfl) (fun _ _ _ h => h) (Or.inl ⟨by rfl, ?hy4⟩) hHeld ?rest4
            case hy4 => (intro w' hSw; (try dsimp only at hSw); first | (go_simp; done) | (go_simp; with_reducible rfl))
            simp only [Act.put, pz0, pz1, pz2, pz3, pz4, pz5]
            refine wpAnyH_take (i := 4) (v := ?v5) rfl (by kernel_rfl) (by kernel_rfl) (by kernel_rfl) (fun _ _ _ h => h) (Or.inl ⟨by rfl, ?hy5⟩) hHeld ?rest5
            case hy5 => (intro w' hSw; (try dsimp only at hSw); first | (go_simp; done) | (go_simp; with_reducible rfl))
            simp only [Act.put, pz0, pz1, pz2, pz3, pz4, pz5]
            refine wpAnyH_ready (rs := [5]) (by kernel_rfl) (by simp) ?_
            refine AllReadyH.cons rfl (fun K hK => ?_) AllReadyH.nil
            go_simp
            refine (specIn _ _ _ _).mono ?_
            rintro e wc ⟨rfl, rfl⟩
            rw [HIN.out]
            go_wp2_with fail
            refine hK.out _ _ hHeld (fun hHeld => ?_)
            clear hK K
            (try simp only [Act.put, pz0, pz1, pz2, pz3, pz4, pz5])
            refine wpAnyH_take (i := 6) (v := ?v6) rfl (by kernel_rfl) (by kernel_rfl) (by kernel_rfl) (fun _ _ _ h => h) (Or.inl ⟨by rfl, ?hy6⟩) hHeld ?rest6
            case hy6 => (intro w' hSw; (try dsimp only at hSw); first | (go_simp; done) | (go_simp; with_reducible rfl))
            simp only [Act.put, pz0, pz1, pz2, pz3, pz4, pz5]
            refine wpAnyH_take (i := 7) (v := ?v7) rfl (by kernel_rfl) (by kernel_rfl) (by kernel_rfl) (fun _ _ _ h => h) (Or.inl ⟨by rfl, ?hy7⟩) hHeld ?rest7
            case hy7 => (intro w' hSw; (try dsimp only at hSw); first | (go_simp; done) | (go_simp; with_reducible rfl))
            simp only [Act.put, pz0, pz1, pz2, pz3, pz4, pz5]
            refine wpAnyH_take (i := 8) (v := undef) rfl (by kernel_rfl) (by kernel_rfl) (by kernel_rfl) (fun _ _ _ h => h) (Or.inr ⟨by rfl, rfl⟩) hHeld ?_
            simp only [Act.put, pz0, pz1, pz2, pz3, pz4, pz5]
            refine wpAnyH_take (i := 9) (v := undef) rfl (by kernel_rfl) (by kernel_rfl) (by kernel_rfl) (fun _ _ _ h => h) (Or.inr ⟨by rfl, rfl⟩) hHeld ?_
            simp only [Act.put, pz0, pz1, pz2, pz3, pz4, pz5]
            refine wpAnyH_take (i := 10) (v := undef) rfl (by kernel_rfl) (by kernel_rfl) (by kernel_rfl) (fun _ _ _ h => h) (Or.inr ⟨by rfl, rfl⟩) hHeld ?_
            simp only [Act.put, pz0, pz1, pz2, pz3, pz4, pz5]
            refine wpAnyH_take (i := 11) (v := undef) rfl (by kernel_rfl) (by kernel_rfl) (by kernel_rfl) (fun _ _ _ h => h) (Or.inr ⟨by rfl, rfl⟩) hHeld ?_
            simp only [Act.put, pz0, pz1, pz2, pz3, pz4, pz5]
            refine wpAnyH_take (i := 12) (v := undef) rfl (by kernel_rfl) (by kernel_rfl) (by kernel_rfl) (fun _ _ _ h => h) (Or.inr ⟨by rfl, rfl⟩) hHeld ?_
            simp only [Act.put, pz0, pz1, pz2, pz3, pz4, pz5]
            refine wpAnyH_take (i := 13) (v := undef) rfl (by kernel_rfl) (by kernel_rfl) (by kernel_rfl) (fun _ _ _ h => h) (Or.inr ⟨by rfl, rfl⟩) hHeld ?_
            simp only [Act.put, pz0, pz1, pz2, pz3, pz4, pz5]
            refine wpAnyH_take (i := 14) (v := undef) rfl (by kernel_rfl) (by kernel_rfl) (by kernel_rfl) (fun _ _ _ h => h) (Or.inr ⟨by rfl, rfl⟩) hHeld ?_
            simp only [Act.put, pz0, pz1, pz2, pz3, pz4, pz5]
            refine wpAnyH_take (i := 15) (v := undef) rfl (by kernel_rfl) (by kernel_rfl) (by kernel_rfl) (fun _ _ _ h => h) (Or.inr ⟨by rfl, rfl⟩) hHeld ?_
            simp only [Act.put, pz0, pz1, pz2, pz3, pz4, pz5]
            refine wpAnyH_take (i := 16) (v := undef) rfl (by kernel_rfl) (by kernel_rfl) (by kernel_rfl) (fun _ _ _ h => h) (Or.inr ⟨by rfl, rfl⟩) hHeld ?_
            simp only [Act.put, pz0, pz1, pz2, pz3, pz4, pz5]
            refine wpAnyH_take (i := 17) (v := undef) rfl (by kernel_rfl) (by kernel_rfl) (by kernel_rfl) (fun _ _ _ h => h) (Or.inr ⟨by rfl, rfl⟩) hHeld ?_
            simp only [Act.put, pz0, pz1, pz2, pz3, pz4, pz5]
            refine wpAnyH_take (i := 18) (v := undef) rfl (by kernel_rfl) (by kernel_rfl) (by kernel_rfl) (fun _ _ _ h => h) (Or.inr ⟨by rfl, rfl⟩) hHeld ?_
            simp only [Act.put, pz0, pz1, pz2, pz3, pz4, pz5]
            refine wpAnyH_take (i := 19) (v := undef) rfl (by kernel_rfl) (by kernel_rfl) (by kernel_rfl) (fun _ _ _ h => h) (Or.inr ⟨by rfl, rfl⟩) hHeld ?_
            simp only [Act.put, pz0, pz1, pz2, pz3, pz4, pz5]
            refine wpAnyH_take (i := 20) (v := undef) rfl (by kernel_rfl) (by kernel_rfl) (by kernel_rfl) (fun _ _ _ h => h) (Or.inr ⟨by rfl, rfl⟩) hHeld ?_
            simp only [Act.put, pz0, pz1, pz2, pz3, pz4, pz5]
            refine wpAnyH_take (i := 21) (v := undef) rfl (by kernel_rfl) (by kernel_rfl) (by kernel_rfl) (fun _ _ _ h => h) (Or.inr ⟨by rfl, rfl⟩) hHeld ?_
            simp only [Act.put, pz0, pz1, pz2, pz3, pz4, pz5]
            refine wpAnyH_take (i := 22) (v := undef) rfl (by kernel_rfl) (by kernel_rfl) (by kernel_rfl) (fun _ _ _ h => h) (Or.inr ⟨by rfl, rfl⟩) hHeld ?_
            simp only [Act.put, pz0, pz1, pz2, pz3, pz4, pz5]
            refine wpAnyH_take (i := 23) (v := undef) rfl (by kernel_rfl) (by kernel_rfl) (by kernel_rfl) (fun _ _ _ h => h) (Or.inr ⟨by rfl, rfl⟩) hHeld ?_
            simp only [Act.put, pz0, pz1, pz2, pz3, pz4, pz5]
            refine wpAnyH_take (i := 24) (v := ?v8) rfl (by kernel_rfl) (by kernel_rfl) (by kernel_rfl) (fun _ _ _ h => h) (Or.inl ⟨by rfl, ?hy8⟩) hHeld ?rest8
            case hy8 => (intro w' hSw; (try dsimp only at hSw); first | (go_simp; done) | (go_simp; with_reducible rfl))
            simp only [Act.put, pz0, pz1, pz2, pz3, pz4, pz5]
            refine wpAnyH_take (i := 25) (v := ?v9) rfl (by kernel_rfl) (by kernel_rfl) (by kernel_rfl) (fun _ _ _ h => h) (Or.inl ⟨by rfl, ?hy9⟩) hHeld ?rest9
            case hy9 => (intro w' hSw; (try dsimp only at hSw); first | (go_simp; done) | (go_simp; with_reducible rfl))
            simp only [Act.put, pz0, pz1, pz2, pz3, pz4, pz5]
            refine wpAnyH_take (i := 26) (v := undef) rfl (by kernel_rfl) (by kernel_rfl) (by kernel_rfl) (fun _ _ _ h => h) (Or.inr ⟨by rfl, rfl⟩) hHeld ?_
            simp only [Act.put, pz0, pz1, pz2, pz3, pz4, pz5]
            refine wpAnyH_take (i := 27) (v := undef) rfl (by kernel_rfl) (by kernel_rfl) (by kernel_rfl) (fun _ _ _ h => h) (Or.inr ⟨by rfl, rfl⟩) hHeld ?_
            simp only [Act.put, pz0, pz1, pz2, pz3, pz4, pz5]
            refine wpAnyH_take (i := 28) (v := undef) rfl (by kernel_rfl) (by kernel_rfl) (by kernel_rfl) (fun _ _ _ h => h) (Or.inr ⟨by rfl, rfl⟩) hHeld ?_
            simp only [Act.put, pz0, pz1, pz2, pz3, pz4, pz5]
            refine wpAnyH_take (i := 29) (v := undef) rfl (by kernel_rfl) (by kernel_rfl) (by kernel_rfl) (fun _ _ _ h => h) (Or.inr ⟨by rfl, rfl⟩) hHeld ?_
            simp only [Act.put, pz0, pz1, pz2, pz3, pz4, pz5]
            refine wpAnyH_take (i := 30) (v := undef) rfl (by kernel_rfl) (by kernel_rfl) (by kernel_rfl) (fun _ _ _ h => h) (Or.inr ⟨by rfl, rfl⟩) hHeld ?_
            simp only [Act.put, pz0, pz1, pz2, pz3, pz4, pz5]
            refine wpAnyH_take (i := 31) (v := undef) rfl (by kernel_rfl) (by kernel_rfl) (by kernel_rfl) (fun _ _ _ h => h) (Or.inr ⟨by rfl, rfl⟩) hHeld ?_
            simp only [Act.put, pz0, pz1, pz2, pz3, pz4, pz5]
            refine wpAnyH_take (i := 32) (v := undef) rfl (by kernel_rfl) (by kernel_rfl) (by kernel_rfl) (fun _ _ _ h => h) (Or.inr ⟨by rfl, rfl⟩) hHeld ?_
            simp only [Act.put, pz0, pz1, pz2, pz3, pz4, pz5]
            refine wpAnyH_take (i := 33) (v := undef) rfl (by kernel_rfl) (by kernel_rfl) (by kernel_rfl) (fun _ _ _ h => h) (Or.inr ⟨by rfl, rfl⟩) hHeld ?_
            simp only [Act.put, pz0, pz1, pz2, pz3, pz4, pz5]
            refine wpAnyH_take (i := 34) (v := undef) rfl (by kernel_rfl) (by kernel_rfl) (by kernel_rfl) (fun _ _ _ h => h) (Or.inr ⟨by rfl, rfl⟩) hHeld ?_
            simp only [Act.put, pz0, pz1, pz2, pz3, pz4, pz5]
            refine wpAnyH_take (i := 35) (v := undef) rfl (by kernel_rfl) (by kernel_rfl) (by kernel_rfl) (fun _ _ _ h => h) (Or.inr ⟨by rfl, rfl⟩) hHeld ?_
            simp only [Act.put, pz0, pz1, pz2, pz3, pz4, pz5]
            refine wpAnyH_take (i := 36) (v := undef) rfl (by kernel_rfl) (by kernel_rfl) (by kernel_rfl) (fun _ _ _ h => h) (Or.inr ⟨by rfl, rfl⟩) hHeld ?_
            simp only [Act.put, pz0, pz1, pz2, pz3, pz4, pz5]
            refine wpAnyH_take (i := 37) (v := ?v10) rfl (by kernel_rfl) (by kernel_rfl) (by kernel_rfl) (fun _ _ _ h => h) (Or.inl ⟨by rfl, ?hy10⟩) hHeld ?rest10
            case hy10 => (intro w' hSw; (try dsimp only at hSw); first | (go_simp; done) | (go_simp; with_reducible rfl))
            simp only [Act.put, pz0, pz1, pz2, pz3, pz4, pz5]
            refine wpAnyH_done (by kernel_rfl) ?_ _
            refine NoPanic.normal ?_
            have hz := hb.drew
            clear hHeld
            go_wp2_with fail
            go_ret
            exact ⟨retB HF.out.symm, hz⟩
          have HIN := Lib.hid hin
          simp only [Bool.and_eq_true, decide_eq_true_eq] at hin
          by_cases hk0 : k = 0
          case pos =>
            have hl0 := hla.2.1 hk0
            have e0 : decide ((0 : Int) < (k : Int)) = false := decide_eq_false (by omega)
            have e0n : decide (0 < k) = false := decide_eq_false (by omega)
            clear hk0 hpre
            cases hkd : kindsB s[i].cols v.vals
            · skip
              have HK := Lib.hid hkd
              have HF := Lib.hid (hbad (by rw [hst, hkd]; simp))
              clear hkd hst hbad
              go_wp2_with fail
              refine wp_region_noPanic ?_
              refine wp_region_held_drew (S := fun w' => w'.cell? ⟨bl, offl + k * 2, none⟩ = some (.int .i64 v.id) ∧ w'.cell? ⟨bl, offl + k * 2 + 1, none⟩ = some (.slice A9 v.vals.length c9) ∧ w'.cell? ⟨b, off + i * 6, none⟩ = some (.string s[i].name) ∧ w'.cell? ⟨b, off + i * 6 + 1, none⟩ = some (.slice A1 s[i].cols.length c1) ∧ w'.cell? ⟨b, off + i * 6 + 2, none⟩ = some (.slice A2 n2 c2) ∧ w'.cell? ⟨b, off + i * 6 + 3, none⟩ = some (.slice A3 n3 c3) ∧ w'.cell? ⟨b, off + i * 6 + 4, none⟩ = some (.slice A4 n4 c4) ∧ w'.cell? ⟨b, off + i * 6 + 5, none⟩ = some (.slice A5 n5 c5)) (by kernel_rfl) ⟨r0, r1, q0, q1, q2, q3, q4, q5⟩ (fun hHeld => ?_)
              refine wpAnyH_take (i := 0) (v := ?v37) rfl (by kernel_rfl) (by kernel_rfl) (by kernel_rfl) (fun _ _ _ h => h) (Or.inl ⟨by rfl, ?hy37⟩) hHeld ?rest37
              case hy37 => (intro w' hSw; (try dsimp only at hSw); first | (go_simp; done) | (go_simp; with_reducible rfl))
              simp only [Act.put, pz0, pz1, pz2, pz3, pz4, pz5]
              refine wpAnyH_take (i := 1) (v := ?v38) rfl (by kernel_rfl) (by kernel_rfl) (by kernel_rfl) (fun _ _ _ h => h) (Or.inl ⟨by rfl, ?hy38⟩) hHeld ?rest38
              case hy38 => (intro w' hSw; (try dsimp only at hSw); first | (go_simp; done) | (go_simp; with_reducible rfl))
              simp only [Act.put, pz0, pz1, pz2, pz3, pz4, pz5]
              refine wpAnyH_take (i := 2) (v := ?v39) rfl (by kernel_rfl) (by kernel_rfl) (by kernel_rfl) (fun _ _ _ h => h) (Or.inl ⟨by rfl, ?hy39⟩) hHeld ?rest39
              case hy39 => (intro w' hSw; (try dsimp only at hSw); first | (go_simp; done) | (go_simp; with_reducible rfl))
              simp only [Act.put, pz0, pz1, pz2, pz3, pz4, pz5]
              refine wpAnyH_take (i := 3) (v := ?v40) rfl (by kernel_rfl) (by kernel_rfl) (by kernel_rfl) (fun _ _ _ h => h) (Or.inl ⟨by rfl, ?hy40⟩) hHeld ?rest40
              case hy40 => (intro w' hSw; (try dsimp only at hSw); first | (go_simp; done) | (go_simp; with_reducible rfl))
              simp only [Act.put, pz0, pz1, pz2, pz3, pz4, pz5]
              refine wpAnyH_take (i := 4) (v := ?v41) rfl (by kernel_rfl) (by kernel_rfl) (by kernel_rfl) (fun _ _ _ h => h) (Or.inl ⟨by rfl, ?hy41⟩) hHeld ?rest41
              case hy41 => (intro w' hSw; (try dsimp only at hSw); first | (go_simp; done) | (go_simp; with_reducible rfl))
              simp only [Act.put, pz0, pz1, pz2, pz3, pz4, pz5]
              refine wpAnyH_ready (rs := [5]) (by kernel_rfl) (by simp) ?_
              refine AllReadyH.cons rfl (fun K hK => ?_) AllReadyH.nil
              go_simp
              refine (specIn _ _ _ _).mono ?_
              rintro e wc ⟨rfl, rfl⟩
              rw [HIN.out]
              go_wp2_with fail
              refine hK.out _ _ hHeld (fun hHeld => ?_)
              clear hK K
              (try simp only [Act.put, pz0, pz1, pz2, pz3, pz4, pz5])
              refine wpAnyH_take (i := 6) (v := ?v42) rfl (by kernel_rfl) (by kernel_rfl) (by kernel_rfl) (fun _ _ _ h => h) (Or.inl ⟨by rfl, ?hy42⟩) hHeld ?rest42
              case hy42 => (intro w' hSw; (try dsimp only at hSw); first | (go_simp; done) | (go_simp; with_reducible rfl))
              simp only [Act.put, pz0, pz1, pz2, pz3, pz4, pz5]
              refine wpAnyH_take (i := 7) (v := ?v43) rfl (by kernel_rfl) (by kernel_rfl) (by kernel_rfl) (fun _ _ _ h => h) (Or.inl ⟨by rfl, ?hy43⟩) hHeld ?rest43
              case hy43 => (intro w' hSw; (try dsimp only at hSw); first | (go_simp; done) | (go_simp; with_reducible rfl))
              simp only [Act.put, pz0, pz1, pz2, pz3, pz4, pz5]
              refine wpAnyH_take (i := 8) (v := ?v44) rfl (by kernel_rfl) (by kernel_rfl) (by kernel_rfl) (fun _ _ _ h => h) (Or.inl ⟨by rfl, ?hy44⟩) hHeld ?rest44
              case hy44 => (intro w' hSw; (try dsimp only at hSw); first | (go_simp; done) | (go_simp; with_reducible rfl))
              simp only [Act.put, pz0, pz1, pz2, pz3, pz4, pz5]
              refine wpAnyH_take (i := 9) (v := ?v45) rfl (by kernel_rfl) (by kernel_rfl) (by kernel_rfl) (fun _ _ _ h => h) (Or.inl ⟨by rfl, ?hy45⟩) hHeld ?rest45
              case hy45 => (intro w' hSw; (try dsimp only at hSw); first | (go_simp; done) | (go_simp; with_reducible rfl))
              simp only [Act.put, pz0, pz1, pz2, pz3, pz4, pz5]
              refine wpAnyH_take (i := 10) (v := ?v46) rfl (by kernel_rfl) (by kernel_rfl) (by kernel_rfl) (fun _ _ _ h => h) (Or.inl ⟨by rfl, ?hy46⟩) hHeld ?rest46
              case hy46 => (intro w' hSw; (try dsimp only at hSw); first | (go_simp; done) | (go_simp; with_reducible rfl))
              simp only [Act.put, pz0, pz1, pz2, pz3, pz4, pz5]
              refine wpAnyH_take (i := 11) (v := undef) rfl (by kernel_rfl) (by kernel_rfl) (by kernel_rfl) (fun _ _ _ h => h) (Or.inr ⟨by rfl, rfl⟩) hHeld ?_
              simp only [Act.put, pz0, pz1, pz2, pz3, pz4, pz5]
              refine wpAnyH_take (i := 12) (v := undef) rfl (by kernel_rfl) (by kernel_rfl) (by kernel_rfl) (fun _ _ _ h => h) (Or.inr ⟨by rfl, rfl⟩) hHeld ?_
              simp only [Act.put, pz0, pz1, pz2, pz3, pz4, pz5]
              refine wpAnyH_take (i := 13) (v := undef) rfl (by kernel_rfl) (by kernel_rfl) (by kernel_rfl) (fun _ _ _ h => h) (Or.inr ⟨by rfl, rfl⟩) hHeld ?_
              simp only [Act.put, pz0, pz1, pz2, pz3, pz4, pz5]
              refine wpAnyH_take (i := 14) (v := undef) rfl (by kernel_rfl) (by kernel_rfl) (by kernel_rfl) (fun _ _ _ h => h) (Or.inr ⟨by rfl, rfl⟩) hHeld ?_
              simp only [Act.put, pz0, pz1, pz2, pz3, pz4, pz5]
              refine wpAnyH_take (i := 15) (v := undef) rfl (by kernel_rfl) (by kernel_rfl) (by kernel_rfl) (fun _ _ _ h => h) (Or.inr ⟨by rfl, rfl⟩) hHeld ?_
              simp only [Act.put, pz0, pz1, pz2, pz3, pz4, pz5]
              refine wpAnyH_take (i := 16) (v := undef) rfl (by kernel_rfl) (by kernel_rfl) (by kernel_rfl) (fun _ _ _ h => h) (Or.inr ⟨by rfl, rfl⟩) hHeld ?_
              simp only [Act.put, pz0, pz1, pz2, pz3, pz4, pz5]
              refine wpAnyH_take (i := 17) (v := undef) rfl (by kernel_rfl) (by kernel_rfl) (by kernel_rfl) (fun _ _ _ h => h) (Or.inr ⟨by rfl, rfl⟩) hHeld ?_
              simp only [Act.put, pz0, pz1, pz2, pz3, pz4, pz5]
              refine wpAnyH_take (i := 18) (v := undef) rfl (by kernel_rfl) (by kernel_rfl) (by kernel_rfl) (fun _ _ _ h => h) (Or.inr ⟨by rfl, rfl⟩) hHeld ?_
              simp only [Act.put, pz0, pz1, pz2, pz3, pz4, pz5]
              refine wpAnyH_take (i := 19) (v := undef) rfl (by kernel_rfl) (by kernel_rfl) (by kernel_rfl) (fun _ _ _ h => h) (Or.inr ⟨by rfl, rfl⟩) hHeld ?_
              simp only [Act.put, pz0, pz1, pz2, pz3, pz4, pz5]
              refine wpAnyH_take (i := 20) (v := undef) rfl (by kernel_rfl) (by kernel_rfl) (by kernel_rfl) (fun _ _ _ h => h) (Or.inr ⟨by rfl, rfl⟩) hHeld ?_
              simp only [Act.put, pz0, pz1, pz2, pz3, pz4, pz5]
              refine wpAnyH_take (i := 21) (v := undef) rfl (by kernel_rfl) (by kernel_rfl) (by kernel_rfl) (fun _ _ _ h => h) (Or.inr ⟨by rfl, rfl⟩) hHeld ?_
              simp only [Act.put, pz0, pz1, pz2, pz3, pz4, pz5]
              refine wpAnyH_take (i := 22) (v := undef) rfl (by kernel_rfl) (by kernel_rfl) (by kernel_rfl) (fun _ _ _ h => h) (Or.inr ⟨by rfl, rfl⟩) hHeld ?_
              simp only [Act.put, pz0, pz1, pz2, pz3, pz4, pz5]
              refine wpAnyH_take (i := 23) (v := ?v47) rfl (by kernel_rfl) (by kernel_rfl) (by kernel_rfl) (fun _ _ _ h => h) (Or.inl ⟨by rfl, ?hy47⟩) hHeld ?rest47
              case hy47 => (intro w' hSw; (try dsimp only at hSw); first | (go_simp; done) | (go_simp; with_reducible rfl))
              simp only [Act.put, pz0, pz1, pz2, pz3, pz4, pz5]
              refine wpAnyH_take (i := 24) (v := ?v48) rfl (by kernel_rfl) (by kernel_rfl) (by kernel_rfl) (fun _ _ _ h => h) (Or.inl ⟨by rfl, ?hy48⟩) hHeld ?rest48
              case hy48 => (intro w' hSw; (try dsimp only at hSw); first | (go_simp; done) | (go_simp; with_reducible rfl))
              simp only [Act.put, pz0, pz1, pz2, pz3, pz4, pz5]
              refine wpAnyH_take (i := 25) (v := ?v49) rfl (by kernel_rfl) (by kernel_rfl) (by kernel_rfl) (fun _ _ _ h => h) (Or.inl ⟨by rfl, ?hy49⟩) hHeld ?rest49
              case hy49 => (intro w' hSw; (try dsimp only at hSw); first | (go_simp; done) | (go_simp; with_reducible rfl))
              simp only [Act.put, pz0, pz1, pz2, pz3, pz4, pz5]
              refine wpAnyH_take (i := 26) (v := ?v50) rfl (by kernel_rfl) (by kernel_rfl) (by kernel_rfl) (fun _ _ _ h => h) (Or.inl ⟨by rfl, ?hy50⟩) hHeld ?rest50
              case hy50 => (intro w' hSw; (try dsimp only at hSw); first | (go_simp; done) | (go_simp; with_reducible rfl))
              simp only [Act.put, pz0, pz1, pz2, pz3, pz4, pz5]
              refine wpAnyH_take (i := 27) (v := ?v51) rfl (by kernel_rfl) (by kernel_rfl) (by kernel_rfl) (fun _ _ _ h => h) (Or.inl ⟨by rfl, ?hy51⟩) hHeld ?rest51
              case hy51 => (intro w' hSw; (try dsimp only at hSw); first | (go_simp; done) | (go_simp; with_reducible rfl))
              simp only [Act.put, pz0, pz1, pz2, pz3, pz4, pz5]
              refine wpAnyH_take (i := 28) (v := ?v52) rfl (by kernel_rfl) (by kernel_rfl) (by kernel_rfl) (fun _ _ _ h => h) (Or.inl ⟨by rfl, ?hy52⟩) hHeld ?rest52
              case hy52 => (intro w' hSw; (try dsimp only at hSw); first | (go_simp; done) | (go_simp; with_reducible rfl))
              simp only [Act.put, pz0, pz1, pz2, pz3, pz4, pz5]
              refine wpAnyH_take (i := 29) (v := ?v53) rfl (by kernel_rfl) (by kernel_rfl) (by kernel_rfl) (fun _ _ _ h => h) (Or.inl ⟨by rfl, ?hy53⟩) hHeld ?rest53
              case hy53 => (intro w' hSw; (try dsimp only at hSw); first | (go_simp; done) | (go_simp; with_reducible rfl))
              simp only [Act.put, pz0, pz1, pz2, pz3, pz4, pz5]
              refine wpAnyH_take (i := 30) (v := ?v54) rfl (by kernel_rfl) (by kernel_rfl) (by kernel_rfl) (fun _ _ _ h => h) (Or.inl ⟨by rfl, ?hy54⟩) hHeld ?rest54
              case hy54 => (intro w' hSw; (try dsimp only at hSw); first | (go_simp; done) | (go_simp; with_reducible rfl))
              simp only [Act.put, pz0, pz1, pz2, pz3, pz4, pz5]
              refine wpAnyH_take (i := 31) (v := ?v55) rfl (by kernel_rfl) (by kernel_rfl) (by kernel_rfl) (fun _ _ _ h => h) (Or.inl ⟨by rfl, ?hy55⟩) hHeld ?rest55
              case hy55 => (intro w' hSw; (try dsimp only at hSw); first | (go_simp; done) | (go_simp; with_reducible rfl))
              simp only [Act.put, pz0, pz1, pz2, pz3, pz4, pz5]
              refine wpAnyH_take (i := 32) (v := ?v56) rfl (by kernel_rfl) (by kernel_rfl) (by kernel_rfl) (fun _ _ _ h => h) (Or.inl ⟨by rfl, ?hy56⟩) hHeld ?rest56
              case hy56 => (intro w' hSw; (try dsimp only at hSw); first | (go_simp; done) | (go_simp; with_reducible rfl))
              simp only [Act.put, pz0, pz1, pz2, pz3, pz4, pz5]
              refine wpAnyH_take (i := 33) (v := ?v57) rfl (by kernel_rfl) (by kernel_rfl) (by kernel_rfl) (fun _ _ _ h => h) (Or.inl ⟨by rfl, ?hy57⟩) hHeld ?rest57
              case hy57 => (intro w' hSw; (try dsimp only at hSw); first | (go_simp; done) | (go_simp; with_reducible rfl))
              simp only [Act.put, pz0, pz1, pz2, pz3, pz4, pz5]
              refine wpAnyH_take (i := 34) (v := ?v58) rfl (by kernel_rfl) (by kernel_rfl) (by kernel_rfl) (fun _ _ _ h => h) (Or.inl ⟨by rfl, ?hy58⟩) hHeld ?rest58
              case hy58 => (intro w' hSw; (try dsimp only at hSw); first | (go_simp; done) | (go_simp; with_reducible rfl))
              simp only [Act.put, pz0, pz1, pz2, pz3, pz4, pz5]
              refine wpAnyH_ready (rs := [35]) (by kernel_rfl) (by simp) ?_
              refine AllReadyH.cons rfl (fun K hK => ?_) AllReadyH.nil
              go_simp
              refine (specKinds A1 A9 s[i].cols.length c1 v.vals.length c9 _ _ _ _ _ s[i].cols v.vals ok _ (s1.drew ClR.stays) hvv HCN.out HN9.out).mono ?_
              rintro e wd ⟨rfl, hqd⟩
              rw [HK.out]
              go_wp2_with fail
              refine hK.out _ _ ⟨below_keep hqd _ _ hHeld.1, below_keep hqd _ _ hHeld.2.1, below_keep hqd _ _ hHeld.2.2.1, below_keep hqd _ _ hHeld.2.2.2.1, below_keep hqd _ _ hHeld.2.2.2.2.1, below_keep hqd _ _ hHeld.2.2.2.2.2.1, below_keep hqd _ _ hHeld.2.2.2.2.2.2.1, below_keep hqd _ _ hHeld.2.2.2.2.2.2.2⟩ (fun hHeld => ?_)
              clear hK K
              (try simp only [Act.put, pz0, pz1, pz2, pz3, pz4, pz5])
              refine wpAnyH_take (i := 36) (v := ?v59) rfl (by kernel_rfl) (by kernel_rfl) (by kernel_rfl) (fun _ _ _ h => h) (Or.inl ⟨by rfl, ?hy59⟩) hHeld ?rest59
              case hy59 => (intro w' hSw; (try dsimp only at hSw); first | (go_simp; done) | (go_simp; with_reducible rfl))
              simp only [Act.put, pz0, pz1, pz2, pz3, pz4, pz5]
              refine wpAnyH_take (i := 37) (v := ?v60) rfl (by kernel_rfl) (by kernel_rfl) (by kernel_rfl) (fun _ _ _ h => h) (Or.inl ⟨by rfl, ?hy60⟩) hHeld ?rest60
              case hy60 => (intro w' hSw; (try dsimp only at hSw); first | (go_simp; done) | (go_simp; with_reducible rfl))
              simp only [Act.put, pz0, pz1, pz2, pz3, pz4, pz5]
              refine wpAnyH_done (by kernel_rfl) ?_ _
              refine NoPanic.normal ?_
              have hz := hb.drew.trans (hqd.mono hb.drew.size)
              have hrz := (hrs.drew RwR.stays).below RwR.stays hqd
              clear hHeld
              go_wp2_with fail
              go_ret
              exact ⟨retB HF.out.symm, hz⟩
            · skip
              have HK := Lib.hid hkd
              have HG := Lib.hid (show idsGo s[i].cols 0 db[i].rows = idsGo s[i].cols v.id (db[i].rows.drop (k + 1)) by rw [HGO.out, hst, decide_eq_true (p := last < v.id) (by omega), decide_eq_true (p := v.id ≤ 1000000000) (by omega), hkd]; rfl)
              have HL2 := Lib.hid (show 0 ≤ v.id ∧ (k + 1 = 0 → v.id = 0) ∧ (∀ q (hq : q + 1 = k + 1) (h2 : q < db[i].rows.length), db[i].rows[q].id = v.id) from ⟨by omega, by omega, fun q hq h2 => by (obtain rfl : q = k := (by omega)); exact HVK.out⟩)
              clear hkd hst hbad
              go_wp2_with fail
              refine wp_region_noPanic ?_
              refine wp_region_held_drew (S := fun w' => w'.cell? ⟨bl, offl + k * 2, none⟩ = some (.int .i64 v.id) ∧ w'.cell? ⟨bl, offl + k * 2 + 1, none⟩ = some (.slice A9 v.vals.length c9) ∧ w'.cell? ⟨b, off + i * 6, none⟩ = some (.string s[i].name) ∧ w'.cell? ⟨b, off + i * 6 + 1, none⟩ = some (.slice A1 s[i].cols.length c1) ∧ w'.cell? ⟨b, off + i * 6 + 2, none⟩ = some (.slice A2 n2 c2) ∧ w'.cell? ⟨b, off + i * 6 + 3, none⟩ = some (.slice A3 n3 c3) ∧ w'.cell? ⟨b, off + i * 6 + 4, none⟩ = some (.slice A4 n4 c4) ∧ w'.cell? ⟨b, off + i * 6 + 5, none⟩ = some (.slice A5 n5 c5)) (by kernel_rfl) ⟨r0, r1, q0, q1, q2, q3, q4, q5⟩ (fun hHeld => ?_)
              refine wpAnyH_take (i := 0) (v := ?v61) rfl (by kernel_rfl) (by kernel_rfl) (by kernel_rfl) (fun _ _ _ h => h) (Or.inl ⟨by rfl, ?hy61⟩) hHeld ?rest61
              case hy61 => (intro w' hSw; (try dsimp only at hSw); first | (go_simp; done) | (go_simp; with_reducible rfl))
              simp only [Act.put, pz0, pz1, pz2, pz3, pz4, pz5]
              refine wpAnyH_take (i := 1) (v := ?v62) rfl (by kernel_rfl) (by kernel_rfl) (by kernel_rfl) (fun _ _ _ h => h) (Or.inl ⟨by rfl, ?hy62⟩) hHeld ?rest62
              case hy62 => (intro w' hSw; (try dsimp only at hSw); first | (go_simp; done) | (go_simp; with_reducible rfl))
              simp only [Act.put, pz0, pz1, pz2, pz3, pz4, pz5]
              refine wpAnyH_take (i := 2) (v := ?v63) rfl (by kernel_rfl) (by kernel_rfl) (by kernel_rfl) (fun _ _ _ h => h) (Or.inl ⟨by rfl, ?hy63⟩) hHeld ?rest63
              case hy63 => (intro w' hSw; (try dsimp only at hSw); first | (go_simp; done) | (go_simp; with_reducible rfl))
              simp only [Act.put, pz0, pz1, pz2, pz3, pz4, pz5]
              refine wpAnyH_take (i := 3) (v := ?v64) rfl (by kernel_rfl) (by kernel_rfl) (by kernel_rfl) (fun _ _ _ h => h) (Or.inl ⟨by rfl, ?hy64⟩) hHeld ?rest64
              case hy64 => (intro w' hSw; (try dsimp only at hSw); first | (go_simp; done) | (go_simp; with_reducible rfl))
              simp only [Act.put, pz0, pz1, pz2, pz3, pz4, pz5]
              refine wpAnyH_take (i := 4) (v := ?v65) rfl (by kernel_rfl) (by kernel_rfl) (by kernel_rfl) (fun _ _ _ h => h) (Or.inl ⟨by rfl, ?hy65⟩) hHeld ?rest65
              case hy65 => (intro w' hSw; (try dsimp only at hSw); first | (go_simp; done) | (go_simp; with_reducible rfl))
              simp only [Act.put, pz0, pz1, pz2, pz3, pz4, pz5]
              refine wpAnyH_ready (rs := [5]) (by kernel_rfl) (by simp) ?_
              refine AllReadyH.cons rfl (fun K hK => ?_) AllReadyH.nil
              go_simp
              refine (specIn _ _ _ _).mono ?_
              rintro e wc ⟨rfl, rfl⟩
              rw [HIN.out]
              go_wp2_with fail
              refine hK.out _ _ hHeld (fun hHeld => ?_)
              clear hK K
              (try simp only [Act.put, pz0, pz1, pz2, pz3, pz4, pz5])
              refine wpAnyH_take (i := 6) (v := ?v66) rfl (by kernel_rfl) (by kernel_rfl) (by kernel_rfl) (fun _ _ _ h => h) (Or.inl ⟨by rfl, ?hy66⟩) hHeld ?rest66
              case hy66 => (intro w' hSw; (try dsimp only at hSw); first | (go_simp; done) | (go_simp; with_reducible rfl))
              simp only [Act.put, pz0, pz1, pz2, pz3, pz4, pz5]
              refine wpAnyH_take (i := 7) (v := ?v67) rfl (by kernel_rfl) (by kernel_rfl) (by kernel_rfl) (fun _ _ _ h => h) (Or.inl ⟨by rfl, ?hy67⟩) hHeld ?rest67
              case hy67 => (intro w' hSw; (try dsimp only at hSw); first | (go_simp; done) | (go_simp; with_reducible rfl))
              simp only [Act.put, pz0, pz1, pz2, pz3, pz4, pz5]
              refine wpAnyH_take (i := 8) (v := ?v68) rfl (by kernel_rfl) (by kernel_rfl) (by kernel_rfl) (fun _ _ _ h => h) (Or.inl ⟨by rfl, ?hy68⟩) hHeld ?rest68
              case hy68 => (intro w' hSw; (try dsimp only at hSw); first | (go_simp; done) | (go_simp; with_reducible rfl))
              simp only [Act.put, pz0, pz1, pz2, pz3, pz4, pz5]
              refine wpAnyH_take (i := 9) (v := ?v69) rfl (by kernel_rfl) (by kernel_rfl) (by kernel_rfl) (fun _ _ _ h => h) (Or.inl ⟨by rfl, ?hy69⟩) hHeld ?rest69
              case hy69 => (intro w' hSw; (try dsimp only at hSw); first | (go_simp; done) | (go_simp; with_reducible rfl))
              simp only [Act.put, pz0, pz1, pz2, pz3, pz4, pz5]
              refine wpAnyH_take (i := 10) (v := ?v70) rfl (by kernel_rfl) (by kernel_rfl) (by kernel_rfl) (fun _ _ _ h => h) (Or.inl ⟨by rfl, ?hy70⟩) hHeld ?rest70
              case hy70 => (intro w' hSw; (try dsimp only at hSw); first | (go_simp; done) | (go_simp; with_reducible rfl))
              simp only [Act.put, pz0, pz1, pz2, pz3, pz4, pz5]
              refine wpAnyH_take (i := 11) (v := undef) rfl (by kernel_rfl) (by kernel_rfl) (by kernel_rfl) (fun _ _ _ h => h) (Or.inr ⟨by rfl, rfl⟩) hHeld ?_
              simp only [Act.put, pz0, pz1, pz2, pz3, pz4, pz5]
              refine wpAnyH_take (i := 12) (v := undef) rfl (by kernel_rfl) (by kernel_rfl) (by kernel_rfl) (fun _ _ _ h => h) (Or.inr ⟨by rfl, rfl⟩) hHeld ?_
              simp only [Act.put, pz0, pz1, pz2, pz3, pz4, pz5]
              refine wpAnyH_take (i := 13) (v := undef) rfl (by kernel_rfl) (by kernel_rfl) (by kernel_rfl) (fun _ _ _ h => h) (Or.inr ⟨by rfl, rfl⟩) hHeld ?_
              simp only [Act.put, pz0, pz1, pz2, pz3, pz4, pz5]
              refine wpAnyH_take (i := 14) (v := undef) rfl (by kernel_rfl) (by kernel_rfl) (by kernel_rfl) (fun _ _ _ h => h) (Or.inr ⟨by rfl, rfl⟩) hHeld ?_
              simp only [Act.put, pz0, pz1, pz2, pz3, pz4, pz5]
              refine wpAnyH_take (i := 15) (v := undef) rfl (by kernel_rfl) (by kernel_rfl) (by kernel_rfl) (fun _ _ _ h => h) (Or.inr ⟨by rfl, rfl⟩) hHeld ?_
              simp only [Act.put, pz0, pz1, pz2, pz3, pz4, pz5]
              refine wpAnyH_take (i := 16) (v := undef) rfl (by kernel_rfl) (by kernel_rfl) (by kernel_rfl) (fun _ _ _ h => h) (Or.inr ⟨by rfl, rfl⟩) hHeld ?_
              simp only [Act.put, pz0, pz1, pz2, pz3, pz4, pz5]
              refine wpAnyH_take (i := 17) (v := undef) rfl (by kernel_rfl) (by kernel_rfl) (by kernel_rfl) (fun _ _ _ h => h) (Or.inr ⟨by rfl, rfl⟩) hHeld ?_
              simp only [Act.put, pz0, pz1, pz2, pz3, pz4, pz5]
              refine wpAnyH_take (i := 18) (v := undef) rfl (by kernel_rfl) (by kernel_rfl) (by kernel_rfl) (fun _ _ _ h => h) (Or.inr ⟨by rfl, rfl⟩) hHeld ?_
              simp only [Act.put, pz0, pz1, pz2, pz3, pz4, pz5]
              refine wpAnyH_take (i := 19) (v := undef) rfl (by kernel_rfl) (by kernel_rfl) (by kernel_rfl) (fun _ _ _ h => h) (Or.inr ⟨by rfl, rfl⟩) hHeld ?_
              simp only [Act.put, pz0, pz1, pz2, pz3, pz4, pz5]
              refine wpAnyH_take (i := 20) (v := undef) rfl (by kernel_rfl) (by kernel_rfl) (by kernel_rfl) (fun _ _ _ h => h) (Or.inr ⟨by rfl, rfl⟩) hHeld ?_
              simp only [Act.put, pz0, pz1, pz2, pz3, pz4, pz5]
              refine wpAnyH_take (i := 21) (v := undef) rfl (by kernel_rfl) (by kernel_rfl) (by kernel_rfl) (fun _ _ _ h => h) (Or.inr ⟨by rfl, rfl⟩) hHeld ?_
              simp only [Act.put, pz0, pz1, pz2, pz3, pz4, pz5]
              refine wpAnyH_take (i := 22) (v := undef) rfl (by kernel_rfl) (by kernel_rfl) (by kernel_rfl) (fun _ _ _ h => h) (Or.inr ⟨by rfl, rfl⟩) hHeld ?_
              simp only [Act.put, pz0, pz1, pz2, pz3, pz4, pz5]
              refine wpAnyH_take (i := 23) (v := ?v71) rfl (by kernel_rfl) (by kernel_rfl) (by kernel_rfl) (fun _ _ _ h => h) (Or.inl ⟨by rfl, ?hy71⟩) hHeld ?rest71
              case hy71 => (intro w' hSw; (try dsimp only at hSw); first | (go_simp; done) | (go_simp; with_reducible rfl))
              simp only [Act.put, pz0, pz1, pz2, pz3, pz4, pz5]
              refine wpAnyH_take (i := 24) (v := ?v72) rfl (by kernel_rfl) (by kernel_rfl) (by kernel_rfl) (fun _ _ _ h => h) (Or.inl ⟨by rfl, ?hy72⟩) hHeld ?rest72
              case hy72 => (intro w' hSw; (try dsimp only at hSw); first | (go_simp; done) | (go_simp; with_reducible rfl))
              simp only [Act.put, pz0, pz1, pz2, pz3, pz4, pz5]
              refine wpAnyH_take (i := 25) (v := ?v73) rfl (by kernel_rfl) (by kernel_rfl) (by kernel_rfl) (fun _ _ _ h => h) (Or.inl ⟨by rfl, ?hy73⟩) hHeld ?rest73
              case hy73 => (intro w' hSw; (try dsimp only at hSw); first | (go_simp; done) | (go_simp; with_reducible rfl))
              simp only [Act.put, pz0, pz1, pz2, pz3, pz4, pz5]
              refine wpAnyH_take (i := 26) (v := ?v74) rfl (by kernel_rfl) (by kernel_rfl) (by kernel_rfl) (fun _ _ _ h => h) (Or.inl ⟨by rfl, ?hy74⟩) hHeld ?rest74
              case hy74 => (intro w' hSw; (try dsimp only at hSw); first | (go_simp; done) | (go_simp; with_reducible rfl))
              simp only [Act.put, pz0, pz1, pz2, pz3, pz4, pz5]
              refine wpAnyH_take (i := 27) (v := ?v75) rfl (by kernel_rfl) (by kernel_rfl) (by kernel_rfl) (fun _ _ _ h => h) (Or.inl ⟨by rfl, ?hy75⟩) hHeld ?rest75
              case hy75 => (intro w' hSw; (try dsimp only at hSw); first | (go_simp; done) | (go_simp; with_reducible rfl))
              simp only [Act.put, pz0, pz1, pz2, pz3, pz4, pz5]
              refine wpAnyH_take (i := 28) (v := ?v76) rfl (by kernel_rfl) (by kernel_rfl) (by kernel_rfl) (fun _ _ _ h => h) (Or.inl ⟨by rfl, ?hy76⟩) hHeld ?rest76
              case hy76 => (intro w' hSw; (try dsimp only at hSw); first | (go_simp; done) | (go_simp; with_reducible rfl))
              simp only [Act.put, pz0, pz1, pz2, pz3, pz4, pz5]
              refine wpAnyH_take (i := 29) (v := ?v77) rfl (by kernel_rfl) (by kernel_rfl) (by kernel_rfl) (fun _ _ _ h => h) (Or.inl ⟨by rfl, ?hy77⟩) hHeld ?rest77
              case hy77 => (intro w' hSw; (try dsimp only at hSw); first | (go_simp; done) | (go_simp; with_reducible rfl))
              simp only [Act.put, pz0, pz1, pz2, pz3, pz4, pz5]
              refine wpAnyH_take (i := 30) (v := ?v78) rfl (by kernel_rfl) (by kernel_rfl) (by kernel_rfl) (fun _ _ _ h => h) (Or.inl ⟨by rfl, ?hy78⟩) hHeld ?rest78
              case hy78 => (intro w' hSw; (try dsimp only at hSw); first | (go_simp; done) | (go_simp; with_reducible rfl))
              simp only [Act.put, pz0, pz1, pz2, pz3, pz4, pz5]
              refine wpAnyH_take (i := 31) (v := ?v79) rfl (by kernel_rfl) (by kernel_rfl) (by kernel_rfl) (fun _ _ _ h => h) (Or.inl ⟨by rfl, ?hy79⟩) hHeld ?rest79
              case hy79 => (intro w' hSw; (try dsimp only at hSw); first | (go_simp; done) | (go_simp; with_reducible rfl))
              simp only [Act.put, pz0, pz1, pz2, pz3, pz4, pz5]
              refine wpAnyH_take (i := 32) (v := ?v80) rfl (by kernel_rfl) (by kernel_rfl) (by kernel_rfl) (fun _ _ _ h => h) (Or.inl ⟨by rfl, ?hy80⟩) hHeld ?rest80
              case hy80 => (intro w' hSw; (try dsimp only at hSw); first | (go_simp; done) | (go_simp; with_reducible rfl))
              simp only [Act.put, pz0, pz1, pz2, pz3, pz4, pz5]
              refine wpAnyH_take (i := 33) (v := ?v81) rfl (by kernel_rfl) (by kernel_rfl) (by kernel_rfl) (fun _ _ _ h => h) (Or.inl ⟨by rfl, ?hy81⟩) hHeld ?rest81
              case hy81 => (intro w' hSw; (try dsimp only at hSw); first | (go_simp; done) | (go_simp; with_reducible rfl))
              simp only [Act.put, pz0, pz1, pz2, pz3, pz4, pz5]
              refine wpAnyH_take (i := 34) (v := ?v82) rfl (by kernel_rfl) (by kernel_rfl) (by kernel_rfl) (fun _ _ _ h => h) (Or.inl ⟨by rfl, ?hy82⟩) hHeld ?rest82
              case hy82 => (intro w' hSw; (try dsimp only at hSw); first | (go_simp; done) | (go_simp; with_reducible rfl))
              simp only [Act.put, pz0, pz1, pz2, pz3, pz4, pz5]
              refine wpAnyH_ready (rs := [35]) (by kernel_rfl) (by simp) ?_
              refine AllReadyH.cons rfl (fun K hK => ?_) AllReadyH.nil
              go_simp
              refine (specKinds A1 A9 s[i].cols.length c1 v.vals.length c9 _ _ _ _ _ s[i].cols v.vals ok _ (s1.drew ClR.stays) hvv HCN.out HN9.out).mono ?_
              rintro e wd ⟨rfl, hqd⟩
              rw [HK.out]
              go_wp2_with fail
              refine hK.out _ _ ⟨below_keep hqd _ _ hHeld.1, below_keep hqd _ _ hHeld.2.1, below_keep hqd _ _ hHeld.2.2.1, below_keep hqd _ _ hHeld.2.2.2.1, below_keep hqd _ _ hHeld.2.2.2.2.1, below_keep hqd _ _ hHeld.2.2.2.2.2.1, below_keep hqd _ _ hHeld.2.2.2.2.2.2.1, below_keep hqd _ _ hHeld.2.2.2.2.2.2.2⟩ (fun hHeld => ?_)
              clear hK K
              (try simp only [Act.put, pz0, pz1, pz2, pz3, pz4, pz5])
              refine wpAnyH_take (i := 36) (v := ?v83) rfl (by kernel_rfl) (by kernel_rfl) (by kernel_rfl) (fun _ _ _ h => h) (Or.inl ⟨by rfl, ?hy83⟩) hHeld ?rest83
              case hy83 => (intro w' hSw; (try dsimp only at hSw); first | (go_simp; done) | (go_simp; with_reducible rfl))
              simp only [Act.put, pz0, pz1, pz2, pz3, pz4, pz5]
              refine wpAnyH_take (i := 37) (v := ?v84) rfl (by kernel_rfl) (by kernel_rfl) (by kernel_rfl) (fun _ _ _ h => h) (Or.inl ⟨by rfl, ?hy84⟩) hHeld ?rest84
              case hy84 => (intro w' hSw; (try dsimp only at hSw); first | (go_simp; done) | (go_simp; with_reducible rfl))
              simp only [Act.put, pz0, pz1, pz2, pz3, pz4, pz5]
              refine wpAnyH_done (by kernel_rfl) ?_ _
              refine NoPanic.normal ?_
              have hz := hb.drew.trans (hqd.mono hb.drew.size)
              have hrz := (hrs.drew RwR.stays).below RwR.stays hqd
              clear hHeld
              go_wp2_with fail
              go_roundw
              case rel => exact ⟨k + 1, v.id, by omega, by go_num, Lib.hid HG.out, Lib.hid HL2.out, hrz, hz⟩
              case measure => simp [intOf]; omega
          case neg =>
            obtain ⟨p, hp⟩ : ∃ p, p + 1 = k := ⟨k - 1, by omega⟩
            obtain ⟨hpl, p0⟩ := hpre p hp
            have hlp := hla.2.2 p hp hpl
            generalize db[i].rows[p] = u at *
            have e0 : decide ((0 : Int) < (k : Int)) = true := decide_eq_true (by omega)
            have e0n : decide (0 < k) = true := decide_eq_true (by omega)
            have e1 : (k : Int) - 1 = (p : Int) := by omega
            have k0 : (0 : Int) ≤ p := by omega
            have k1 : (p : Int) < db[i].rows.length := by omega
            have e2 : IntKind.i64.wrap (p : Int) = (p : Int) := IntWalk.i64_in _ (by omega)
            clear hk0 hpre hp
            by_cases hpv : v.id ≤ u.id
            · skip
              have hge : decide (v.id ≤ u.id) = true := decide_eq_true hpv
              have hgf : decide (u.id < v.id) = false := decide_eq_false (by omega)
              have hgl : decide (v.id ≤ last) = true := decide_eq_true (by omega)
              have HF := Lib.hid (hbad (by rw [hst, decide_eq_false (p := last < v.id) (by omega)]; rfl))
              clear hst hbad
              go_wp2_with fail
              refine wp_region_noPanic ?_
              refine wp_region_held_drew (S := fun w' => w'.cell? ⟨bl, offl + k * 2, none⟩ = some (.int .i64 v.id) ∧ w'.cell? ⟨bl, offl + k * 2 + 1, none⟩ = some (.slice A9 v.vals.length c9) ∧ w'.cell? ⟨b, off + i * 6, none⟩ = some (.string s[i].name) ∧ w'.cell? ⟨b, off + i * 6 + 1, none⟩ = some (.slice A1 s[i].cols.length c1) ∧ w'.cell? ⟨b, off + i * 6 + 2, none⟩ = some (.slice A2 n2 c2) ∧ w'.cell? ⟨b, off + i * 6 + 3, none⟩ = some (.slice A3 n3 c3) ∧ w'.cell? ⟨b, off + i * 6 + 4, none⟩ = some (.slice A4 n4 c4) ∧ w'.cell? ⟨b, off + i * 6 + 5, none⟩ = some (.slice A5 n5 c5) ∧ w'.cell? ⟨bl, offl + p * 2, none⟩ = some (.int .i64 u.id)) (by kernel_rfl) ⟨r0, r1, q0, q1, q2, q3, q4, q5, p0⟩ (fun hHeld => ?_)
              refine wpAnyH_take (i := 0) (v := ?v11) rfl (by kernel_rfl) (by kernel_rfl) (by kernel_rfl) (fun _ _ _ h => h) (Or.inl ⟨by rfl, ?hy11⟩) hHeld ?rest11
              case hy11 => (intro w' hSw; (try dsimp only at hSw); first | (go_simp; done) | (go_simp; with_reducible rfl))
              simp only [Act.put, pz0, pz1, pz2, pz3, pz4, pz5]
              refine wpAnyH_take (i := 1) (v := ?v12) rfl (by kernel_rfl) (by kernel_rfl) (by kernel_rfl) (fun _ _ _ h => h) (Or.inl ⟨by rfl, ?hy12⟩) hHeld ?rest12
              case hy12 => (intro w' hSw; (try dsimp only at hSw); first | (go_simp; done) | (go_simp; with_reducible rfl))
              simp only [Act.put, pz0, pz1, pz2, pz3, pz4, pz5]
              refine wpAnyH_take (i := 2) (v := ?v13) rfl (by kernel_rfl) (by kernel_rfl) (by kernel_rfl) (fun _ _ _ h => h) (Or.inl ⟨by rfl, ?hy13⟩) hHeld ?rest13
              case hy13 => (intro w' hSw; (try dsimp only at hSw); first | (go_simp; done) | (go_simp; with_reducible rfl))
              simp only [Act.put, pz0, pz1, pz2, pz3, pz4, pz5]
              refine wpAnyH_take (i := 3) (v := ?v14) rfl (by kernel_rfl) (by kernel_rfl) (by kernel_rfl) (fun _ _ _ h => h) (Or.inl ⟨by rfl, ?hy14⟩) hHeld ?rest14
              case hy14 => (intro w' hSw; (try dsimp only at hSw); first | (go_simp; done) | (go_simp; with_reducible rfl))
              simp only [Act.put, pz0, pz1, pz2, pz3, pz4, pz5]
              refine wpAnyH_take (i := 4) (v := ?v15) rfl (by kernel_rfl) (by kernel_rfl) (by kernel_rfl) (fun _ _ _ h => h) (Or.inl ⟨by rfl, ?hy15⟩) hHeld ?rest15
              case hy15 => (intro w' hSw; (try dsimp only at hSw); first | (go_simp; done) | (go_simp; with_reducible rfl))
              simp only [Act.put, pz0, pz1, pz2, pz3, pz4, pz5]
              refine wpAnyH_ready (rs := [5]) (by kernel_rfl) (by simp) ?_
              refine AllReadyH.cons rfl (fun K hK => ?_) AllReadyH.nil
              go_simp
              refine (specIn _ _ _ _).mono ?_
              rintro e wc ⟨rfl, rfl⟩
              rw [HIN.out]
              go_wp2_with fail
              refine hK.out _ _ hHeld (fun hHeld => ?_)
              clear hK K
              (try simp only [Act.put, pz0, pz1, pz2, pz3, pz4, pz5])
              refine wpAnyH_take (i := 6) (v := ?v16) rfl (by kernel_rfl) (by kernel_rfl) (by kernel_rfl) (fun _ _ _ h => h) (Or.inl ⟨by rfl, ?hy16⟩) hHeld ?rest16
              case hy16 => (intro w' hSw; (try dsimp only at hSw); first | (go_simp; done) | (go_simp; with_reducible rfl))
              simp only [Act.put, pz0, pz1, pz2, pz3, pz4, pz5]
              refine wpAnyH_take (i := 7) (v := ?v17) rfl (by kernel_rfl) (by kernel_rfl) (by kernel_rfl) (fun _ _ _ h => h) (Or.inl ⟨by rfl, ?hy17⟩) hHeld ?rest17
              case hy17 => (intro w' hSw; (try dsimp only at hSw); first | (go_simp; done) | (go_simp; with_reducible rfl))
              simp only [Act.put, pz0, pz1, pz2, pz3, pz4, pz5]
              refine wpAnyH_take (i := 8) (v := ?v18) rfl (by kernel_rfl) (by kernel_rfl) (by kernel_rfl) (fun _ _ _ h => h) (Or.inl ⟨by rfl, ?hy18⟩) hHeld ?rest18
              case hy18 => (intro w' hSw; (try dsimp only at hSw); first | (go_simp; done) | (go_simp; with_reducible rfl))
              simp only [Act.put, pz0, pz1, pz2, pz3, pz4, pz5]
              refine wpAnyH_take (i := 9) (v := ?v19) rfl (by kernel_rfl) (by kernel_rfl) (by kernel_rfl) (fun _ _ _ h => h) (Or.inl ⟨by rfl, ?hy19⟩) hHeld ?rest19
              case hy19 => (intro w' hSw; (try dsimp only at hSw); first | (go_simp; done) | (go_simp; with_reducible rfl))
              simp only [Act.put, pz0, pz1, pz2, pz3, pz4, pz5]
              refine wpAnyH_take (i := 10) (v := ?v20) rfl (by kernel_rfl) (by kernel_rfl) (by kernel_rfl) (fun _ _ _ h => h) (Or.inl ⟨by rfl, ?hy20⟩) hHeld ?rest20
              case hy20 => (intro w' hSw; (try dsimp only at hSw); first | (go_simp; done) | (go_simp; with_reducible rfl))
              simp only [Act.put, pz0, pz1, pz2, pz3, pz4, pz5]
              refine wpAnyH_take (i := 11) (v := ?v21) rfl (by kernel_rfl) (by kernel_rfl) (by kernel_rfl) (fun _ _ _ h => h) (Or.inl ⟨by rfl, ?hy21⟩) hHeld ?rest21
              case hy21 => (intro w' hSw; (try dsimp only at hSw); first | (go_simp; done) | (go_simp; with_reducible rfl))
              simp only [Act.put, pz0, pz1, pz2, pz3, pz4, pz5]
              refine wpAnyH_take (i := 12) (v := ?v22) rfl (by kernel_rfl) (by kernel_rfl) (by kernel_rfl) (fun _ _ _ h => h) (Or.inl ⟨by rfl, ?hy22⟩) hHeld ?rest22
              case hy22 => (intro w' hSw; (try dsimp only at hSw); first | (go_simp; done) | (go_simp; with_reducible rfl))
              simp only [Act.put, pz0, pz1, pz2, pz3, pz4, pz5]
              refine wpAnyH_take (i := 13) (v := ?v23) rfl (by kernel_rfl) (by kernel_rfl) (by kernel_rfl) (fun _ _ _ h => h) (Or.inl ⟨by rfl, ?hy23⟩) hHeld ?rest23
              case hy23 => (intro w' hSw; (try dsimp only at hSw); first | (go_simp; done) | (go_simp; with_reducible rfl))
              simp only [Act.put, pz0, pz1, pz2, pz3, pz4, pz5]
              refine wpAnyH_take (i := 14) (v := ?v24) rfl (by kernel_rfl) (by kernel_rfl) (by kernel_rfl) (fun _ _ _ h => h) (Or.inl ⟨by rfl, ?hy24⟩) hHeld ?rest24
              case hy24 => (intro w' hSw; (try dsimp only at hSw); first | (go_simp; done) | (go_simp; with_reducible rfl))
              simp only [Act.put, pz0, pz1, pz2, pz3, pz4, pz5]
              refine wpAnyH_take (i := 15) (v := ?v25) rfl (by kernel_rfl) (by kernel_rfl) (by kernel_rfl) (fun _ _ _ h => h) (Or.inl ⟨by rfl, ?hy25⟩) hHeld ?rest25
              case hy25 => (intro w' hSw; (try dsimp only at hSw); first | (go_simp; done) | (go_simp; with_reducible rfl))
              simp only [Act.put, pz0, pz1, pz2, pz3, pz4, pz5]
              refine wpAnyH_take (i := 16) (v := ?v26) rfl (by kernel_rfl) (by kernel_rfl) (by kernel_rfl) (fun _ _ _ h => h) (Or.inl ⟨by rfl, ?hy26⟩) hHeld ?rest26
              case hy26 => (intro w' hSw; (try dsimp only at hSw); first | (go_simp; done) | (go_simp; with_reducible rfl))
              simp only [Act.put, pz0, pz1, pz2, pz3, pz4, pz5]
              refine wpAnyH_take (i := 17) (v := ?v27) rfl (by kernel_rfl) (by kernel_rfl) (by kernel_rfl) (fun _ _ _ h => h) (Or.inl ⟨by rfl, ?hy27⟩) hHeld ?rest27
              case hy27 => (intro w' hSw; (try dsimp only at hSw); first | (go_simp; done) | (go_simp; with_reducible rfl))
              simp only [Act.put, pz0, pz1, pz2, pz3, pz4, pz5]
              refine wpAnyH_take (i := 18) (v := ?v28) rfl (by kernel_rfl) (by kernel_rfl) (by kernel_rfl) (fun _ _ _ h => h) (Or.inl ⟨by rfl, ?hy28⟩) hHeld ?rest28
              case hy28 => (intro w' hSw; (try dsimp only at hSw); first | (go_simp; done) | (go_simp; with_reducible rfl))
              simp only [Act.put, pz0, pz1, pz2, pz3, pz4, pz5]
              refine wpAnyH_take (i := 19) (v := ?v29) rfl (by kernel_rfl) (by kernel_rfl) (by kernel_rfl) (fun _ _ _ h => h) (Or.inl ⟨by rfl, ?hy29⟩) hHeld ?rest29
              case hy29 => (intro w' hSw; (try dsimp only at hSw); first | (go_simp; done) | (go_simp; with_reducible rfl))
              simp only [Act.put, pz0, pz1, pz2, pz3, pz4, pz5]
              refine wpAnyH_take (i := 20) (v := ?v30) rfl (by kernel_rfl) (by kernel_rfl) (by kernel_rfl) (fun _ _ _ h => h) (Or.inl ⟨by rfl, ?hy30⟩) hHeld ?rest30
              case hy30 => (intro w' hSw; (try dsimp only at hSw); first | (go_simp; done) | (go_simp; with_reducible rfl))
              simp only [Act.put, pz0, pz1, pz2, pz3, pz4, pz5]
              refine wpAnyH_take (i := 21) (v := ?v31) rfl (by kernel_rfl) (by kernel_rfl) (by kernel_rfl) (fun _ _ _ h => h) (Or.inl ⟨by rfl, ?hy31⟩) hHeld ?rest31
              case hy31 => (intro w' hSw; (try dsimp only at hSw); first | (go_simp; done) | (go_simp; with_reducible rfl))
              simp only [Act.put, pz0, pz1, pz2, pz3, pz4, pz5]
              refine wpAnyH_take (i := 22) (v := ?v32) rfl (by kernel_rfl) (by kernel_rfl) (by kernel_rfl) (fun _ _ _ h => h) (Or.inl ⟨by rfl, ?hy32⟩) hHeld ?rest32
              case hy32 => (intro w' hSw; (try dsimp only at hSw); first | (go_simp; done) | (go_simp; with_reducible rfl))
              simp only [Act.put, pz0, pz1, pz2, pz3, pz4, pz5]
              refine wpAnyH_take (i := 23) (v := ?v33) rfl (by kernel_rfl) (by kernel_rfl) (by kernel_rfl) (fun _ _ _ h => h) (Or.inl ⟨by rfl, ?hy33⟩) hHeld ?rest33
              case hy33 => (intro w' hSw; (try dsimp only at hSw); first | (go_simp; done) | (go_simp; with_reducible rfl))
              simp only [Act.put, pz0, pz1, pz2, pz3, pz4, pz5]
              refine wpAnyH_take (i := 24) (v := ?v34) rfl (by kernel_rfl) (by kernel_rfl) (by kernel_rfl) (fun _ _ _ h => h) (Or.inl ⟨by rfl, ?hy34⟩) hHeld ?rest34
              case hy34 => (intro w' hSw; (try dsimp only at hSw); first | (go_simp; done) | (go_simp; with_reducible rfl))
              simp only [Act.put, pz0, pz1, pz2, pz3, pz4, pz5]
              refine wpAnyH_take (i := 25) (v := ?v35) rfl (by kernel_rfl) (by kernel_rfl) (by kernel_rfl) (fun _ _ _ h => h) (Or.inl ⟨by rfl, ?hy35⟩) hHeld ?rest35
              case hy35 => (intro w' hSw; (try dsimp only at hSw); first | (go_simp; done) | (go_simp; with_reducible rfl))
              simp only [Act.put, pz0, pz1, pz2, pz3, pz4, pz5]
              refine wpAnyH_take (i := 26) (v := undef) rfl (by kernel_rfl) (by kernel_rfl) (by kernel_rfl) (fun _ _ _ h => h) (Or.inr ⟨by rfl, rfl⟩) hHeld ?_
              simp only [Act.put, pz0, pz1, pz2, pz3, pz4, pz5]
              refine wpAnyH_take (i := 27) (v := undef) rfl (by kernel_rfl) (by kernel_rfl) (by kernel_rfl) (fun _ _ _ h => h) (Or.inr ⟨by rfl, rfl⟩) hHeld ?_
              simp only [Act.put, pz0, pz1, pz2, pz3, pz4, pz5]
              refine wpAnyH_take (i := 28) (v := undef) rfl (by kernel_rfl) (by kernel_rfl) (by kernel_rfl) (fun _ _ _ h => h) (Or.inr ⟨by rfl, rfl⟩) hHeld ?_
              simp only [Act.put, pz0, pz1, pz2, pz3, pz4, pz5]
              refine wpAnyH_take (i := 29) (v := undef) rfl (by kernel_rfl) (by kernel_rfl) (by kernel_rfl) (fun _ _ _ h => h) (Or.inr ⟨by rfl, rfl⟩) hHeld ?_
              simp only [Act.put, pz0, pz1, pz2, pz3, pz4, pz5]
              refine wpAnyH_take (i := 30) (v := undef) rfl (by kernel_rfl) (by kernel_rfl) (by kernel_rfl) (fun _ _ _ h => h) (Or.inr ⟨by rfl, rfl⟩) hHeld ?_
              simp only [Act.put, pz0, pz1, pz2, pz3, pz4, pz5]
              refine wpAnyH_take (i := 31) (v := undef) rfl (by kernel_rfl) (by kernel_rfl) (by kernel_rfl) (fun _ _ _ h => h) (Or.inr ⟨by rfl, rfl⟩) hHeld ?_
              simp only [Act.put, pz0, pz1, pz2, pz3, pz4, pz5]
              refine wpAnyH_take (i := 32) (v := undef) rfl (by kernel_rfl) (by kernel_rfl) (by kernel_rfl) (fun _ _ _ h => h) (Or.inr ⟨by rfl, rfl⟩) hHeld ?_
              simp only [Act.put, pz0, pz1, pz2, pz3, pz4, pz5]
              refine wpAnyH_take (i := 33) (v := undef) rfl (by kernel_rfl) (by kernel_rfl) (by kernel_rfl) (fun _ _ _ h => h) (Or.inr ⟨by rfl, rfl⟩) hHeld ?_
              simp only [Act.put, pz0, pz1, pz2, pz3, pz4, pz5]
              refine wpAnyH_take (i := 34) (v := undef) rfl (by kernel_rfl) (by kernel_rfl) (by kernel_rfl) (fun _ _ _ h => h) (Or.inr ⟨by rfl, rfl⟩) hHeld ?_
              simp only [Act.put, pz0, pz1, pz2, pz3, pz4, pz5]
              refine wpAnyH_take (i := 35) (v := undef) rfl (by kernel_rfl) (by kernel_rfl) (by kernel_rfl) (fun _ _ _ h => h) (Or.inr ⟨by rfl, rfl⟩) hHeld ?_
              simp only [Act.put, pz0, pz1, pz2, pz3, pz4, pz5]
              refine wpAnyH_take (i := 36) (v := undef) rfl (by kernel_rfl) (by kernel_rfl) (by kernel_rfl) (fun _ _ _ h => h) (Or.inr ⟨by rfl, rfl⟩) hHeld ?_
              simp only [Act.put, pz0, pz1, pz2, pz3, pz4, pz5]
              refine wpAnyH_take (i := 37) (v := ?v36) rfl (by kernel_rfl) (by kernel_rfl) (by kernel_rfl) (fun _ _ _ h => h) (Or.inl ⟨by rfl, ?hy36⟩) hHeld ?rest36
              case hy36 => (intro w' hSw; (try dsimp only at hSw); first | (go_simp; done) | (go_simp; with_reducible rfl))
              simp only [Act.put, pz0, pz1, pz2, pz3, pz4, pz5]
              refine wpAnyH_done (by kernel_rfl) ?_ _
              refine NoPanic.normal ?_
              have hz := hb.drew
              clear hHeld
              go_wp2_with fail
              go_ret
              exact ⟨retB HF.out.symm, hz⟩
            have hge : decide (v.id ≤ u.id) = false := decide_eq_false hpv
            have hgf : decide (u.id < v.id) = true := decide_eq_true (by omega)
            have hgl : decide (v.id ≤ last) = false := decide_eq_false (by omega)
            cases hkd : kindsB s[i].cols v.vals
            · skip
              have HK := Lib.hid hkd
              have HF := Lib.hid (hbad (by rw [hst, hkd]; simp))
              clear hkd hst hbad
              go_wp2_with fail
              refine wp_region_noPanic ?_
              refine wp_region_held_drew (S := fun w' => w'.cell? ⟨bl, offl + k * 2, none⟩ = some (.int .i64 v.id) ∧ w'.cell? ⟨bl, offl + k * 2 + 1, none⟩ = some (.slice A9 v.vals.length c9) ∧ w'.cell? ⟨b, off + i * 6, none⟩ = some (.string s[i].name) ∧ w'.cell? ⟨b, off + i * 6 + 1, none⟩ = some (.slice A1 s[i].cols.length c1) ∧ w'.cell? ⟨b, off + i * 6 + 2, none⟩ = some (.slice A2 n2 c2) ∧ w'.cell? ⟨b, off + i * 6 + 3, none⟩ = some (.slice A3 n3 c3) ∧ w'.cell? ⟨b, off + i * 6 + 4, none⟩ = some (.slice A4 n4 c4) ∧ w'.cell? ⟨b, off + i * 6 + 5, none⟩ = some (.slice A5 n5 c5) ∧ w'.cell? ⟨bl, offl + p * 2, none⟩ = some (.int .i64 u.id)) (by kernel_rfl) ⟨r0, r1, q0, q1, q2, q3, q4, q5, p0⟩ (fun hHeld => ?_)
              refine wpAnyH_take (i := 0) (v := ?v85) rfl (by kernel_rfl) (by kernel_rfl) (by kernel_rfl) (fun _ _ _ h => h) (Or.inl ⟨by rfl, ?hy85⟩) hHeld ?rest85
              case hy85 => (intro w' hSw; (try dsimp only at hSw); first | (go_simp; done) | (go_simp; with_reducible rfl))
              simp only [Act.put, pz0, pz1, pz2, pz3, pz4, pz5]
              refine wpAnyH_take (i := 1) (v := ?v86) rfl (by kernel_rfl) (by kernel_rfl) (by kernel_rfl) (fun _ _ _ h => h) (Or.inl ⟨by rfl, ?hy86⟩) hHeld ?rest86
              case hy86 => (intro w' hSw; (try dsimp only at hSw); first | (go_simp; done) | (go_simp; with_reducible rfl))
              simp only [Act.put, pz0, pz1, pz2, pz3, pz4, pz5]
              refine wpAnyH_take (i := 2) (v := ?v87) rfl (by kernel_rfl) (by kernel_rfl) (by kernel_rfl) (fun _ _ _ h => h) (Or.inl ⟨by rfl, ?hy87⟩) hHeld ?rest87
              case hy87 => (intro w' hSw; (try dsimp only at hSw); first | (go_simp; done) | (go_simp; with_reducible rfl))
              simp only [Act.put, pz0, pz1, pz2, pz3, pz4, pz5]
              refine wpAnyH_take (i := 3) (v := ?v88) rfl (by kernel_rfl) (by kernel_rfl) (by kernel_rfl) (fun _ _ _ h => h) (Or.inl ⟨by rfl, ?hy88⟩) hHeld ?rest88
              case hy88 => (intro w' hSw; (try dsimp only at hSw); first | (go_simp; done) | (go_simp; with_reducible rfl))
              simp only [Act.put, pz0, pz1, pz2, pz3, pz4, pz5]
              refine wpAnyH_take (i := 4) (v := ?v89) rfl (by kernel_rfl) (by kernel_rfl) (by kernel_rfl) (fun _ _ _ h => h) (Or.inl ⟨by rfl, ?hy89⟩) hHeld ?rest89
              case hy89 => (intro w' hSw; (try dsimp only at hSw); first | (go_simp; done) | (go_simp; with_reducible rfl))
              simp only [Act.put, pz0, pz1, pz2, pz3, pz4, pz5]
              refine wpAnyH_ready (rs := [5]) (by kernel_rfl) (by simp) ?_
              refine AllReadyH.cons rfl (fun K hK => ?_) AllReadyH.nil
              go_simp
              refine (specIn _ _ _ _).mono ?_
              rintro e wc ⟨rfl, rfl⟩
              rw [HIN.out]
              go_wp2_with fail
              refine hK.out _ _ hHeld (fun hHeld => ?_)
              clear hK K
              (try simp only [Act.put, pz0, pz1, pz2, pz3, pz4, pz5])
              refine wpAnyH_take (i := 6) (v := ?v90) rfl (by kernel_rfl) (by kernel_rfl) (by kernel_rfl) (fun _ _ _ h => h) (Or.inl ⟨by rfl, ?hy90⟩) hHeld ?rest90
              case hy90 => (intro w' hSw; (try dsimp only at hSw); first | (go_simp; done) | (go_simp; with_reducible rfl))
              simp only [Act.put, pz0, pz1, pz2, pz3, pz4, pz5]
              refine wpAnyH_take (i := 7) (v := ?v91) rfl (by kernel_rfl) (by kernel_rfl) (by kernel_rfl) (fun _ _ _ h => h) (Or.inl ⟨by rfl, ?hy91⟩) hHeld ?rest91
              case hy91 => (intro w' hSw; (try dsimp only at hSw); first | (go_simp; done) | (go_simp; with_reducible rfl))
              simp only [Act.put, pz0, pz1, pz2, pz3, pz4, pz5]
              refine wpAnyH_take (i := 8) (v := ?v92) rfl (by kernel_rfl) (by kernel_rfl) (by kernel_rfl) (fun _ _ _ h => h) (Or.inl ⟨by rfl, ?hy92⟩) hHeld ?rest92
              case hy92 => (intro w' hSw; (try dsimp only at hSw); first | (go_simp; done) | (go_simp; with_reducible rfl))
              simp only [Act.put, pz0, pz1, pz2, pz3, pz4, pz5]
              refine wpAnyH_take (i := 9) (v := ?v93) rfl (by kernel_rfl) (by kernel_rfl) (by kernel_rfl) (fun _ _ _ h => h) (Or.inl ⟨by rfl, ?hy93⟩) hHeld ?rest93
              case hy93 => (intro w' hSw; (try dsimp only at hSw); first | (go_simp; done) | (go_simp; with_reducible rfl))
              simp only [Act.put, pz0, pz1, pz2, pz3, pz4, pz5]
              refine wpAnyH_take (i := 10) (v := ?v94) rfl (by kernel_rfl) (by kernel_rfl) (by kernel_rfl) (fun _ _ _ h => h) (Or.inl ⟨by rfl, ?hy94⟩) hHeld ?rest94
              case hy94 => (intro w' hSw; (try dsimp only at hSw); first | (go_simp; done) | (go_simp; with_reducible rfl))
              simp only [Act.put, pz0, pz1, pz2, pz3, pz4, pz5]
              refine wpAnyH_take (i := 11) (v := ?v95) rfl (by kernel_rfl) (by kernel_rfl) (by kernel_rfl) (fun _ _ _ h => h) (Or.inl ⟨by rfl, ?hy95⟩) hHeld ?rest95
              case hy95 => (intro w' hSw; (try dsimp only at hSw); first | (go_simp; done) | (go_simp; with_reducible rfl))
              simp only [Act.put, pz0, pz1, pz2, pz3, pz4, pz5]
              refine wpAnyH_take (i := 12) (v := ?v96) rfl (by kernel_rfl) (by kernel_rfl) (by kernel_rfl) (fun _ _ _ h => h) (Or.inl ⟨by rfl, ?hy96⟩) hHeld ?rest96
              case hy96 => (intro w' hSw; (try dsimp only at hSw); first | (go_simp; done) | (go_simp; with_reducible rfl))
              simp only [Act.put, pz0, pz1, pz2, pz3, pz4, pz5]
              refine wpAnyH_take (i := 13) (v := ?v97) rfl (by kernel_rfl) (by kernel_rfl) (by kernel_rfl) (fun _ _ _ h => h) (Or.inl ⟨by rfl, ?hy97⟩) hHeld ?rest97
              case hy97 => (intro w' hSw; (try dsimp only at hSw); first | (go_simp; done) | (go_simp; with_reducible rfl))
              simp only [Act.put, pz0, pz1, pz2, pz3, pz4, pz5]
              refine wpAnyH_take (i := 14) (v := ?v98) rfl (by kernel_rfl) (by kernel_rfl) (by kernel_rfl) (fun _ _ _ h => h) (Or.inl ⟨by rfl, ?hy98⟩) hHeld ?rest98
              case hy98 => (intro w' hSw; (try dsimp only at hSw); first | (go_simp; done) | (go_simp; with_reducible rfl))
              simp only [Act.put, pz0, pz1, pz2, pz3, pz4, pz5]
              refine wpAnyH_take (i := 15) (v := ?v99) rfl (by kernel_rfl) (by kernel_rfl) (by kernel_rfl) (fun _ _ _ h => h) (Or.inl ⟨by rfl, ?hy99⟩) hHeld ?rest99
              case hy99 => (intro w' hSw; (try dsimp only at hSw); first | (go_simp; done) | (go_simp; with_reducible rfl))
              simp only [Act.put, pz0, pz1, pz2, pz3, pz4, pz5]
              refine wpAnyH_take (i := 16) (v := ?v100) rfl (by kernel_rfl) (by kernel_rfl) (by kernel_rfl) (fun _ _ _ h => h) (Or.inl ⟨by rfl, ?hy100⟩) hHeld ?rest100
              case hy100 => (intro w' hSw; (try dsimp only at hSw); first | (go_simp; done) | (go_simp; with_reducible rfl))
              simp only [Act.put, pz0, pz1, pz2, pz3, pz4, pz5]
              refine wpAnyH_take (i := 17) (v := ?v101) rfl (by kernel_rfl) (by kernel_rfl) (by kernel_rfl) (fun _ _ _ h => h) (Or.inl ⟨by rfl, ?hy101⟩) hHeld ?rest101
              case hy101 => (intro w' hSw; (try dsimp only at hSw); first | (go_simp; done) | (go_simp; with_reducible rfl))
              simp only [Act.put, pz0, pz1, pz2, pz3, pz4, pz5]
              refine wpAnyH_take (i := 18) (v := ?v102) rfl (by kernel_rfl) (by kernel_rfl) (by kernel_rfl) (fun _ _ _ h => h) (Or.inl ⟨by rfl, ?hy102⟩) hHeld ?rest102
              case hy102 => (intro w' hSw; (try dsimp only at hSw); first | (go_simp; done) | (go_simp; with_reducible rfl))
              simp only [Act.put, pz0, pz1, pz2, pz3, pz4, pz5]
              refine wpAnyH_take (i := 19) (v := ?v103) rfl (by kernel_rfl) (by kernel_rfl) (by kernel_rfl) (fun _ _ _ h => h) (Or.inl ⟨by rfl, ?hy103⟩) hHeld ?rest103
              case hy103 => (intro w' hSw; (try dsimp only at hSw); first | (go_simp; done) | (go_simp; with_reducible rfl))
              simp only [Act.put, pz0, pz1, pz2, pz3, pz4, pz5]
              refine wpAnyH_take (i := 20) (v := ?v104) rfl (by kernel_rfl) (by kernel_rfl) (by kernel_rfl) (fun _ _ _ h => h) (Or.inl ⟨by rfl, ?hy104⟩) hHeld ?rest104
              case hy104 => (intro w' hSw; (try dsimp only at hSw); first | (go_simp; done) | (go_simp; with_reducible rfl))
              simp only [Act.put, pz0, pz1, pz2, pz3, pz4, pz5]
              refine wpAnyH_take (i := 21) (v := ?v105) rfl (by kernel_rfl) (by kernel_rfl) (by kernel_rfl) (fun _ _ _ h => h) (Or.inl ⟨by rfl, ?hy105⟩) hHeld ?rest105
              case hy105 => (intro w' hSw; (try dsimp only at hSw); first | (go_simp; done) | (go_simp; with_reducible rfl))
              simp only [Act.put, pz0, pz1, pz2, pz3, pz4, pz5]
              refine wpAnyH_take (i := 22) (v := ?v106) rfl (by kernel_rfl) (by kernel_rfl) (by kernel_rfl) (fun _ _ _ h => h) (Or.inl ⟨by rfl, ?hy106⟩) hHeld ?rest106
              case hy106 => (intro w' hSw; (try dsimp only at hSw); first | (go_simp; done) | (go_simp; with_reducible rfl))
              simp only [Act.put, pz0, pz1, pz2, pz3, pz4, pz5]
              refine wpAnyH_take (i := 23) (v := ?v107) rfl (by kernel_rfl) (by kernel_rfl) (by kernel_rfl) (fun _ _ _ h => h) (Or.inl ⟨by rfl, ?hy107⟩) hHeld ?rest107
              case hy107 => (intro w' hSw; (try dsimp only at hSw); first | (go_simp; done) | (go_simp; with_reducible rfl))
              simp only [Act.put, pz0, pz1, pz2, pz3, pz4, pz5]
              refine wpAnyH_take (i := 24) (v := ?v108) rfl (by kernel_rfl) (by kernel_rfl) (by kernel_rfl) (fun _ _ _ h => h) (Or.inl ⟨by rfl, ?hy108⟩) hHeld ?rest108
              case hy108 => (intro w' hSw; (try dsimp only at hSw); first | (go_simp; done) | (go_simp; with_reducible rfl))
              simp only [Act.put, pz0, pz1, pz2, pz3, pz4, pz5]
              refine wpAnyH_take (i := 25) (v := ?v109) rfl (by kernel_rfl) (by kernel_rfl) (by kernel_rfl) (fun _ _ _ h => h) (Or.inl ⟨by rfl, ?hy109⟩) hHeld ?rest109
              case hy109 => (intro w' hSw; (try dsimp only at hSw); first | (go_simp; done) | (go_simp; with_reducible rfl))
              simp only [Act.put, pz0, pz1, pz2, pz3, pz4, pz5]
              refine wpAnyH_take (i := 26) (v := ?v110) rfl (by kernel_rfl) (by kernel_rfl) (by kernel_rfl) (fun _ _ _ h => h) (Or.inl ⟨by rfl, ?hy110⟩) hHeld ?rest110
              case hy110 => (intro w' hSw; (try dsimp only at hSw); first | (go_simp; done) | (go_simp; with_reducible rfl))
              simp only [Act.put, pz0, pz1, pz2, pz3, pz4, pz5]
              refine wpAnyH_take (i := 27) (v := ?v111) rfl (by kernel_rfl) (by kernel_rfl) (by kernel_rfl) (fun _ _ _ h => h) (Or.inl ⟨by rfl, ?hy111⟩) hHeld ?rest111
              case hy111 => (intro w' hSw; (try dsimp only at hSw); first | (go_simp; done) | (go_simp; with_reducible rfl))
              simp only [Act.put, pz0, pz1, pz2, pz3, pz4, pz5]
              refine wpAnyH_take (i := 28) (v := ?v112) rfl (by kernel_rfl) (by kernel_rfl) (by kernel_rfl) (fun _ _ _ h => h) (Or.inl ⟨by rfl, ?hy112⟩) hHeld ?rest112
              case hy112 => (intro w' hSw; (try dsimp only at hSw); first | (go_simp; done) | (go_simp; with_reducible rfl))
              simp only [Act.put, pz0, pz1, pz2, pz3, pz4, pz5]
              refine wpAnyH_take (i := 29) (v := ?v113) rfl (by kernel_rfl) (by kernel_rfl) (by kernel_rfl) (fun _ _ _ h => h) (Or.inl ⟨by rfl, ?hy113⟩) hHeld ?rest113
              case hy113 => (intro w' hSw; (try dsimp only at hSw); first | (go_simp; done) | (go_simp; with_reducible rfl))
              simp only [Act.put, pz0, pz1, pz2, pz3, pz4, pz5]
              refine wpAnyH_take (i := 30) (v := ?v114) rfl (by kernel_rfl) (by kernel_rfl) (by kernel_rfl) (fun _ _ _ h => h) (Or.inl ⟨by rfl, ?hy114⟩) hHeld ?rest114
              case hy114 => (intro w' hSw; (try dsimp only at hSw); first | (go_simp; done) | (go_simp; with_reducible rfl))
              simp only [Act.put, pz0, pz1, pz2, pz3, pz4, pz5]
              refine wpAnyH_take (i := 31) (v := ?v115) rfl (by kernel_rfl) (by kernel_rfl) (by kernel_rfl) (fun _ _ _ h => h) (Or.inl ⟨by rfl, ?hy115⟩) hHeld ?rest115
              case hy115 => (intro w' hSw; (try dsimp only at hSw); first | (go_simp; done) | (go_simp; with_reducible rfl))
              simp only [Act.put, pz0, pz1, pz2, pz3, pz4, pz5]
              refine wpAnyH_take (i := 32) (v := ?v116) rfl (by kernel_rfl) (by kernel_rfl) (by kernel_rfl) (fun _ _ _ h => h) (Or.inl ⟨by rfl, ?hy116⟩) hHeld ?rest116
              case hy116 => (intro w' hSw; (try dsimp only at hSw); first | (go_simp; done) | (go_simp; with_reducible rfl))
              simp only [Act.put, pz0, pz1, pz2, pz3, pz4, pz5]
              refine wpAnyH_take (i := 33) (v := ?v117) rfl (by kernel_rfl) (by kernel_rfl) (by kernel_rfl) (fun _ _ _ h => h) (Or.inl ⟨by rfl, ?hy117⟩) hHeld ?rest117
              case hy117 => (intro w' hSw; (try dsimp only at hSw); first | (go_simp; done) | (go_simp; with_reducible rfl))
              simp only [Act.put, pz0, pz1, pz2, pz3, pz4, pz5]
              refine wpAnyH_take (i := 34) (v := ?v118) rfl (by kernel_rfl) (by kernel_rfl) (by kernel_rfl) (fun _ _ _ h => h) (Or.inl ⟨by rfl, ?hy118⟩) hHeld ?rest118
              case hy118 => (intro w' hSw; (try dsimp only at hSw); first | (go_simp; done) | (go_simp; with_reducible rfl))
              simp only [Act.put, pz0, pz1, pz2, pz3, pz4, pz5]
              refine wpAnyH_ready (rs := [35]) (by kernel_rfl) (by simp) ?_
              refine AllReadyH.cons rfl (fun K hK => ?_) AllReadyH.nil
              go_simp
              refine (specKinds A1 A9 s[i].cols.length c1 v.vals.length c9 _ _ _ _ _ s[i].cols v.vals ok _ (s1.drew ClR.stays) hvv HCN.out HN9.out).mono ?_
              rintro e wd ⟨rfl, hqd⟩
              rw [HK.out]
              go_wp2_with fail
              refine hK.out _ _ ⟨below_keep hqd _ _ hHeld.1, below_keep hqd _ _ hHeld.2.1, below_keep hqd _ _ hHeld.2.2.1, below_keep hqd _ _ hHeld.2.2.2.1, below_keep hqd _ _ hHeld.2.2.2.2.1, below_keep hqd _ _ hHeld.2.2.2.2.2.1, below_keep hqd _ _ hHeld.2.2.2.2.2.2.1, below_keep hqd _ _ hHeld.2.2.2.2.2.2.2.1, below_keep hqd _ _ hHeld.2.2.2.2.2.2.2.2⟩ (fun hHeld => ?_)
              clear hK K
              (try simp only [Act.put, pz0, pz1, pz2, pz3, pz4, pz5])
              refine wpAnyH_take (i := 36) (v := ?v119) rfl (by kernel_rfl) (by kernel_rfl) (by kernel_rfl) (fun _ _ _ h => h) (Or.inl ⟨by rfl, ?hy119⟩) hHeld ?rest119
              case hy119 => (intro w' hSw; (try dsimp only at hSw); first | (go_simp; done) | (go_simp; with_reducible rfl))
              simp only [Act.put, pz0, pz1, pz2, pz3, pz4, pz5]
              refine wpAnyH_take (i := 37) (v := ?v120) rfl (by kernel_rfl) (by kernel_rfl) (by kernel_rfl) (fun _ _ _ h => h) (Or.inl ⟨by rfl, ?hy120⟩) hHeld ?rest120
              case hy120 => (intro w' hSw; (try dsimp only at hSw); first | (go_simp; done) | (go_simp; with_reducible rfl))
              simp only [Act.put, pz0, pz1, pz2, pz3, pz4, pz5]
              refine wpAnyH_done (by kernel_rfl) ?_ _
              refine NoPanic.normal ?_
              have hz := hb.drew.trans (hqd.mono hb.drew.size)
              have hrz := (hrs.drew RwR.stays).below RwR.stays hqd
              clear hHeld
              go_wp2_with fail
              go_ret
              exact ⟨retB HF.out.symm, hz⟩
            · skip
              have HK := Lib.hid hkd
              have HG := Lib.hid (show idsGo s[i].cols 0 db[i].rows = idsGo s[i].cols v.id (db[i].rows.drop (k + 1)) by rw [HGO.out, hst, decide_eq_true (p := last < v.id) (by omega), decide_eq_true (p := v.id ≤ 1000000000) (by omega), hkd]; rfl)
              have HL2 := Lib.hid (show 0 ≤ v.id ∧ (k + 1 = 0 → v.id = 0) ∧ (∀ q (hq : q + 1 = k + 1) (h2 : q < db[i].rows.length), db[i].rows[q].id = v.id) from ⟨by omega, by omega, fun q hq h2 => by (obtain rfl : q = k := (by omega)); exact HVK.out⟩)
              clear hkd hst hbad
              go_wp2_with fail
              refine wp_region_noPanic ?_
              refine wp_region_held_drew (S := fun w' => w'.cell? ⟨bl, offl + k * 2, none⟩ = some (.int .i64 v.id) ∧ w'.cell? ⟨bl, offl + k * 2 + 1, none⟩ = some (.slice A9 v.vals.length c9) ∧ w'.cell? ⟨b, off + i * 6, none⟩ = some (.string s[i].name) ∧ w'.cell? ⟨b, off + i * 6 + 1, none⟩ = some (.slice A1 s[i].cols.length c1) ∧ w'.cell? ⟨b, off + i * 6 + 2, none⟩ = some (.slice A2 n2 c2) ∧ w'.cell? ⟨b, off + i * 6 + 3, none⟩ = some (.slice A3 n3 c3) ∧ w'.cell? ⟨b, off + i * 6 + 4, none⟩ = some (.slice A4 n4 c4) ∧ w'.cell? ⟨b, off + i * 6 + 5, none⟩ = some (.slice A5 n5 c5) ∧ w'.cell? ⟨bl, offl + p * 2, none⟩ = some (.int .i64 u.id)) (by kernel_rfl) ⟨r0, r1, q0, q1, q2, q3, q4, q5, p0⟩ (fun hHeld => ?_)
              refine wpAnyH_take (i := 0) (v := ?v121) rfl (by kernel_rfl) (by kernel_rfl) (by kernel_rfl) (fun _ _ _ h => h) (Or.inl ⟨by rfl, ?hy121⟩) hHeld ?rest121
              case hy121 => (intro w' hSw; (try dsimp only at hSw); first | (go_simp; done) | (go_simp; with_reducible rfl))
              simp only [Act.put, pz0, pz1, pz2, pz3, pz4, pz5]
              refine wpAnyH_take (i := 1) (v := ?v122) rfl (by kernel_rfl) (by kernel_rfl) (by kernel_rfl) (fun _ _ _ h => h) (Or.inl ⟨by rfl, ?hy122⟩) hHeld ?rest122
              case hy122 => (intro w' hSw; (try dsimp only at hSw); first | (go_simp; done) | (go_simp; with_reducible rfl))
              simp only [Act.put, pz0, pz1, pz2, pz3, pz4, pz5]
              refine wpAnyH_take (i := 2) (v := ?v123) rfl (by kernel_rfl) (by kernel_rfl) (by kernel_rfl) (fun _ _ _ h => h) (Or.inl ⟨by rfl, ?hy123⟩) hHeld ?rest123
              case hy123 => (intro w' hSw; (try dsimp only at hSw); first | (go_simp; done) | (go_simp; with_reducible rfl))
              simp only [Act.put, pz0, pz1, pz2, pz3, pz4, pz5]
              refine wpAnyH_take (i := 3) (v := ?v124) rfl (by kernel_rfl) (by kernel_rfl) (by kernel_rfl) (fun _ _ _ h => h) (Or.inl ⟨by rfl, ?hy124⟩) hHeld ?rest124
              case hy124 => (intro w' hSw; (try dsimp only at hSw); first | (go_simp; done) | (go_simp; with_reducible rfl))
              simp only [Act.put, pz0, pz1, pz2, pz3, pz4, pz5]
              refine wpAnyH_take (i := 4) (v := ?v125) rfl (by kernel_rfl) (by kernel_rfl) (by kernel_rfl) (fun _ _ _ h => h) (Or.inl ⟨by rfl, ?hy125⟩) hHeld ?rest125
              case hy125 => (intro w' hSw; (try dsimp only at hSw); first | (go_simp; done) | (go_simp; with_reducible rfl))
              simp only [Act.put, pz0, pz1, pz2, pz3, pz4, pz5]
              refine wpAnyH_ready (rs := [5]) (by kernel_rfl) (by simp) ?_
              refine AllReadyH.cons rfl (fun K hK => ?_) AllReadyH.nil
              go_simp
              refine (specIn _ _ _ _).mono ?_
              rintro e wc ⟨rfl, rfl⟩
              rw [HIN.out]
              go_wp2_with fail
              refine hK.out _ _ hHeld (fun hHeld => ?_)
              clear hK K
              (try simp only [Act.put, pz0, pz1, pz2, pz3, pz4, pz5])
              refine wpAnyH_take (i := 6) (v := ?v126) rfl (by kernel_rfl) (by kernel_rfl) (by kernel_rfl) (fun _ _ _ h => h) (Or.inl ⟨by rfl, ?hy126⟩) hHeld ?rest126
              case hy126 => (intro w' hSw; (try dsimp only at hSw); first | (go_simp; done) | (go_simp; with_reducible rfl))
              simp only [Act.put, pz0, pz1, pz2, pz3, pz4, pz5]
              refine wpAnyH_take (i := 7) (v := ?v127) rfl (by kernel_rfl) (by kernel_rfl) (by kernel_rfl) (fun _ _ _ h => h) (Or.inl ⟨by rfl, ?hy127⟩) hHeld ?rest127
              case hy127 => (intro w' hSw; (try dsimp only at hSw); first | (go_simp; done) | (go_simp; with_reducible rfl))
              simp only [Act.put, pz0, pz1, pz2, pz3, pz4, pz5]
              refine wpAnyH_take (i := 8) (v := ?v128) rfl (by kernel_rfl) (by kernel_rfl) (by kernel_rfl) (fun _ _ _ h => h) (Or.inl ⟨by rfl, ?hy128⟩) hHeld ?rest128
              case hy128 => (intro w' hSw; (try dsimp only at hSw); first | (go_simp; done) | (go_simp; with_reducible rfl))
              simp only [Act.put, pz0, pz1, pz2, pz3, pz4, pz5]
              refine wpAnyH_take (i := 9) (v := ?v129) rfl (by kernel_rfl) (by kernel_rfl) (by kernel_rfl) (fun _ _ _ h => h) (Or.inl ⟨by rfl, ?hy129⟩) hHeld ?rest129
              case hy129 => (intro w' hSw; (try dsimp only at hSw); first | (go_simp; done) | (go_simp; with_reducible rfl))
              simp only [Act.put, pz0, pz1, pz2, pz3, pz4, pz5]
              refine wpAnyH_take (i := 10) (v := ?v130) rfl (by kernel_rfl) (by kernel_rfl) (by kernel_rfl) (fun _ _ _ h => h) (Or.inl ⟨by rfl, ?hy130⟩) hHeld ?rest130
              case hy130 => (intro w' hSw; (try dsimp only at hSw); first | (go_simp; done) | (go_simp; with_reducible rfl))
              simp only [Act.put, pz0, pz1, pz2, pz3, pz4, pz5]
              refine wpAnyH_take (i := 11) (v := ?v131) rfl (by kernel_rfl) (by kernel_rfl) (by kernel_rfl) (fun _ _ _ h => h) (Or.inl ⟨by rfl, ?hy131⟩) hHeld ?rest131
              case hy131 => (intro w' hSw; (try dsimp only at hSw); first | (go_simp; done) | (go_simp; with_reducible rfl))
              simp only [Act.put, pz0, pz1, pz2, pz3, pz4, pz5]
              refine wpAnyH_take (i := 12) (v := ?v132) rfl (by kernel_rfl) (by kernel_rfl) (by kernel_rfl) (fun _ _ _ h => h) (Or.inl ⟨by rfl, ?hy132⟩) hHeld ?rest132
              case hy132 => (intro w' hSw; (try dsimp only at hSw); first | (go_simp; done) | (go_simp; with_reducible rfl))
              simp only [Act.put, pz0, pz1, pz2, pz3, pz4, pz5]
              refine wpAnyH_take (i := 13) (v := ?v133) rfl (by kernel_rfl) (by kernel_rfl) (by kernel_rfl) (fun _ _ _ h => h) (Or.inl ⟨by rfl, ?hy133⟩) hHeld ?rest133
              case hy133 => (intro w' hSw; (try dsimp only at hSw); first | (go_simp; done) | (go_simp; with_reducible rfl))
              simp only [Act.put, pz0, pz1, pz2, pz3, pz4, pz5]
              refine wpAnyH_take (i := 14) (v := ?v134) rfl (by kernel_rfl) (by kernel_rfl) (by kernel_rfl) (fun _ _ _ h => h) (Or.inl ⟨by rfl, ?hy134⟩) hHeld ?rest134
              case hy134 => (intro w' hSw; (try dsimp only at hSw); first | (go_simp; done) | (go_simp; with_reducible rfl))
              simp only [Act.put, pz0, pz1, pz2, pz3, pz4, pz5]
              refine wpAnyH_take (i := 15) (v := ?v135) rfl (by kernel_rfl) (by kernel_rfl) (by kernel_rfl) (fun _ _ _ h => h) (Or.inl ⟨by rfl, ?hy135⟩) hHeld ?rest135
              case hy135 => (intro w' hSw; (try dsimp only at hSw); first | (go_simp; done) | (go_simp; with_reducible rfl))
              simp only [Act.put, pz0, pz1, pz2, pz3, pz4, pz5]
              refine wpAnyH_take (i := 16) (v := ?v136) rfl (by kernel_rfl) (by kernel_rfl) (by kernel_rfl) (fun _ _ _ h => h) (Or.inl ⟨by rfl, ?hy136⟩) hHeld ?rest136
              case hy136 => (intro w' hSw; (try dsimp only at hSw); first | (go_simp; done) | (go_simp; with_reducible rfl))
              simp only [Act.put, pz0, pz1, pz2, pz3, pz4, pz5]
              refine wpAnyH_take (i := 17) (v := ?v137) rfl (by kernel_rfl) (by kernel_rfl) (by kernel_rfl) (fun _ _ _ h => h) (Or.inl ⟨by rfl, ?hy137⟩) hHeld ?rest137
              case hy137 => (intro w' hSw; (try dsimp only at hSw); first | (go_simp; done) | (go_simp; with_reducible rfl))
              simp only [Act.put, pz0, pz1, pz2, pz3, pz4, pz5]
              refine wpAnyH_take (i := 18) (v := ?v138) rfl (by kernel_rfl) (by kernel_rfl) (by kernel_rfl) (fun _ _ _ h => h) (Or.inl ⟨by rfl, ?hy138⟩) hHeld ?rest138
              case hy138 => (intro w' hSw; (try dsimp only at hSw); first | (go_simp; done) | (go_simp; with_reducible rfl))
              simp only [Act.put, pz0, pz1, pz2, pz3, pz4, pz5]
              refine wpAnyH_take (i := 19) (v := ?v139) rfl (by kernel_rfl) (by kernel_rfl) (by kernel_rfl) (fun _ _ _ h => h) (Or.inl ⟨by rfl, ?hy139⟩) hHeld ?rest139
              case hy139 => (intro w' hSw; (try dsimp only at hSw); first | (go_simp; done) | (go_simp; with_reducible rfl))
              simp only [Act.put, pz0, pz1, pz2, pz3, pz4, pz5]
              refine wpAnyH_take (i := 20) (v := ?v140) rfl (by kernel_rfl) (by kernel_rfl) (by kernel_rfl) (fun _ _ _ h => h) (Or.inl ⟨by rfl, ?hy140⟩) hHeld ?rest140
              case hy140 => (intro w' hSw; (try dsimp only at hSw); first | (go_simp; done) | (go_simp; with_reducible rfl))
              simp only [Act.put, pz0, pz1, pz2, pz3, pz4, pz5]
              refine wpAnyH_take (i := 21) (v := ?v141) rfl (by kernel_rfl) (by kernel_rfl) (by kernel_rfl) (fun _ _ _ h => h) (Or.inl ⟨by rfl, ?hy141⟩) hHeld ?rest141
              case hy141 => (intro w' hSw; (try dsimp only at hSw); first | (go_simp; done) | (go_simp; with_reducible rfl))
              simp only [Act.put, pz0, pz1, pz2, pz3, pz4, pz5]
              refine wpAnyH_take (i := 22) (v := ?v142) rfl (by kernel_rfl) (by kernel_rfl) (by kernel_rfl) (fun _ _ _ h => h) (Or.inl ⟨by rfl, ?hy142⟩) hHeld ?rest142
              case hy142 => (intro w' hSw; (try dsimp only at hSw); first | (go_simp; done) | (go_simp; with_reducible rfl))
              simp only [Act.put, pz0, pz1, pz2, pz3, pz4, pz5]
              refine wpAnyH_take (i := 23) (v := ?v143) rfl (by kernel_rfl) (by kernel_rfl) (by kernel_rfl) (fun _ _ _ h => h) (Or.inl ⟨by rfl, ?hy143⟩) hHeld ?rest143
              case hy143 => (intro w' hSw; (try dsimp only at hSw); first | (go_simp; done) | (go_simp; with_reducible rfl))
              simp only [Act.put, pz0, pz1, pz2, pz3, pz4, pz5]
              refine wpAnyH_take (i := 24) (v := ?v144) rfl (by kernel_rfl) (by kernel_rfl) (by kernel_rfl) (fun _ _ _ h => h) (Or.inl ⟨by rfl, ?hy144⟩) hHeld ?rest144
              case hy144 => (intro w' hSw; (try dsimp only at hSw); first | (go_simp; done) | (go_simp; with_reducible rfl))
              simp only [Act.put, pz0, pz1, pz2, pz3, pz4, pz5]
              refine wpAnyH_take (i := 25) (v := ?v145) rfl (by kernel_rfl) (by kernel_rfl) (by kernel_rfl) (fun _ _ _ h => h) (Or.inl ⟨by rfl, ?hy145⟩) hHeld ?rest145
              case hy145 => (intro w' hSw; (try dsimp only at hSw); first | (go_simp; done) | (go_simp; with_reducible rfl))
              simp only [Act.put, pz0, pz1, pz2, pz3, pz4, pz5]
              refine wpAnyH_take (i := 26) (v := ?v146) rfl (by kernel_rfl) (by kernel_rfl) (by kernel_rfl) (fun _ _ _ h => h) (Or.inl ⟨by rfl, ?hy146⟩) hHeld ?rest146
              case hy146 => (intro w' hSw; (try dsimp only at hSw); first | (go_simp; done) | (go_simp; with_reducible rfl))
              simp only [Act.put, pz0, pz1, pz2, pz3, pz4, pz5]
              refine wpAnyH_take (i := 27) (v := ?v147) rfl (by kernel_rfl) (by kernel_rfl) (by kernel_rfl) (fun _ _ _ h => h) (Or.inl ⟨by rfl, ?hy147⟩) hHeld ?rest147
              case hy147 => (intro w' hSw; (try dsimp only at hSw); first | (go_simp; done) | (go_simp; with_reducible rfl))
              simp only [Act.put, pz0, pz1, pz2, pz3, pz4, pz5]
              refine wpAnyH_take (i := 28) (v := ?v148) rfl (by kernel_rfl) (by kernel_rfl) (by kernel_rfl) (fun _ _ _ h => h) (Or.inl ⟨by rfl, ?hy148⟩) hHeld ?rest148
              case hy148 => (intro w' hSw; (try dsimp only at hSw); first | (go_simp; done) | (go_simp; with_reducible rfl))
              simp only [Act.put, pz0, pz1, pz2, pz3, pz4, pz5]
              refine wpAnyH_take (i := 29) (v := ?v149) rfl (by kernel_rfl) (by kernel_rfl) (by kernel_rfl) (fun _ _ _ h => h) (Or.inl ⟨by rfl, ?hy149⟩) hHeld ?rest149
              case hy149 => (intro w' hSw; (try dsimp only at hSw); first | (go_simp; done) | (go_simp; with_reducible rfl))
              simp only [Act.put, pz0, pz1, pz2, pz3, pz4, pz5]
              refine wpAnyH_take (i := 30) (v := ?v150) rfl (by kernel_rfl) (by kernel_rfl) (by kernel_rfl) (fun _ _ _ h => h) (Or.inl ⟨by rfl, ?hy150⟩) hHeld ?rest150
              case hy150 => (intro w' hSw; (try dsimp only at hSw); first | (go_simp; done) | (go_simp; with_reducible rfl))
              simp only [Act.put, pz0, pz1, pz2, pz3, pz4, pz5]
              refine wpAnyH_take (i := 31) (v := ?v151) rfl (by kernel_rfl) (by kernel_rfl) (by kernel_rfl) (fun _ _ _ h => h) (Or.inl ⟨by rfl, ?hy151⟩) hHeld ?rest151
              case hy151 => (intro w' hSw; (try dsimp only at hSw); first | (go_simp; done) | (go_simp; with_reducible rfl))
              simp only [Act.put, pz0, pz1, pz2, pz3, pz4, pz5]
              refine wpAnyH_take (i := 32) (v := ?v152) rfl (by kernel_rfl) (by kernel_rfl) (by kernel_rfl) (fun _ _ _ h => h) (Or.inl ⟨by rfl, ?hy152⟩) hHeld ?rest152
              case hy152 => (intro w' hSw; (try dsimp only at hSw); first | (go_simp; done) | (go_simp; with_reducible rfl))
              simp only [Act.put, pz0, pz1, pz2, pz3, pz4, pz5]
              refine wpAnyH_take (i := 33) (v := ?v153) rfl (by kernel_rfl) (by kernel_rfl) (by kernel_rfl) (fun _ _ _ h => h) (Or.inl ⟨by rfl, ?hy153⟩) hHeld ?rest153
              case hy153 => (intro w' hSw; (try dsimp only at hSw); first | (go_simp; done) | (go_simp; with_reducible rfl))
              simp only [Act.put, pz0, pz1, pz2, pz3, pz4, pz5]
              refine wpAnyH_take (i := 34) (v := ?v154) rfl (by kernel_rfl) (by kernel_rfl) (by kernel_rfl) (fun _ _ _ h => h) (Or.inl ⟨by rfl, ?hy154⟩) hHeld ?rest154
              case hy154 => (intro w' hSw; (try dsimp only at hSw); first | (go_simp; done) | (go_simp; with_reducible rfl))
              simp only [Act.put, pz0, pz1, pz2, pz3, pz4, pz5]
              refine wpAnyH_ready (rs := [35]) (by kernel_rfl) (by simp) ?_
              refine AllReadyH.cons rfl (fun K hK => ?_) AllReadyH.nil
              go_simp
              refine (specKinds A1 A9 s[i].cols.length c1 v.vals.length c9 _ _ _ _ _ s[i].cols v.vals ok _ (s1.drew ClR.stays) hvv HCN.out HN9.out).mono ?_
              rintro e wd ⟨rfl, hqd⟩
              rw [HK.out]
              go_wp2_with fail
              refine hK.out _ _ ⟨below_keep hqd _ _ hHeld.1, below_keep hqd _ _ hHeld.2.1, below_keep hqd _ _ hHeld.2.2.1, below_keep hqd _ _ hHeld.2.2.2.1, below_keep hqd _ _ hHeld.2.2.2.2.1, below_keep hqd _ _ hHeld.2.2.2.2.2.1, below_keep hqd _ _ hHeld.2.2.2.2.2.2.1, below_keep hqd _ _ hHeld.2.2.2.2.2.2.2.1, below_keep hqd _ _ hHeld.2.2.2.2.2.2.2.2⟩ (fun hHeld => ?_)
              clear hK K
              (try simp only [Act.put, pz0, pz1, pz2, pz3, pz4, pz5])
              refine wpAnyH_take (i := 36) (v := ?v155) rfl (by kernel_rfl) (by kernel_rfl) (by kernel_rfl) (fun _ _ _ h => h) (Or.inl ⟨by rfl, ?hy155⟩) hHeld ?rest155
              case hy155 => (intro w' hSw; (try dsimp only at hSw); first | (go_simp; done) | (go_simp; with_reducible rfl))
              simp only [Act.put, pz0, pz1, pz2, pz3, pz4, pz5]
              refine wpAnyH_take (i := 37) (v := ?v156) rfl (by kernel_rfl) (by kernel_rfl) (by kernel_rfl) (fun _ _ _ h => h) (Or.inl ⟨by rfl, ?hy156⟩) hHeld ?rest156
              case hy156 => (intro w' hSw; (try dsimp only at hSw); first | (go_simp; done) | (go_simp; with_reducible rfl))
              simp only [Act.put, pz0, pz1, pz2, pz3, pz4, pz5]
              refine wpAnyH_done (by kernel_rfl) ?_ _
              refine NoPanic.normal ?_
              have hz := hb.drew.trans (hqd.mono hb.drew.size)
              have hrz := (hrs.drew RwR.stays).below RwR.stays hqd
              clear hHeld
              go_wp2_with fail
              go_roundw
              case rel => exact ⟨k + 1, v.id, by omega, by go_num, Lib.hid HG.out, Lib.hid HL2.out, hrz, hz⟩
              case measure => simp [intOf]; omega
set_option maxRecDepth 100000 in
set_option maxHeartbeats 1000000 in
theorem specDbOk (AS AD : Option Addr) (nS cS nD cD : Nat) (s : List Tb) (db : List Dt) (ok ok' : Nat → Prop) (w : World) (hs : Sl TbR 6 ok w AS nS s) (hd : Sl DtR 1 ok' w AD nD db) (hcp : nS ≤ cS) (hsz : szL Tb.sz s ≤ 1048576) (hdz : szL Dt.sz db ≤ 1048576) :
    Calls Tryz.prog 13 #[.slice AS nS cS, .slice AD nD cD] w fun e w' => e = .returned (.bool (dbB s db)) ∧ Below w.heap.size w w' := by
  have hs1 := hs.stays TbR.stays (ok' := fun _ => True) (fun _ _ => trivial) (fun _ _ _ h => h)
  have hd1 := hd.stays DtR.stays (ok' := fun _ => True) (fun _ _ => trivial) (fun _ _ _ h => h)
  have HVS := Lib.hid (rows_le hdz)
  have HSZ := Lib.hid hsz
  have HDZ := Lib.hid hdz
  have HCP := Lib.hid hcp
  clear hsz hdz hcp hs hd
  cases hB : schemaB s
  · have HB := Lib.hid hB
    have HF := Lib.hid (show dbB s db = false by unfold dbB; rw [hB]; rfl)
    clear hB
    go_enter Tryz.func13, Tryz.ntmps13
    go_wp2_with fail
    refine (specSchemaOk AS nS cS s _ _ hs1 HCP.out HSZ.out).mono ?_
    rintro e w1 ⟨rfl, hb1⟩
    rw [HB.out]
    go_wp2_with fail
    go_ret
    exact ⟨retB HF.out.symm, hb1⟩
  · have HB := Lib.hid hB
    clear hB
    go_enter Tryz.func13, Tryz.ntmps13
    go_wp2_with fail
    refine (specSchemaOk AS nS cS s _ _ hs1 HCP.out HSZ.out).mono ?_
    rintro e w1 ⟨rfl, hb1⟩
    rw [HB.out]
    go_wp2_with fail
    refine (specL4Db AS AD nS cS nD cD s db _ _ (hs1.below TbR.stays hb1) (hd1.below DtR.stays hb1) HSZ.out HDZ.out HVS.out HB.out).mono ?_
    rintro e w2 ⟨rfl, hb2⟩
    go_wp2_with fail
    go_ret
    exact ⟨rfl, hb1.trans (hb2.mono hb1.size)⟩
theorem infoPtrRow : (Tryz.prog.info? 65).map (fun i => (i.zero, i.size, i.bytes)) = some (some (.pointer none), 1, 8) := by kernel_rfl
def ptrC (A : Option Addr) (i : Nat) : List Value := [.pointer (A.map fun a => ⟨a.block, a.off + i * 2, none⟩)]
def MadeG {α : Type} (R : Rd α) (sz : Nat) (xs : List α) (w : World) (e : Ending) (w' : World) : Prop := ∃ A c, e = .returned (.slice A xs.length c) ∧ xs.length ≤ c ∧ Sl R sz (okF w.heap.size w') w' A xs.length xs ∧ Below w.heap.size w w'
def OwnP (A : Option Addr) (w : World) (base : Nat) (v : Value) (xs : List Nat) : Prop := OwnG 65 1 (ptrC A) w base v xs
set_option maxRecDepth 100000 in
set_option maxHeartbeats 2000000 in
theorem implRowsWith (bd od : Nat) (AL AC AK : Option Addr) (nL cL nC cC nK cK : Nat) (rows : List Rw) (cols : List Int) (key : List Vl) (ok ok' ok'' : Nat → Prop) (w : World)
    (p0 : w.cell? ⟨bd, od, none⟩ = some (.slice AL nL cL)) (hr : Sl RwR 2 ok w AL nL rows) (hc : Sl IntR 1 ok' w AC nC cols) (hk : Sl VlR 3 ok'' w AK nK key) (hrn : nL ≤ 1048576) (hcn : nC ≤ 1048576) (hkn : nK ≤ 1048576) (hvn : ∀ r ∈ rows, r.vals.length ≤ 1048576) (hall : ∀ r ∈ rows, cols.all (inV r.vals) = true) :
    Calls Tryz.prog 25 #[.pointer (some ⟨bd, od, none⟩), .slice AC nC cC, .slice AK nK cK] w (MadeG (FlatR (ptrC AL)) 1 (idxK cols key rows rows.length) w) := by
  obtain rfl : rows.length = nL := hr.1
  have HALL := Lib.hid hall
  have HVN := Lib.hid hvn
  have P0 := Lib.hid p0
  obtain ⟨i0, hi, hz0, hz1, hz2⟩ := info_parts infoPtrRow
  have H1 := Lib.hid hi
  have H2 := Lib.hid hz0
  have H3 := Lib.hid hz1
  have H4 := Lib.hid hz2
  clear hall hvn hi hz0 hz1 hz2
  go_enter Tryz.func25, Tryz.ntmps25
  go_wp2_with fail
  clear p0
  go_loopw [7, 15] (fun v i wr => ∃ k : Nat, k ≤ rows.length ∧ i = .int .i64 k ∧ Hid (OwnP AL wr w.heap.size v (idxK cols key rows k)) ∧ Below w.heap.size w wr) (fun _ i _ => rows.length - (intOf i).toNat)
  case atStart => exact ⟨0, by omega, rfl, Lib.hid (OwnG.nil _ _), Below.refl _ _⟩
  case round =>
    obtain ⟨k, hk', rfl, hown, hb⟩ := hrel
    by_cases hlt : k < rows.length
    · obtain ⟨bl, ol, A1, n1, c1, -, ea, q0, q1, hv, -⟩ := RwR.at_ (hr.below RwR.stays hb) hlt
      obtain rfl : rows[k].vals.length = n1 := hv.1
      have p0 := below_keep hb _ _ P0.out
      have i0' : (0 : Int) ≤ k := by omega
      have i1 : (k : Int) < rows.length := by omega
      have HEA := Lib.hid ea
      have HLEN := Lib.hid (idxK_len cols key rows k)
      have HC := Lib.hid (implHasKey bl (ol + k * 2) AC AK A1 nC cC nK cK _ c1 (.int .i64 rows[k].id) cols key rows[k].vals _ _ _ wr q1 (hc.below IntR.stays hb) (hk.below VlR.stays hb) hv hcn hkn (HVN.out _ (List.getElem_mem hlt)) (HALL.out _ (List.getElem_mem hlt)))
      rw [ea] at p0
      clear ea hv q0 q1
      cases hr' : hitB cols key rows[k].vals
      · have HRF := Lib.hid hr'
        have HRK := Lib.hid (idxK_no hlt hr')
        clear hr'
        go_wp2_with fail
        refine HC.out.mono ?_
        rintro e w2 ⟨rfl, hb2⟩
        rw [HRF.out]
        have hown' := Lib.hid (OwnG.below hown.out hb2)
        clear hown p0
        go_wp2_with fail
        go_roundw
        case rel => exact ⟨k + 1, by omega, by go_num, Lib.hid (by rw [HRK.out]; exact hown'.out), hb.trans (hb2.mono hb.size)⟩
        case measure => simp [intOf]; omega
      · have HRF := Lib.hid hr'
        have HRK := Lib.hid (idxK_yes hlt hr')
        clear hr'
        go_wp2_with fail
        refine HC.out.mono ?_
        rintro e w2 ⟨rfl, hb2⟩
        rw [HRF.out]
        have hbz := hb.trans (hb2.mono hb.size)
        have hoz := Lib.hid (OwnG.below hown.out hb2)
        clear hown p0 hb hb2 HC
        generalize hgv : idxK cols key rows k = xs at *
        have HGV := Lib.hid hgv
        clear hgv
        go_wp2_with (at_builtin; refine wpList_append_own _ rfl _ _ 62 rfl w.heap.size 65 i0 (.pointer none) 1 8 Tryz.underlying62 H1.out H2.out H3.out H4.out rfl (by decide) _ _ _ rfl (World.ownsRow.alloc hoz.out _) ⟨_, 0, none⟩ 1 1 [.pointer (some ⟨bl, ol + k * 2, none⟩)] rfl rfl ?c1 ?c2 ?c3 ?c4 ?c5 ?_)
        case c1 => exact cell_one_new _ _ _
        case c2 => intro u hu; simp at hu; subst hu; rfl
        case c3 => have := HLEN.out; unfold maxLen; omega
        case c4 => have := HLEN.out; omega
        case c5 => have := hbz.size; simp; omega
        intro v' w3 hown3 hgrow _
        have R := Lib.hid (OwnG.app (f := ptrC AL) (x := k) hoz.out hbz.size (by rw [show ptrC AL k = [.pointer (some ⟨bl, ol + k * 2, none⟩)] by rw [HEA.out]; rfl]; exact hown3) hgrow)
        clear hown3 hgrow hoz
        go_wp2_with fail
        go_roundw
        case rel => exact ⟨k + 1, by omega, by go_num, Lib.hid (by rw [HRK.out]; exact R.out.1), hbz.trans R.out.2⟩
        case measure => simp [intOf]; omega
    · obtain rfl : k = rows.length := by omega
      obtain ⟨AO, cO, rfl, hcO, hcm, hsl⟩ := OwnG.sl (f := ptrC AL) (sz := 1) (fun _ => rfl) hown.out
      have HSL := Lib.hid hsl
      clear hown hsl
      go_wp2_with fail
      go_ret
      exact ⟨AO, cO, rfl, hcO, HSL.out, hb⟩
def findB (s : List Tb) (db : List Dt) (t : Int) (cols : List Int) (key : List Vl) : List Int :=
  match s[t.toNat]?, db[t.toNat]? with
  | some x, some d => if dbB s db && (decide (0 ≤ t) && colsInB cols x.cols.length) then findL cols key d.rows else []
  | _, _ => []
theorem findB_len (s : List Tb) (db : List Dt) (t : Int) (cols : List Int) (key : List Vl) (h : szL Dt.sz db ≤ 1048576) : (findB s db t cols key).length ≤ 1048576 := by
  unfold findB
  split
  · next x d hx hd =>
    split
    · have h1 := findL_len cols key d.rows
      obtain ⟨hi, rfl⟩ := List.getElem?_eq_some_iff.1 hd
      have h2 := sum_mem_le Dt.sz db _ hi
      unfold szL at h
      have h3 : (db[t.toNat]).rows.length ≤ (db[t.toNat]).sz := by unfold Dt.sz szL; omega
      omega
    · simp
  · simp
theorem findB_bad {s : List Tb} {db : List Dt} {t : Int} {cols : List Int} {key : List Vl} (h : dbB s db = false) : findB s db t cols key = [] := by
  unfold findB
  split
  · rw [h]; rfl
  · rfl
theorem findB_out {s : List Tb} {db : List Dt} {t : Int} {cols : List Int} {key : List Vl} (h : (decide (0 ≤ t) && decide (t < (s.length : Int))) = false) : findB s db t cols key = [] := by
  unfold findB
  split
  · next x d hx hd =>
    have h1 := (List.getElem?_eq_some_iff.1 hx).1
    by_cases h0 : 0 ≤ t
    · rw [decide_eq_true h0, decide_eq_true (by omega)] at h; cases h
    · rw [decide_eq_false h0]; simp
  · rfl
theorem findB_cols {s : List Tb} {db : List Dt} {m : Nat} {cols : List Int} {key : List Vl} (h1 : m < s.length) (h : colsInB cols s[m].cols.length = false) : findB s db (m : Int) cols key = [] := by
  unfold findB
  rw [Int.toNat_natCast, List.getElem?_eq_getElem h1]
  split
  · next x d hx hd =>
    cases hx
    rw [h]; simp
  · rfl
theorem findB_yes {s : List Tb} {db : List Dt} {m : Nat} {cols : List Int} {key : List Vl} (h1 : m < s.length) (h2 : m < db.length) (hB : dbB s db = true) (h : colsInB cols s[m].cols.length = true) : findB s db (m : Int) cols key = findL cols key db[m].rows := by
  unfold findB
  rw [Int.toNat_natCast, List.getElem?_eq_getElem h1, List.getElem?_eq_getElem h2]
  simp only [hB, h]
  simp
theorem ptr_at {A P : Option Addr} {bl ol n : Nat} {xs : List Nat} {ok : Nat → Prop} {w : World} (h : Sl (FlatR (ptrC A)) 1 ok w P n xs) (hA : A = some ⟨bl, ol, none⟩) {j : Nat} (hj : j < xs.length) :
    ∃ b off, P = some ⟨b, off, none⟩ ∧ w.cell? ⟨b, off + j, none⟩ = some (.pointer (some ⟨bl, ol + xs[j] * 2, none⟩)) := by
  have hl := h.1
  obtain ⟨b, off, rfl, hb, hc⟩ := h.2 (by omega)
  obtain ⟨cs, -, hR, g⟩ := hc j hj
  have e : cs = _ := hR
  subst e hA
  exact ⟨b, off, rfl, by have := g 0 _ rfl; rwa [Nat.mul_one] at this⟩
set_option maxRecDepth 100000 in
set_option maxHeartbeats 4000000 in
theorem implFindRows (AS AD AC AK : Option Addr) (nS cS nD cD nC cC nK cK : Nat) (s : List Tb) (db : List Dt) (t : Int) (cols : List Int) (key : List Vl) (ok ok' okc okk : Nat → Prop) (w : World)
    (hs : Sl TbR 6 ok w AS nS s) (hd : Sl DtR 1 ok' w AD nD db) (hc : Sl IntR 1 okc w AC nC cols) (hk : Sl VlR 3 okk w AK nK key) (hsz : szL Tb.sz s ≤ 1048576) (hdz : szL Dt.sz db ≤ 1048576) (hcn : nC ≤ 1048576) (hkn : nK ≤ 1048576) :
    Calls Tryz.prog 6 #[.slice AS nS cS, .slice AD nD cD, .int .i64 t, .slice AC nC cC, .slice AK nK cK] w (MadeI (findB s db t cols key) w) := by
  obtain rfl : s.length = nS := hs.1
  obtain rfl : db.length = nD := hd.1
  have hn1 : s.length ≤ 1048576 := by unfold szL at hsz; omega
  have hn2 : db.length ≤ 1048576 := by unfold szL at hdz; omega
  have HSZ := Lib.hid hsz
  have HDZ := Lib.hid hdz
  have HVS := Lib.hid (rows_le hdz)
  have HDB := Lib.hid (implDbOk' AS AD s.length cS db.length cD s db ok ok' w hs hd hsz hdz)
  clear hsz hdz
  cases hB : dbB s db
  · have HB := Lib.hid hB
    have HR := Lib.hid (findB_bad (t := t) (cols := cols) (key := key) hB)
    clear hB
    go_enter Tryz.func6, Tryz.ntmps6
    go_wp2_with fail
    refine HDB.out.mono ?_
    rintro e w1 ⟨rfl, hb1⟩
    rw [HB.out]
    go_wp2_with fail
    go_ret
    exact ⟨none, 0, by rw [HR.out]; rfl, by rw [HR.out]; exact Nat.le_refl _, by rw [HR.out]; exact ⟨rfl, fun h => by simp at h⟩, hb1⟩
  have HB := Lib.hid hB
  have hlen := dbB_len hB
  have HLEN := Lib.hid hlen
  clear hB hlen
  cases hin : (decide (0 ≤ t) && decide (t < (s.length : Int)))
  · have HI := Lib.hid hin
    have HR := Lib.hid (findB_out (db := db) (cols := cols) (key := key) hin)
    clear hin
    go_enter Tryz.func6, Tryz.ntmps6
    go_wp2_with fail
    refine HDB.out.mono ?_
    rintro e w1 ⟨rfl, hb1⟩
    rw [HB.out]
    go_wp2_with fail
    refine (implPlaceK HI.out _).mono ?_
    rintro e w2 ⟨rfl, rfl⟩
    go_wp2_with fail
    go_ret
    exact ⟨none, 0, by rw [HR.out]; rfl, by rw [HR.out]; exact Nat.le_refl _, by rw [HR.out]; exact ⟨rfl, fun h => by simp at h⟩, hb1⟩
  have HI := Lib.hid hin
  obtain ⟨m, rfl, hm⟩ : ∃ m : Nat, t = m ∧ m < s.length := by
    simp only [Bool.and_eq_true, decide_eq_true_eq] at hin
    exact ⟨t.toNat, by omega, by omega⟩
  have hmd : m < db.length := by have := HLEN.out; omega
  have m0 : (0 : Int) ≤ m := by omega
  have m1 : (m : Int) < s.length := by omega
  have m2 : (m : Int) < db.length := by omega
  clear hin
  cases hcol : colsInB cols s[m].cols.length
  · have HC := Lib.hid hcol
    have HR := Lib.hid (findB_cols (db := db) (key := key) hm hcol)
    clear hcol
    go_enter Tryz.func6, Tryz.ntmps6
    go_wp2_with fail
    refine HDB.out.mono ?_
    rintro e w1 ⟨rfl, hb1⟩
    rw [HB.out]
    go_wp2_with fail
    refine (implPlaceK HI.out _).mono ?_
    rintro e w2 ⟨rfl, rfl⟩
    obtain ⟨b, off, A1, n1, c1, A2, n2, c2, A3, n3, c3, A4, n4, c4, A5, n5, c5, -, rfl, q0, q1, q2, q3, q4, q5, s1, -⟩ := TbR.at_ (hs.below TbR.stays hb1) hm
    obtain rfl : s[m].cols.length = n1 := s1.1
    have hcl : s[m].cols.length ≤ 1048576 := by have h1 := HSZ.out; have := sum_mem_le Tb.sz s m hm; simp only [szL, Tb.sz] at *; omega
    go_wp2_with fail
    refine (implAreColumns AC nC cC cols s[m].cols.length _ _ (hc.below IntR.stays hb1) hcn hcl).mono ?_
    rintro e w3 ⟨rfl, hb3⟩
    rw [HC.out]
    go_wp2_with fail
    go_ret
    exact ⟨none, 0, by rw [HR.out]; rfl, by rw [HR.out]; exact Nat.le_refl _, by rw [HR.out]; exact ⟨rfl, fun h => by simp at h⟩, hb1.trans (hb3.mono hb1.size)⟩
  have HC := Lib.hid hcol
  have HR := Lib.hid (findB_yes (key := key) hm hmd HB.out hcol)
  have HROW := Lib.hid (fun r hr => all_inV hcol (dbB_row HB.out hm hmd r hr))
  have HVR := Lib.hid (HVS.out _ (List.getElem_mem hmd))
  have HFL := Lib.hid (findL_len cols key db[m].rows)
  have HRN := Lib.hid (show db[m].rows.length ≤ 1048576 by have h1 := HDZ.out; have := sum_mem_le Dt.sz db m hmd; simp only [szL, Dt.sz] at *; omega)
  obtain ⟨i0, hi, hz0, hz1, hz2⟩ := info_parts infoIntI
  have H1 := Lib.hid hi
  have H2 := Lib.hid hz0
  have H3 := Lib.hid hz1
  have H4 := Lib.hid hz2
  clear hcol hi hz0 hz1 hz2
  go_enter Tryz.func6, Tryz.ntmps6
  go_wp2_with fail
  refine HDB.out.mono ?_
  rintro e w1 ⟨rfl, hb1⟩
  rw [HB.out]
  go_wp2_with fail
  refine (implPlaceK HI.out _).mono ?_
  rintro e w2 ⟨rfl, rfl⟩
  obtain ⟨b, off, A1, n1, c1, A2, n2, c2, A3, n3, c3, A4, n4, c4, A5, n5, c5, -, rfl, q0, q1, q2, q3, q4, q5, s1, -⟩ := TbR.at_ (hs.below TbR.stays hb1) hm
  obtain rfl : s[m].cols.length = n1 := s1.1
  have hcl : s[m].cols.length ≤ 1048576 := by have h1 := HSZ.out; have := sum_mem_le Tb.sz s m hm; simp only [szL, Tb.sz] at *; omega
  go_wp2_with fail
  refine (implAreColumns AC nC cC cols s[m].cols.length _ _ (hc.below IntR.stays hb1) hcn hcl).mono ?_
  rintro e w3 ⟨rfl, hb3⟩
  rw [HC.out]
  have hbz := hb1.trans (hb3.mono hb1.size)
  clear q0 q1 q2 q3 q4 q5 hb1 hb3 hcl
  obtain ⟨bd, offd, AL, nL, cL, -, rfl, y0, hrs, -⟩ := DtR.at_ (hd.below DtR.stays hbz) hmd
  obtain rfl : db[m].rows.length = nL := hrs.1
  have HP := Lib.hid (implRowsWith bd (offd + m) AL AC AK db[m].rows.length cL nC cC nK cK db[m].rows cols key _ _ _ w3 y0 hrs (hc.below IntR.stays hbz) (hk.below VlR.stays hbz) HRN.out hcn hkn HVR.out HROW.out)
  clear y0
  go_wp2_with fail
  refine HP.out.mono ?_
  rintro e w4 ⟨AP, cP, rfl, hcP, hsp, hb4⟩
  have hrs := hrs.below RwR.stays hb4
  have hbz2 := hbz.trans (hb4.mono hbz.size)
  have HIL := Lib.hid (idxK_lt cols key db[m].rows db[m].rows.length)
  have HXL := Lib.hid (idxK_len cols key db[m].rows db[m].rows.length)
  have HRX := Lib.hid (show findB s db (m : Int) cols key = idL db[m].rows (idxK cols key db[m].rows db[m].rows.length) from HR.out)
  clear hb4 HP hbz
  generalize hxg : idxK cols key db[m].rows db[m].rows.length = xs at *
  generalize hrg : db[m].rows = rows at *
  have HXG := Lib.hid hxg
  have HRG := Lib.hid hrg
  clear hxg hrg
  go_wp2_with fail
  go_loopw [11, 43] (fun v i wr => ∃ j : Nat, j ≤ xs.length ∧ i = .int .i64 j ∧ Hid (OwnI wr w4.heap.size v (idL rows (xs.take j))) ∧ Below w4.heap.size w4 wr) (fun _ i _ => xs.length - (intOf i).toNat)
  case atStart => exact ⟨0, by omega, rfl, Lib.hid (OwnI.nil _ _), Below.refl _ _⟩
  case round =>
    obtain ⟨j, hj, rfl, hown, hb⟩ := hrel
    by_cases hlt : j < xs.length
    · have hix := (HIL.out _ (List.getElem_mem hlt)).2
      obtain ⟨bl, ol, B1, k1, d1, -, rfl, z0, -⟩ := RwR.at_ (hrs.below RwR.stays hb) hix
      obtain ⟨bp, op, rfl, z1⟩ := ptr_at (hsp.stays (FlatR.stays _) (fun _ h => h) (fun p v _ hp => below_keep hb p v hp)) rfl hlt
      have j0 : (0 : Int) ≤ j := by omega
      have j1 : (j : Int) < xs.length := by omega
      have HT := Lib.hid (show idL rows (xs.take (j + 1)) = idL rows (xs.take j) ++ [rows[xs[j]].id] by rw [List.take_succ_eq_append_getElem hlt, idL_app _ _ _ hix])
      have HLI := Lib.hid (show (idL rows (xs.take j)).length ≤ j by unfold idL; rw [List.length_map, List.length_take]; omega)
      have hxj : xs.length ≤ 1048576 := by have h1 := HXL.out; have h2 := HRN.out; omega
      have hoz := hown
      clear hown
      generalize hgv : idL rows (xs.take j) = ys at *
      have HGV := Lib.hid hgv
      clear hgv
      go_wp2_with (at_builtin; refine wpList_append_own _ rfl _ _ 26 rfl w4.heap.size 2 i0 (.int .i64 0) 1 8 Tryz.underlying26 H1.out H2.out H3.out H4.out rfl (by decide) _ _ _ rfl (World.ownsRow.alloc hoz.out _) ⟨_, 0, none⟩ 1 1 [.int .i64 rows[xs[j]].id] rfl rfl ?c1 ?c2 ?c3 ?c4 ?c5 ?_)
      case c1 => exact cell_one_new _ _ _
      case c2 => intro u hu; simp at hu; subst hu; rfl
      case c3 => have := HLI.out; unfold maxLen; omega
      case c4 => have := HLI.out; omega
      case c5 => have := hb.size; simp; omega
      intro v' w5 hown3 hgrow _
      have R := Lib.hid (OwnI.app hoz.out hb.size hown3 hgrow)
      clear hown3 hgrow hoz
      go_wp2_with fail
      go_roundw
      case rel => exact ⟨j + 1, by omega, by go_num, Lib.hid (by rw [HT.out]; exact R.out.1), hb.trans R.out.2⟩
      case measure => simp [intOf]; omega
    · obtain rfl : j = xs.length := by omega
      have ho := hown.out
      rw [List.take_of_length_le (Nat.le_refl _)] at ho
      obtain ⟨AO, cO, rfl, hcO, hcm, hsl⟩ := OwnI.sl ho
      have HSL := Lib.hid hsl
      clear hown ho hsl
      have hbw := hbz2.trans (hb.mono hbz2.size)
      go_wp2_with fail
      go_ret
      exact ⟨AO, cO, by rw [HRX.out]; rfl, by rw [HRX.out]; exact hcO, by rw [HRX.out]; exact HSL.out.stays IntR.stays (fun b hb => hb.mono hbz2.size) (fun _ _ _ h => h), hbw⟩
end Go.Proofs.YthjbhapmgkhckaaGreat
