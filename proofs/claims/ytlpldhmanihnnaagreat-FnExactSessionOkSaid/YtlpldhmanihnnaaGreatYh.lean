/-
  Several texts in one: what the proof leans on, part 8.
-/
import Derived.Test.YtlpldhmanihnnaaGreatYf
import Derived.Test.YtlpldhmanihnnaaGreatYg
import Derived.Test.YtlpldhmanihnnaaGreatXa
import Derived.Test.YtlpldhmanihnnaaGreatXb
import Derived.Test.YtlpldhmanihnnaaGreatXc
import Derived.Test.YtlpldhmanihnnaaGreatXe
set_option linter.unusedVariables false
set_option linter.unusedSimpArgs false
namespace Go.Proofs.YtlpldhmanihnnaaGreat
open Go.RowKit Go.Maps
section
variable (AS AD : Option Addr) (nS cS nD cD : Nat) (s : List Tb) (db : List Dt) (ok okd : Nat -> Prop) (w : World)
set_option maxRecDepth 100000 in
set_option maxHeartbeats 1000000 in
theorem specSound (hs : Sl TbR 6 ok w AS nS s) (hd : Sl DtR 1 okd w AD nD db) (hcp : nS <= cS) (hss : szL Tb.sz s <= 1048576) (hds : szL Dt.sz db <= 1048576) :
    Calls Tryz.prog 28 #[.slice AS nS cS, .slice AD nD cD] w fun e w' => e = .returned (.bool (soundB s db false)) /\ Below w.heap.size w w' := by
  have HC := Lib.hid (specDbOk AS AD nS cS nD cD s db ok okd w hs hd hcp hss hds)
  cases hB : dbB s db
  · have HB := Lib.hid hB
    have HF := Lib.hid (show soundB s db false = false by unfold soundB; rw [hB]; rfl)
    clear hB
    go_enter Tryz.func28, Tryz.ntmps28
    go_wp2_with fail
    refine HC.out.mono ?_
    rintro e w1 ⟨rfl, hb1⟩
    rw [HB.out]
    clear HC
    go_wp2_with fail
    go_ret
    exact ⟨retB HF.out.symm, hb1⟩
  · have HB := Lib.hid hB
    have HF := Lib.hid (show soundB s db false = decide ((dbFw s db false s.length).length = 0) by unfold soundB; rw [hB]; rfl)
    have HR := Lib.hid (rowIn_of hB)
    have HL := Lib.hid (dbB_len hB)
    have HA := Lib.hid (dbB_all hB)
    clear hB
    go_enter Tryz.func28, Tryz.ntmps28
    go_wp2_with fail
    refine HC.out.mono ?_
    rintro e w1 ⟨rfl, hb1⟩
    rw [HB.out]
    clear HC
    go_wp2_with fail
    refine (specL5Flaws AS AD nS cS nD cD s db false _ _ w1 (hs.below TbR.stays hb1) (hd.below DtR.stays hb1) HL.out hss HA.out HR.out).mono ?_
    rintro e w2 ⟨AO, cO, rfl, hcO, hsl, hb2⟩
    clear hsl
    have HQ := Lib.hid (show (((dbFw s db false s.length).length : Int) == 0) = soundB s db false by
      rw [HF.out]
      generalize (dbFw s db false s.length).length = q
      by_cases h : q = 0
      · subst h; rfl
      · rw [beq_eq_false_iff_ne.2 (show (q : Int) ≠ 0 by omega), decide_eq_false h])
    go_wp2_with fail
    go_ret
    exact ⟨retB HQ.out, hb1.trans (hb2.mono hb1.size)⟩
set_option maxRecDepth 100000 in
set_option maxHeartbeats 1000000 in
theorem specSoundNow (hs : Sl TbR 6 ok w AS nS s) (hd : Sl DtR 1 okd w AD nD db) (hcp : nS <= cS) (hss : szL Tb.sz s <= 1048576) (hds : szL Dt.sz db <= 1048576) :
    Calls Tryz.prog 30 #[.slice AS nS cS, .slice AD nD cD] w fun e w' => e = .returned (.bool (soundB s db true)) /\ Below w.heap.size w w' := by
  have HC := Lib.hid (specDbOk AS AD nS cS nD cD s db ok okd w hs hd hcp hss hds)
  cases hB : dbB s db
  · have HB := Lib.hid hB
    have HF := Lib.hid (show soundB s db true = false by unfold soundB; rw [hB]; rfl)
    clear hB
    go_enter Tryz.func30, Tryz.ntmps30
    go_wp2_with fail
    refine HC.out.mono ?_
    rintro e w1 ⟨rfl, hb1⟩
    rw [HB.out]
    clear HC
    go_wp2_with fail
    go_ret
    exact ⟨retB HF.out.symm, hb1⟩
  · have HB := Lib.hid hB
    have HF := Lib.hid (show soundB s db true = decide ((dbFw s db true s.length).length = 0) by unfold soundB; rw [hB]; rfl)
    have HR := Lib.hid (rowIn_of hB)
    have HL := Lib.hid (dbB_len hB)
    have HA := Lib.hid (dbB_all hB)
    clear hB
    go_enter Tryz.func30, Tryz.ntmps30
    go_wp2_with fail
    refine HC.out.mono ?_
    rintro e w1 ⟨rfl, hb1⟩
    rw [HB.out]
    clear HC
    go_wp2_with fail
    refine (specL5Flaws AS AD nS cS nD cD s db true _ _ w1 (hs.below TbR.stays hb1) (hd.below DtR.stays hb1) HL.out hss HA.out HR.out).mono ?_
    rintro e w2 ⟨AO, cO, rfl, hcO, hsl, hb2⟩
    clear hsl
    have HQ := Lib.hid (show (((dbFw s db true s.length).length : Int) == 0) = soundB s db true by
      rw [HF.out]
      generalize (dbFw s db true s.length).length = q
      by_cases h : q = 0
      · subst h; rfl
      · rw [beq_eq_false_iff_ne.2 (show (q : Int) ≠ 0 by omega), decide_eq_false h])
    go_wp2_with fail
    go_ret
    exact ⟨retB HQ.out, hb1.trans (hb2.mono hb1.size)⟩
end
end Go.Proofs.YtlpldhmanihnnaaGreat
namespace Go.Proofs.YtlpldhmanihnnaaGreat
open Go.RowKit Go.Maps
set_option maxRecDepth 100000 in
set_option maxHeartbeats 4000000 in
theorem specSessionOk (x : Ss) (A0 : Option Addr) (n0 c0 : Nat) (A1 : Option Addr) (n1 c1 : Nat) (A3 : Option Addr) (n3 c3 : Nat) (A4 : Option Addr) (n4 c4 : Nat) (ok0 ok1 ok3 ok4 : Nat -> Prop) (w : World)
    (h0 : Sl TbR 6 ok0 w A0 n0 x.schema) (h1 : Sl DtR 1 ok1 w A1 n1 x.db) (h3 : Sl DtR 1 ok3 w A3 n3 x.start) (h4 : Sl SvR 2 ok4 w A4 n4 x.saves) (hcp : n0 <= c0) (hs : x.sz <= 1048576) :
    Calls Tryz.prog 33 #[.agg #[.slice A0 n0 c0, .slice A1 n1 c1, .bool x.isOpen, .slice A3 n3 c3, .slice A4 n4 c4]] w fun e w' => e = .returned (.bool (sessionB x)) /\ Below w.heap.size w w' := by
  obtain rfl : x.start.length = n3 := h3.1
  obtain rfl : x.saves.length = n4 := h4.1
  have S0 := Lib.hid (show szL Tb.sz x.schema <= 1048576 by unfold Ss.sz at hs; omega)
  have S1 := Lib.hid (show szL Dt.sz x.db <= 1048576 by unfold Ss.sz at hs; omega)
  have S3 := Lib.hid (show szL Dt.sz x.start <= 1048576 by unfold Ss.sz at hs; omega)
  have S4 := Lib.hid (show szL Sv.sz x.saves <= 1048576 by unfold Ss.sz at hs; omega)
  have hn3 : x.start.length <= 1048576 := by have := S3.out; unfold szL at this; omega
  have hn4 : x.saves.length <= 1048576 := by have := S4.out; unfold szL at this; omega
  clear hs
  have hb0 := (Below.refl w.heap.size w).alloc (Nat.le_refl _) (.cells #[.slice A0 n0 c0, .slice A1 n1 c1, .bool x.isOpen, .slice A3 x.start.length c3, .slice A4 x.saves.length c4] 48)
  have r0 := Row.new w 48 #[.slice A0 n0 c0, .slice A1 n1 c1, .bool x.isOpen, .slice A3 x.start.length c3, .slice A4 x.saves.length c4]
  obtain ⟨⟨d0, d1, d2, d3, d4⟩, -⟩ := r0.five
  have HC := Lib.hid (specSoundNow A0 A1 n0 c0 n1 c1 x.schema x.db _ _ _ (h0.below TbR.stays hb0) (h1.below DtR.stays hb0) hcp S0.out S1.out)
  have HL4 := Lib.hid h4
  have HL0 := Lib.hid h0
  have HL1 := Lib.hid h1
  have HL3 := Lib.hid h3
  clear h0 h1 h3 h4
  have hbig : ∀ (k : Nat) (hk : k < x.saves.length), szL Dt.sz x.saves[k].db <= 1048576 /\ x.saves[k].name.size <= maxLen := fun k hk => by
    have e : x.saves[k].name.size + szL Dt.sz x.saves[k].db <= szL Sv.sz x.saves := szL_mem Sv.sz x.saves x.saves[k] (List.getElem_mem hk)
    have e2 := S4.out
    unfold maxLen
    omega
  have HBIG := Lib.hid hbig
  clear hbig
  cases hB : soundB x.schema x.db true
  · have HB := Lib.hid hB
    have HF := Lib.hid (show sessionB x = false by unfold sessionB; rw [hB]; rfl)
    clear hB
    go_enter Tryz.func33, Tryz.ntmps33
    go_wp2_with fail
    refine HC.out.mono ?_
    rintro e w1 ⟨rfl, hq1⟩
    rw [HB.out]
    go_wp2_with fail
    go_ret
    exact ⟨retB HF.out.symm, hb0.trans (hq1.mono hb0.size)⟩
  have HB := Lib.hid hB
  by_cases h8 : x.saves.length <= 8
  case neg =>
    have HF := Lib.hid (show sessionB x = false by unfold sessionB; rw [hB, decide_eq_false h8]; rfl)
    have g8 : (8 : Int) < x.saves.length := by omega
    clear hB
    go_enter Tryz.func33, Tryz.ntmps33
    go_wp2_with fail
    refine HC.out.mono ?_
    rintro e w1 ⟨rfl, hq1⟩
    rw [HB.out]
    have r1 := r0.below hq1
    obtain ⟨⟨e0, e1, e2, e3, e4⟩, -⟩ := r1.five
    go_wp2_with fail
    go_ret
    exact ⟨retB HF.out.symm, hb0.trans (hq1.mono hb0.size)⟩
  have g8 : ¬ (8 : Int) < x.saves.length := by omega
  cases hO : x.isOpen
  · -- it is not open
    have HE := Lib.hid (show sessionB x = (soundB x.schema x.db false && (decide (x.start.length = 0) && decide (x.saves.length = 0))) by unfold sessionB; rw [hB, decide_eq_true h8, hO]; rfl)
    rw [hO] at HC hb0 r0 d0 d1 d2 d3 d4
    clear hB hO
    go_enter Tryz.func33, Tryz.ntmps33
    go_wp2_with fail
    refine HC.out.mono ?_
    rintro e w1 ⟨rfl, hq1⟩
    rw [HB.out]
    have hb1 := hb0.trans (hq1.mono hb0.size)
    have r1 := r0.below hq1
    clear d0 d1 d2 d3 d4 HC
    obtain ⟨⟨d0, d1, d2, d3, d4⟩, -⟩ := r1.five
    go_wp2_with fail
    refine (specSound A0 A1 n0 c0 n1 c1 x.schema x.db _ _ w1 (HL0.out.below TbR.stays hb1) (HL1.out.below DtR.stays hb1) hcp S0.out S1.out).mono ?_
    rintro e w2 ⟨rfl, hq2⟩
    have hb2 := hb1.trans (hq2.mono hb1.size)
    have r2 := r1.below hq2
    clear d0 d1 d2 d3 d4
    obtain ⟨⟨d0, d1, d2, d3, d4⟩, -⟩ := r2.five
    cases hS : soundB x.schema x.db false
    · have HF := Lib.hid (show sessionB x = false by rw [HE.out, hS]; rfl)
      clear hS
      go_wp2_with fail
      go_ret
      exact ⟨retB HF.out.symm, hb2⟩
    by_cases hz : x.start.length + x.saves.length = 0
    · have HF := Lib.hid (show sessionB x = true by rw [HE.out, hS, decide_eq_true (show x.start.length = 0 by omega), decide_eq_true (show x.saves.length = 0 by omega)]; rfl)
      have z1 : ((x.start.length : Int) + x.saves.length == 0) = true := by rw [beq_iff_eq]; omega
      clear hS
      go_wp2_with fail
      go_ret
      exact ⟨retB HF.out.symm, hb2⟩
    · have HF := Lib.hid (show sessionB x = false by
        rw [HE.out, hS]
        by_cases h : x.start.length = 0
        · rw [decide_eq_false (show ¬ x.saves.length = 0 by omega)]; simp
        · rw [decide_eq_false h]; simp)
      have z1 : ((x.start.length : Int) + x.saves.length == 0) = false := beq_eq_false_iff_ne.2 (by omega)
      clear hS
      go_wp2_with fail
      go_ret
      exact ⟨retB HF.out.symm, hb2⟩
  · -- it is open
    have HE := Lib.hid (show sessionB x = (x.saves.all (saveB x.schema) && soundB x.schema x.start false) by unfold sessionB; rw [hB, decide_eq_true h8, hO]; rfl)
    rw [hO] at HC hb0 r0 d0 d1 d2 d3 d4
    clear hB hO
    go_enter Tryz.func33, Tryz.ntmps33
    go_wp2_with fail
    refine HC.out.mono ?_
    rintro e w1 ⟨rfl, hq1⟩
    rw [HB.out]
    have hb1 := hb0.trans (hq1.mono hb0.size)
    have r1 := r0.below hq1
    clear d0 d1 d2 d3 d4 HC
    obtain ⟨⟨d0, d1, d2, d3, d4⟩, -⟩ := r1.five
    go_wp2_with fail
    go_loopw [3] (fun iv wr => ∃ k : Nat, k <= x.saves.length /\ iv = .int .i64 k /\ Hid ((x.saves.take k).all (saveB x.schema) = true) /\ Below w.heap.size w wr /\ Row wr w.heap.size 48 #[.slice A0 n0 c0, .slice A1 n1 c1, .bool true, .slice A3 x.start.length c3, .slice A4 x.saves.length c4]) (fun iv _ => x.saves.length - (intOf iv).toNat)
    case atStart => exact ⟨0, by omega, rfl, Lib.hid (by simp), hb1, r1⟩
    case round =>
      clear d0 d1 d2 d3 d4 r1 hb1 r0 hb0 hq1
      obtain ⟨k, hk, rfl, hall, hb, r1⟩ := hrel
      by_cases hlt : k < x.saves.length
      · obtain ⟨bs, os, AV, nV, cV, -, rfl, y0, y1, hdv, -⟩ := SvR.at_ (HL4.out.below SvR.stays hb) hlt
        have i0 : (0 : Int) <= k := by omega
        have i1 : (k : Int) < x.saves.length := by omega
        obtain ⟨⟨d0, d1, d2, d3, d4⟩, -⟩ := r1.five
        have hst := all_take_one (saveB x.schema) x.saves k hlt
        rw [hall.out, Bool.true_and] at hst
        have hno : saveB x.schema x.saves[k] = false -> sessionB x = false := fun hf => by
          rw [HE.out, Bool.and_eq_false_iff]; left; rw [List.all_eq_false]; exact ⟨x.saves[k], List.getElem_mem hlt, by simp [hf]⟩
        cases hnm : nameB x.saves[k].name
        · have HF := Lib.hid (hno (by unfold saveB; rw [hnm]; rfl))
          have HM := Lib.hid hnm
          clear hst hno hnm
          go_wp2_with fail
          refine wp_region_noPanic ?_
          refine wp_region_held_drew (S := fun w' => w'.cell? ⟨w.heap.size, 0, none⟩ = some (.slice A0 n0 c0) /\ w'.cell? ⟨w.heap.size, 4, none⟩ = some (.slice (some ⟨bs, os, none⟩) x.saves.length c4) /\ w'.cell? ⟨bs, os + k * 2, none⟩ = some (.string x.saves[k].name) /\ w'.cell? ⟨bs, os + k * 2 + 1, none⟩ = some (.slice AV nV cV)) (by kernel_rfl) ⟨d0, d4, y0, y1⟩ (fun hHeld => ?_)
          refine wpAnyH_take (i := 0) (v := ?v1) rfl (by kernel_rfl) (by kernel_rfl) (by kernel_rfl) (fun _ _ _ h => h) (Or.inl ⟨by rfl, ?hy1⟩) hHeld ?rest1
          case hy1 => (intro w' hSw; (try dsimp only at hSw); first | (go_simp; done) | (go_simp; with_reducible rfl))
          simp only [Act.put, pz0, pz1, pz2, pz3, pz4, pz5]
          refine wpAnyH_take (i := 1) (v := ?v2) rfl (by kernel_rfl) (by kernel_rfl) (by kernel_rfl) (fun _ _ _ h => h) (Or.inl ⟨by rfl, ?hy2⟩) hHeld ?rest2
          case hy2 => (intro w' hSw; (try dsimp only at hSw); first | (go_simp; done) | (go_simp; with_reducible rfl))
          simp only [Act.put, pz0, pz1, pz2, pz3, pz4, pz5]
          refine wpAnyH_take (i := 2) (v := ?v3) rfl (by kernel_rfl) (by kernel_rfl) (by kernel_rfl) (fun _ _ _ h => h) (Or.inl ⟨by rfl, ?hy3⟩) hHeld ?rest3
          case hy3 => (intro w' hSw; (try dsimp only at hSw); first | (go_simp; done) | (go_simp; with_reducible rfl))
          simp only [Act.put, pz0, pz1, pz2, pz3, pz4, pz5]
          refine wpAnyH_take (i := 3) (v := ?v4) rfl (by kernel_rfl) (by kernel_rfl) (by kernel_rfl) (fun _ _ _ h => h) (Or.inl ⟨by rfl, ?hy4⟩) hHeld ?rest4
          case hy4 => (intro w' hSw; (try dsimp only at hSw); first | (go_simp; done) | (go_simp; with_reducible rfl))
          simp only [Act.put, pz0, pz1, pz2, pz3, pz4, pz5]
          refine wpAnyH_take (i := 4) (v := ?v5) rfl (by kernel_rfl) (by kernel_rfl) (by kernel_rfl) (fun _ _ _ h => h) (Or.inl ⟨by rfl, ?hy5⟩) hHeld ?rest5
          case hy5 => (intro w' hSw; (try dsimp only at hSw); first | (go_simp; done) | (go_simp; with_reducible rfl))
          simp only [Act.put, pz0, pz1, pz2, pz3, pz4, pz5]
          refine wpAnyH_take (i := 5) (v := ?v6) rfl (by kernel_rfl) (by kernel_rfl) (by kernel_rfl) (fun _ _ _ h => h) (Or.inl ⟨by rfl, ?hy6⟩) hHeld ?rest6
          case hy6 => (intro w' hSw; (try dsimp only at hSw); first | (go_simp; done) | (go_simp; with_reducible rfl))
          simp only [Act.put, pz0, pz1, pz2, pz3, pz4, pz5]
          refine wpAnyH_ready (rs := [6]) (by kernel_rfl) (by simp) ?_
          refine AllReadyH.cons rfl (fun K hK => ?_) AllReadyH.nil
          go_simp
          refine (specName x.saves[k].name _ (HBIG.out k hlt).2).mono ?_
          rintro e w2 ⟨rfl, rfl⟩
          rw [HM.out]
          go_wp2_with fail
          refine hK.out _ _ hHeld (fun hHeld => ?_)
          clear hK K
          (try simp only [Act.put, pz0, pz1, pz2, pz3, pz4, pz5])
          refine wpAnyH_take (i := 7) (v := ?v7) rfl (by kernel_rfl) (by kernel_rfl) (by kernel_rfl) (fun _ _ _ h => h) (Or.inl ⟨by rfl, ?hy7⟩) hHeld ?rest7
          case hy7 => (intro w' hSw; (try dsimp only at hSw); first | (go_simp; done) | (go_simp; with_reducible rfl))
          simp only [Act.put, pz0, pz1, pz2, pz3, pz4, pz5]
          refine wpAnyH_take (i := 8) (v := ?v8) rfl (by kernel_rfl) (by kernel_rfl) (by kernel_rfl) (fun _ _ _ h => h) (Or.inl ⟨by rfl, ?hy8⟩) hHeld ?rest8
          case hy8 => (intro w' hSw; (try dsimp only at hSw); first | (go_simp; done) | (go_simp; with_reducible rfl))
          simp only [Act.put, pz0, pz1, pz2, pz3, pz4, pz5]
          refine wpAnyH_take (i := 9) (v := undef) rfl (by kernel_rfl) (by kernel_rfl) (by kernel_rfl) (fun _ _ _ h => h) (Or.inr ⟨by rfl, rfl⟩) hHeld ?_
          simp only [Act.put, pz0, pz1, pz2, pz3, pz4, pz5]
          refine wpAnyH_take (i := 10) (v := undef) rfl (by kernel_rfl) (by kernel_rfl) (by kernel_rfl) (fun _ _ _ h => h) (Or.inr ⟨by rfl, rfl⟩) hHeld ?_
          simp only [Act.put, pz0, pz1, pz2, pz3, pz4, pz5]
          refine wpAnyH_take (i := 11) (v := undef) rfl (by kernel_rfl) (by kernel_rfl) (by kernel_rfl) (fun _ _ _ h => h) (Or.inr ⟨by rfl, rfl⟩) hHeld ?_
          simp only [Act.put, pz0, pz1, pz2, pz3, pz4, pz5]
          refine wpAnyH_take (i := 12) (v := undef) rfl (by kernel_rfl) (by kernel_rfl) (by kernel_rfl) (fun _ _ _ h => h) (Or.inr ⟨by rfl, rfl⟩) hHeld ?_
          simp only [Act.put, pz0, pz1, pz2, pz3, pz4, pz5]
          refine wpAnyH_take (i := 13) (v := undef) rfl (by kernel_rfl) (by kernel_rfl) (by kernel_rfl) (fun _ _ _ h => h) (Or.inr ⟨by rfl, rfl⟩) hHeld ?_
          simp only [Act.put, pz0, pz1, pz2, pz3, pz4, pz5]
          refine wpAnyH_take (i := 14) (v := undef) rfl (by kernel_rfl) (by kernel_rfl) (by kernel_rfl) (fun _ _ _ h => h) (Or.inr ⟨by rfl, rfl⟩) hHeld ?_
          simp only [Act.put, pz0, pz1, pz2, pz3, pz4, pz5]
          refine wpAnyH_take (i := 15) (v := undef) rfl (by kernel_rfl) (by kernel_rfl) (by kernel_rfl) (fun _ _ _ h => h) (Or.inr ⟨by rfl, rfl⟩) hHeld ?_
          simp only [Act.put, pz0, pz1, pz2, pz3, pz4, pz5]
          refine wpAnyH_take (i := 16) (v := undef) rfl (by kernel_rfl) (by kernel_rfl) (by kernel_rfl) (fun _ _ _ h => h) (Or.inr ⟨by rfl, rfl⟩) hHeld ?_
          simp only [Act.put, pz0, pz1, pz2, pz3, pz4, pz5]
          refine wpAnyH_take (i := 17) (v := undef) rfl (by kernel_rfl) (by kernel_rfl) (by kernel_rfl) (fun _ _ _ h => h) (Or.inr ⟨by rfl, rfl⟩) hHeld ?_
          simp only [Act.put, pz0, pz1, pz2, pz3, pz4, pz5]
          refine wpAnyH_take (i := 18) (v := undef) rfl (by kernel_rfl) (by kernel_rfl) (by kernel_rfl) (fun _ _ _ h => h) (Or.inr ⟨by rfl, rfl⟩) hHeld ?_
          simp only [Act.put, pz0, pz1, pz2, pz3, pz4, pz5]
          refine wpAnyH_take (i := 19) (v := ?v9) rfl (by kernel_rfl) (by kernel_rfl) (by kernel_rfl) (fun _ _ _ h => h) (Or.inl ⟨by rfl, ?hy9⟩) hHeld ?rest9
          case hy9 => (intro w' hSw; (try dsimp only at hSw); first | (go_simp; done) | (go_simp; with_reducible rfl))
          simp only [Act.put, pz0, pz1, pz2, pz3, pz4, pz5]
          refine wpAnyH_done (by kernel_rfl) ?_ _
          refine NoPanic.normal ?_
          have hz := hb.drew
          clear hHeld
          go_wp2_with fail
          go_ret
          exact ⟨retB HF.out.symm, hz⟩
        cases hsd : soundB x.schema x.saves[k].db true
        · have HF := Lib.hid (hno (by unfold saveB; rw [hnm, hsd]; rfl))
          have HM := Lib.hid hnm
          have HD := Lib.hid hsd
          clear hst hno hnm hsd
          go_wp2_with fail
          refine wp_region_noPanic ?_
          refine wp_region_held_drew (S := fun w' => w'.cell? ⟨w.heap.size, 0, none⟩ = some (.slice A0 n0 c0) /\ w'.cell? ⟨w.heap.size, 4, none⟩ = some (.slice (some ⟨bs, os, none⟩) x.saves.length c4) /\ w'.cell? ⟨bs, os + k * 2, none⟩ = some (.string x.saves[k].name) /\ w'.cell? ⟨bs, os + k * 2 + 1, none⟩ = some (.slice AV nV cV)) (by kernel_rfl) ⟨d0, d4, y0, y1⟩ (fun hHeld => ?_)
          refine wpAnyH_take (i := 0) (v := ?v10) rfl (by kernel_rfl) (by kernel_rfl) (by kernel_rfl) (fun _ _ _ h => h) (Or.inl ⟨by rfl, ?hy10⟩) hHeld ?rest10
          case hy10 => (intro w' hSw; (try dsimp only at hSw); first | (go_simp; done) | (go_simp; with_reducible rfl))
          simp only [Act.put, pz0, pz1, pz2, pz3, pz4, pz5]
          refine wpAnyH_take (i := 1) (v := ?v11) rfl (by kernel_rfl) (by kernel_rfl) (by kernel_rfl) (fun _ _ _ h => h) (Or.inl ⟨by rfl, ?hy11⟩) hHeld ?rest11
          case hy11 => (intro w' hSw; (try dsimp only at hSw); first | (go_simp; done) | (go_simp; with_reducible rfl))
          simp only [Act.put, pz0, pz1, pz2, pz3, pz4, pz5]
          refine wpAnyH_take (i := 2) (v := ?v12) rfl (by kernel_rfl) (by kernel_rfl) (by kernel_rfl) (fun _ _ _ h => h) (Or.inl ⟨by rfl, ?hy12⟩) hHeld ?rest12
          case hy12 => (intro w' hSw; (try dsimp only at hSw); first | (go_simp; done) | (go_simp; with_reducible rfl))
          simp only [Act.put, pz0, pz1, pz2, pz3, pz4, pz5]
          refine wpAnyH_take (i := 3) (v := ?v13) rfl (by kernel_rfl) (by kernel_rfl) (by kernel_rfl) (fun _ _ _ h => h) (Or.inl ⟨by rfl, ?hy13⟩) hHeld ?rest13
          case hy13 => (intro w' hSw; (try dsimp only at hSw); first | (go_simp; done) | (go_simp; with_reducible rfl))
          simp only [Act.put, pz0, pz1, pz2, pz3, pz4, pz5]
          refine wpAnyH_take (i := 4) (v := ?v14) rfl (by kernel_rfl) (by kernel_rfl) (by kernel_rfl) (fun _ _ _ h => h) (Or.inl ⟨by rfl, ?hy14⟩) hHeld ?rest14
          case hy14 => (intro w' hSw; (try dsimp only at hSw); first | (go_simp; done) | (go_simp; with_reducible rfl))
          simp only [Act.put, pz0, pz1, pz2, pz3, pz4, pz5]
          refine wpAnyH_take (i := 5) (v := ?v15) rfl (by kernel_rfl) (by kernel_rfl) (by kernel_rfl) (fun _ _ _ h => h) (Or.inl ⟨by rfl, ?hy15⟩) hHeld ?rest15
          case hy15 => (intro w' hSw; (try dsimp only at hSw); first | (go_simp; done) | (go_simp; with_reducible rfl))
          simp only [Act.put, pz0, pz1, pz2, pz3, pz4, pz5]
          refine wpAnyH_ready (rs := [6]) (by kernel_rfl) (by simp) ?_
          refine AllReadyH.cons rfl (fun K hK => ?_) AllReadyH.nil
          go_simp
          refine (specName x.saves[k].name _ (HBIG.out k hlt).2).mono ?_
          rintro e w2 ⟨rfl, rfl⟩
          rw [HM.out]
          go_wp2_with fail
          refine hK.out _ _ hHeld (fun hHeld => ?_)
          clear hK K
          (try simp only [Act.put, pz0, pz1, pz2, pz3, pz4, pz5])
          refine wpAnyH_take (i := 7) (v := ?v16) rfl (by kernel_rfl) (by kernel_rfl) (by kernel_rfl) (fun _ _ _ h => h) (Or.inl ⟨by rfl, ?hy16⟩) hHeld ?rest16
          case hy16 => (intro w' hSw; (try dsimp only at hSw); first | (go_simp; done) | (go_simp; with_reducible rfl))
          simp only [Act.put, pz0, pz1, pz2, pz3, pz4, pz5]
          refine wpAnyH_take (i := 8) (v := ?v17) rfl (by kernel_rfl) (by kernel_rfl) (by kernel_rfl) (fun _ _ _ h => h) (Or.inl ⟨by rfl, ?hy17⟩) hHeld ?rest17
          case hy17 => (intro w' hSw; (try dsimp only at hSw); first | (go_simp; done) | (go_simp; with_reducible rfl))
          simp only [Act.put, pz0, pz1, pz2, pz3, pz4, pz5]
          refine wpAnyH_take (i := 9) (v := ?v18) rfl (by kernel_rfl) (by kernel_rfl) (by kernel_rfl) (fun _ _ _ h => h) (Or.inl ⟨by rfl, ?hy18⟩) hHeld ?rest18
          case hy18 => (intro w' hSw; (try dsimp only at hSw); first | (go_simp; done) | (go_simp; with_reducible rfl))
          simp only [Act.put, pz0, pz1, pz2, pz3, pz4, pz5]
          refine wpAnyH_take (i := 10) (v := ?v19) rfl (by kernel_rfl) (by kernel_rfl) (by kernel_rfl) (fun _ _ _ h => h) (Or.inl ⟨by rfl, ?hy19⟩) hHeld ?rest19
          case hy19 => (intro w' hSw; (try dsimp only at hSw); first | (go_simp; done) | (go_simp; with_reducible rfl))
          simp only [Act.put, pz0, pz1, pz2, pz3, pz4, pz5]
          refine wpAnyH_take (i := 11) (v := ?v20) rfl (by kernel_rfl) (by kernel_rfl) (by kernel_rfl) (fun _ _ _ h => h) (Or.inl ⟨by rfl, ?hy20⟩) hHeld ?rest20
          case hy20 => (intro w' hSw; (try dsimp only at hSw); first | (go_simp; done) | (go_simp; with_reducible rfl))
          simp only [Act.put, pz0, pz1, pz2, pz3, pz4, pz5]
          refine wpAnyH_take (i := 12) (v := ?v21) rfl (by kernel_rfl) (by kernel_rfl) (by kernel_rfl) (fun _ _ _ h => h) (Or.inl ⟨by rfl, ?hy21⟩) hHeld ?rest21
          case hy21 => (intro w' hSw; (try dsimp only at hSw); first | (go_simp; done) | (go_simp; with_reducible rfl))
          simp only [Act.put, pz0, pz1, pz2, pz3, pz4, pz5]
          refine wpAnyH_take (i := 13) (v := ?v22) rfl (by kernel_rfl) (by kernel_rfl) (by kernel_rfl) (fun _ _ _ h => h) (Or.inl ⟨by rfl, ?hy22⟩) hHeld ?rest22
          case hy22 => (intro w' hSw; (try dsimp only at hSw); first | (go_simp; done) | (go_simp; with_reducible rfl))
          simp only [Act.put, pz0, pz1, pz2, pz3, pz4, pz5]
          refine wpAnyH_take (i := 14) (v := ?v23) rfl (by kernel_rfl) (by kernel_rfl) (by kernel_rfl) (fun _ _ _ h => h) (Or.inl ⟨by rfl, ?hy23⟩) hHeld ?rest23
          case hy23 => (intro w' hSw; (try dsimp only at hSw); first | (go_simp; done) | (go_simp; with_reducible rfl))
          simp only [Act.put, pz0, pz1, pz2, pz3, pz4, pz5]
          refine wpAnyH_take (i := 15) (v := ?v24) rfl (by kernel_rfl) (by kernel_rfl) (by kernel_rfl) (fun _ _ _ h => h) (Or.inl ⟨by rfl, ?hy24⟩) hHeld ?rest24
          case hy24 => (intro w' hSw; (try dsimp only at hSw); first | (go_simp; done) | (go_simp; with_reducible rfl))
          simp only [Act.put, pz0, pz1, pz2, pz3, pz4, pz5]
          refine wpAnyH_take (i := 16) (v := ?v25) rfl (by kernel_rfl) (by kernel_rfl) (by kernel_rfl) (fun _ _ _ h => h) (Or.inl ⟨by rfl, ?hy25⟩) hHeld ?rest25
          case hy25 => (intro w' hSw; (try dsimp only at hSw); first | (go_simp; done) | (go_simp; with_reducible rfl))
          simp only [Act.put, pz0, pz1, pz2, pz3, pz4, pz5]
          refine wpAnyH_ready (rs := [17]) (by kernel_rfl) (by simp) ?_
          refine AllReadyH.cons rfl (fun K hK => ?_) AllReadyH.nil
          go_simp
          refine (specSoundNow A0 AV n0 c0 nV cV x.schema x.saves[k].db _ _ _ ((HL0.out.below TbR.stays hb).drew TbR.stays) (hdv.drew DtR.stays) hcp S0.out (HBIG.out k hlt).1).mono ?_
          rintro e wc ⟨rfl, hqc⟩
          rw [HD.out]
          go_wp2_with fail
          refine hK.out _ _ ⟨below_keep hqc _ _ hHeld.1, below_keep hqc _ _ hHeld.2.1, below_keep hqc _ _ hHeld.2.2.1, below_keep hqc _ _ hHeld.2.2.2⟩ (fun hHeld => ?_)
          clear hK K
          (try simp only [Act.put, pz0, pz1, pz2, pz3, pz4, pz5])
          refine wpAnyH_take (i := 18) (v := ?v26) rfl (by kernel_rfl) (by kernel_rfl) (by kernel_rfl) (fun _ _ _ h => h) (Or.inl ⟨by rfl, ?hy26⟩) hHeld ?rest26
          case hy26 => (intro w' hSw; (try dsimp only at hSw); first | (go_simp; done) | (go_simp; with_reducible rfl))
          simp only [Act.put, pz0, pz1, pz2, pz3, pz4, pz5]
          refine wpAnyH_take (i := 19) (v := ?v27) rfl (by kernel_rfl) (by kernel_rfl) (by kernel_rfl) (fun _ _ _ h => h) (Or.inl ⟨by rfl, ?hy27⟩) hHeld ?rest27
          case hy27 => (intro w' hSw; (try dsimp only at hSw); first | (go_simp; done) | (go_simp; with_reducible rfl))
          simp only [Act.put, pz0, pz1, pz2, pz3, pz4, pz5]
          refine wpAnyH_done (by kernel_rfl) ?_ _
          refine NoPanic.normal ?_
          have hz := hb.drew.trans (hqc.mono hb.drew.size)
          clear hHeld
          go_wp2_with fail
          go_ret
          exact ⟨retB HF.out.symm, hz⟩
        · have HA := Lib.hid (show (x.saves.take (k + 1)).all (saveB x.schema) = true by rw [hst]; unfold saveB; rw [hnm, hsd]; rfl)
          have HM := Lib.hid hnm
          have HD := Lib.hid hsd
          clear hst hno hnm hsd
          go_wp2_with fail
          refine wp_region_noPanic ?_
          refine wp_region_held_drew (S := fun w' => w'.cell? ⟨w.heap.size, 0, none⟩ = some (.slice A0 n0 c0) /\ w'.cell? ⟨w.heap.size, 4, none⟩ = some (.slice (some ⟨bs, os, none⟩) x.saves.length c4) /\ w'.cell? ⟨bs, os + k * 2, none⟩ = some (.string x.saves[k].name) /\ w'.cell? ⟨bs, os + k * 2 + 1, none⟩ = some (.slice AV nV cV)) (by kernel_rfl) ⟨d0, d4, y0, y1⟩ (fun hHeld => ?_)
          refine wpAnyH_take (i := 0) (v := ?v28) rfl (by kernel_rfl) (by kernel_rfl) (by kernel_rfl) (fun _ _ _ h => h) (Or.inl ⟨by rfl, ?hy28⟩) hHeld ?rest28
          case hy28 => (intro w' hSw; (try dsimp only at hSw); first | (go_simp; done) | (go_simp; with_reducible rfl))
          simp only [Act.put, pz0, pz1, pz2, pz3, pz4, pz5]
          refine wpAnyH_take (i := 1) (v := ?v29) rfl (by kernel_rfl) (by kernel_rfl) (by kernel_rfl) (fun _ _ _ h => h) (Or.inl ⟨by rfl, ?hy29⟩) hHeld ?rest29
          case hy29 => (intro w' hSw; (try dsimp only at hSw); first | (go_simp; done) | (go_simp; with_reducible rfl))
          simp only [Act.put, pz0, pz1, pz2, pz3, pz4, pz5]
          refine wpAnyH_take (i := 2) (v := ?v30) rfl (by kernel_rfl) (by kernel_rfl) (by kernel_rfl) (fun _ _ _ h => h) (Or.inl ⟨by rfl, ?hy30⟩) hHeld ?rest30
          case hy30 => (intro w' hSw; (try dsimp only at hSw); first | (go_simp; done) | (go_simp; with_reducible rfl))
          simp only [Act.put, pz0, pz1, pz2, pz3, pz4, pz5]
          refine wpAnyH_take (i := 3) (v := ?v31) rfl (by kernel_rfl) (by kernel_rfl) (by kernel_rfl) (fun _ _ _ h => h) (Or.inl ⟨by rfl, ?hy31⟩) hHeld ?rest31
          case hy31 => (intro w' hSw; (try dsimp only at hSw); first | (go_simp; done) | (go_simp; with_reducible rfl))
          simp only [Act.put, pz0, pz1, pz2, pz3, pz4, pz5]
          refine wpAnyH_take (i := 4) (v := ?v32) rfl (by kernel_rfl) (by kernel_rfl) (by kernel_rfl) (fun _ _ _ h => h) (Or.inl ⟨by rfl, ?hy32⟩) hHeld ?rest32
          case hy32 => (intro w' hSw; (try dsimp only at hSw); first | (go_simp; done) | (go_simp; with_reducible rfl))
          simp only [Act.put, pz0, pz1, pz2, pz3, pz4, pz5]
          refine wpAnyH_take (i := 5) (v := ?v33) rfl (by kernel_rfl) (by kernel_rfl) (by kernel_rfl) (fun _ _ _ h => h) (Or.inl ⟨by rfl, ?hy33⟩) hHeld ?rest33
          case hy33 => (intro w' hSw; (try dsimp only at hSw); first | (go_simp; done) | (go_simp; with_reducible rfl))
          simp only [Act.put, pz0, pz1, pz2, pz3, pz4, pz5]
          refine wpAnyH_ready (rs := [6]) (by kernel_rfl) (by simp) ?_
          refine AllReadyH.cons rfl (fun K hK => ?_) AllReadyH.nil
          go_simp
          refine (specName x.saves[k].name _ (HBIG.out k hlt).2).mono ?_
          rintro e w2 ⟨rfl, rfl⟩
          rw [HM.out]
          go_wp2_with fail
          refine hK.out _ _ hHeld (fun hHeld => ?_)
          clear hK K
          (try simp only [Act.put, pz0, pz1, pz2, pz3, pz4, pz5])
          refine wpAnyH_take (i := 7) (v := ?v34) rfl (by kernel_rfl) (by kernel_rfl) (by kernel_rfl) (fun _ _ _ h => h) (Or.inl ⟨by rfl, ?hy34⟩) hHeld ?rest34
          case hy34 => (intro w' hSw; (try dsimp only at hSw); first | (go_simp; done) | (go_simp; with_reducible rfl))
          simp only [Act.put, pz0, pz1, pz2, pz3, pz4, pz5]
          refine wpAnyH_take (i := 8) (v := ?v35) rfl (by kernel_rfl) (by kernel_rfl) (by kernel_rfl) (fun _ _ _ h => h) (Or.inl ⟨by rfl, ?hy35⟩) hHeld ?rest35
          case hy35 => (intro w' hSw; (try dsimp only at hSw); first | (go_simp; done) | (go_simp; with_reducible rfl))
          simp only [Act.put, pz0, pz1, pz2, pz3, pz4, pz5]
          refine wpAnyH_take (i := 9) (v := ?v36) rfl (by kernel_rfl) (by kernel_rfl) (by kernel_rfl) (fun _ _ _ h => h) (Or.inl ⟨by rfl, ?hy36⟩) hHeld ?rest36
          case hy36 => (intro w' hSw; (try dsimp only at hSw); first | (go_simp; done) | (go_simp; with_reducible rfl))
          simp only [Act.put, pz0, pz1, pz2, pz3, pz4, pz5]
          refine wpAnyH_take (i := 10) (v := ?v37) rfl (by kernel_rfl) (by kernel_rfl) (by kernel_rfl) (fun _ _ _ h => h) (Or.inl ⟨by rfl, ?hy37⟩) hHeld ?rest37
          case hy37 => (intro w' hSw; (try dsimp only at hSw); first | (go_simp; done) | (go_simp; with_reducible rfl))
          simp only [Act.put, pz0, pz1, pz2, pz3, pz4, pz5]
          refine wpAnyH_take (i := 11) (v := ?v38) rfl (by kernel_rfl) (by kernel_rfl) (by kernel_rfl) (fun _ _ _ h => h) (Or.inl ⟨by rfl, ?hy38⟩) hHeld ?rest38
          case hy38 => (intro w' hSw; (try dsimp only at hSw); first | (go_simp; done) | (go_simp; with_reducible rfl))
          simp only [Act.put, pz0, pz1, pz2, pz3, pz4, pz5]
          refine wpAnyH_take (i := 12) (v := ?v39) rfl (by kernel_rfl) (by kernel_rfl) (by kernel_rfl) (fun _ _ _ h => h) (Or.inl ⟨by rfl, ?hy39⟩) hHeld ?rest39
          case hy39 => (intro w' hSw; (try dsimp only at hSw); first | (go_simp; done) | (go_simp; with_reducible rfl))
          simp only [Act.put, pz0, pz1, pz2, pz3, pz4, pz5]
          refine wpAnyH_take (i := 13) (v := ?v40) rfl (by kernel_rfl) (by kernel_rfl) (by kernel_rfl) (fun _ _ _ h => h) (Or.inl ⟨by rfl, ?hy40⟩) hHeld ?rest40
          case hy40 => (intro w' hSw; (try dsimp only at hSw); first | (go_simp; done) | (go_simp; with_reducible rfl))
          simp only [Act.put, pz0, pz1, pz2, pz3, pz4, pz5]
          refine wpAnyH_take (i := 14) (v := ?v41) rfl (by kernel_rfl) (by kernel_rfl) (by kernel_rfl) (fun _ _ _ h => h) (Or.inl ⟨by rfl, ?hy41⟩) hHeld ?rest41
          case hy41 => (intro w' hSw; (try dsimp only at hSw); first | (go_simp; done) | (go_simp; with_reducible rfl))
          simp only [Act.put, pz0, pz1, pz2, pz3, pz4, pz5]
          refine wpAnyH_take (i := 15) (v := ?v42) rfl (by kernel_rfl) (by kernel_rfl) (by kernel_rfl) (fun _ _ _ h => h) (Or.inl ⟨by rfl, ?hy42⟩) hHeld ?rest42
          case hy42 => (intro w' hSw; (try dsimp only at hSw); first | (go_simp; done) | (go_simp; with_reducible rfl))
          simp only [Act.put, pz0, pz1, pz2, pz3, pz4, pz5]
          refine wpAnyH_take (i := 16) (v := ?v43) rfl (by kernel_rfl) (by kernel_rfl) (by kernel_rfl) (fun _ _ _ h => h) (Or.inl ⟨by rfl, ?hy43⟩) hHeld ?rest43
          case hy43 => (intro w' hSw; (try dsimp only at hSw); first | (go_simp; done) | (go_simp; with_reducible rfl))
          simp only [Act.put, pz0, pz1, pz2, pz3, pz4, pz5]
          refine wpAnyH_ready (rs := [17]) (by kernel_rfl) (by simp) ?_
          refine AllReadyH.cons rfl (fun K hK => ?_) AllReadyH.nil
          go_simp
          refine (specSoundNow A0 AV n0 c0 nV cV x.schema x.saves[k].db _ _ _ ((HL0.out.below TbR.stays hb).drew TbR.stays) (hdv.drew DtR.stays) hcp S0.out (HBIG.out k hlt).1).mono ?_
          rintro e wc ⟨rfl, hqc⟩
          rw [HD.out]
          go_wp2_with fail
          refine hK.out _ _ ⟨below_keep hqc _ _ hHeld.1, below_keep hqc _ _ hHeld.2.1, below_keep hqc _ _ hHeld.2.2.1, below_keep hqc _ _ hHeld.2.2.2⟩ (fun hHeld => ?_)
          clear hK K
          (try simp only [Act.put, pz0, pz1, pz2, pz3, pz4, pz5])
          refine wpAnyH_take (i := 18) (v := ?v44) rfl (by kernel_rfl) (by kernel_rfl) (by kernel_rfl) (fun _ _ _ h => h) (Or.inl ⟨by rfl, ?hy44⟩) hHeld ?rest44
          case hy44 => (intro w' hSw; (try dsimp only at hSw); first | (go_simp; done) | (go_simp; with_reducible rfl))
          simp only [Act.put, pz0, pz1, pz2, pz3, pz4, pz5]
          refine wpAnyH_take (i := 19) (v := ?v45) rfl (by kernel_rfl) (by kernel_rfl) (by kernel_rfl) (fun _ _ _ h => h) (Or.inl ⟨by rfl, ?hy45⟩) hHeld ?rest45
          case hy45 => (intro w' hSw; (try dsimp only at hSw); first | (go_simp; done) | (go_simp; with_reducible rfl))
          simp only [Act.put, pz0, pz1, pz2, pz3, pz4, pz5]
          refine wpAnyH_done (by kernel_rfl) ?_ _
          refine NoPanic.normal ?_
          have hz := hb.drew.trans (hqc.mono hb.drew.size)
          clear hHeld
          go_wp2_with fail
          go_roundw
          case rel => exact ⟨k + 1, by omega, by go_num, HA, hz, r1.drew.below hqc⟩
          case measure => simp [intOf]; omega
      · obtain rfl : k = x.saves.length := by omega
        have h1 := hall.out
        rw [List.take_of_length_le (Nat.le_refl _)] at h1
        have HF := Lib.hid (show soundB x.schema x.start false = sessionB x by rw [HE.out, h1]; rfl)
        clear hall h1
        obtain ⟨⟨d0, d1, d2, d3, d4⟩, -⟩ := r1.five
        go_wp2_with fail
        refine (specSound A0 A3 n0 c0 x.start.length c3 x.schema x.start _ _ wr (HL0.out.below TbR.stays hb) (HL3.out.below DtR.stays hb) hcp S0.out S3.out).mono ?_
        rintro e w2 ⟨rfl, hq2⟩
        rw [HF.out]
        go_wp2_with fail
        go_ret
        exact ⟨rfl, hb.trans (hq2.mono hb.size)⟩
end Go.Proofs.YtlpldhmanihnnaaGreat
