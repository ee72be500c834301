/-
  Rows: which are right for a table, in the model.
-/
import Derived.Test.YtlneglnbiacabaaGreatRowKinds
import Derived.Test.YtlneglnbiacabaaGreatSpecTable
import Derived.Test.YtlneglnbiacabaaGreatSpecEval
namespace Go.Proofs.YtlneglnbiacabaaGreat
open Go.RowKit Go.Maps
set_option linter.unusedVariables false
set_option linter.unusedSimpArgs false

set_option maxRecDepth 100000 in
set_option maxHeartbeats 1000000 in
theorem specNulls (A1 AR : Option Addr) (n1 c1 nR cR : Nat) (v0 v2 v3 v4 v5 : Value) (cols : List Cl) (row : List Vl) (ok : Nat → Prop) (w : World)
    (h : Sl ClR 6 ok w A1 n1 cols) (hv : Vals w AR nR row) (hn1 : n1 ≤ 1048576) (hn2 : nR ≤ 1048576) (hlen : row.length = cols.length) :
    Calls Tryz.prog 72 #[.agg #[v0, .slice A1 n1 c1, v2, v3, v4, v5], .slice AR nR cR] w fun e w' => e = .returned (.bool (nullsB cols row)) ∧ Below w.heap.size w w' := by
  obtain rfl : cols.length = n1 := h.1
  obtain rfl : row.length = nR := hv.len
  have hb0 := (Below.refl w.heap.size w).alloc (Nat.le_refl _) (.cells #[v0, .slice A1 cols.length c1, v2, v3, v4, v5] 50)
  have r0 := Row.new w 50 #[v0, .slice A1 cols.length c1, v2, v3, v4, v5]
  have hz : (cols.zip row).length = cols.length := by simp [hlen]
  have HZ := Lib.hid hz
  have HL := Lib.hid hlen
  clear hz hlen
  go_enter Tryz.func72, Tryz.ntmps72
  go_wp2_with fail
  generalize w.alloc (.cells #[v0, .slice A1 cols.length c1, v2, v3, v4, v5] 50) = x0 at *
  go_loopw [5] (fun i wr => ∃ k : Nat, k ≤ cols.length ∧ i = .int .i64 k ∧ Hid (((cols.zip row).take k).all nullV = true) ∧ Row wr w.heap.size 50 #[v0, .slice A1 cols.length c1, v2, v3, v4, v5] ∧ Below w.heap.size w wr) (fun i _ => cols.length - (intOf i).toNat)
  case atStart => exact ⟨0, by omega, rfl, Lib.hid (by simp), r0, hb0⟩
  case round =>
    obtain ⟨k, hk, rfl, hall, hr, hb⟩ := hrel
    by_cases hlt : k < cols.length
    · have hlt2 : k < row.length := by have := HL.out; omega
      obtain ⟨⟨d0, d1, d2, d3, d4, d5⟩, -⟩ := hr.all6
      obtain ⟨b2, off2, rfl, p0, p1, p2⟩ := (hv.below hb).at_ hlt2
      obtain ⟨b, off, -, rfl, q0, q1, q2, q3, q4, q5⟩ := ClR.at_ (h.below ClR.stays hb) hlt
      have hsn := all_take nullV (cols.zip row) k (by rw [HZ.out]; exact hlt)
      have hno := fun hf => all_no nullV (cols.zip row) k (by rw [HZ.out]; exact hlt) hf
      have eg : nullV ((cols.zip row)[k]'(by rw [HZ.out]; exact hlt)) = !(cols[k].nn && row[k].k == 0) := by rw [List.getElem_zip]; rfl
      rw [hall.out, Bool.true_and, eg] at hsn
      rw [eg] at hno
      have i0 : (0 : Int) ≤ k := by omega
      have i1 : (k : Int) < cols.length := by omega
      have i2 : (k : Int) < row.length := by have := HL.out; omega
      clear eg
      cases hd : cols[k].nn
      · have HA := Lib.hid (show ((cols.zip row).take (k + 1)).all nullV = true by rw [hsn, hd]; rfl)
        rw [hd] at q2
        clear hsn hno hall
        go_wp2_with fail
        go_roundw
        case rel => exact ⟨k + 1, by omega, by go_num, Lib.hid HA.out, hr, hb⟩
        case measure => simp [intOf]; omega
      rw [hd] at q2
      cases hc : (row[k].k == 0)
      · have HA := Lib.hid (show ((cols.zip row).take (k + 1)).all nullV = true by rw [hsn, hc, Bool.and_false]; rfl)
        clear hsn hno hall
        go_wp2_with fail
        go_roundw
        case rel => exact ⟨k + 1, by omega, by go_num, Lib.hid HA.out, hr, hb⟩
        case measure => simp [intOf]; omega
      · have HF := Lib.hid (show nullsB cols row = false from hno (by rw [hc, hd]; rfl))
        clear hsn hno hall
        go_wp2_with fail
        go_ret
        exact ⟨retB HF.out.symm, hb⟩
    · have e : (cols.zip row).take k = cols.zip row := List.take_of_length_le (by rw [HZ.out]; omega)
      have h1 := hall.out
      rw [e] at h1
      have HF := Lib.hid (show nullsB cols row = true from h1)
      have i3 : ¬ (k : Int) < row.length := by have := HL.out; omega
      clear e h1 hall
      go_wp2
      go_ret
      exact ⟨retB HF.out.symm, hb⟩

theorem truthB_rng (ts : List Tk) (row : List Vl) : truthB ts row = -1 ∨ truthB ts row = 0 ∨ truthB ts row = 1 ∨ truthB ts row = 2 := by
  unfold truthB
  split
  · unfold truOf
    split
    · simp
    · split
      · unfold yes; split <;> simp
      · simp
  · simp

set_option maxRecDepth 100000 in
set_option maxHeartbeats 1000000 in
theorem specChecks (AL AR : Option Addr) (nL cL nR cR : Nat) (v0 v1 v2 v3 v5 : Value) (l : List Ck) (row : List Vl) (ok : Nat → Prop) (w : World)
    (h : Sl CkR 1 ok w AL nL l) (hv : Vals w AR nR row) (hs : szL Ck.sz l ≤ 1048576) (hn2 : nR ≤ 1048576) (hrow : rowB row = true) (hex : ∀ u ∈ l, exprB u.expr row.length = true) :
    Calls Tryz.prog 73 #[.agg #[v0, v1, v2, v3, .slice AL nL cL, v5], .slice AR nR cR] w fun e w' => e = .returned (.bool (checksB l row)) ∧ Below w.heap.size w w' := by
  obtain rfl : l.length = nL := h.1
  have hn1 : l.length ≤ 1048576 := by unfold szL at hs; omega
  have HSZ := Lib.hid hs
  have HR := Lib.hid hrow
  have HX := Lib.hid hex
  have HM := Lib.hid (show nR ≤ maxLen by unfold maxLen; omega)
  clear hs hrow hex
  have hb0 := (Below.refl w.heap.size w).alloc (Nat.le_refl _) (.cells #[v0, v1, v2, v3, .slice AL l.length cL, v5] 50)
  have r0 := Row.new w 50 #[v0, v1, v2, v3, .slice AL l.length cL, v5]
  go_enter Tryz.func73, Tryz.ntmps73
  go_wp2_with fail
  generalize w.alloc (.cells #[v0, v1, v2, v3, .slice AL l.length cL, v5] 50) = x0 at *
  go_loopw [5] (fun i wr => ∃ k : Nat, k ≤ l.length ∧ i = .int .i64 k ∧ Hid ((l.take k).all (ckV row) = true) ∧ Row wr w.heap.size 50 #[v0, v1, v2, v3, .slice AL l.length cL, v5] ∧ Below w.heap.size w wr) (fun i _ => l.length - (intOf i).toNat)
  case atStart => exact ⟨0, by omega, rfl, Lib.hid (by simp), r0, hb0⟩
  case round =>
    obtain ⟨k, hk, rfl, hall, hr, hb⟩ := hrel
    obtain ⟨⟨d0, d1, d2, d3, d4, d5⟩, -⟩ := hr.all6
    by_cases hlt : k < l.length
    · obtain ⟨b, off, A9, n9, c9, -, ea, q0, s0, hcp⟩ := CkR.at_ (h.below CkR.stays hb) hlt
      rw [ea] at d4
      clear ea
      obtain rfl : l[k].expr.length = n9 := s0.1
      have hv1 := hv.below hb
      have hk9 : l[k].expr.length ≤ 1048576 := by have := HSZ.out; have := sum_mem_le Ck.sz l k hlt; unfold szL at *; simp only [Ck.sz] at *; (try unfold szL at *); (try simp only at *); omega
      have HK9 := Lib.hid (show l[k].expr.length ≤ maxLen by unfold maxLen; omega)
      have hsn := all_take (ckV row) l k hlt
      rw [hall.out, Bool.true_and] at hsn
      have hno := fun hf => all_no (ckV row) l k hlt hf
      have i0 : (0 : Int) ≤ k := by omega
      have i1 : (k : Int) < l.length := by omega
      have hcall := specL2Truth A9 AR l[k].expr.length nR c9 cR l[k].expr row _ (Sl.cellz (fun _ => rfl) s0) hv1 HK9.out HM.out HR.out (HX.out _ (List.getElem_mem hlt))
      have HCALL := Lib.hid hcall
      clear hk9 hcall
      rcases truthB_rng l[k].expr row with h1 | h1 | h1 | h1
      · have HF := Lib.hid (show checksB l row = false from hno (by unfold ckV truOkB; rw [h1]; rfl))
        have H1 := Lib.hid h1
        clear hsn hno hall h1
        go_wp2_with fail
        refine HCALL.out.mono ?_
        rintro e w1 ⟨rfl, hb1⟩
        rw [H1.out]
        clear HCALL
        go_wp2
        go_ret
        exact ⟨retB HF.out.symm, hb.trans (hb1.mono hb.size)⟩
      · have HF := Lib.hid (show checksB l row = false from hno (by unfold ckV truOkB; rw [h1]; rfl))
        have H1 := Lib.hid h1
        clear hsn hno hall h1
        go_wp2_with fail
        refine HCALL.out.mono ?_
        rintro e w1 ⟨rfl, hb1⟩
        rw [H1.out]
        clear HCALL
        go_wp2
        go_ret
        exact ⟨retB HF.out.symm, hb.trans (hb1.mono hb.size)⟩
      all_goals
        have HA := Lib.hid (show (l.take (k + 1)).all (ckV row) = true by rw [hsn]; unfold ckV truOkB; rw [h1]; rfl)
        have H1 := Lib.hid h1
        clear hsn hno hall h1
        go_wp2_with fail
        refine HCALL.out.mono ?_
        rintro e w1 ⟨rfl, hb1⟩
        rw [H1.out]
        clear HCALL
        go_wp2
        go_roundw
        case rel => exact ⟨k + 1, by omega, by go_num, Lib.hid HA.out, hr.below hb1, hb.trans (hb1.mono hb.size)⟩
        case measure => simp [intOf]; omega
    · have e : l.take k = l := List.take_of_length_le (by omega)
      have h1 := hall.out
      rw [e] at h1
      have HF := Lib.hid (show checksB l row = true from h1)
      clear e h1 hall
      go_wp2
      go_ret
      exact ⟨retB HF.out.symm, hb⟩

theorem fit_all {cols : List Cl} {row : List Vl} (hl : row.length = cols.length) (h : fitAll cols row = true) : row.all Vl.ok = true := by
  induction row generalizing cols with
  | nil => rfl
  | cons v vs ih =>
    cases cols with
    | nil => simp at hl
    | cons c cs =>
      unfold fitAll at h
      rw [List.zip_cons_cons, List.all_cons, Bool.and_eq_true] at h
      have h1 : valOkB v.k v.n v.s = true := by
        have := h.1; unfold fitV fitsB at this; simp only [Bool.and_eq_true] at this; exact this.1
      rw [List.all_cons, ih (by simpa using hl) h.2, Bool.and_true]
      exact h1
theorem rowB_of {x : Tb} {row : List Vl} (hT : tableB x = true) (hK : kindsB x.cols row = true) : rowB row = true := by
  unfold kindsB at hK
  rw [Bool.and_eq_true, decide_eq_true_eq] at hK
  unfold tableB colsB at hT
  simp only [Bool.and_eq_true, decide_eq_true_eq] at hT
  have h8 : x.cols.length ≤ 8 := hT.2.1.2.1
  unfold rowB
  rw [fit_all hK.1 hK.2, decide_eq_true (by omega)]; rfl
theorem exprs_of {x : Tb} {row : List Vl} (hT : tableB x = true) (hl : row.length = x.cols.length) : ∀ u ∈ x.checks, exprB u.expr row.length = true := by
  unfold tableB cksB at hT
  simp only [Bool.and_eq_true, decide_eq_true_eq] at hT
  intro u hu
  rw [hl]
  exact List.all_eq_true.1 hT.2.2.2.2.1.2 u hu

set_option maxRecDepth 100000 in
set_option maxHeartbeats 1000000 in
theorem specRowOk (x : Tb) (A1 : Option Addr) (n1 c1 : Nat) (A2 : Option Addr) (n2 c2 : Nat) (A3 : Option Addr) (n3 c3 : Nat) (A4 : Option Addr) (n4 c4 : Nat) (A5 : Option Addr) (n5 c5 : Nat) (AR : Option Addr) (nR cR : Nat) (row : List Vl) (ok : Nat → Prop) (w : World)
    (h1 : Sl ClR 6 ok w A1 n1 x.cols) (h2 : Sl IntR 1 ok w A2 n2 x.key) (h3 : Sl UqR 1 ok w A3 n3 x.uniqs) (h4 : Sl CkR 1 ok w A4 n4 x.checks) (h5 : Sl FkR 5 ok w A5 n5 x.fks) (hv : Vals w AR nR row) (hcp : n1 ≤ c1 ∧ n2 ≤ c2 ∧ n3 ≤ c3 ∧ n4 ≤ c4 ∧ n5 ≤ c5) (hs : x.sz ≤ 1048576) (hn2 : nR ≤ 1048576) :
    Calls Tryz.prog 25 #[.agg #[.string x.name, .slice A1 n1 c1, .slice A2 n2 c2, .slice A3 n3 c3, .slice A4 n4 c4, .slice A5 n5 c5], .slice AR nR cR] w fun e w' => e = .returned (.bool (rowOkB x row)) ∧ Below w.heap.size w w' := by
  have HS1 := Lib.hid (show n1 ≤ 1048576 by have := h1.1; unfold Tb.sz szL at hs; omega)
  have HS4 := Lib.hid (show szL Ck.sz x.checks ≤ 1048576 by unfold Tb.sz at hs; omega)
  have HN2 := Lib.hid hn2
  have hb0 := (Below.refl w.heap.size w).alloc (Nat.le_refl _) (.cells #[.string x.name, .slice A1 n1 c1, .slice A2 n2 c2, .slice A3 n3 c3, .slice A4 n4 c4, .slice A5 n5 c5] 50)
  have r0 := Row.new w 50 #[.string x.name, .slice A1 n1 c1, .slice A2 n2 c2, .slice A3 n3 c3, .slice A4 n4 c4, .slice A5 n5 c5]
  have HCT := Lib.hid (specTableOk x A1 n1 c1 A2 n2 c2 A3 n3 c3 A4 n4 c4 A5 n5 c5 ok _ (h1.below ClR.stays hb0) (h2.below IntR.stays hb0) (h3.below UqR.stays hb0) (h4.below CkR.stays hb0) (h5.below FkR.stays hb0) hcp hs)
  clear hs hn2
  cases hT : tableB x
  · have HF := Lib.hid (show rowOkB x row = false by unfold rowOkB; rw [hT]; rfl)
    have HT := Lib.hid hT
    clear hT
    go_enter Tryz.func25, Tryz.ntmps25
    go_wp2_with fail
    refine HCT.out.mono ?_
    rintro e w1 ⟨rfl, hq1⟩
    rw [HT.out]
    clear HCT
    go_wp2_with fail
    go_ret
    exact ⟨retB HF.out.symm, hb0.trans (hq1.mono hb0.size)⟩
  have HT := Lib.hid hT
  cases hK : kindsB x.cols row
  · have HF := Lib.hid (show rowOkB x row = false by unfold rowOkB; rw [hT, hK]; rfl)
    have HK := Lib.hid hK
    clear hT hK
    go_enter Tryz.func25, Tryz.ntmps25
    go_wp2_with fail
    refine HCT.out.mono ?_
    rintro e w1 ⟨rfl, hq1⟩
    have hb1 := hb0.trans (hq1.mono hb0.size)
    have r1 := r0.below hq1
    obtain ⟨⟨a0, a1, a2, a3, a4, a5⟩, -⟩ := r1.all6
    rw [HT.out]
    clear HCT
    go_wp2_with fail
    refine (specKinds A1 AR n1 c1 nR cR _ _ _ _ _ x.cols row ok _ (h1.below ClR.stays hb1) (hv.below hb1) HS1.out HN2.out).mono ?_
    rintro e w2 ⟨rfl, hq2⟩
    rw [HK.out]
    go_wp2_with fail
    go_ret
    exact ⟨retB HF.out.symm, hb1.trans (hq2.mono hb1.size)⟩
  have HK := Lib.hid hK
  have HLEN := Lib.hid (show row.length = x.cols.length by unfold kindsB at hK; simp only [Bool.and_eq_true, decide_eq_true_eq] at hK; exact hK.1)
  cases hU : nullsB x.cols row
  · have HF := Lib.hid (show rowOkB x row = false by unfold rowOkB; rw [hT, hK, hU]; rfl)
    have HU := Lib.hid hU
    clear hT hK hU
    go_enter Tryz.func25, Tryz.ntmps25
    go_wp2_with fail
    refine HCT.out.mono ?_
    rintro e w1 ⟨rfl, hq1⟩
    have hb1 := hb0.trans (hq1.mono hb0.size)
    have r1 := r0.below hq1
    obtain ⟨⟨a0, a1, a2, a3, a4, a5⟩, -⟩ := r1.all6
    rw [HT.out]
    clear HCT
    go_wp2_with fail
    refine (specKinds A1 AR n1 c1 nR cR _ _ _ _ _ x.cols row ok _ (h1.below ClR.stays hb1) (hv.below hb1) HS1.out HN2.out).mono ?_
    rintro e w2 ⟨rfl, hq2⟩
    have hb2 := hb1.trans (hq2.mono hb1.size)
    have r2 := r1.below hq2
    clear a0 a1 a2 a3 a4 a5
    obtain ⟨⟨a0, a1, a2, a3, a4, a5⟩, -⟩ := r2.all6
    rw [HK.out]
    go_wp2_with fail
    refine (specNulls A1 AR n1 c1 nR cR _ _ _ _ _ x.cols row ok _ (h1.below ClR.stays hb2) (hv.below hb2) HS1.out HN2.out HLEN.out).mono ?_
    rintro e w3 ⟨rfl, hq3⟩
    rw [HU.out]
    go_wp2_with fail
    go_ret
    exact ⟨retB HF.out.symm, hb2.trans (hq3.mono hb2.size)⟩
  have HU := Lib.hid hU
  have HRB := Lib.hid (show rowB row = true from rowB_of hT hK)
  have HEX := Lib.hid (show ∀ u ∈ x.checks, exprB u.expr row.length = true from exprs_of hT HLEN.out)
  have HF := Lib.hid (show rowOkB x row = checksB x.checks row by unfold rowOkB; rw [hT, hK, hU]; rfl)
  clear hT hK hU
  go_enter Tryz.func25, Tryz.ntmps25
  go_wp2_with fail
  refine HCT.out.mono ?_
  rintro e w1 ⟨rfl, hq1⟩
  have hb1 := hb0.trans (hq1.mono hb0.size)
  have r1 := r0.below hq1
  obtain ⟨⟨a0, a1, a2, a3, a4, a5⟩, -⟩ := r1.all6
  rw [HT.out]
  clear HCT
  go_wp2_with fail
  refine (specKinds A1 AR n1 c1 nR cR _ _ _ _ _ x.cols row ok _ (h1.below ClR.stays hb1) (hv.below hb1) HS1.out HN2.out).mono ?_
  rintro e w2 ⟨rfl, hq2⟩
  have hb2 := hb1.trans (hq2.mono hb1.size)
  have r2 := r1.below hq2
  clear a0 a1 a2 a3 a4 a5
  obtain ⟨⟨a0, a1, a2, a3, a4, a5⟩, -⟩ := r2.all6
  rw [HK.out]
  go_wp2_with fail
  refine (specNulls A1 AR n1 c1 nR cR _ _ _ _ _ x.cols row ok _ (h1.below ClR.stays hb2) (hv.below hb2) HS1.out HN2.out HLEN.out).mono ?_
  rintro e w3 ⟨rfl, hq3⟩
  have hb3 := hb2.trans (hq3.mono hb2.size)
  have r3 := r2.below hq3
  clear a0 a1 a2 a3 a4 a5
  obtain ⟨⟨a0, a1, a2, a3, a4, a5⟩, -⟩ := r3.all6
  rw [HU.out]
  go_wp2_with fail
  refine (specChecks A4 AR n4 c4 nR cR _ _ _ _ _ x.checks row ok _ (h4.below CkR.stays hb3) (hv.below hb3) HS4.out HN2.out HRB.out HEX.out).mono ?_
  rintro e w4 ⟨rfl, hq4⟩
  go_wp2_with fail
  go_ret
  exact ⟨retB (by rw [HF.out]), hb3.trans (hq4.mono hb3.size)⟩
end Go.Proofs.YtlneglnbiacabaaGreat
