/-
  Rows: which fit a table, in the program.
-/
import Derived.Test.YtakhcgkhjmfndaaGreatTableImpl3
import Derived.Test.YtakhcgkhjmfndaaGreatTruth
namespace Go.Proofs.YtakhcgkhjmfndaaGreat
open Go.RowKit Go.Maps
set_option linter.unusedVariables false

def fitV (p : Cl × Vl) : Bool := fitsB p.1.kind p.2
def nullV (p : Cl × Vl) : Bool := !(p.1.nn && p.2.k == 0)
def truOkB (t : Int) : Bool := t == 1 || t == 2
def ckV (row : List Vl) (u : Ck) : Bool := truOkB (truthB u.expr row)
def fitAll (cols : List Cl) (row : List Vl) : Bool := (cols.zip row).all fitV
def kindsB (cols : List Cl) (row : List Vl) : Bool := decide (row.length = cols.length) && fitAll cols row
def nullsB (cols : List Cl) (row : List Vl) : Bool := (cols.zip row).all nullV
def checksB (cks : List Ck) (row : List Vl) : Bool := cks.all (ckV row)
def rowOkB (t : Tb) (row : List Vl) : Bool := tableB t && (kindsB t.cols row && (nullsB t.cols row && checksB t.checks row))

theorem keepF {w w' : World} {a0 a1 a2 a3 a4 : Addr} {v0 v1 v2 v3 v4 : Value} (h : w.cell? a0 = some v0 ∧ w.cell? a1 = some v1 ∧ w.cell? a2 = some v2 ∧ w.cell? a3 = some v3 ∧ w.cell? a4 = some v4) (hb : Below w.heap.size w w') : w'.cell? a0 = some v0 ∧ w'.cell? a1 = some v1 ∧ w'.cell? a2 = some v2 ∧ w'.cell? a3 = some v3 ∧ w'.cell? a4 = some v4 := by
  obtain ⟨h0, h1, h2, h3, h4⟩ := h
  exact ⟨(hb.cell (cell_lt h0)).trans h0, (hb.cell (cell_lt h1)).trans h1, (hb.cell (cell_lt h2)).trans h2, (hb.cell (cell_lt h3)).trans h3, (hb.cell (cell_lt h4)).trans h4⟩

set_option maxRecDepth 100000 in
set_option maxHeartbeats 1000000 in
theorem implFits (g : Nat) (A1 AR : Option Addr) (n1 c1 nR cR : Nat) (v0 v2 v3 v4 v5 : Value) (cols : List Cl) (row : List Vl) (ok : Nat → Prop) (w : World)
    (hr : Row w g 50 #[v0, .slice A1 n1 c1, v2, v3, v4, v5]) (h : Sl ClR 6 ok w A1 n1 cols) (hv : Vals w AR nR row) (hn1 : n1 ≤ 1048576) (hn2 : nR ≤ 1048576) :
    Calls Tryz.prog 31 #[.pointer (some ⟨g, 0, none⟩), .slice AR nR cR] w fun e w' => e = .returned (.bool (kindsB cols row)) ∧ Below w.heap.size w w' := by
  obtain rfl : cols.length = n1 := h.1
  obtain rfl : row.length = nR := hv.len
  obtain ⟨⟨x0, x1, x2, x3, x4, x5⟩, -⟩ := hr.all6
  cases hl : (row.length == cols.length)
  · have hl' : ¬ ((row.length : Int) = cols.length) := by have := beq_eq_false_iff_ne.1 hl; omega
    have HF := Lib.hid (show kindsB cols row = false by unfold kindsB; rw [decide_eq_false (beq_eq_false_iff_ne.1 hl)]; rfl)
    clear hl
    go_enter Tryz.func31, Tryz.ntmps31
    go_wp2
    go_ret
    exact ⟨retB HF.out.symm, Below.refl _ _⟩
  have hlen : row.length = cols.length := by simpa using hl
  have hl' : (row.length : Int) = cols.length := by omega
  have hz : (cols.zip row).length = cols.length := by simp [hlen]
  have HZ := Lib.hid hz
  have HL := Lib.hid hlen
  have HE := Lib.hid (show kindsB cols row = fitAll cols row by unfold kindsB; rw [decide_eq_true hlen]; rfl)
  clear hl hz hlen
  go_enter Tryz.func31, Tryz.ntmps31
  go_wp2
  go_loopw [17] (fun i wr => ∃ k : Nat, k ≤ cols.length ∧ i = .int .i64 k ∧ Hid (((cols.zip row).take k).all fitV = true) ∧ Below w.heap.size w wr) (fun i _ => cols.length - (intOf i).toNat)
  case atStart => exact ⟨0, by omega, rfl, Lib.hid (by simp), Below.refl _ _⟩
  case round =>
    obtain ⟨k, hk, rfl, hall, hb⟩ := hrel
    by_cases hlt : k < cols.length
    · have hlt2 : k < row.length := by have := HL.out; omega
      have hbx := (Below.refl wr.heap.size wr).alloc (Nat.le_refl _) (.cells #[.int .i64 row[k].k, .int .i64 row[k].n, .string row[k].s] 57)
      have hba := hb.trans (hbx.mono hb.size)
      have rv := Row.new wr 57 #[.int .i64 row[k].k, .int .i64 row[k].n, .string row[k].s]
      obtain ⟨b2, off2, rfl, p0, p1, p2⟩ := (hv.below hb).at_ hlt2
      obtain ⟨b, off, -, rfl, q0, q1, q2, q3, q4, q5⟩ := ClR.at_ (h.below ClR.stays hba) hlt
      obtain ⟨⟨d0, d1, d2, d3, d4, d5⟩, -⟩ := (hr.below hba).all6
      obtain ⟨⟨f0, f1, f2⟩, -⟩ := rv.three
      have hsn := all_take fitV (cols.zip row) k (by rw [HZ.out]; exact hlt)
      have hno := fun hf => all_no fitV (cols.zip row) k (by rw [HZ.out]; exact hlt) hf
      have eg : fitV ((cols.zip row)[k]'(by rw [HZ.out]; exact hlt)) = fitsB cols[k].kind row[k] := by rw [List.getElem_zip]; rfl
      rw [hall.out, Bool.true_and, eg] at hsn
      rw [eg] at hno
      have i0 : (0 : Int) ≤ k := by omega
      have i1 : (k : Int) < cols.length := by omega
      have i2 : (k : Int) < row.length := by have := HL.out; omega
      clear eg
      cases hc : fitsB cols[k].kind row[k]
      · have HC := Lib.hid hc
        have HF := Lib.hid (show kindsB cols row = false by rw [HE.out]; exact hno hc)
        clear hsn hno hc hall
        go_wp2_with fail
        go_region_held3 (fun w' => w'.cell? ⟨g, 1, none⟩ = some (.slice (some ⟨b, off, none⟩) cols.length c1) ∧ w'.cell? ⟨b, off + k * 6 + 1, none⟩ = some (.int .i64 cols[k].kind) ∧ w'.cell? ⟨wr.heap.size, 0, none⟩ = some (.int .i64 row[k].k) ∧ w'.cell? ⟨wr.heap.size, 1, none⟩ = some (.int .i64 row[k].n) ∧ w'.cell? ⟨wr.heap.size, 2, none⟩ = some (.string row[k].s))
          (first | go_keep | exact keepF (by assumption) hb1)
          (first | (go_at_call 49; refine (implValFits cols[k].kind row[k] _).mono ?_; rintro e w1 ⟨rfl, hb1⟩; rw [HC.out]))
        all_goals
          go_wp2
          go_ret
          exact ⟨retB HF.out.symm, hba.drew.trans (hb1.mono hba.size)⟩
      · have HC := Lib.hid hc
        have HA := Lib.hid (hsn.trans hc)
        clear hsn hno hc hall
        go_wp2_with fail
        go_region_held3 (fun w' => w'.cell? ⟨g, 1, none⟩ = some (.slice (some ⟨b, off, none⟩) cols.length c1) ∧ w'.cell? ⟨b, off + k * 6 + 1, none⟩ = some (.int .i64 cols[k].kind) ∧ w'.cell? ⟨wr.heap.size, 0, none⟩ = some (.int .i64 row[k].k) ∧ w'.cell? ⟨wr.heap.size, 1, none⟩ = some (.int .i64 row[k].n) ∧ w'.cell? ⟨wr.heap.size, 2, none⟩ = some (.string row[k].s))
          (first | go_keep | exact keepF (by assumption) hb1)
          (first | (go_at_call 49; refine (implValFits cols[k].kind row[k] _).mono ?_; rintro e w1 ⟨rfl, hb1⟩; rw [HC.out]))
        all_goals
          go_wp2
          go_roundw
          case rel => exact ⟨k + 1, by omega, by go_num, Lib.hid HA.out, hba.drew.trans (hb1.mono hba.size)⟩
          case measure => simp [intOf]; omega
    · have e : (cols.zip row).take k = cols.zip row := List.take_of_length_le (by rw [HZ.out]; omega)
      have h1 := hall.out
      rw [e] at h1
      have HF := Lib.hid (show kindsB cols row = true by rw [HE.out]; exact h1)
      clear e h1 hall
      go_wp2
      go_ret
      exact ⟨retB HF.out.symm, hb⟩

set_option maxRecDepth 100000 in
set_option maxHeartbeats 1000000 in
theorem implWrongNull (g : Nat) (A1 AR : Option Addr) (n1 c1 nR cR : Nat) (v0 v2 v3 v4 v5 : Value) (cols : List Cl) (row : List Vl) (ok : Nat → Prop) (w : World)
    (hr : Row w g 50 #[v0, .slice A1 n1 c1, v2, v3, v4, v5]) (h : Sl ClR 6 ok w A1 n1 cols) (hv : Vals w AR nR row) (hn1 : n1 ≤ 1048576) (hn2 : nR ≤ 1048576) (hlen : row.length = cols.length) :
    Calls Tryz.prog 62 #[.pointer (some ⟨g, 0, none⟩), .slice AR nR cR] w fun e w' => e = .returned (.bool (!nullsB cols row)) ∧ Below w.heap.size w w' := by
  obtain rfl : cols.length = n1 := h.1
  obtain rfl : row.length = nR := hv.len
  have hz : (cols.zip row).length = cols.length := by simp [hlen]
  have HZ := Lib.hid hz
  have HL := Lib.hid hlen
  clear hz hlen
  go_enter Tryz.func62, Tryz.ntmps62
  go_wp2
  go_loopw [9] (fun i wr => ∃ k : Nat, k ≤ cols.length ∧ i = .int .i64 k ∧ Hid (((cols.zip row).take k).all nullV = true) ∧ Below w.heap.size w wr) (fun i _ => cols.length - (intOf i).toNat)
  case atStart => exact ⟨0, by omega, rfl, Lib.hid (by simp), Below.refl _ _⟩
  case round =>
    obtain ⟨k, hk, rfl, hall, hb⟩ := hrel
    by_cases hlt : k < cols.length
    · have hlt2 : k < row.length := by have := HL.out; omega
      have hbx := (Below.refl wr.heap.size wr).alloc (Nat.le_refl _) (.cells #[.int .i64 row[k].k, .int .i64 row[k].n, .string row[k].s] 57)
      have hba := hb.trans (hbx.mono hb.size)
      have rv := Row.new wr 57 #[.int .i64 row[k].k, .int .i64 row[k].n, .string row[k].s]
      obtain ⟨b2, off2, rfl, p0, p1, p2⟩ := (hv.below hb).at_ hlt2
      obtain ⟨b, off, -, rfl, q0, q1, q2, q3, q4, q5⟩ := ClR.at_ (h.below ClR.stays hba) hlt
      obtain ⟨⟨d0, d1, d2, d3, d4, d5⟩, -⟩ := (hr.below hba).all6
      obtain ⟨⟨f0, f1, f2⟩, -⟩ := rv.three
      have hsn := all_take nullV (cols.zip row) k (by rw [HZ.out]; exact hlt)
      have hno := fun hf => all_no nullV (cols.zip row) k (by rw [HZ.out]; exact hlt) hf
      have eg : nullV ((cols.zip row)[k]'(by rw [HZ.out]; exact hlt)) = !(cols[k].nn && row[k].k == 0) := by rw [List.getElem_zip]; rfl
      rw [hall.out, Bool.true_and, eg] at hsn
      rw [eg] at hno
      have i0 : (0 : Int) ≤ k := by omega
      have i1 : (k : Int) < cols.length := by omega
      have i2 : (k : Int) < row.length := by have := HL.out; omega
      clear eg
      cases hc : (row[k].k == 0)
      · have HA := Lib.hid (show ((cols.zip row).take (k + 1)).all nullV = true by rw [hsn, hc, Bool.and_false]; rfl)
        clear hsn hno hall
        go_wp2_with fail
        go_roundw
        case rel => exact ⟨k + 1, by omega, by go_num, Lib.hid HA.out, hba⟩
        case measure => simp [intOf]; omega
      cases hd : cols[k].nn
      · have HA := Lib.hid (show ((cols.zip row).take (k + 1)).all nullV = true by rw [hsn, hc, hd]; rfl)
        rw [hd] at q2
        clear hsn hno hall
        go_wp2_with fail
        go_roundw
        case rel => exact ⟨k + 1, by omega, by go_num, Lib.hid HA.out, hba⟩
        case measure => simp [intOf]; omega
      · have HF := Lib.hid (show nullsB cols row = false from hno (by rw [hc, hd]; rfl))
        rw [hd] at q2
        clear hsn hno hall
        go_wp2_with fail
        go_ret
        exact ⟨retB (by rw [HF.out]; rfl), hba⟩
    · have e : (cols.zip row).take k = cols.zip row := List.take_of_length_le (by rw [HZ.out]; omega)
      have h1 := hall.out
      rw [e] at h1
      have HF := Lib.hid (show nullsB cols row = true from h1)
      have i3 : ¬ (k : Int) < row.length := by have := HL.out; omega
      clear e h1 hall
      go_wp2
      go_ret
      exact ⟨retB (by rw [HF.out]; rfl), hb⟩

set_option maxRecDepth 100000 in
set_option maxHeartbeats 1000000 in
theorem implFailsCheck (g : Nat) (AL AR : Option Addr) (nL cL nR cR : Nat) (v0 v1 v2 v3 v5 : Value) (l : List Ck) (row : List Vl) (ok : Nat → Prop) (w : World)
    (hr : Row w g 50 #[v0, v1, v2, v3, .slice AL nL cL, v5]) (h : Sl CkR 1 ok w AL nL l) (hv : Vals w AR nR row) (hs : szL Ck.sz l ≤ 1048576) (hn2 : nR ≤ 1048576) :
    Calls Tryz.prog 63 #[.pointer (some ⟨g, 0, none⟩), .slice AR nR cR] w fun e w' => e = .returned (.bool (!checksB l row)) ∧ Below w.heap.size w w' := by
  obtain rfl : l.length = nL := h.1
  have hn1 : l.length ≤ 1048576 := by unfold szL at hs; omega
  have HSZ := Lib.hid hs
  have HM := Lib.hid (show nR ≤ maxLen by unfold maxLen; omega)
  clear hs
  obtain ⟨⟨x0, x1, x2, x3, x4, x5⟩, -⟩ := hr.all6
  go_enter Tryz.func63, Tryz.ntmps63
  go_wp2
  go_loopw [13] (fun i wr => ∃ k : Nat, k ≤ l.length ∧ i = .int .i64 k ∧ Hid ((l.take k).all (ckV row) = true) ∧ Below w.heap.size w wr) (fun i _ => l.length - (intOf i).toNat)
  case atStart => exact ⟨0, by omega, rfl, Lib.hid (by simp), Below.refl _ _⟩
  case round =>
    obtain ⟨k, hk, rfl, hall, hb⟩ := hrel
    by_cases hlt : k < l.length
    · obtain ⟨b, off, A9, n9, c9, -, rfl, q0, s0, hcp⟩ := CkR.at_ (h.below CkR.stays hb) hlt
      obtain rfl : l[k].expr.length = n9 := s0.1
      have hbx := (Below.refl wr.heap.size wr).alloc (Nat.le_refl _) (.cells #[.slice A9 l[k].expr.length c9] 70)
      have hba := hb.trans (hbx.mono hb.size)
      have s1 := s0.below TkR.stays hbx
      have hv1 := hv.below hba
      have hk9 : l[k].expr.length ≤ 1048576 := by have := HSZ.out; have := sum_mem_le Ck.sz l k hlt; unfold szL at *; simp only [Ck.sz] at *; (try unfold szL at *); (try simp only at *); omega
      have HK9 := Lib.hid (show l[k].expr.length ≤ maxLen by unfold maxLen; omega)
      have hsn := all_take (ckV row) l k hlt
      rw [hall.out, Bool.true_and] at hsn
      have hno := fun hf => all_no (ckV row) l k hlt hf
      have hcall := implTruth A9 AR l[k].expr.length nR c9 cR l[k].expr row _ (Sl.cellz (fun _ => rfl) s1) hv1 HK9.out HM.out
      have HCALL := Lib.hid hcall
      clear hk9 hcall
      by_cases h1 : truthB l[k].expr row = 1
      · have HA := Lib.hid (show (l.take (k + 1)).all (ckV row) = true by rw [hsn]; unfold ckV truOkB; rw [h1]; rfl)
        have H1 := Lib.hid h1
        clear hsn hno hall h1
        go_wp2_with fail
        refine HCALL.out.mono ?_
        rintro e w1 ⟨rfl, hb1⟩
        rw [H1.out]
        clear HCALL
        go_wp2
        go_roundw
        case rel => exact ⟨k + 1, by omega, by go_num, Lib.hid HA.out, hba.trans (hb1.mono hba.size)⟩
        case measure => simp [intOf]; omega
      by_cases h2 : truthB l[k].expr row = 2
      · have HA := Lib.hid (show (l.take (k + 1)).all (ckV row) = true by rw [hsn]; unfold ckV truOkB; rw [h2]; rfl)
        have H1 := Lib.hid h2
        clear hsn hno hall h1 h2
        go_wp2_with fail
        refine HCALL.out.mono ?_
        rintro e w1 ⟨rfl, hb1⟩
        rw [H1.out]
        clear HCALL
        go_wp2
        go_roundw
        case rel => exact ⟨k + 1, by omega, by go_num, Lib.hid HA.out, hba.trans (hb1.mono hba.size)⟩
        case measure => simp [intOf]; omega
      · have HF := Lib.hid (show checksB l row = false from hno (by unfold ckV truOkB; rw [beq_eq_false_iff_ne.2 h1, beq_eq_false_iff_ne.2 h2]; rfl))
        have e1 : (truthB l[k].expr row != 1) = true := by simpa using h1
        have e2 : (truthB l[k].expr row != 2) = true := by simpa using h2
        have e3 : (truthB l[k].expr row != 1 && truthB l[k].expr row != 2) = true := by rw [e1, e2]; rfl
        clear hsn hno hall h1 h2
        generalize truthB l[k].expr row = tr at *
        go_wp2_with fail
        refine HCALL.out.mono ?_
        rintro e w1 ⟨rfl, hb1⟩
        clear HCALL
        go_wp2
        go_ret
        exact ⟨retB (by rw [HF.out]; rfl), hba.trans (hb1.mono hba.size)⟩
    · have e : l.take k = l := List.take_of_length_le (by omega)
      have h1 := hall.out
      rw [e] at h1
      have HF := Lib.hid (show checksB l row = true from h1)
      clear e h1 hall
      go_wp2
      go_ret
      exact ⟨retB (by rw [HF.out]; rfl), hb⟩
end Go.Proofs.YtakhcgkhjmfndaaGreat
