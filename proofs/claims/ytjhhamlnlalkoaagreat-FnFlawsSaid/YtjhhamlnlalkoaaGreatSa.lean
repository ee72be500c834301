/-
  Several texts in one: what the proof leans on, part 1.
-/
import Derived.Test.YtjhhamlnlalkoaaGreatPa
import Derived.Test.YtjhhamlnlalkoaaGreatPb
import Derived.Test.YtjhhamlnlalkoaaGreatPc
import Derived.Test.YtjhhamlnlalkoaaGreatPd
import Derived.Test.YtjhhamlnlalkoaaGreatPe
import Derived.Test.YtjhhamlnlalkoaaGreatPf
import Derived.Test.YtjhhamlnlalkoaaGreatPg
import Derived.Test.YtjhhamlnlalkoaaGreatPh
import Derived.Test.YtjhhamlnlalkoaaGreatPi
import Derived.Test.YtjhhamlnlalkoaaGreatQa
import Derived.Test.YtjhhamlnlalkoaaGreatQb
set_option linter.unusedVariables false
set_option linter.unusedSimpArgs false
namespace Go.Proofs.YtjhhamlnlalkoaaGreat
open Go.RowKit Go.Maps
def rowOkB (t : Tb) (row : List Vl) : Bool := tableB t && (kindsB t.cols row && (nullsB t.cols row && checksB t.checks row))
set_option maxRecDepth 100000 in
set_option maxHeartbeats 1000000 in
theorem implFits (g : Nat) (A1 AR : Option Addr) (n1 c1 nR cR : Nat) (v0 v2 v3 v4 v5 : Value) (cols : List Cl) (row : List Vl) (ok : Nat → Prop) (w : World)
  (hr : Row w g 45 #[v0, .slice A1 n1 c1, v2, v3, v4, v5]) (h : Sl ClR 6 ok w A1 n1 cols) (hv : Vals w AR nR row) (hn1 : n1 ≤ 1048576) (hn2 : nR ≤ 1048576) :
  Calls Tryz.prog 52 #[.pointer (some ⟨g, 0, none⟩), .slice AR nR cR] w fun e w' => e = .returned (.bool (kindsB cols row)) ∧ Below w.heap.size w w' := by
 obtain rfl : cols.length = n1 := h.1
 obtain rfl : row.length = nR := hv.len
 obtain ⟨⟨x0, x1, x2, x3, x4, x5⟩, -⟩ := hr.all6
 cases hl : (row.length == cols.length)
 ·have hl' : ¬ ((row.length : Int) = cols.length) := by have := beq_eq_false_iff_ne.1 hl; omega
  have HF := Lib.hid (show kindsB cols row = false by unfold kindsB; rw [decide_eq_false (beq_eq_false_iff_ne.1 hl)]; rfl)
  clear hl
  go_enter Tryz.func52, Tryz.ntmps52
  go_wp2
  go_ret
  exact ⟨retB HF.out.symm, Below.refl _ _⟩
 have hlen : row.length = cols.length := by simpa using hl
 have hl' : (row.length : Int) = cols.length := by omega
 have hz : (cols.zip row).length = cols.length := by simp [hlen]
 have HZ := Lib.hid hz
 have HL := Lib.hid hlen
 have HE := Lib.hid (show kindsB cols row = fitAll cols row by unfold kindsB; rw [decide_eq_true hlen]; rfl)
 clear hl hz hlen
 go_enter Tryz.func52, Tryz.ntmps52
 go_wp2
 go_loopw [17] (fun i wr => ∃ k : Nat, k ≤ cols.length ∧ i = .int .i64 k ∧ Hid (((cols.zip row).take k).all fitV = true) ∧ Below w.heap.size w wr) (fun i _ => cols.length - (intOf i).toNat)
 case atStart => exact ⟨0, by omega, rfl, Lib.hid (by simp), Below.refl _ _⟩
 case round =>
  obtain ⟨k, hk, rfl, hall, hb⟩ := hrel
  by_cases hlt : k < cols.length
  ·have hlt2 : k < row.length := by have := HL.out; omega
   have hbx := (Below.refl wr.heap.size wr).alloc (Nat.le_refl _) (.cells #[.int .i64 row[k].k, .int .i64 row[k].n, .string row[k].s] 53)
   have hba := hb.trans (hbx.mono hb.size)
   have rv := Row.new wr 53 #[.int .i64 row[k].k, .int .i64 row[k].n, .string row[k].s]
   obtain ⟨b2, off2, rfl, p0, p1, p2⟩ := (hv.below hb).at_ hlt2
   obtain ⟨b, off, -, rfl, q0, q1, q2, q3, q4, q5⟩ := ClR.at_ (h.below ClR.stays hba) hlt
   obtain ⟨⟨d0, d1, d2, d3, d4, d5⟩, -⟩ := (hr.below hba).all6
   obtain ⟨⟨f0, f1, f2⟩, -⟩ := rv.three
   have hsn := all_take fitV (cols.zip row) k (by rw [HZ.out]; exact hlt)
   have hno := fun hf => all_no fitV (cols.zip row) k (by rw [HZ.out]; exact hlt) hf
   have eg : fitV ((cols.zip row)[k]'(by rw [HZ.out]; exact hlt)) = fitsB cols[k].kind row[k] := by rw [List.getElem_zip]; rfl
   rw [hall.out, Bool.true_and, eg] at hsn
   rw [eg] at hno
   have i0 : (0 : Int) ≤ k := by omega
   have i1 : (k : Int) < cols.length := by omega
   have i2 : (k : Int) < row.length := by have := HL.out; omega
   clear eg
   cases hc : fitsB cols[k].kind row[k]
   ·have HC := Lib.hid hc
    have HF := Lib.hid (show kindsB cols row = false by rw [HE.out]; exact hno hc)
    clear hsn hno hc hall
    go_wp2_with fail
    go_region_held3 (fun w' => w'.cell? ⟨g, 1, none⟩ = some (.slice (some ⟨b, off, none⟩) cols.length c1) ∧ w'.cell? ⟨b, off + k * 6 + 1, none⟩ = some (.int .i64 cols[k].kind) ∧ w'.cell? ⟨wr.heap.size, 0, none⟩ = some (.int .i64 row[k].k) ∧ w'.cell? ⟨wr.heap.size, 1, none⟩ = some (.int .i64 row[k].n) ∧ w'.cell? ⟨wr.heap.size, 2, none⟩ = some (.string row[k].s))
     (first | go_keep | exact keepF (by assumption) hb1)
     (first | (go_at_call 91; refine (implValFits cols[k].kind row[k] _).mono ?_; rintro e w1 ⟨rfl, hb1⟩; rw [HC.out]))
    all_goals
     go_wp2
     go_ret
     exact ⟨retB HF.out.symm, hba.drew.trans (hb1.mono hba.size)⟩
   ·have HC := Lib.hid hc
    have HA := Lib.hid (hsn.trans hc)
    clear hsn hno hc hall
    go_wp2_with fail
    go_region_held3 (fun w' => w'.cell? ⟨g, 1, none⟩ = some (.slice (some ⟨b, off, none⟩) cols.length c1) ∧ w'.cell? ⟨b, off + k * 6 + 1, none⟩ = some (.int .i64 cols[k].kind) ∧ w'.cell? ⟨wr.heap.size, 0, none⟩ = some (.int .i64 row[k].k) ∧ w'.cell? ⟨wr.heap.size, 1, none⟩ = some (.int .i64 row[k].n) ∧ w'.cell? ⟨wr.heap.size, 2, none⟩ = some (.string row[k].s))
     (first | go_keep | exact keepF (by assumption) hb1)
     (first | (go_at_call 91; refine (implValFits cols[k].kind row[k] _).mono ?_; rintro e w1 ⟨rfl, hb1⟩; rw [HC.out]))
    all_goals
     go_wp2
     go_roundw
     case rel => exact ⟨k + 1, by omega, by go_num, Lib.hid HA.out, hba.drew.trans (hb1.mono hba.size)⟩
     case measure => simp [intOf]; omega
  ·have e : (cols.zip row).take k = cols.zip row := List.take_of_length_le (by rw [HZ.out]; omega)
   have h1 := hall.out
   rw [e] at h1
   have HF := Lib.hid (show kindsB cols row = true by rw [HE.out]; exact h1)
   clear e h1 hall
   go_wp2
   go_ret
   exact ⟨retB HF.out.symm, hb⟩
set_option maxRecDepth 100000 in
set_option maxHeartbeats 1000000 in
theorem implWrongNull (g : Nat) (A1 AR : Option Addr) (n1 c1 nR cR : Nat) (v0 v2 v3 v4 v5 : Value) (cols : List Cl) (row : List Vl) (ok : Nat → Prop) (w : World)
  (hr : Row w g 45 #[v0, .slice A1 n1 c1, v2, v3, v4, v5]) (h : Sl ClR 6 ok w A1 n1 cols) (hv : Vals w AR nR row) (hn1 : n1 ≤ 1048576) (hn2 : nR ≤ 1048576) (hlen : row.length = cols.length) :
  Calls Tryz.prog 53 #[.pointer (some ⟨g, 0, none⟩), .slice AR nR cR] w fun e w' => e = .returned (.bool (!nullsB cols row)) ∧ Below w.heap.size w w' := by
 obtain rfl : cols.length = n1 := h.1
 obtain rfl : row.length = nR := hv.len
 have hz : (cols.zip row).length = cols.length := by simp [hlen]
 have HZ := Lib.hid hz
 have HL := Lib.hid hlen
 clear hz hlen
 go_enter Tryz.func53, Tryz.ntmps53
 go_wp2
 go_loopw [9] (fun i wr => ∃ k : Nat, k ≤ cols.length ∧ i = .int .i64 k ∧ Hid (((cols.zip row).take k).all nullV = true) ∧ Below w.heap.size w wr) (fun i _ => cols.length - (intOf i).toNat)
 case atStart => exact ⟨0, by omega, rfl, Lib.hid (by simp), Below.refl _ _⟩
 case round =>
  obtain ⟨k, hk, rfl, hall, hb⟩ := hrel
  by_cases hlt : k < cols.length
  ·have hlt2 : k < row.length := by have := HL.out; omega
   have hbx := (Below.refl wr.heap.size wr).alloc (Nat.le_refl _) (.cells #[.int .i64 row[k].k, .int .i64 row[k].n, .string row[k].s] 53)
   have hba := hb.trans (hbx.mono hb.size)
   have rv := Row.new wr 53 #[.int .i64 row[k].k, .int .i64 row[k].n, .string row[k].s]
   obtain ⟨b2, off2, rfl, p0, p1, p2⟩ := (hv.below hb).at_ hlt2
   obtain ⟨b, off, -, rfl, q0, q1, q2, q3, q4, q5⟩ := ClR.at_ (h.below ClR.stays hba) hlt
   obtain ⟨⟨d0, d1, d2, d3, d4, d5⟩, -⟩ := (hr.below hba).all6
   obtain ⟨⟨f0, f1, f2⟩, -⟩ := rv.three
   have hsn := all_take nullV (cols.zip row) k (by rw [HZ.out]; exact hlt)
   have hno := fun hf => all_no nullV (cols.zip row) k (by rw [HZ.out]; exact hlt) hf
   have eg : nullV ((cols.zip row)[k]'(by rw [HZ.out]; exact hlt)) = !(cols[k].nn && row[k].k == 0) := by rw [List.getElem_zip]; rfl
   rw [hall.out, Bool.true_and, eg] at hsn
   rw [eg] at hno
   have i0 : (0 : Int) ≤ k := by omega
   have i1 : (k : Int) < cols.length := by omega
   have i2 : (k : Int) < row.length := by have := HL.out; omega
   clear eg
   cases hc : (row[k].k == 0)
   ·have HA := Lib.hid (show ((cols.zip row).take (k + 1)).all nullV = true by rw [hsn, hc, Bool.and_false]; rfl)
    clear hsn hno hall
    go_wp2_with fail
    go_roundw
    case rel => exact ⟨k + 1, by omega, by go_num, Lib.hid HA.out, hba⟩
    case measure => simp [intOf]; omega
   cases hd : cols[k].nn
   ·have HA := Lib.hid (show ((cols.zip row).take (k + 1)).all nullV = true by rw [hsn, hc, hd]; rfl)
    rw [hd] at q2
    clear hsn hno hall
    go_wp2_with fail
    go_roundw
    case rel => exact ⟨k + 1, by omega, by go_num, Lib.hid HA.out, hba⟩
    case measure => simp [intOf]; omega
   ·have HF := Lib.hid (show nullsB cols row = false from hno (by rw [hc, hd]; rfl))
    rw [hd] at q2
    clear hsn hno hall
    go_wp2_with fail
    go_ret
    exact ⟨retB (by rw [HF.out]; rfl), hba⟩
  ·have e : (cols.zip row).take k = cols.zip row := List.take_of_length_le (by rw [HZ.out]; omega)
   have h1 := hall.out
   rw [e] at h1
   have HF := Lib.hid (show nullsB cols row = true from h1)
   have i3 : ¬ (k : Int) < row.length := by have := HL.out; omega
   clear e h1 hall
   go_wp2
   go_ret
   exact ⟨retB (by rw [HF.out]; rfl), hb⟩
set_option maxRecDepth 100000 in
set_option maxHeartbeats 1000000 in
theorem implFailsCheck (g : Nat) (AL AR : Option Addr) (nL cL nR cR : Nat) (v0 v1 v2 v3 v5 : Value) (l : List Ck) (row : List Vl) (ok : Nat → Prop) (w : World)
  (hr : Row w g 45 #[v0, v1, v2, v3, .slice AL nL cL, v5]) (h : Sl CkR 1 ok w AL nL l) (hv : Vals w AR nR row) (hs : szL Ck.sz l ≤ 1048576) (hn2 : nR ≤ 1048576) :
  Calls Tryz.prog 54 #[.pointer (some ⟨g, 0, none⟩), .slice AR nR cR] w fun e w' => e = .returned (.bool (!checksB l row)) ∧ Below w.heap.size w w' := by
 obtain rfl : l.length = nL := h.1
 have hn1 : l.length ≤ 1048576 := by unfold szL at hs; omega
 have HSZ := Lib.hid hs
 have HM := Lib.hid (show nR ≤ maxLen by unfold maxLen; omega)
 clear hs
 obtain ⟨⟨x0, x1, x2, x3, x4, x5⟩, -⟩ := hr.all6
 go_enter Tryz.func54, Tryz.ntmps54
 go_wp2
 go_loopw [13] (fun i wr => ∃ k : Nat, k ≤ l.length ∧ i = .int .i64 k ∧ Hid ((l.take k).all (ckV row) = true) ∧ Below w.heap.size w wr) (fun i _ => l.length - (intOf i).toNat)
 case atStart => exact ⟨0, by omega, rfl, Lib.hid (by simp), Below.refl _ _⟩
 case round =>
  obtain ⟨k, hk, rfl, hall, hb⟩ := hrel
  by_cases hlt : k < l.length
  ·obtain ⟨b, off, A9, n9, c9, -, rfl, q0, s0, hcp⟩ := CkR.at_ (h.below CkR.stays hb) hlt
   obtain rfl : l[k].expr.length = n9 := s0.1
   have hbx := (Below.refl wr.heap.size wr).alloc (Nat.le_refl _) (.cells #[.slice A9 l[k].expr.length c9] 59)
   have hba := hb.trans (hbx.mono hb.size)
   have s1 := s0.below TkR.stays hbx
   have hv1 := hv.below hba
   have hk9 : l[k].expr.length ≤ 1048576 := by have := HSZ.out; have := sum_mem_le Ck.sz l k hlt; unfold szL at *; simp only [Ck.sz] at *; (try unfold szL at *); (try simp only at *); omega
   have HK9 := Lib.hid (show l[k].expr.length ≤ maxLen by unfold maxLen; omega)
   have hsn := all_take (ckV row) l k hlt
   rw [hall.out, Bool.true_and] at hsn
   have hno := fun hf => all_no (ckV row) l k hlt hf
   have hcall := implTruth A9 AR l[k].expr.length nR c9 cR l[k].expr row _ (Sl.cellz (fun _ => rfl) s1) hv1 HK9.out HM.out
   have HCALL := Lib.hid hcall
   clear hk9 hcall
   by_cases h1 : truthB l[k].expr row = 1
   ·have HA := Lib.hid (show (l.take (k + 1)).all (ckV row) = true by rw [hsn]; unfold ckV truOkB; rw [h1]; rfl)
    have H1 := Lib.hid h1
    clear hsn hno hall h1
    go_wp2_with fail
    refine HCALL.out.mono ?_
    rintro e w1 ⟨rfl, hb1⟩
    rw [H1.out]
    clear HCALL
    go_wp2
    go_roundw
    case rel => exact ⟨k + 1, by omega, by go_num, Lib.hid HA.out, hba.trans (hb1.mono hba.size)⟩
    case measure => simp [intOf]; omega
   by_cases h2 : truthB l[k].expr row = 2
   ·have HA := Lib.hid (show (l.take (k + 1)).all (ckV row) = true by rw [hsn]; unfold ckV truOkB; rw [h2]; rfl)
    have H1 := Lib.hid h2
    clear hsn hno hall h1 h2
    go_wp2_with fail
    refine HCALL.out.mono ?_
    rintro e w1 ⟨rfl, hb1⟩
    rw [H1.out]
    clear HCALL
    go_wp2
    go_roundw
    case rel => exact ⟨k + 1, by omega, by go_num, Lib.hid HA.out, hba.trans (hb1.mono hba.size)⟩
    case measure => simp [intOf]; omega
   ·have HF := Lib.hid (show checksB l row = false from hno (by unfold ckV truOkB; rw [beq_eq_false_iff_ne.2 h1, beq_eq_false_iff_ne.2 h2]; rfl))
    have e1 : (truthB l[k].expr row != 1) = true := by simpa using h1
    have e2 : (truthB l[k].expr row != 2) = true := by simpa using h2
    have e3 : (truthB l[k].expr row != 1 && truthB l[k].expr row != 2) = true := by rw [e1, e2]; rfl
    clear hsn hno hall h1 h2
    generalize truthB l[k].expr row = tr at *
    go_wp2_with fail
    refine HCALL.out.mono ?_
    rintro e w1 ⟨rfl, hb1⟩
    clear HCALL
    go_wp2
    go_ret
    exact ⟨retB (by rw [HF.out]; rfl), hba.trans (hb1.mono hba.size)⟩
  ·have e : l.take k = l := List.take_of_length_le (by omega)
   have h1 := hall.out
   rw [e] at h1
   have HF := Lib.hid (show checksB l row = true from h1)
   clear e h1 hall
   go_wp2
   go_ret
   exact ⟨retB (by rw [HF.out]; rfl), hb⟩
set_option maxRecDepth 100000 in
set_option maxHeartbeats 1000000 in
theorem implRowOk (x : Tb) (A1 : Option Addr) (n1 c1 : Nat) (A2 : Option Addr) (n2 c2 : Nat) (A3 : Option Addr) (n3 c3 : Nat) (A4 : Option Addr) (n4 c4 : Nat) (A5 : Option Addr) (n5 c5 : Nat) (AR : Option Addr) (nR cR : Nat) (row : List Vl) (ok : Nat → Prop) (w : World)
  (h1 : Sl ClR 6 ok w A1 n1 x.cols) (h2 : Sl IntR 1 ok w A2 n2 x.key) (h3 : Sl UqR 1 ok w A3 n3 x.uniqs) (h4 : Sl CkR 1 ok w A4 n4 x.checks) (h5 : Sl FkR 5 ok w A5 n5 x.fks) (hv : Vals w AR nR row) (hs : x.sz ≤ 1048576) (hn2 : nR ≤ 1048576) :
  Calls Tryz.prog 25 #[.agg #[.string x.name, .slice A1 n1 c1, .slice A2 n2 c2, .slice A3 n3 c3, .slice A4 n4 c4, .slice A5 n5 c5], .slice AR nR cR] w fun e w' => e = .returned (.bool (rowOkB x row)) ∧ Below w.heap.size w w' := by
 have HS1 := Lib.hid (show n1 ≤ 1048576 by have := h1.1; unfold Tb.sz szL at hs; omega)
 have HS4 := Lib.hid (show szL Ck.sz x.checks ≤ 1048576 by unfold Tb.sz at hs; omega)
 have HN2 := Lib.hid hn2
 have hb0 := (Below.refl w.heap.size w).alloc (Nat.le_refl _) (.cells #[.string x.name, .slice A1 n1 c1, .slice A2 n2 c2, .slice A3 n3 c3, .slice A4 n4 c4, .slice A5 n5 c5] 45)
 have r0 := Row.new w 45 #[.string x.name, .slice A1 n1 c1, .slice A2 n2 c2, .slice A3 n3 c3, .slice A4 n4 c4, .slice A5 n5 c5]
 have HCT := Lib.hid (implTableOk x A1 n1 c1 A2 n2 c2 A3 n3 c3 A4 n4 c4 A5 n5 c5 ok _ (h1.below ClR.stays hb0) (h2.below IntR.stays hb0) (h3.below UqR.stays hb0) (h4.below CkR.stays hb0) (h5.below FkR.stays hb0) hs)
 clear hs hn2
 cases hT : tableB x
 ·have HF := Lib.hid (show rowOkB x row = false by unfold rowOkB; rw [hT]; rfl)
  have HT := Lib.hid hT
  clear hT
  go_enter Tryz.func25, Tryz.ntmps25
  go_wp2_with fail
  refine HCT.out.mono ?_
  rintro e w1 ⟨rfl, hq1⟩
  rw [HT.out]
  clear HCT
  go_wp2_with fail
  go_ret
  exact ⟨retB HF.out.symm, hb0.trans (hq1.mono hb0.size)⟩
 have HT := Lib.hid hT
 cases hK : kindsB x.cols row
 ·have HF := Lib.hid (show rowOkB x row = false by unfold rowOkB; rw [hT, hK]; rfl)
  have HK := Lib.hid hK
  clear hT hK
  go_enter Tryz.func25, Tryz.ntmps25
  go_wp2_with fail
  refine HCT.out.mono ?_
  rintro e w1 ⟨rfl, hq1⟩
  have hb1 := hb0.trans (hq1.mono hb0.size)
  have r1 := r0.below hq1
  rw [HT.out]
  clear HCT
  go_wp2_with fail
  refine (implFits _ A1 AR n1 c1 nR cR _ _ _ _ _ x.cols row ok _ r1 (h1.below ClR.stays hb1) (hv.below hb1) HS1.out HN2.out).mono ?_
  rintro e w2 ⟨rfl, hq2⟩
  rw [HK.out]
  go_wp2_with fail
  go_ret
  exact ⟨retB HF.out.symm, hb1.trans (hq2.mono hb1.size)⟩
 have HK := Lib.hid hK
 have HLEN := Lib.hid (show row.length = x.cols.length by unfold kindsB at hK; simp only [Bool.and_eq_true, decide_eq_true_eq] at hK; exact hK.1)
 cases hU : nullsB x.cols row
 ·have HF := Lib.hid (show rowOkB x row = false by unfold rowOkB; rw [hT, hK, hU]; rfl)
  have HU := Lib.hid hU
  clear hT hK hU
  go_enter Tryz.func25, Tryz.ntmps25
  go_wp2_with fail
  refine HCT.out.mono ?_
  rintro e w1 ⟨rfl, hq1⟩
  have hb1 := hb0.trans (hq1.mono hb0.size)
  have r1 := r0.below hq1
  rw [HT.out]
  clear HCT
  go_wp2_with fail
  refine (implFits _ A1 AR n1 c1 nR cR _ _ _ _ _ x.cols row ok _ r1 (h1.below ClR.stays hb1) (hv.below hb1) HS1.out HN2.out).mono ?_
  rintro e w2 ⟨rfl, hq2⟩
  have hb2 := hb1.trans (hq2.mono hb1.size)
  have r2 := r1.below hq2
  rw [HK.out]
  go_wp2_with fail
  refine (implWrongNull _ A1 AR n1 c1 nR cR _ _ _ _ _ x.cols row ok _ r2 (h1.below ClR.stays hb2) (hv.below hb2) HS1.out HN2.out HLEN.out).mono ?_
  rintro e w3 ⟨rfl, hq3⟩
  rw [HU.out]
  go_wp2_with fail
  go_ret
  exact ⟨retB HF.out.symm, hb2.trans (hq3.mono hb2.size)⟩
 have HU := Lib.hid hU
 have HF := Lib.hid (show rowOkB x row = checksB x.checks row by unfold rowOkB; rw [hT, hK, hU]; rfl)
 clear hT hK hU
 go_enter Tryz.func25, Tryz.ntmps25
 go_wp2_with fail
 refine HCT.out.mono ?_
 rintro e w1 ⟨rfl, hq1⟩
 have hb1 := hb0.trans (hq1.mono hb0.size)
 have r1 := r0.below hq1
 rw [HT.out]
 clear HCT
 go_wp2_with fail
 refine (implFits _ A1 AR n1 c1 nR cR _ _ _ _ _ x.cols row ok _ r1 (h1.below ClR.stays hb1) (hv.below hb1) HS1.out HN2.out).mono ?_
 rintro e w2 ⟨rfl, hq2⟩
 have hb2 := hb1.trans (hq2.mono hb1.size)
 have r2 := r1.below hq2
 rw [HK.out]
 go_wp2_with fail
 refine (implWrongNull _ A1 AR n1 c1 nR cR _ _ _ _ _ x.cols row ok _ r2 (h1.below ClR.stays hb2) (hv.below hb2) HS1.out HN2.out HLEN.out).mono ?_
 rintro e w3 ⟨rfl, hq3⟩
 have hb3 := hb2.trans (hq3.mono hb2.size)
 have r3 := r2.below hq3
 rw [HU.out]
 go_wp2_with fail
 refine (implFailsCheck _ A4 AR n4 c4 nR cR _ _ _ _ _ x.checks row ok _ r3 (h4.below CkR.stays hb3) (hv.below hb3) HS4.out HN2.out).mono ?_
 rintro e w4 ⟨rfl, hq4⟩
 go_wp2_with fail
 go_ret
 exact ⟨retB (by rw [HF.out]), hb3.trans (hq4.mono hb3.size)⟩
end Go.Proofs.YtjhhamlnlalkoaaGreat
