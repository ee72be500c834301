/-
  Databases: which are right, in the program.
-/
import Derived.Test.YtfhiknndflahgaaGreatRowImpl
import Derived.Test.YtfhiknndflahgaaGreatSchemaImpl2
namespace Go.Proofs.YtfhiknndflahgaaGreat
open Go.RowKit Go.Maps
set_option linter.unusedVariables false
set_option linter.unusedSimpArgs false

set_option maxRecDepth 100000 in
set_option maxHeartbeats 1000000 in
theorem implFitsAt (g o : Nat) (A1 AR : Option Addr) (n1 c1 nR cR : Nat) (cols : List Cl) (row : List Vl) (ok : Nat → Prop) (w : World)
    (x1 : w.cell? ⟨g, o + 1, none⟩ = some (.slice A1 n1 c1)) (h : Sl ClR 6 ok w A1 n1 cols) (hv : Vals w AR nR row) (hn1 : n1 ≤ 1048576) (hn2 : nR ≤ 1048576) :
    Calls Tryz.prog 84 #[.pointer (some ⟨g, o, none⟩), .slice AR nR cR] w fun e w' => e = .returned (.bool (kindsB cols row)) ∧ Below w.heap.size w w' := by
  obtain rfl : cols.length = n1 := h.1
  obtain rfl : row.length = nR := hv.len
  cases hl : (row.length == cols.length)
  · have hl' : ¬ ((row.length : Int) = cols.length) := by have := beq_eq_false_iff_ne.1 hl; omega
    have HF := Lib.hid (show kindsB cols row = false by unfold kindsB; rw [decide_eq_false (beq_eq_false_iff_ne.1 hl)]; rfl)
    clear hl
    go_enter Tryz.func84, Tryz.ntmps84
    go_wp2
    go_ret
    exact ⟨retB HF.out.symm, Below.refl _ _⟩
  have hlen : row.length = cols.length := by simpa using hl
  have hl' : (row.length : Int) = cols.length := by omega
  have hz : (cols.zip row).length = cols.length := by simp [hlen]
  have HZ := Lib.hid hz
  have HL := Lib.hid hlen
  have HE := Lib.hid (show kindsB cols row = fitAll cols row by unfold kindsB; rw [decide_eq_true hlen]; rfl)
  clear hl hz hlen
  go_enter Tryz.func84, Tryz.ntmps84
  go_wp2
  go_loopw [17] (fun i wr => ∃ k : Nat, k ≤ cols.length ∧ i = .int .i64 k ∧ Hid (((cols.zip row).take k).all fitV = true) ∧ Below w.heap.size w wr) (fun i _ => cols.length - (intOf i).toNat)
  case atStart => exact ⟨0, by omega, rfl, Lib.hid (by simp), Below.refl _ _⟩
  case round =>
    obtain ⟨k, hk, rfl, hall, hb⟩ := hrel
    by_cases hlt : k < cols.length
    · have hlt2 : k < row.length := by have := HL.out; omega
      have hbx := (Below.refl wr.heap.size wr).alloc (Nat.le_refl _) (.cells #[.int .i64 row[k].k, .int .i64 row[k].n, .string row[k].s] 101)
      have hba := hb.trans (hbx.mono hb.size)
      have rv := Row.new wr 101 #[.int .i64 row[k].k, .int .i64 row[k].n, .string row[k].s]
      obtain ⟨b2, off2, rfl, p0, p1, p2⟩ := (hv.below hb).at_ hlt2
      obtain ⟨b, off, -, rfl, q0, q1, q2, q3, q4, q5⟩ := ClR.at_ (h.below ClR.stays hba) hlt
      have d1 := (hba.cell (cell_lt x1)).trans x1
      obtain ⟨⟨f0, f1, f2⟩, -⟩ := rv.three
      have hsn := all_take fitV (cols.zip row) k (by rw [HZ.out]; exact hlt)
      have hno := fun hf => all_no fitV (cols.zip row) k (by rw [HZ.out]; exact hlt) hf
      have eg : fitV ((cols.zip row)[k]'(by rw [HZ.out]; exact hlt)) = fitsB cols[k].kind row[k] := by rw [List.getElem_zip]; rfl
      rw [hall.out, Bool.true_and, eg] at hsn
      rw [eg] at hno
      have i0 : (0 : Int) ≤ k := by omega
      have i1 : (k : Int) < cols.length := by omega
      have i2 : (k : Int) < row.length := by have := HL.out; omega
      clear eg
      cases hc : fitsB cols[k].kind row[k]
      · have HC := Lib.hid hc
        have HF := Lib.hid (show kindsB cols row = false by rw [HE.out]; exact hno hc)
        clear hsn hno hc hall
        go_wp2_with fail
        go_region_held3 (fun w' => w'.cell? ⟨g, o + 1, none⟩ = some (.slice (some ⟨b, off, none⟩) cols.length c1) ∧ w'.cell? ⟨b, off + k * 6 + 1, none⟩ = some (.int .i64 cols[k].kind) ∧ w'.cell? ⟨wr.heap.size, 0, none⟩ = some (.int .i64 row[k].k) ∧ w'.cell? ⟨wr.heap.size, 1, none⟩ = some (.int .i64 row[k].n) ∧ w'.cell? ⟨wr.heap.size, 2, none⟩ = some (.string row[k].s))
          (first | go_keep | exact keepF (by assumption) hb1)
          (first | (go_at_call 125; refine (implValFits cols[k].kind row[k] _).mono ?_; rintro e w1 ⟨rfl, hb1⟩; rw [HC.out]))
        all_goals
          go_wp2
          go_ret
          exact ⟨retB HF.out.symm, hba.drew.trans (hb1.mono hba.size)⟩
      · have HC := Lib.hid hc
        have HA := Lib.hid (hsn.trans hc)
        clear hsn hno hc hall
        go_wp2_with fail
        go_region_held3 (fun w' => w'.cell? ⟨g, o + 1, none⟩ = some (.slice (some ⟨b, off, none⟩) cols.length c1) ∧ w'.cell? ⟨b, off + k * 6 + 1, none⟩ = some (.int .i64 cols[k].kind) ∧ w'.cell? ⟨wr.heap.size, 0, none⟩ = some (.int .i64 row[k].k) ∧ w'.cell? ⟨wr.heap.size, 1, none⟩ = some (.int .i64 row[k].n) ∧ w'.cell? ⟨wr.heap.size, 2, none⟩ = some (.string row[k].s))
          (first | go_keep | exact keepF (by assumption) hb1)
          (first | (go_at_call 125; refine (implValFits cols[k].kind row[k] _).mono ?_; rintro e w1 ⟨rfl, hb1⟩; rw [HC.out]))
        all_goals
          go_wp2
          go_roundw
          case rel => exact ⟨k + 1, by omega, by go_num, Lib.hid HA.out, hba.drew.trans (hb1.mono hba.size)⟩
          case measure => simp [intOf]; omega
    · have e : (cols.zip row).take k = cols.zip row := List.take_of_length_le (by rw [HZ.out]; omega)
      have h1 := hall.out
      rw [e] at h1
      have HF := Lib.hid (show kindsB cols row = true by rw [HE.out]; exact h1)
      clear e h1 hall
      go_wp2
      go_ret
      exact ⟨retB HF.out.symm, hb⟩


def idsGo (cols : List Cl) : Int → List Rw → Bool
  | _, [] => true
  | last, r :: rs => decide (last < r.id) && (decide (r.id ≤ 1000000000) && (kindsB cols r.vals && idsGo cols r.id rs))
def dataB (cols : List Cl) (l : List Rw) : Bool := decide (l.length ≤ 60) && idsGo cols 0 l
def dbV (p : Tb × Dt) : Bool := dataB p.1.cols p.2.rows
def dbB (s : List Tb) (db : List Dt) : Bool := schemaB s && (decide (db.length = s.length) && (s.zip db).all dbV)
theorem idsGo_at (cols : List Cl) (last : Int) (l : List Rw) (k : Nat) (h : k < l.length) : idsGo cols last (l.drop k) = (decide (last < l[k].id) && (decide (l[k].id ≤ 1000000000) && (kindsB cols l[k].vals && idsGo cols l[k].id (l.drop (k + 1))))) := by
  rw [List.drop_eq_getElem_cons h]; rfl

set_option maxRecDepth 100000 in
set_option maxHeartbeats 1000000 in
theorem implDataOk (g o gd od : Nat) (A1 AL : Option Addr) (n1 c1 nL cL : Nat) (cols : List Cl) (l : List Rw) (ok : Nat → Prop) (w : World)
    (x1 : w.cell? ⟨g, o + 1, none⟩ = some (.slice A1 n1 c1)) (y0 : w.cell? ⟨gd, od, none⟩ = some (.slice AL nL cL)) (h : Sl ClR 6 ok w A1 n1 cols) (hl : Sl RwR 2 ok w AL nL l) (hn1 : n1 ≤ 1048576) (hvs : ∀ r ∈ l, r.vals.length ≤ 1048576) (hnL : nL ≤ 1048576) :
    Calls Tryz.prog 98 #[.pointer (some ⟨g, o, none⟩), .pointer (some ⟨gd, od, none⟩)] w fun e w' => e = .returned (.bool (dataB cols l)) ∧ Below w.heap.size w w' := by
  obtain rfl : l.length = nL := hl.1
  have HVS := Lib.hid hvs
  clear hvs
  by_cases hbig : 60 < (l.length : Int)
  · have HF := Lib.hid (show dataB cols l = false by unfold dataB; rw [decide_eq_false (by omega)]; rfl)
    go_enter Tryz.func98, Tryz.ntmps98
    go_wp2
    go_ret
    exact ⟨retB HF.out.symm, Below.refl _ _⟩
  have hbig' : decide (60 < (l.length : Int)) = false := by simpa using hbig
  have HE := Lib.hid (show dataB cols l = idsGo cols 0 l by unfold dataB; rw [decide_eq_true (by omega)]; rfl)
  go_enter Tryz.func98, Tryz.ntmps98
  go_wp2_with fail
  go_loopw [5, 19] (fun m i wr => ∃ (k : Nat) (last : Int), k ≤ l.length ∧ i = .int .i64 k ∧ m = .int .i64 last ∧ Hid (idsGo cols 0 l = idsGo cols last (l.drop k)) ∧ Below w.heap.size w wr) (fun _ i _ => l.length - (intOf i).toNat)
  case atStart => exact ⟨0, 0, by omega, rfl, rfl, Lib.hid (by simp), Below.refl _ _⟩
  case round =>
    obtain ⟨k, last, hk, rfl, rfl, hgo, hb⟩ := hrel
    by_cases hlt : k < l.length
    · have d1 := (hb.cell (cell_lt x1)).trans x1
      have e0 := (hb.cell (cell_lt y0)).trans y0
      obtain ⟨b, off, A9, n9, c9, -, ea, q0, q1, hvl, -⟩ := RwR.at_ (hl.below RwR.stays hb) hlt
      rw [ea] at e0
      obtain rfl : l[k].vals.length = n9 := hvl.1
      have HN9 := Lib.hid (HVS.out _ (List.getElem_mem hlt))
      have hst := idsGo_at cols last l k hlt
      rw [← hgo.out, ← HE.out] at hst
      have hst0 := HE.out
      have i0 : (0 : Int) ≤ k := by omega
      have i1 : (k : Int) < l.length := by omega
      clear ea hgo
      by_cases h1 : l[k].id ≤ last
      · have HF := Lib.hid (show dataB cols l = false by rw [hst, decide_eq_false (by omega)]; rfl)
        have h1' : decide (l[k].id ≤ last) = true := decide_eq_true h1
        clear hst hst0
        go_wp2_with fail
        go_ret
        exact ⟨retB HF.out.symm, hb⟩
      have h1' : decide (l[k].id ≤ last) = false := decide_eq_false h1
      by_cases h2 : 1000000000 < l[k].id
      · have HF := Lib.hid (show dataB cols l = false by rw [hst, decide_eq_false (p := l[k].id ≤ 1000000000) (by omega)]; simp)
        have h2' : decide (1000000000 < l[k].id) = true := decide_eq_true h2
        clear hst hst0
        go_wp2_with fail
        go_ret
        exact ⟨retB HF.out.symm, hb⟩
      have h2' : decide (1000000000 < l[k].id) = false := decide_eq_false h2
      rw [decide_eq_true (p := last < l[k].id) (by omega), decide_eq_true (p := l[k].id ≤ 1000000000) (by omega), Bool.true_and, Bool.true_and] at hst
      have hcall := implFitsAt g o A1 A9 n1 c1 l[k].vals.length c9 cols l[k].vals ok _ d1 (h.below ClR.stays hb) (Sl.cellz (fun _ => rfl) hvl) hn1 HN9.out
      have HC := Lib.hid hcall
      clear hcall
      cases hc : kindsB cols l[k].vals
      · have HCC := Lib.hid hc
        have HF := Lib.hid (show dataB cols l = false by rw [hst, hc]; rfl)
        clear hst hst0 hc
        go_wp2_with fail
        refine HC.out.mono ?_
        rintro e w1 ⟨rfl, hb1⟩
        rw [HCC.out]
        clear HC
        go_wp2_with fail
        go_ret
        exact ⟨retB HF.out.symm, hb.trans (hb1.mono hb.size)⟩
      · have HCC := Lib.hid hc
        have HG := Lib.hid (show idsGo cols 0 l = idsGo cols l[k].id (l.drop (k + 1)) by rw [← hst0, hst, hc]; rfl)
        clear hst hst0 hc
        go_wp2_with fail
        refine HC.out.mono ?_
        rintro e w1 ⟨rfl, hb1⟩
        rw [HCC.out]
        clear HC
        have q0' := (hb1.cell (cell_lt q0)).trans q0
        go_wp2_with fail
        go_roundw
        case rel => exact ⟨k + 1, l[k].id, by omega, by go_num, rfl, Lib.hid HG.out, hb.trans (hb1.mono hb.size)⟩
        case measure => simp [intOf]; omega
    · have e : l.drop k = [] := List.drop_eq_nil_of_le (by omega)
      have g1 := hgo.out
      rw [e] at g1
      have HF := Lib.hid (show dataB cols l = true by rw [HE.out, g1]; rfl)
      clear e g1 hgo
      go_wp2_with fail
      go_ret
      exact ⟨retB HF.out.symm, hb⟩
end Go.Proofs.YtfhiknndflahgaaGreat
