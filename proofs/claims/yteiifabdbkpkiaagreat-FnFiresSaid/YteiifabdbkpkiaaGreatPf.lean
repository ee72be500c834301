/-
  Several texts in one: what the proof leans on, part 6.
-/
import Derived.Test.YteiifabdbkpkiaaGreatPe
import Derived.Test.YteiifabdbkpkiaaGreatPa
import Derived.Test.YteiifabdbkpkiaaGreatPc
import Derived.Test.YteiifabdbkpkiaaGreatPd
import Derived.Test.YteiifabdbkpkiaaGreatPb
import Derived.Deep.Cut
import Derived.Deep.RegionLaw
import Derived.RangeFuncNested
import Derived.RangeFuncBound
import Derived.RangeFuncCalls
import Derived.RangeFuncLeaves
import Derived.Shelf.Abstract
import Derived.Shelf.RegionOpen
import Derived.WalkKit
import Derived.OwnWalkIn
import Derived.TacticsInMore
import Derived.LoopNIn
import Derived.LoopIn
import Derived.Sort.CutIn
import Derived.Deep.QuietTactic
import Derived.BigQuiet
set_option linter.unusedVariables false
set_option linter.unusedSimpArgs false
namespace Go.Proofs.YteiifabdbkpkiaaGreat
open Go.RowKit
set_option maxRecDepth 100000 in
set_option maxHeartbeats 2000000 in
theorem specL8Both (nm : ByteArray) (A1 A2 A3 A4 A5 : Option Addr) (n1 c1 n2 c2 n3 c3 n4 c4 n5 c5 : Nat) (AO AN : Option Addr) (nO cO nN cN : Nat) (old now : List Vl) (w : World)
  (hO : Vals w AO nO old) (hN : Vals w AN nN now) (h0 : 0 < n1) (hn : 2 * n1 ≤ 1048576) (hnO : nO ≤ n1) (hnN : nN ≤ n1) :
  Calls Tryz.prog 43 #[.agg #[.string nm, .slice A1 n1 c1, .slice A2 n2 c2, .slice A3 n3 c3, .slice A4 n4 c4, .slice A5 n5 c5], .slice AO nO cO, .slice AN nN cN] w fun e w' => ∃ v, e = .returned v ∧ OwnK w' w.heap.size v (bothV n1 old now) ∧ Below w.heap.size w w' := by
 obtain rfl : old.length = nO := hO.len
 obtain rfl : now.length = nN := hN.len
 have hsz : (Tryz.prog.info? 66).map (·.size) = some 3 := by
  obtain ⟨i0, hi, hz0, hz1, hz2⟩ := info_parts infoValC
  rw [hi]; simp [hz1]
 have hmk : ∀ w, (Instr.makeSlice 26 (.int .i64 (2 * (n1 : Int))) (.int .i64 (2 * (n1 : Int)))).run Tryz.prog w = .ok (.slice (some ⟨w.heap.size, 0, none⟩) (2 * n1) (2 * n1)) (w.alloc (.cells (madeCells #[.int .i64 0, .int .i64 0, .string ⟨#[]⟩] (2 * n1 * 3)) 66)) := fun w => by
  have := mk_rows (P := Tryz.prog) Tryz.underlying26 infoValC (by omega) (2 * n1) hn w
  rw [show (((2 * n1 : Nat)) : Int) = 2 * (n1 : Int) by omega] at this
  exact this
 have hb0 := (Below.refl w.heap.size w).alloc (Nat.le_refl _) (.cells #[.string nm, .slice A1 n1 c1, .slice A2 n2 c2, .slice A3 n3 c3, .slice A4 n4 c4, .slice A5 n5 c5] 42)
 have r0 := Row.new w 42 #[.string nm, .slice A1 n1 c1, .slice A2 n2 c2, .slice A3 n3 c3, .slice A4 n4 c4, .slice A5 n5 c5]
 have hO0 := hO.below hb0
 have hN0 := hN.below hb0
 go_enter Tryz.func43, Tryz.ntmps43
 have hzs : (w.alloc (.cells #[.string nm, .slice A1 n1 c1, .slice A2 n2 c2, .slice A3 n3 c3, .slice A4 n4 c4, .slice A5 n5 c5] 42)).heap.size = w.heap.size + 1 := by simp
 go_upto_region 2 with (fail)
 generalize w.alloc (.cells #[.string nm, .slice A1 n1 c1, .slice A2 n2 c2, .slice A3 n3 c3, .slice A4 n4 c4, .slice A5 n5 c5] 42) = z at *
 clear hmk
 obtain ⟨W, hW⟩ : ∃ W, W = z.alloc (.cells (madeCells #[.int .i64 0, .int .i64 0, .string ⟨#[]⟩] (2 * n1 * 3)) 66) := ⟨_, rfl⟩
 obtain ⟨hown, hbF, hbM, hS0, hS1, hF0, hF1⟩ := both_made (w := z) (W := W) hnO hnN hn hW
 rw [← hW]
 have hzW : Below z.heap.size z W := by rw [hW]; exact (Below.refl z.heap.size z).alloc (Nat.le_refl _) _
 have hO1 := hO0.below hzW
 have hN1 := hN0.below hbM
 have r1 := r0.below hbM
 rw [hzs] at hown hbF hbM hS0 hS1 hF0 hF1 hN1 r1
 obtain ⟨W2, hW2⟩ : ∃ W2, W2 = W.setCells (w.heap.size + 1) 0 ((old.map Vl.cells).flatten) := ⟨_, rfl⟩
 rw [← hW2] at hown hbF hS1 hF1 hN1 r1
 have hcp1 : ∀ ty dc, (Builtin.copy_ #[26, 26] ty #[.slice (some ⟨w.heap.size + 1, 0, none⟩) (2 * n1) dc, .slice AO old.length cO]).run Tryz.prog W = .ok (goInt (old.length : Nat)) W2 := fun ty dc => by
  rw [hW2]
  exact run_copyV W _ _ ty 66 (w.heap.size + 1) 0 (2 * n1) dc AO old.length cO old Tryz.underlying26 hsz hO1 (by omega) (fun j hj => by rw [Nat.zero_add]; exact hS0 j (by omega)) (fun j hj => hF0 _)
 have hcp2 : ∀ ty dc, (Builtin.copy_ #[26, 26] ty #[.slice (some ⟨w.heap.size + 1, n1 * 3, none⟩) (2 * n1 - n1) dc, .slice AN now.length cN]).run Tryz.prog W2 = .ok (goInt (now.length : Nat)) (W2.setCells (w.heap.size + 1) (n1 * 3) ((now.map Vl.cells).flatten)) := fun ty dc =>
  run_copyV W2 _ _ ty 66 (w.heap.size + 1) (n1 * 3) (2 * n1 - n1) dc AN now.length cN now Tryz.underlying26 hsz hN1 (by omega) (fun j hj => hS1 _ (by omega)) (fun j hj => hF1 _)
 obtain ⟨⟨p0, p1, p2, p3, p4, p5⟩, -⟩ := r1.all6
 have HOW := Lib.hid hown
 have HBF := Lib.hid ((hb0.mono (Nat.le_refl _)).trans (hbF.mono (by omega)))
 have hk1 : ¬ (2 * n1 = n1) := by omega
 have hk2 : (n1 : Int) ≤ ((2 * n1 : Nat) : Int) := by omega
 have hk3 : n1 ≤ 2 * n1 := by omega
 clear hown hbF hbM hS0 hS1 hF0 hF1 hW hW2 hzW hO1 hN1 r1 hO0 hN0 r0 hb0 hO hN
 go_wp2_with fail
 go_ret
 exact ⟨_, rfl, HOW.out.mono (by omega), HBF.out⟩
set_option maxRecDepth 100000 in
set_option maxHeartbeats 2000000 in
theorem implSeenOf (AS : Option Addr) (nS cS : Nat) (s : List Tb) (ok : Nat → Prop) (m : Nat) (ev : Int) (AO AN : Option Addr) (nO cO nN cN : Nat) (old now : List Vl) (w : World)
  (hS : Sl TbR 6 ok w AS nS s) (hm : m < s.length) (hO : Vals w AO nO old) (hN : Vals w AN nN now) (h0 : 0 < s[m].cols.length) (hn : s[m].cols.length ≤ 8) (hnO : nO ≤ s[m].cols.length) (hnN : nN ≤ s[m].cols.length) (hs9 : s.length ≤ 1048576) :
  Calls Tryz.prog 39 #[.slice AS nS cS, .agg #[.int .i64 m, .int .i64 ev, .slice AO nO cO, .slice AN nN cN]] w fun e w' => ∃ v, e = .returned v ∧ OwnK w' w.heap.size v (bothV s[m].cols.length old now) ∧ Below w.heap.size w w' := by
 obtain rfl : s.length = nS := hS.1
 obtain rfl : old.length = nO := hO.len
 obtain rfl : now.length = nN := hN.len
 have hsz : (Tryz.prog.info? 66).map (·.size) = some 3 := by
  obtain ⟨i0, hi, hz0, hz1, hz2⟩ := info_parts infoValC
  rw [hi]; simp [hz1]
 obtain ⟨g, o, A1, n1, c1, A2, n2, c2, A3, n3, c3, A4, n4, c4, A5, n5, c5, -, rfl, x0', x1', x2', x3', x4', x5', hcols, -⟩ := TbR.at_ hS hm
 have hn1 : n1 = s[m].cols.length := hcols.1.symm
 rw [← hn1] at h0 hn hnO hnN ⊢
 clear hn1 hcols x0' x2' x3' x4' x5'
 have hmk : ∀ w, (Instr.makeSlice 26 (.int .i64 (2 * (n1 : Int))) (.int .i64 (2 * (n1 : Int)))).run Tryz.prog w = .ok (.slice (some ⟨w.heap.size, 0, none⟩) (2 * n1) (2 * n1)) (w.alloc (.cells (madeCells #[.int .i64 0, .int .i64 0, .string ⟨#[]⟩] (2 * n1 * 3)) 66)) := fun w => by
  have := mk_rows (P := Tryz.prog) Tryz.underlying26 infoValC (by omega) (2 * n1) (by omega) w
  rw [show (((2 * n1 : Nat)) : Int) = 2 * (n1 : Int) by omega] at this
  exact this
 have hb0 := (Below.refl w.heap.size w).alloc (Nat.le_refl _) (.cells #[.int .i64 m, .int .i64 ev, .slice AO old.length cO, .slice AN now.length cN] 58)
 have r0 := Row.new w 58 #[.int .i64 m, .int .i64 ev, .slice AO old.length cO, .slice AN now.length cN]
 have hO0 := hO.below hb0
 have hN0 := hN.below hb0
 have x1 := below_keep hb0 _ _ x1'
 have i0' : (0 : Int) ≤ (m : Nat) := by omega
 have i1 : ((m : Nat) : Int) < s.length := by omega
 have hw2 : IntKind.i64.wrap (2 * (n1 : Int)) = 2 * (n1 : Int) := IntWalk.i64_in _ (by omega)
 go_enter Tryz.func39, Tryz.ntmps39
 have hzs : (w.alloc (.cells #[.int .i64 m, .int .i64 ev, .slice AO old.length cO, .slice AN now.length cN] 58)).heap.size = w.heap.size + 1 := by simp
 obtain ⟨⟨p0, p1, p2, p3⟩, -⟩ := r0.all4
 go_upto_region 3 with (fail)
 generalize w.alloc (.cells #[.int .i64 m, .int .i64 ev, .slice AO old.length cO, .slice AN now.length cN] 58) = z at *
 clear hmk p0 p1 p2 p3
 obtain ⟨W, hW⟩ : ∃ W, W = z.alloc (.cells (madeCells #[.int .i64 0, .int .i64 0, .string ⟨#[]⟩] (2 * n1 * 3)) 66) := ⟨_, rfl⟩
 obtain ⟨hown, hbF, hbM, hS0, hS1, hF0, hF1⟩ := both_madeD (w := z) (W := W) hnO hnN (by omega) hW
 rw [← hW]
 have hzW : Below z.heap.size z W := by rw [hW]; exact (Below.refl z.heap.size z).alloc (Nat.le_refl _) _
 have hO1 := hO0.below hzW
 have hN1 := hN0.below hbM
 have rW := r0.below hzW
 have r1 := r0.below hbM
 rw [hzs] at hown hbF hbM hS0 hS1 hF0 hF1 hN1 r1
 obtain ⟨W2, hW2⟩ : ∃ W2, W2 = W.setCells (w.heap.size + 1) 0 ((old.map Vl.cells).flatten) := ⟨_, rfl⟩
 rw [← hW2] at hown hbF hS1 hF1 hN1 r1
 have hcp1 : ∀ ty dc, (Builtin.copy_ #[26, 26] ty #[.slice (some ⟨w.heap.size + 1, 0, none⟩) (2 * n1) dc, .slice AO old.length cO]).run Tryz.prog W = .ok (goInt (old.length : Nat)) W2 := fun ty dc => by
  rw [hW2]
  exact run_copyV W _ _ ty 66 (w.heap.size + 1) 0 (2 * n1) dc AO old.length cO old Tryz.underlying26 hsz hO1 (by omega) (fun j hj => by rw [Nat.zero_add]; exact hS0 j (by omega)) (fun j hj => hF0 _)
 have hcp2 : ∀ ty dc, (Builtin.copy_ #[26, 26] ty #[.slice (some ⟨w.heap.size + 1, n1 * 3, none⟩) (2 * n1 - n1) dc, .slice AN now.length cN]).run Tryz.prog W2.drew = .ok (goInt (now.length : Nat)) (W2.drew.setCells (w.heap.size + 1) (n1 * 3) ((now.map Vl.cells).flatten)) := fun ty dc =>
  run_copyV W2.drew _ _ ty 66 (w.heap.size + 1) (n1 * 3) (2 * n1 - n1) dc AN now.length cN now Tryz.underlying26 hsz hN1 (by omega) (fun j hj => hS1 _ (by omega)) (fun j hj => hF1 _)
 obtain ⟨⟨p0, p1, p2, p3⟩, -⟩ := r1.all4
 obtain ⟨⟨q0, q1, q2, q3⟩, -⟩ := rW.all4
 have HOW := Lib.hid hown
 have HBF := Lib.hid ((hb0.mono (Nat.le_refl _)).trans (hbF.mono (by omega)))
 have hk1 : ¬ (2 * n1 = n1) := by omega
 have hk2 : (n1 : Int) ≤ 2 * (n1 : Int) := by omega
 have hk3 : n1 ≤ 2 * n1 := by omega
 clear hown hbF hbM hS0 hS1 hF0 hF1 hW hW2 hzW hO1 hN1 r1 rW hO0 hN0 r0 hb0 hO hN
 go_upto_region 5 with (fail)
 go_region
 go_wp2_with fail
 go_ret
 exact ⟨_, rfl, HOW.out.mono (by omega), HBF.out⟩
end Go.Proofs.YteiifabdbkpkiaaGreat
namespace Go.Proofs.YteiifabdbkpkiaaGreat
open Go.RowKit Go.Maps
def fitV (p : Cl × Vl) : Bool := fitsB p.1.kind p.2
def fitAll (cols : List Cl) (row : List Vl) : Bool := (cols.zip row).all fitV
def kindsB (cols : List Cl) (row : List Vl) : Bool := decide (row.length = cols.length) && fitAll cols row
theorem keepF {w w' : World} {a0 a1 a2 a3 a4 : Addr} {v0 v1 v2 v3 v4 : Value} (h : w.cell? a0 = some v0 ∧ w.cell? a1 = some v1 ∧ w.cell? a2 = some v2 ∧ w.cell? a3 = some v3 ∧ w.cell? a4 = some v4) (hb : Below w.heap.size w w') : w'.cell? a0 = some v0 ∧ w'.cell? a1 = some v1 ∧ w'.cell? a2 = some v2 ∧ w'.cell? a3 = some v3 ∧ w'.cell? a4 = some v4 := by
 obtain ⟨h0, h1, h2, h3, h4⟩ := h
 exact ⟨(hb.cell (cell_lt h0)).trans h0, (hb.cell (cell_lt h1)).trans h1, (hb.cell (cell_lt h2)).trans h2, (hb.cell (cell_lt h3)).trans h3, (hb.cell (cell_lt h4)).trans h4⟩
set_option maxRecDepth 100000 in
set_option maxHeartbeats 1000000 in
theorem implFitsAt (g o : Nat) (A1 AR : Option Addr) (n1 c1 nR cR : Nat) (cols : List Cl) (row : List Vl) (ok : Nat → Prop) (w : World)
  (x1 : w.cell? ⟨g, o + 1, none⟩ = some (.slice A1 n1 c1)) (h : Sl ClR 6 ok w A1 n1 cols) (hv : Vals w AR nR row) (hn1 : n1 ≤ 1048576) (hn2 : nR ≤ 1048576) :
  Calls Tryz.prog 37 #[.pointer (some ⟨g, o, none⟩), .slice AR nR cR] w fun e w' => e = .returned (.bool (kindsB cols row)) ∧ Below w.heap.size w w' := by
 obtain rfl : cols.length = n1 := h.1
 obtain rfl : row.length = nR := hv.len
 cases hl : (row.length == cols.length)
 ·have hl' : ¬ ((row.length : Int) = cols.length) := by have := beq_eq_false_iff_ne.1 hl; omega
  have HF := Lib.hid (show kindsB cols row = false by unfold kindsB; rw [decide_eq_false (beq_eq_false_iff_ne.1 hl)]; rfl)
  clear hl
  go_enter Tryz.func37, Tryz.ntmps37
  go_wp2
  go_ret
  exact ⟨retB HF.out.symm, Below.refl _ _⟩
 have hlen : row.length = cols.length := by simpa using hl
 have hl' : (row.length : Int) = cols.length := by omega
 have hz : (cols.zip row).length = cols.length := by simp [hlen]
 have HZ := Lib.hid hz
 have HL := Lib.hid hlen
 have HE := Lib.hid (show kindsB cols row = fitAll cols row by unfold kindsB; rw [decide_eq_true hlen]; rfl)
 clear hl hz hlen
 go_enter Tryz.func37, Tryz.ntmps37
 go_wp2
 go_loopw [17] (fun i wr => ∃ k : Nat, k ≤ cols.length ∧ i = .int .i64 k ∧ Hid (((cols.zip row).take k).all fitV = true) ∧ Below w.heap.size w wr) (fun i _ => cols.length - (intOf i).toNat)
 case atStart => exact ⟨0, by omega, rfl, Lib.hid (by simp), Below.refl _ _⟩
 case round =>
  obtain ⟨k, hk, rfl, hall, hb⟩ := hrel
  by_cases hlt : k < cols.length
  ·have hlt2 : k < row.length := by have := HL.out; omega
   have hbx := (Below.refl wr.heap.size wr).alloc (Nat.le_refl _) (.cells #[.int .i64 row[k].k, .int .i64 row[k].n, .string row[k].s] 66)
   have hba := hb.trans (hbx.mono hb.size)
   have rv := Row.new wr 66 #[.int .i64 row[k].k, .int .i64 row[k].n, .string row[k].s]
   obtain ⟨b2, off2, rfl, p0, p1, p2⟩ := (hv.below hb).at_ hlt2
   obtain ⟨b, off, -, rfl, q0, q1, q2, q3, q4, q5⟩ := ClR.at_ (h.below ClR.stays hba) hlt
   have d1 := (hba.cell (cell_lt x1)).trans x1
   obtain ⟨⟨f0, f1, f2⟩, -⟩ := rv.three
   have hsn := all_take fitV (cols.zip row) k (by rw [HZ.out]; exact hlt)
   have hno := fun hf => all_no fitV (cols.zip row) k (by rw [HZ.out]; exact hlt) hf
   have eg : fitV ((cols.zip row)[k]'(by rw [HZ.out]; exact hlt)) = fitsB cols[k].kind row[k] := by rw [List.getElem_zip]; rfl
   rw [hall.out, Bool.true_and, eg] at hsn
   rw [eg] at hno
   have i0 : (0 : Int) ≤ k := by omega
   have i1 : (k : Int) < cols.length := by omega
   have i2 : (k : Int) < row.length := by have := HL.out; omega
   clear eg
   cases hc : fitsB cols[k].kind row[k]
   ·have HC := Lib.hid hc
    have HF := Lib.hid (show kindsB cols row = false by rw [HE.out]; exact hno hc)
    clear hsn hno hc hall
    go_wp2_with fail
    go_region_held3 (fun w' => w'.cell? ⟨g, o + 1, none⟩ = some (.slice (some ⟨b, off, none⟩) cols.length c1) ∧ w'.cell? ⟨b, off + k * 6 + 1, none⟩ = some (.int .i64 cols[k].kind) ∧ w'.cell? ⟨wr.heap.size, 0, none⟩ = some (.int .i64 row[k].k) ∧ w'.cell? ⟨wr.heap.size, 1, none⟩ = some (.int .i64 row[k].n) ∧ w'.cell? ⟨wr.heap.size, 2, none⟩ = some (.string row[k].s))
     (first | go_keep | exact keepF (by assumption) hb1)
     (first | (go_at_call 56; refine (implValFits cols[k].kind row[k] _).mono ?_; rintro e w1 ⟨rfl, hb1⟩; rw [HC.out]))
    all_goals
     go_wp2
     go_ret
     exact ⟨retB HF.out.symm, hba.drew.trans (hb1.mono hba.size)⟩
   ·have HC := Lib.hid hc
    have HA := Lib.hid (hsn.trans hc)
    clear hsn hno hc hall
    go_wp2_with fail
    go_region_held3 (fun w' => w'.cell? ⟨g, o + 1, none⟩ = some (.slice (some ⟨b, off, none⟩) cols.length c1) ∧ w'.cell? ⟨b, off + k * 6 + 1, none⟩ = some (.int .i64 cols[k].kind) ∧ w'.cell? ⟨wr.heap.size, 0, none⟩ = some (.int .i64 row[k].k) ∧ w'.cell? ⟨wr.heap.size, 1, none⟩ = some (.int .i64 row[k].n) ∧ w'.cell? ⟨wr.heap.size, 2, none⟩ = some (.string row[k].s))
     (first | go_keep | exact keepF (by assumption) hb1)
     (first | (go_at_call 56; refine (implValFits cols[k].kind row[k] _).mono ?_; rintro e w1 ⟨rfl, hb1⟩; rw [HC.out]))
    all_goals
     go_wp2
     go_roundw
     case rel => exact ⟨k + 1, by omega, by go_num, Lib.hid HA.out, hba.drew.trans (hb1.mono hba.size)⟩
     case measure => simp [intOf]; omega
  ·have e : (cols.zip row).take k = cols.zip row := List.take_of_length_le (by rw [HZ.out]; omega)
   have h1 := hall.out
   rw [e] at h1
   have HF := Lib.hid (show kindsB cols row = true by rw [HE.out]; exact h1)
   clear e h1 hall
   go_wp2
   go_ret
   exact ⟨retB HF.out.symm, hb⟩
set_option maxRecDepth 100000 in
set_option maxHeartbeats 2000000 in
theorem specKinds (A1 AR : Option Addr) (n1 c1 nR cR : Nat) (v0 v2 v3 v4 v5 : Value) (cols : List Cl) (row : List Vl) (ok : Nat → Prop) (w : World)
  (h : Sl ClR 6 ok w A1 n1 cols) (hv : Vals w AR nR row) (hn1 : n1 ≤ 1048576) (hn2 : nR ≤ 1048576) :
  Calls Tryz.prog 41 #[.agg #[v0, .slice A1 n1 c1, v2, v3, v4, v5], .slice AR nR cR] w fun e w' => e = .returned (.bool (kindsB cols row)) ∧ Below w.heap.size w w' := by
 obtain rfl : cols.length = n1 := h.1
 obtain rfl : row.length = nR := hv.len
 have hb0 := (Below.refl w.heap.size w).alloc (Nat.le_refl _) (.cells #[v0, .slice A1 cols.length c1, v2, v3, v4, v5] 42)
 have r0 := Row.new w 42 #[v0, .slice A1 cols.length c1, v2, v3, v4, v5]
 cases hl : (row.length == cols.length)
 ·have hl' : ¬ ((row.length : Int) = cols.length) := by have := beq_eq_false_iff_ne.1 hl; omega
  have HF := Lib.hid (show kindsB cols row = false by unfold kindsB; rw [decide_eq_false (beq_eq_false_iff_ne.1 hl)]; rfl)
  clear hl
  go_enter Tryz.func41, Tryz.ntmps41
  go_wp2
  go_ret
  exact ⟨retB HF.out.symm, hb0⟩
 have hlen : row.length = cols.length := by simpa using hl
 have hl' : (row.length : Int) = cols.length := by omega
 have hz : (cols.zip row).length = cols.length := by simp [hlen]
 have HZ := Lib.hid hz
 have HL := Lib.hid hlen
 have HE := Lib.hid (show kindsB cols row = fitAll cols row by unfold kindsB; rw [decide_eq_true hlen]; rfl)
 clear hl hz hlen
 go_enter Tryz.func41, Tryz.ntmps41
 go_wp2_with fail
 generalize w.alloc (.cells #[v0, .slice A1 cols.length c1, v2, v3, v4, v5] 42) = x0 at *
 go_loopw [5] (fun i wr => ∃ k : Nat, k ≤ cols.length ∧ i = .int .i64 k ∧ Hid (((cols.zip row).take k).all fitV = true) ∧ Row wr w.heap.size 42 #[v0, .slice A1 cols.length c1, v2, v3, v4, v5] ∧ Below w.heap.size w wr) (fun i _ => cols.length - (intOf i).toNat)
 case atStart => exact ⟨0, by omega, rfl, Lib.hid (by simp), r0, hb0⟩
 case round =>
  obtain ⟨k, hk, rfl, hall, hr, hb⟩ := hrel
  by_cases hlt : k < cols.length
  ·have hlt2 : k < row.length := by have := HL.out; omega
   obtain ⟨⟨d0, d1, d2, d3, d4, d5⟩, -⟩ := hr.all6
   obtain ⟨b2, off2, rfl, p0, p1, p2⟩ := (hv.below hb).at_ hlt2
   obtain ⟨b, off, -, rfl, q0, q1, q2, q3, q4, q5⟩ := ClR.at_ (h.below ClR.stays hb) hlt
   have hsn := all_take fitV (cols.zip row) k (by rw [HZ.out]; exact hlt)
   have hno := fun hf => all_no fitV (cols.zip row) k (by rw [HZ.out]; exact hlt) hf
   have eg : fitV ((cols.zip row)[k]'(by rw [HZ.out]; exact hlt)) = fitsB cols[k].kind row[k] := by rw [List.getElem_zip]; rfl
   rw [hall.out, Bool.true_and, eg] at hsn
   rw [eg] at hno
   have hsn := fun hf : fitsB cols[k].kind row[k] = true => hsn.trans hf
   have hno := fun hf : fitsB cols[k].kind row[k] = false => show kindsB cols row = false by rw [HE.out]; exact hno hf
   have i0 : (0 : Int) ≤ k := by omega
   have i1 : (k : Int) < cols.length := by omega
   have i2 : (k : Int) < row.length := by have := HL.out; omega
   clear eg
   cases hv1 : valOkB row[k].k row[k].n row[k].s
   ·skip
    have HV := Lib.hid hv1
    have HF := Lib.hid (hno (by unfold fitsB; rw [hv1]; rfl))
    clear hsn hno hall hv1
    go_wp2_with fail
    refine wp_region_noPanic ?_
    refine wp_region_held_drew (S := fun w' => w'.cell? ⟨b2, off2 + k * 3, none⟩ = some (.int .i64 row[k].k) ∧ w'.cell? ⟨b2, off2 + k * 3 + 1, none⟩ = some (.int .i64 row[k].n) ∧ w'.cell? ⟨b2, off2 + k * 3 + 2, none⟩ = some (.string row[k].s) ∧ w'.cell? ⟨w.heap.size, 1, none⟩ = some (.slice (some ⟨b, off, none⟩) cols.length c1) ∧ w'.cell? ⟨b, off + k * 6 + 1, none⟩ = some (.int .i64 cols[k].kind)) (by kernel_rfl) ⟨p0, p1, p2, d1, q1⟩ (fun hHeld => ?_)
    refine tk 0 ?_
    refine tk 1 ?_
    refine tk 2 ?_
    refine tk 3 ?_
    refine wpAnyH_ready (rs := [4]) (by kernel_rfl) (by simp) ?_
    refine AllReadyH.cons rfl (fun K hK => ?_) AllReadyH.nil
    go_simp
    refine (specValOk _ _ _ _).mono ?_
    rintro e wd ⟨rfl, hqd⟩
    rw [HV.out]
    go_wp2_with fail
    refine hK.out _ _ (keepF hHeld hqd) (fun hHeld => ?_)
    clear hK K
    (try simp only [Act.put, pz0, pz1, pz2, pz3, pz4, pz5])
    refine tk 5 ?_
    refine tk 6 ?_
    refine tu 7 ?_
    refine tu 8 ?_
    refine tu 9 ?_
    refine tu 10 ?_
    refine tu 11 ?_
    refine tu 12 ?_
    refine tu 13 ?_
    refine tu 14 ?_
    refine tu 15 ?_
    refine tu 16 ?_
    refine tu 17 ?_
    refine tu 18 ?_
    refine tu 19 ?_
    refine tu 20 ?_
    refine tu 21 ?_
    refine tu 22 ?_
    refine tu 23 ?_
    refine tu 24 ?_
    refine tu 25 ?_
    refine tu 26 ?_
    refine tk 27 ?_
    refine wpAnyH_done (by kernel_rfl) ?_ _
    refine NoPanic.normal ?_
    have hz := hb.drew.trans (hqd.mono hb.drew.size)
    have rz := hr.drew.below hqd
    clear hHeld p0 p1 p2 d1 q1
    go_wp2_with fail
    go_ret
    exact ⟨retB HF.out.symm, hz⟩
   by_cases h0 : row[k].k = 0
   ·skip
    have HV := Lib.hid hv1
    have HA := Lib.hid (hsn (by unfold fitsB; rw [hv1, h0]; rfl))
    have e0 : (row[k].k == 0) = true := by simpa using h0
    have e1 : (row[k].k != 0) = false := by simpa using h0
    clear hsn hno hall hv1 h0
    go_wp2_with fail
    refine wp_region_noPanic ?_
    refine wp_region_held_drew (S := fun w' => w'.cell? ⟨b2, off2 + k * 3, none⟩ = some (.int .i64 row[k].k) ∧ w'.cell? ⟨b2, off2 + k * 3 + 1, none⟩ = some (.int .i64 row[k].n) ∧ w'.cell? ⟨b2, off2 + k * 3 + 2, none⟩ = some (.string row[k].s) ∧ w'.cell? ⟨w.heap.size, 1, none⟩ = some (.slice (some ⟨b, off, none⟩) cols.length c1) ∧ w'.cell? ⟨b, off + k * 6 + 1, none⟩ = some (.int .i64 cols[k].kind)) (by kernel_rfl) ⟨p0, p1, p2, d1, q1⟩ (fun hHeld => ?_)
    refine tk 0 ?_
    refine tk 1 ?_
    refine tk 2 ?_
    refine tk 3 ?_
    refine wpAnyH_ready (rs := [4]) (by kernel_rfl) (by simp) ?_
    refine AllReadyH.cons rfl (fun K hK => ?_) AllReadyH.nil
    go_simp
    refine (specValOk _ _ _ _).mono ?_
    rintro e wd ⟨rfl, hqd⟩
    rw [HV.out]
    go_wp2_with fail
    refine hK.out _ _ (keepF hHeld hqd) (fun hHeld => ?_)
    clear hK K
    (try simp only [Act.put, pz0, pz1, pz2, pz3, pz4, pz5])
    refine tk 5 ?_
    refine tk 6 ?_
    refine tk 7 ?_
    refine tk 8 ?_
    refine tk 9 ?_
    refine tk 10 ?_
    refine tk 11 ?_
    refine tk 12 ?_
    refine tk 13 ?_
    refine tu 14 ?_
    refine tu 15 ?_
    refine tu 16 ?_
    refine tu 17 ?_
    refine tu 18 ?_
    refine tu 19 ?_
    refine tu 20 ?_
    refine tu 21 ?_
    refine tu 22 ?_
    refine tu 23 ?_
    refine tu 24 ?_
    refine tu 25 ?_
    refine tk 26 ?_
    refine tk 27 ?_
    refine wpAnyH_done (by kernel_rfl) ?_ _
    refine NoPanic.normal ?_
    have hz := hb.drew.trans (hqd.mono hb.drew.size)
    have rz := hr.drew.below hqd
    clear hHeld p0 p1 p2 d1 q1
    go_wp2_with fail
    go_roundw
    case rel => exact ⟨k + 1, by omega, by go_num, Lib.hid HA.out, rz, hz⟩
    case measure => simp [intOf]; omega
   have e0 : (row[k].k == 0) = false := by simpa using h0
   have e1 : (row[k].k != 0) = true := by simpa using h0
   by_cases hk2 : row[k].k = cols[k].kind
   ·skip
    have HV := Lib.hid hv1
    have HA := Lib.hid (hsn (by unfold fitsB; rw [hv1, hk2]; simp))
    have e2 : (row[k].k == cols[k].kind) = true := by simpa using hk2
    have e3 : (row[k].k != cols[k].kind) = false := by simpa using hk2
    clear hsn hno hall hv1 h0 hk2
    go_wp2_with fail
    refine wp_region_noPanic ?_
    refine wp_region_held_drew (S := fun w' => w'.cell? ⟨b2, off2 + k * 3, none⟩ = some (.int .i64 row[k].k) ∧ w'.cell? ⟨b2, off2 + k * 3 + 1, none⟩ = some (.int .i64 row[k].n) ∧ w'.cell? ⟨b2, off2 + k * 3 + 2, none⟩ = some (.string row[k].s) ∧ w'.cell? ⟨w.heap.size, 1, none⟩ = some (.slice (some ⟨b, off, none⟩) cols.length c1) ∧ w'.cell? ⟨b, off + k * 6 + 1, none⟩ = some (.int .i64 cols[k].kind)) (by kernel_rfl) ⟨p0, p1, p2, d1, q1⟩ (fun hHeld => ?_)
    refine tk 0 ?_
    refine tk 1 ?_
    refine tk 2 ?_
    refine tk 3 ?_
    refine wpAnyH_ready (rs := [4]) (by kernel_rfl) (by simp) ?_
    refine AllReadyH.cons rfl (fun K hK => ?_) AllReadyH.nil
    go_simp
    refine (specValOk _ _ _ _).mono ?_
    rintro e wd ⟨rfl, hqd⟩
    rw [HV.out]
    go_wp2_with fail
    refine hK.out _ _ (keepF hHeld hqd) (fun hHeld => ?_)
    clear hK K
    (try simp only [Act.put, pz0, pz1, pz2, pz3, pz4, pz5])
    refine tk 5 ?_
    refine tk 6 ?_
    refine tk 7 ?_
    refine tk 8 ?_
    refine tk 9 ?_
    refine tk 10 ?_
    refine tk 11 ?_
    refine tk 12 ?_
    refine tk 13 ?_
    refine tk 14 ?_
    refine tk 15 ?_
    refine tk 16 ?_
    refine tk 17 ?_
    refine tk 18 ?_
    refine tk 19 ?_
    refine tk 20 ?_
    refine tk 21 ?_
    refine tk 22 ?_
    refine tk 23 ?_
    refine tk 24 ?_
    refine tk 25 ?_
    refine tk 26 ?_
    refine tk 27 ?_
    refine wpAnyH_done (by kernel_rfl) ?_ _
    refine NoPanic.normal ?_
    have hz := hb.drew.trans (hqd.mono hb.drew.size)
    have rz := hr.drew.below hqd
    clear hHeld p0 p1 p2 d1 q1
    go_wp2_with fail
    go_roundw
    case rel => exact ⟨k + 1, by omega, by go_num, Lib.hid HA.out, rz, hz⟩
    case measure => simp [intOf]; omega
   ·skip
    have HV := Lib.hid hv1
    have HF := Lib.hid (hno (by unfold fitsB; rw [e0, show (row[k].k == cols[k].kind) = false by simpa using hk2]; simp))
    have e2 : (row[k].k == cols[k].kind) = false := by simpa using hk2
    have e3 : (row[k].k != cols[k].kind) = true := by simpa using hk2
    clear hsn hno hall hv1 h0 hk2
    go_wp2_with fail
    refine wp_region_noPanic ?_
    refine wp_region_held_drew (S := fun w' => w'.cell? ⟨b2, off2 + k * 3, none⟩ = some (.int .i64 row[k].k) ∧ w'.cell? ⟨b2, off2 + k * 3 + 1, none⟩ = some (.int .i64 row[k].n) ∧ w'.cell? ⟨b2, off2 + k * 3 + 2, none⟩ = some (.string row[k].s) ∧ w'.cell? ⟨w.heap.size, 1, none⟩ = some (.slice (some ⟨b, off, none⟩) cols.length c1) ∧ w'.cell? ⟨b, off + k * 6 + 1, none⟩ = some (.int .i64 cols[k].kind)) (by kernel_rfl) ⟨p0, p1, p2, d1, q1⟩ (fun hHeld => ?_)
    refine tk 0 ?_
    refine tk 1 ?_
    refine tk 2 ?_
    refine tk 3 ?_
    refine wpAnyH_ready (rs := [4]) (by kernel_rfl) (by simp) ?_
    refine AllReadyH.cons rfl (fun K hK => ?_) AllReadyH.nil
    go_simp
    refine (specValOk _ _ _ _).mono ?_
    rintro e wd ⟨rfl, hqd⟩
    rw [HV.out]
    go_wp2_with fail
    refine hK.out _ _ (keepF hHeld hqd) (fun hHeld => ?_)
    clear hK K
    (try simp only [Act.put, pz0, pz1, pz2, pz3, pz4, pz5])
    refine tk 5 ?_
    refine tk 6 ?_
    refine tk 7 ?_
    refine tk 8 ?_
    refine tk 9 ?_
    refine tk 10 ?_
    refine tk 11 ?_
    refine tk 12 ?_
    refine tk 13 ?_
    refine tk 14 ?_
    refine tk 15 ?_
    refine tk 16 ?_
    refine tk 17 ?_
    refine tk 18 ?_
    refine tk 19 ?_
    refine tk 20 ?_
    refine tk 21 ?_
    refine tk 22 ?_
    refine tk 23 ?_
    refine tk 24 ?_
    refine tk 25 ?_
    refine tk 26 ?_
    refine tk 27 ?_
    refine wpAnyH_done (by kernel_rfl) ?_ _
    refine NoPanic.normal ?_
    have hz := hb.drew.trans (hqd.mono hb.drew.size)
    have rz := hr.drew.below hqd
    clear hHeld p0 p1 p2 d1 q1
    go_wp2_with fail
    go_ret
    exact ⟨retB HF.out.symm, hz⟩
  ·have e : (cols.zip row).take k = cols.zip row := List.take_of_length_le (by rw [HZ.out]; omega)
   have h1 := hall.out
   rw [e] at h1
   have HF := Lib.hid (show kindsB cols row = true by rw [HE.out]; exact h1)
   have i3 : ¬ (k : Int) < row.length := by have := HL.out; omega
   clear e h1 hall
   go_wp2
   go_ret
   exact ⟨retB HF.out.symm, hb⟩
end Go.Proofs.YteiifabdbkpkiaaGreat
namespace Go.Proofs.YteiifabdbkpkiaaGreat
open Go.RowKit
def rowIfB (cols : List Cl) (row : List Vl) : Bool := decide (row.length = 0) || kindsB cols row
theorem rowIf_len {cols : List Cl} {row : List Vl} (h : rowIfB cols row = true) : row.length ≤ cols.length := by
 unfold rowIfB kindsB at h
 simp only [Bool.or_eq_true, Bool.and_eq_true, decide_eq_true_eq] at h
 omega
def fireB (t : Tb) (ev : Int) (old now : List Vl) (x : Tg) : Bool := (x.table.toList == t.name.toList) && ((x.event == ev) && (decide (x.wher.length = 0) || (truthB x.wher (bothV t.cols.length old now) == 1)))
def fireAt (t : Tb) (ev : Int) (old now : List Vl) (l : List Tg) (j : Nat) : Bool := match l[j]? with
 | some x => fireB t ev old now x
 | none => false
def firesTo (t : Tb) (ev : Int) (old now : List Vl) (l : List Tg) (k : Nat) : List Int := ((List.range k).filter (fireAt t ev old now l)).map fun (j : Nat) => (j : Int)
theorem firesTo_yes {t : Tb} {ev : Int} {old now : List Vl} {l : List Tg} {k : Nat} (hk : k < l.length) (h : fireB t ev old now l[k] = true) : firesTo t ev old now l (k + 1) = firesTo t ev old now l k ++ [(k : Int)] := by
 have hf : fireAt t ev old now l k = true := by unfold fireAt; rw [List.getElem?_eq_getElem hk]; exact h
 unfold firesTo
 rw [List.range_succ, List.filter_append, List.map_append]
 simp [hf]
theorem firesTo_no {t : Tb} {ev : Int} {old now : List Vl} {l : List Tg} {k : Nat} (hk : k < l.length) (h : fireB t ev old now l[k] = false) : firesTo t ev old now l (k + 1) = firesTo t ev old now l k := by
 have hf : fireAt t ev old now l k = false := by unfold fireAt; rw [List.getElem?_eq_getElem hk]; exact h
 unfold firesTo
 rw [List.range_succ, List.filter_append, List.map_append]
 simp [hf]
theorem firesTo_len (t : Tb) (ev : Int) (old now : List Vl) (l : List Tg) (k : Nat) : (firesTo t ev old now l k).length ≤ k := by
 unfold firesTo
 rw [List.length_map]
 exact Nat.le_trans (List.length_filter_le _ _) (by simp)
set_option maxRecDepth 100000 in
set_option maxHeartbeats 1000000 in
theorem implFitsIf (g o : Nat) (A1 AR : Option Addr) (n1 c1 nR cR : Nat) (cols : List Cl) (row : List Vl) (ok : Nat → Prop) (w : World)
  (x1 : w.cell? ⟨g, o + 1, none⟩ = some (.slice A1 n1 c1)) (h : Sl ClR 6 ok w A1 n1 cols) (hv : Vals w AR nR row) (hn1 : n1 ≤ 1048576) (hn2 : nR ≤ 1048576) :
  Calls Tryz.prog 19 #[.pointer (some ⟨g, o, none⟩), .slice AR nR cR] w fun e w' => e = .returned (.bool (rowIfB cols row)) ∧ Below w.heap.size w w' := by
 obtain rfl : row.length = nR := hv.len
 go_enter Tryz.func19, Tryz.ntmps19
 by_cases h0 : row.length = 0
 ·have HF := Lib.hid (show rowIfB cols row = true by unfold rowIfB; rw [decide_eq_true h0]; rfl)
  go_wp2_with fail
  go_ret
  exact ⟨by rw [HF.out]; rfl, Below.refl _ _⟩
 ·have HF := Lib.hid (show rowIfB cols row = kindsB cols row by unfold rowIfB; rw [decide_eq_false h0]; rfl)
  have hz : ((row.length : Int) == 0) = false := beq_eq_false_iff_ne.2 (by omega)
  go_wp2_with fail
  refine (implFitsAt g o A1 AR n1 c1 row.length cR cols row ok _ x1 h hv hn1 hn2).mono ?_
  rintro e w1 ⟨rfl, hb1⟩
  go_wp2_with fail
  go_ret
  exact ⟨by rw [HF.out]; rfl, hb1⟩
set_option maxRecDepth 100000 in
set_option maxHeartbeats 1000000 in
theorem specL8Row (nm : ByteArray) (A1 A2 A3 A4 A5 AR : Option Addr) (n1 c1 n2 c2 n3 c3 n4 c4 n5 c5 nR cR : Nat) (cols : List Cl) (row : List Vl) (ok : Nat → Prop) (w : World)
  (h : Sl ClR 6 ok w A1 n1 cols) (hv : Vals w AR nR row) (hn1 : n1 ≤ 1048576) (hn2 : nR ≤ 1048576) :
  Calls Tryz.prog 22 #[.agg #[.string nm, .slice A1 n1 c1, .slice A2 n2 c2, .slice A3 n3 c3, .slice A4 n4 c4, .slice A5 n5 c5], .slice AR nR cR] w fun e w' => e = .returned (.bool (rowIfB cols row)) ∧ Below w.heap.size w w' := by
 obtain rfl : row.length = nR := hv.len
 have hb0 := (Below.refl w.heap.size w).alloc (Nat.le_refl _) (.cells #[.string nm, .slice A1 n1 c1, .slice A2 n2 c2, .slice A3 n3 c3, .slice A4 n4 c4, .slice A5 n5 c5] 42)
 have r0 := Row.new w 42 #[.string nm, .slice A1 n1 c1, .slice A2 n2 c2, .slice A3 n3 c3, .slice A4 n4 c4, .slice A5 n5 c5]
 have h' := h.below ClR.stays hb0
 have hv' := hv.below hb0
 go_enter Tryz.func22, Tryz.ntmps22
 obtain ⟨⟨p0, p1, p2, p3, p4, p5⟩, -⟩ := r0.all6
 by_cases h0 : row.length = 0
 ·have HF := Lib.hid (show rowIfB cols row = true by unfold rowIfB; rw [decide_eq_true h0]; rfl)
  go_wp2_with fail
  go_ret
  exact ⟨by rw [HF.out]; rfl, hb0⟩
 ·have HF := Lib.hid (show rowIfB cols row = kindsB cols row by unfold rowIfB; rw [decide_eq_false h0]; rfl)
  have hz : ((row.length : Int) == 0) = false := beq_eq_false_iff_ne.2 (by omega)
  go_wp2_with fail
  refine (specKinds A1 AR n1 c1 row.length cR _ _ _ _ _ cols row ok _ h' hv' hn1 hn2).mono ?_
  rintro e w1 ⟨rfl, hb1⟩
  have HB := Lib.hid (hb0.trans (hb1.mono hb0.size))
  go_wp2_with fail
  go_ret
  exact ⟨by rw [HF.out]; rfl, HB.out⟩
theorem atGo_app (s : ByteArray) : ∀ (a b : List ByteArray) (i : Nat), atGo s (a ++ b) i = if atGo s a i = -1 then atGo s b (i + a.length) else atGo s a i
 | [], b, i => by simp [atGo]
 | x :: a, b, i => by
  rw [List.cons_append, atGo, atGo]
  by_cases h : (x.toList == s.toList) = true
  ·rw [if_pos h, if_pos h, if_neg (by omega)]
  ·rw [if_neg h, if_neg h, atGo_app s a b (i + 1), List.length_cons, show i + 1 + a.length = i + (a.length + 1) by omega]
theorem uniq_at : ∀ (l seen : List ByteArray), uniqGo seen l = true → ∀ k (h : k < l.length), atN (seen ++ l) l[k] = ((seen.length + k : Nat) : Int)
 | [], _, _, k, h => by simp at h
 | x :: xs, seen, hu, 0, _ => by
  rw [uniqGo, Bool.and_eq_true, decide_eq_true_eq] at hu
  unfold atN at hu ⊢
  rw [List.getElem_cons_zero, atGo_app, if_pos hu.1, atGo, if_pos (beq_self_eq_true _)]
  simp
 | x :: xs, seen, hu, k + 1, h => by
  rw [uniqGo, Bool.and_eq_true] at hu
  have := uniq_at xs (seen ++ [x]) hu.2 k (by simpa using h)
  rw [List.append_assoc, List.singleton_append] at this
  rw [List.getElem_cons_succ, this]
  simp; omega
theorem txt_eq {a b : ByteArray} (h : (a.toList == b.toList) = true) : a = b := by
 have h1 : a.toList = b.toList := by simpa using h
 rw [ByteArray.toList_eq, ByteArray.toList_eq] at h1
 cases a; cases b
 simpa using h1
theorem schema_at {s : List Tb} (h : schemaB s = true) {m : Nat} (hm : m < s.length) : atN (s.map Tb.name) s[m].name = (m : Int) := by
 unfold schemaB at h
 simp only [Bool.and_eq_true] at h
 have := uniq_at (s.map Tb.name) [] h.2.2.1 m (by simpa using hm)
 simpa using this
theorem schema_tab {s : List Tb} (h : schemaB s = true) {m : Nat} (hm : m < s.length) : 0 < s[m].cols.length ∧ s[m].cols.length ≤ 8 := by
 unfold schemaB at h
 simp only [Bool.and_eq_true] at h
 have h1 := List.all_eq_true.1 h.2.1 _ (List.getElem_mem hm)
 unfold tableB colsB at h1
 simp only [Bool.and_eq_true, decide_eq_true_eq] at h1
 omega
theorem trig_expr {s : List Tb} {l : List Tg} (h : triggersB s l = true) {m : Nat} (hm : m < s.length) : ∀ x ∈ l, (x.table.toList == s[m].name.toList) = true → x.wher.length ≠ 0 → exprB x.wher ((2 * s[m].cols.length : Nat) : Int) = true := fun x hx ht hw => by
 unfold triggersB at h
 simp only [Bool.and_eq_true] at h
 have hs := schema_at h.1 hm
 have h1 := List.all_eq_true.1 h.2.2 x hx
 unfold trigB at h1
 simp only [Bool.and_eq_true, Bool.or_eq_true, decide_eq_true_eq] at h1
 rcases h1.2.2.2.1 with h2 | h2
 ·exact absurd h2 hw
 ·unfold trigE at h2
  rw [txt_eq ht, widthAt_of hs hm] at h2
  exact h2
theorem kinds_ok {cols : List Cl} {l : List Vl} (h : kindsB cols l = true) : ∀ v ∈ l, v.ok = true := fun v hv => by
 unfold kindsB fitAll at h
 simp only [Bool.and_eq_true, decide_eq_true_eq] at h
 obtain ⟨i, hi, rfl⟩ := List.mem_iff_getElem.1 hv
 have h3 := List.all_eq_true.1 h.2 (cols[i]'(by omega), l[i]) (by rw [List.mem_iff_getElem]; exact ⟨i, by rw [List.length_zip]; omega, by simp⟩)
 have h4 : fitsB _ l[i] = true := h3
 unfold fitsB at h4
 rw [Bool.and_eq_true] at h4
 exact h4.1
theorem rowIf_ok {cols : List Cl} {l : List Vl} (h : rowIfB cols l = true) : ∀ v ∈ l, v.ok = true := fun v hv => by
 unfold rowIfB at h
 rw [Bool.or_eq_true, decide_eq_true_eq] at h
 rcases h with h | h
 ·obtain rfl : l = [] := List.eq_nil_of_length_eq_zero h
  cases hv
 ·exact kinds_ok h v hv
theorem nul_ok : nul.ok = true := by simp [Vl.ok, nul, valOkB, ByteArray.toList_eq]
theorem both_row {cols : List Cl} {a b : List Vl} (hc : cols.length ≤ 8) (ha : rowIfB cols a = true) (hb : rowIfB cols b = true) : rowB (bothV cols.length a b) = true := by
 have hl := both_len (rowIf_len ha) (rowIf_len hb)
 unfold rowB
 rw [Bool.and_eq_true, decide_eq_true_eq, List.all_eq_true]
 refine ⟨by omega, fun v hv => ?_⟩
 unfold bothV side at hv
 simp only [List.mem_append, List.mem_replicate] at hv
 rcases hv with (h | ⟨-, rfl⟩) | (h | ⟨-, rfl⟩)
 ·exact rowIf_ok ha v h
 ·exact nul_ok
 ·exact rowIf_ok hb v h
 ·exact nul_ok
def tabAt (s : List Tb) (tb : Int) : Option Tb := if 0 ≤ tb then s[tb.toNat]? else none
def firesL (s : List Tb) (l : List Tg) (tb ev : Int) (old now : List Vl) : List Int := if triggersB s l = true then (match tabAt s tb with
 | some t => if rowIfB t.cols old = true ∧ rowIfB t.cols now = true then firesTo t ev old now l l.length else []
 | none => []) else []
theorem firesL_len (s : List Tb) (l : List Tg) (tb ev : Int) (old now : List Vl) : (firesL s l tb ev old now).length ≤ 6 := by
 unfold firesL
 split
 ·next h =>
  unfold triggersB at h
  simp only [Bool.and_eq_true, decide_eq_true_eq] at h
  split
  ·split
   ·have := firesTo_len
    exact Nat.le_trans (firesTo_len _ _ _ _ _ _) h.2.1
   ·simp
  ·simp
 ·simp
theorem tabAt_some {s : List Tb} {m : Nat} (hm : m < s.length) : tabAt s (m : Int) = some s[m] := by
 unfold tabAt
 rw [if_pos (by omega), Int.toNat_natCast, List.getElem?_eq_getElem hm]
theorem tabAt_none {s : List Tb} {tb : Int} (h : ¬ (0 ≤ tb ∧ tb < s.length)) : tabAt s tb = none := by
 unfold tabAt
 split
 ·rw [List.getElem?_eq_none (by omega)]
 ·rfl
theorem implEachFired (AS AL AO AN : Option Addr) (nS cS nL cL nO cO nN cN : Nat) (tb ev : Int) (w : World) :
  Calls Tryz.prog 20 #[.slice AS nS cS, .slice AL nL cL, .agg #[.int .i64 tb, .int .i64 ev, .slice AO nO cO, .slice AN nN cN]] w fun e w' => e = .returned (.func (.func 38) #[] #[.pointer (some ⟨w.heap.size, 0, none⟩), .pointer (some ⟨w.heap.size + 2, 0, none⟩), .pointer (some ⟨w.heap.size + 1, 0, none⟩)]) ∧
   (Row w' w.heap.size 24 #[.slice AS nS cS] ∧ Row w' (w.heap.size + 1) 25 #[.slice AL nL cL] ∧ Row w' (w.heap.size + 2) 58 #[.int .i64 tb, .int .i64 ev, .slice AO nO cO, .slice AN nN cN]) ∧ Below w.heap.size w w' := by
 have b0 := (Below.refl w.heap.size w).alloc (Nat.le_refl _) (.cells #[.slice AS nS cS] 24)
 have b1 := b0.alloc b0.size (.cells #[.slice AL nL cL] 25)
 have b2 := b1.alloc b1.size (.cells #[.int .i64 tb, .int .i64 ev, .slice AO nO cO, .slice AN nN cN] 58)
 have r0 := ((Row.newAt w 24 #[.slice AS nS cS] w.heap.size rfl).alloc (.cells #[.slice AL nL cL] 25)).alloc (.cells #[.int .i64 tb, .int .i64 ev, .slice AO nO cO, .slice AN nN cN] 58)
 have r1 := (Row.newAt (w.alloc (.cells #[.slice AS nS cS] 24)) 25 #[.slice AL nL cL] (w.heap.size + 1) (by simp)).alloc (.cells #[.int .i64 tb, .int .i64 ev, .slice AO nO cO, .slice AN nN cN] 58)
 have r2 := Row.newAt ((w.alloc (.cells #[.slice AS nS cS] 24)).alloc (.cells #[.slice AL nL cL] 25)) 58 #[.int .i64 tb, .int .i64 ev, .slice AO nO cO, .slice AN nN cN] (w.heap.size + 2) (by simp)
 have HR := Lib.hid (And.intro (And.intro r0 (And.intro r1 r2)) b2)
 clear b0 b1 b2 r0 r1 r2
 go_enter Tryz.func20, Tryz.ntmps20
 go_wp2
 go_ret
 exact ⟨rfl, HR.out⟩
def RoundX {α : Type} (B : Nat) (Kp : World → World → Prop) (J Jx : List α → World → Prop) (xs : List α) (W : World) (e : Ending) (W' : World) : Prop :=
 KeepsFrom B W W' ∧ ((e = .returned (.bool true) ∧ J xs W' ∧ Kp W W') ∨ (e = .returned (.bool false) ∧ Jx xs W'))
def SeqX {α : Type} (P : Program) (n : Nat) (g : Nat) (lb : Array Value) (encs : α → Array Value) (Kp : World → World → Prop) (S Sp : List α → Prop) (N : Nat) (w : World) : Prop :=
 ∀ (l : Nat) (J Jx : List α → World → Prop) (W : World), Below w.heap.size w W → OwnFrom W.heap.size J → OwnFrom W.heap.size Jx →
  (∀ pre x W1, J pre W1 → pre.length < N → YieldAt Fence.wide n P l (encs x) W1 (RoundX W.heap.size Kp J Jx (pre ++ [x]) W1)) →
  J [] W → CallsIn Fence.wide n P g (#[.func (.yield l) #[] #[]] ++ lb) W fun e W' => (∃ v, e = .returned v) ∧ ((∃ xs, S xs ∧ J xs W') ∨ (∃ pre, Sp pre ∧ Jx pre W'))
theorem roundIn_any {m m' : Nat} {P : Program} {l : Nat} {f : FuncId} {tmps : Array Value} {assign body : Code} {w : World} {R : Ending → World → Prop}
  (h : RoundIn Fence.wide m P l f tmps assign body w R) : RoundIn Fence.wide m' P l f tmps assign body w R := ⟨h.1, fun c cs _ => h.2 c cs (room_wide _)⟩
def Recs (l : Nat) (st : Loop) (D : Nat) (W : World) : Prop := W.heap[l]? = some (.loop st) ∧ W.heap[D]? = some (.deferred (some []))
theorem Recs.keep {l D B : Nat} {st : Loop} {W W' : World} (h : Recs l st D W) (hl : B ≤ l) (hD : B ≤ D) (k : KeepsFrom B W W') : Recs l st D W' := ⟨k.same _ _ hl h.1 rfl, k.same _ _ hD h.2 rfl⟩
theorem Recs.put {l D : Nat} {st : Loop} {W : World} (h : Recs l st D W) (hne : D ≠ l) (st' : Loop) : Recs l st' D (W.putObj l (.loop st')) := ⟨World.putObj_heap_same (Array.getElem?_eq_some_iff.1 h.1).1, (World.putObj_heap_other hne).trans h.2⟩
theorem Recs.own {β : Type} {l D B : Nat} (st : β → Loop) (hl : l < B) (hD : D < B) : OwnFrom B (fun s W => Recs l (st s) D W) := fun s X Y row hs hg hr =>
 ⟨(hg.block l (Array.getElem?_eq_some_iff.1 hs.1).1 (fun e => by have := (hr l e.symm).1; omega)).trans hs.1, (hg.block D (Array.getElem?_eq_some_iff.1 hs.2).1 (fun e => by have := (hr D e.symm).1; omega)).trans hs.2⟩
set_option maxHeartbeats 2000000 in
theorem wp_rangeX {α : Type} {P : Program} {n : Nat} {g : Operand} {ps : Array Tmp} {assign body : Code} {Q : Exit → Act → World → Prop} {a : Act} {w : World}
  {gf : Nat} {lb : Array Value} (hg : a.eval g = .func (.func gf) #[] lb) (eg : ∀ args w, (callFunc gf args).run P w = .ok (.enter gf args) w)
  {encs : α → Array Value} {Kp : World → World → Prop} {S Sp : List α → Prop} {N : Nat} (hseq : SeqX P (n - 1) gf lb encs Kp S Sp N w)
  (hKt : ∀ {A B C : World}, Kp A B → Kp B C → Kp A C) (hKb : ∀ (W : World) (l : Nat) (o o' : Obj), w.heap.size ≤ l → W.heap[l]? = some o → o.isCells = false → Kp W (W.putObj l o')) (hps : ∀ x, (encs x).size = ps.size)
  (I : List α → World → Prop) (Ix : Code → List α → World → Prop) (hI : OwnFrom w.heap.size I) (hIx : ∀ c, OwnFrom w.heap.size (Ix c)) (h0 : I [] w) (Ax : α → Act → World → Prop) (hAx : ∀ x a', OwnFrom w.heap.size (fun (_ : Unit) W => Ax x a' W))
  (hassign : ∀ (l : Nat) (pre : List α) (x : α) (W : World) (K : Act → World → Prop), I pre W → (∀ a' W', KeepsFrom w.heap.size W W' → Kp W W' → I pre W' → Ax x a' W' → K a' W') →
   assign.wpIn (Fence.wide.inRound l) n P (Exit.then K (fun _ _ _ => False)) { tmps := (ps.zip (encs x)).foldl (fun t (p, v) => t.setIfInBounds p v) a.tmps, defers := [] } W)
  (hbody : ∀ (l : Nat) (pre : List α) (x : α) (a' : Act) (W : World), I pre W → Ax x a' W → pre.length < N → body.wpIn (Fence.wide.inRound l) n P (ownPostG w.heap.size Kp I Ix (pre ++ [x]) W) a' W)
  (hdone : ∀ (D : Nat) (xs : List α) (W : World), w.heap.size ≤ D → S xs → I xs W → W.heap[D]? = some (.deferred (some [])) → Q .normal { a with defers := { target := .collected D, args := #[] } :: a.defers } W)
  (hstop : ∀ (D : Nat) (c : Code) (pre : List α) (W : World), w.heap.size ≤ D → Sp pre → Ix c pre W → W.heap[D]? = some (.deferred (some [])) → c.wpIn Fence.wide n P Q { a with defers := { target := .collected D, args := #[] } :: a.defers } W) :
  (Code.rangeFunc g ps assign body).wpIn Fence.wide n P Q a w := by
 refine wpIn_rangeFunc fun fn hfn => ?_
 obtain ⟨D, hD⟩ : ∃ D, w.heap.size = D := ⟨_, rfl⟩
 obtain ⟨mk, hmk⟩ : ∃ mk : LoopState → Option Code → Loop, mk = fun st pe => { state := st, pending := pe, fn, tmps := a.tmps, params := ps, assign, body, defers := D } := ⟨_, rfl⟩
 obtain ⟨V, hV⟩ : ∃ V, (w.alloc (.deferred (some []))).alloc (.loop (mk .ready none)) = V := ⟨_, rfl⟩
 have hVs : V.heap.size = D + 2 := by rw [← hV, World.size_alloc, World.size_alloc, hD]
 have hR : Recs (D + 1) (mk .ready none) D V := by
  constructor
  ·rw [← hV]; have := World.alloc_heap_new (w.alloc (.deferred (some []))) (.loop (mk .ready none)); rwa [World.size_alloc, hD] at this
  ·rw [← hV, ← hD]; exact (Below.heap_alloc _ _ _ (by simp)).trans (World.alloc_heap_new w _)
 have hIV : I [] V := by rw [← hV]; exact hI.alloc _ (hI.alloc _ h0)
 have hBV : Below w.heap.size w V := by rw [← hV]; exact ((Below.refl _ w).alloc (Nat.le_refl _) _).alloc (by simp) _
 have hlow : ∀ {A : World} {row : Option Nat}, (∀ r, row = some r → V.heap.size ≤ r ∧ ∃ o : Obj, A.heap[r]? = some o ∧ o.isCells = false) → (∀ r, row = some r → w.heap.size ≤ r ∧ ∃ o : Obj, A.heap[r]? = some o ∧ o.isCells = false) :=
  fun h r e => ⟨by have := (h r e).1; omega, (h r e).2⟩
 refine ⟨D + 1, [{ target := .collected D, args := #[] }], V, { target := .fn (.func gf) lb, args := #[.func (.yield (D + 1)) #[] #[]] }, V, gf, #[.func (.yield (D + 1)) #[] #[]] ++ lb, V, ?_, ?_, fun _ _ => trivial, ?_, fun h => (by cases h), ?_⟩
 ·show (Instr.enterLoop fn a.tmps ps assign body none).run P w = _
  rw [run_enterLoop_outer, hD, ← hV, hmk]
 ·simp only [resolve, hg]
  simp [go_sem]
 ·simp [invoke, go_sem, eg]
 have hz : D + 1 ≠ D := by omega
 have hpair : OwnFrom V.heap.size (fun (pre : List α) W => I pre W ∧ Recs (D + 1) (mk .ready none) D W) :=
  OwnFrom.and (fun s X Y row hs hg' hr => hI s X Y row hs hg' (hlow hr)) (Recs.own (fun _ => mk .ready none) (by omega) (by omega))
 have hpairx : OwnFrom V.heap.size (fun (pre : List α) W => ∃ c, Ix c pre W ∧ Recs (D + 1) (mk .done (some c)) D W) := fun s X Y row hs hg' hr => by
  obtain ⟨c, h1, h2⟩ := hs
  exact ⟨c, hIx c s X Y row h1 hg' (hlow hr), Recs.own (fun (_ : Unit) => mk .done (some c)) (by omega) (by omega) () X Y row h2 hg' hr⟩
 refine (hseq (D + 1) _ _ V hBV hpair hpairx (fun pre x W hJ hlen => ?_) ⟨hIV, hR⟩).mono ?_
 ·obtain ⟨hi, hrec⟩ := hJ
  have hy := run_yield (P := P) (args := encs x) hrec.1 (by rw [hmk]; exact hps x)
  refine ⟨fn, _, assign, body, by rw [hy, hmk], roundIn_any (m := n) (roundIn_of_wpIn hfn ?_)⟩
  refine hassign _ pre x W _ hi fun a1 W1 k1 kp1 i1 ax1 => ?_
  -- the assignment to the loop's variables may have laid blocks: the records lie as they lay
  have rec1 := hrec.keep (by omega) (by omega) k1
  refine ⟨_, run_beginRound rec1.1 (by rw [hmk]), ?_⟩
  have hrec2 := rec1.put (Ne.symm hz) { mk .ready none with state := .busy }
  have hkp := hKb W1 (D + 1) _ (.loop { mk .ready none with state := .busy }) (by omega) rec1.1 rfl
  refine wpIn_mono (hbody _ pre x a1 _ (hI.putObj _ i1 (by omega) rec1.1 rfl) ((hAx x a1).putObj (s := ()) _ ax1 (by omega) rec1.1 rfl) hlen) ?_
  -- what the round has left is read off the body's word
  have tail : ∀ (jump : Option Code) (W3 : World), KeepsFrom w.heap.size (W1.putObj (D + 1) (.loop { mk .ready none with state := .busy })) W3 →
    ∃ W4, (Instr.endRound (D + 1) jump).run P W3 = .ok (.bool jump.isNone) W4 ∧ W4 = W3.putObj (D + 1) (.loop (mk (if jump.isNone then .ready else .done) jump)) ∧ W3.heap[D + 1]? = some (.loop { mk .ready none with state := .busy }) ∧
     Recs (D + 1) (mk (if jump.isNone then .ready else .done) jump) D W4 ∧ KeepsFrom V.heap.size W W4 := fun jump W3 k3 => by
   have r3 := hrec2.keep (by omega) (by omega) k3
   refine ⟨_, run_endRound jump r3.1, by rw [hmk], r3.1, by rw [hmk] at r3 ⊢; exact r3.put (Ne.symm hz) _, ?_⟩
   refine ⟨by have := k3.size; have := k1.size; simp only [World.putObj_size] at *; omega, fun k o hk ho hc => ?_⟩
   have e1 : k ≠ D + 1 := by omega
   exact (World.putObj_heap_other e1).trans (k3.same k o (by omega) ((World.putObj_heap_other e1).trans (k1.same k o (by omega) ho hc)) hc)
  rintro e a3 W3 hp
  cases e with
  | normal =>
   obtain ⟨k3, kp3, i3⟩ := hp
   obtain ⟨W4, hr, rfl, h3, r4, k4⟩ := tail none W3 k3
   exact ⟨_, _, hr, k4, .inl ⟨rfl, ⟨hI.putObj _ i3 (by omega) h3 rfl, r4⟩, hKt kp1 (hKt (hKt hkp kp3) (hKb _ _ _ _ (by omega) h3 rfl))⟩⟩
  | ret =>
   obtain ⟨k3, i3⟩ := hp
   obtain ⟨W4, hr, rfl, h3, r4, k4⟩ := tail (some .ret) W3 k3
   exact ⟨_, _, hr, k4, .inr ⟨rfl, _, (hIx _).putObj _ i3 (by omega) h3 rfl, r4⟩⟩
  | exit id =>
   obtain ⟨k3, i3⟩ := hp
   obtain ⟨W4, hr, rfl, h3, r4, k4⟩ := tail (some (.exit id)) W3 k3
   exact ⟨_, _, hr, k4, .inr ⟨rfl, _, (hIx _).putObj _ i3 (by omega) h3 rfl, r4⟩⟩
  | goto t =>
   obtain ⟨k3, i3⟩ := hp
   obtain ⟨W4, hr, rfl, h3, r4, k4⟩ := tail (some (.goto t)) W3 k3
   exact ⟨_, _, hr, k4, .inr ⟨rfl, _, (hIx _).putObj _ i3 (by omega) h3 rfl, r4⟩⟩
  | panic ch => exact hp.elim
  | outgrown => exact hp.elim
 ·rintro e W2 ⟨⟨v, rfl⟩, h | h⟩
  ·obtain ⟨xs, hS, hi, hrec⟩ := h
   refine ⟨none, _, by have := run_endLoop (P := P) hrec.1 (by rw [hmk]; simp); rw [hmk] at this; exact this, ?_⟩
   exact hdone _ xs _ (by omega) hS (hI.putObj _ hi (by omega) hrec.1 rfl) ((World.putObj_heap_other (Ne.symm hz)).trans hrec.2)
  ·obtain ⟨pre, hSp, c, hi, hrec⟩ := h
   refine ⟨some c, _, by have := run_endLoop (P := P) hrec.1 (by rw [hmk]; simp); rw [hmk] at this; exact this, ?_⟩
   exact hstop _ c pre _ (by omega) hSp ((hIx c).putObj _ hi (by omega) hrec.1 rfl) ((World.putObj_heap_other (Ne.symm hz)).trans hrec.2)
def Lows {α : Type} (R : Rd α) : Prop := ∀ (ok : Nat → Prop) (w : World) (cs : List Value) (d : α), R ok w cs d → R (fun b => b < w.heap.size) w cs d
theorem Sl.lows {α : Type} {R : Rd α} (hR : Lows R) {sz : Nat} (hz : 0 < sz) {ok : Nat → Prop} {w : World} {A : Option Addr} {n : Nat} {ds : List α} (h : Sl R sz ok w A n ds) : Sl R sz (fun b => b < w.heap.size) w A n ds :=
 ⟨h.1, fun hn => by
  obtain ⟨b, off, e, hb, hi⟩ := h.2 hn
  refine ⟨b, off, e, ?_, fun i hlt => ?_⟩
  ·obtain ⟨cs, h1, h2, h3⟩ := hi 0 (by have := h.1; omega)
   exact cell_lt (h3 0 _ (List.getElem?_eq_getElem (by omega)))
  ·obtain ⟨cs, h1, h2, h3⟩ := hi i hlt
   exact ⟨cs, h1, hR _ _ _ _ h2, h3⟩⟩
theorem FlatR.lows {α : Type} (f : α → List Value) : Lows (FlatR f) := fun _ _ _ _ h => h
theorem UqR.lows : Lows UqR := fun _ _ _ _ ⟨A0, n0, c0, e, h0, hcp⟩ => ⟨A0, n0, c0, e, h0.lows (FlatR.lows _) (by omega), hcp⟩
theorem CkR.lows : Lows CkR := fun _ _ _ _ ⟨A0, n0, c0, e, h0, hcp⟩ => ⟨A0, n0, c0, e, h0.lows (FlatR.lows _) (by omega), hcp⟩
theorem FkR.lows : Lows FkR := fun _ _ _ _ ⟨A0, n0, c0, e, h0, hcp⟩ => ⟨A0, n0, c0, e, h0.lows (FlatR.lows _) (by omega), hcp⟩
theorem TbR.lows : Lows TbR := fun _ _ _ _ ⟨A1, n1, c1, A2, n2, c2, A3, n3, c3, A4, n4, c4, A5, n5, c5, e, h1, h2, h3, h4, h5, hcp⟩ =>
 ⟨A1, n1, c1, A2, n2, c2, A3, n3, c3, A4, n4, c4, A5, n5, c5, e, h1.lows (FlatR.lows _) (by omega), h2.lows (FlatR.lows _) (by omega), h3.lows UqR.lows (by omega), h4.lows CkR.lows (by omega), h5.lows FkR.lows (by omega), hcp⟩
theorem Sl.low {α : Type} {R : Rd α} (hR : Stays R) {sz n0 : Nat} {w W : World} {A : Option Addr} {n : Nat} {ds : List α} (h : Sl R sz (fun b => b < n0) w A n ds) (hb : Below n0 w W) : Sl R sz (fun b => b < n0) W A n ds :=
 h.stays hR (fun _ h => h) fun p v hp hc => (hb.cell hp).trans hc
end Go.Proofs.YteiifabdbkpkiaaGreat
namespace Go.Proofs.YteiifabdbkpkiaaGreat
open Go.RowKit Go.Maps Go.Shelf
attribute [local go_sem] Oper.semAt_some
def KpI (n0 : Nat) (W W' : World) : Prop := Below n0 W W' ∧ ∀ b T cs, T ≠ 29 → T ≠ 2 → Row W b T cs → Row W' b T cs
theorem KpI.refl (n0 : Nat) (W : World) : KpI n0 W W := ⟨Below.refl _ _, fun _ _ _ _ _ h => h⟩
theorem KpI.trans {n0 : Nat} {A B C : World} (h : KpI n0 A B) (k : KpI n0 B C) : KpI n0 A C := ⟨h.1.trans k.1, fun b T cs h1 h2 hr => k.2 b T cs h1 h2 (h.2 b T cs h1 h2 hr)⟩
theorem KpI.below {n0 : Nat} {W W' : World} (hn : n0 ≤ W.heap.size) (hb : Below W.heap.size W W') : KpI n0 W W' := ⟨hb.mono hn, fun _ _ _ _ _ h => h.below hb⟩
theorem KpI.put {n0 : Nat} {W : World} {l : Nat} {o : Obj} (o' : Obj) (hl : n0 ≤ l) (h : W.heap[l]? = some o) (hc : o.isCells = false) : KpI n0 W (W.putObj l o') := by
 refine ⟨(Below.refl n0 W).grown (grownBy_putObj' W l o') (by have := (Array.getElem?_eq_some_iff.1 h).1; omega) (fun k e => by cases e; exact hl), fun b T cs _ _ hr => ?_⟩
 have hne : b ≠ l := fun e => by subst e; unfold Row at hr; rw [h] at hr; cases hr; cases hc
 exact (World.putObj_heap_other hne).trans hr
theorem KpI.grown {n0 : Nat} {W W' : World} {row : Option Nat} (hn : n0 ≤ W.heap.size) (hg : W.grownBy W' row) (hr : ∀ k, row = some k → n0 ≤ k ∧ ∃ cs fr T, (T = 29 ∨ T = 2) ∧ W.heap[k]? = some (.cells cs T fr)) : KpI n0 W W' :=
 ⟨(Below.refl n0 W).grown hg hn fun k e => (hr k e).1, fun b T cs h1 h2 hrow => (hg.block b (lt_of_block hrow) (fun e => by
  obtain ⟨-, cs', fr, T', hT, hh⟩ := hr b e.symm
  unfold Row at hrow
  rw [hrow] at hh
  cases hh
  rcases hT with rfl | rfl
  ·exact h1 rfl
  ·exact h2 rfl)).trans hrow⟩
theorem OwnK.kpi {n0 base : Nat} {w W : World} {v : Value} {xs : List Vl} (h : OwnK w base v xs) (k : KpI n0 w W) : OwnK W base v xs := by
 refine ⟨h.1, ?_⟩
 rcases h.2 with h | ⟨g, cap, cur, rfl, h1, h2, h3⟩
 ·exact .inl h
 ·exact .inr ⟨g, cap, cur, rfl, h1, k.2 _ _ _ (by decide) (by decide) h2, h3⟩
structure EvIn (n0 : Nat) (AS AL AO AN : Option Addr) (nS cS nL cL nO cO nN cN b m : Nat) (ev : Int) (s : List Tb) (l : List Tg) (old now : List Vl) (w : World) : Prop where
 low : n0 ≤ b
 s0 : Row w b 24 #[.slice AS nS cS]
 s1 : Row w (b + 1) 25 #[.slice AL nL cL]
 s2 : Row w (b + 2) 58 #[.int .i64 m, .int .i64 ev, .slice AO nO cO, .slice AN nN cN]
 hs : Sl TbR 6 (fun b => b < n0) w AS nS s
 hl : Sl TgR 5 (fun b => b < n0) w AL nL l
 ho : Sl VlR 3 (fun b => b < n0) w AO nO old
 hn : Sl VlR 3 (fun b => b < n0) w AN nN now
section
variable {n0 : Nat} {AS AL AO AN : Option Addr} {nS cS nL cL nO cO nN cN b m : Nat} {ev : Int} {s : List Tb} {l : List Tg} {old now : List Vl}
theorem EvIn.kp {w W : World} (h : EvIn n0 AS AL AO AN nS cS nL cL nO cO nN cN b m ev s l old now w) (k : KpI n0 w W) : EvIn n0 AS AL AO AN nS cS nL cL nO cO nN cN b m ev s l old now W :=
 ⟨h.low, k.2 _ _ _ (by decide) (by decide) h.s0, k.2 _ _ _ (by decide) (by decide) h.s1, k.2 _ _ _ (by decide) (by decide) h.s2, h.hs.low TbR.stays k.1, h.hl.low TgR.stays k.1, h.ho.low VlR.stays k.1, h.hn.low VlR.stays k.1⟩
theorem EvIn.n0_le {w : World} (h : EvIn n0 AS AL AO AN nS cS nL cL nO cO nN cN b m ev s l old now w) : n0 ≤ w.heap.size := by
 have := lt_of_block h.s0; have := h.low; omega
theorem EvIn.cells {w : World} (h : EvIn n0 AS AL AO AN nS cS nL cL nO cO nN cN b m ev s l old now w) :
  w.cell? ⟨b, 0, none⟩ = some (.slice AS nS cS) ∧ w.cell? ⟨b + 1, 0, none⟩ = some (.slice AL nL cL) ∧ w.cell? ⟨b + 2, 0, none⟩ = some (.int .i64 m) ∧ w.cell? ⟨b + 2, 1, none⟩ = some (.int .i64 ev) ∧ w.cell? ⟨b + 2, 2, none⟩ = some (.slice AO nO cO) ∧ w.cell? ⟨b + 2, 3, none⟩ = some (.slice AN nN cN) :=
 ⟨h.s0.cell 0, h.s1.cell 0, h.s2.cell 0, h.s2.cell 1, h.s2.cell 2, h.s2.cell 3⟩
end
def firesN (t : Tb) (ev : Int) (old now : List Vl) (l : List Tg) (k : Nat) : List Nat := (List.range k).filter (fireAt t ev old now l)
theorem firesTo_N (t : Tb) (ev : Int) (old now : List Vl) (l : List Tg) (k : Nat) : firesTo t ev old now l k = (firesN t ev old now l k).map fun (j : Nat) => (j : Int) := rfl
theorem firesN_yes {t : Tb} {ev : Int} {old now : List Vl} {l : List Tg} {k : Nat} (hk : k < l.length) (h : fireB t ev old now l[k] = true) : firesN t ev old now l (k + 1) = firesN t ev old now l k ++ [k] := by
 unfold firesN
 rw [List.range_succ, List.filter_append]
 have : fireAt t ev old now l k = true := by unfold fireAt; rw [List.getElem?_eq_getElem hk]; exact h
 simp [this]
theorem firesN_no {t : Tb} {ev : Int} {old now : List Vl} {l : List Tg} {k : Nat} (hk : k < l.length) (h : fireB t ev old now l[k] = false) : firesN t ev old now l (k + 1) = firesN t ev old now l k := by
 unfold firesN
 rw [List.range_succ, List.filter_append]
 have : fireAt t ev old now l k = false := by unfold fireAt; rw [List.getElem?_eq_getElem hk]; exact h
 simp [this]
theorem firesN_len (t : Tb) (ev : Int) (old now : List Vl) (l : List Tg) (k : Nat) : (firesN t ev old now l k).length ≤ k := by
 unfold firesN
 exact Nat.le_trans (List.length_filter_le _ _) (by simp)
theorem firesN_pre (t : Tb) (ev : Int) (old now : List Vl) (l : List Tg) {k n : Nat} (h : k ≤ n) : firesN t ev old now l k <+: firesN t ev old now l n := by
 obtain ⟨m, rfl⟩ := Nat.exists_eq_add_of_le h
 unfold firesN
 rw [List.range_add, List.filter_append]
 exact List.prefix_append _ _
def ptrT (A : Option Addr) (k : Nat) : Value := .pointer (A.map fun a => ⟨a.block, a.off + k * 5, none⟩)
theorem OwnK.vals8 {w : World} {base n c : Nat} {A : Option Addr} {xs : List Vl} (h : OwnK w base (.slice A n c) xs) : Vals w A n xs := by
 obtain ⟨A', c', e, -, -, hs⟩ := OwnG.sl (f := Vl.cells) (sz := 3) (fun _ => rfl) h
 cases e
 exact Sl.cellz (fun _ => rfl) hs
theorem ownFrom_below'' {β : Type} {B : Nat} {J : β → World → Prop} (hJ : OwnFrom B J) {s : β} {W W' : World} (h : J s W) (hb : Below W.heap.size W W') : J s W' :=
 hJ s W W' none h ⟨hb.os, hb.tape, hb.output, hb.size, fun k hk _ => hb.block k hk⟩ (fun r e => by cases e)
set_option maxRecDepth 100000 in
set_option maxHeartbeats 4000000 in
theorem eachFired1_in (n l0 n0 : Nat) (AS AL AO AN : Option Addr) (nS cS nL cL nO cO nN cN b m : Nat) (ev : Int) (s : List Tb) (l : List Tg) (old now : List Vl) (J Jx : List Nat → World → Prop) (W : World)
  (H : EvIn n0 AS AL AO AN nS cS nL cL nO cO nN cN b m ev s l old now W) (hm : m < s.length) (h0c : 0 < s[m].cols.length) (hc8 : s[m].cols.length ≤ 8) (hnO : nO ≤ s[m].cols.length) (hnN : nN ≤ s[m].cols.length)
  (hs9 : s.length ≤ 1048576) (hl9 : l.length ≤ 1048576) (hX : ∀ x ∈ l, (x.table.toList == s[m].name.toList) = true → x.wher.length ≠ 0 → exprB x.wher (2 * s[m].cols.length : Nat) = true) (hWl : ∀ x ∈ l, x.wher.length ≤ 1048576)
  (hJ : OwnFrom W.heap.size J) (hJx : OwnFrom W.heap.size Jx)
  (hY : ∀ pre x W1, J pre W1 → pre.length < l.length → YieldAt Fence.wide n Tryz.prog l0 #[.int .i64 (x : Nat), ptrT AL x] W1 (RoundX W.heap.size (KpI n0) J Jx (pre ++ [x]) W1)) (hJ0 : J [] W) :
  CallsIn Fence.wide n Tryz.prog 38 #[.func (.yield l0) #[] #[], .pointer (some ⟨b, 0, none⟩), .pointer (some ⟨b + 2, 0, none⟩), .pointer (some ⟨b + 1, 0, none⟩)] W fun e W' =>
   (∃ v, e = .returned v) ∧ ((∃ xs, xs = firesN s[m] ev old now l l.length ∧ J xs W') ∨ (∃ pre, pre <+: firesN s[m] ev old now l l.length ∧ Jx pre W')) := by
 have hn0 := H.n0_le
 obtain rfl : s.length = nS := H.hs.1
 obtain rfl : l.length = nL := H.hl.1
 obtain rfl : old.length = nO := H.ho.1
 obtain rfl : now.length = nN := H.hn.1
 have HC := Lib.hid (implSeenOf AS s.length cS s (fun b => b < n0) m ev AO AN old.length cO now.length cN old now W H.hs hm (Sl.cellz (fun _ => rfl) H.ho) (Sl.cellz (fun _ => rfl) H.hn) h0c hc8 hnO hnN hs9)
 obtain ⟨e0, e1, e2, e3, e4, e5⟩ := H.cells
 have HX := Lib.hid hX
 have HWL := Lib.hid hWl
 have HJ := Lib.hid hJ
 have HJX := Lib.hid hJx
 have HY := Lib.hid hY
 have HE := Lib.hid H
 have HJ0 := Lib.hid hJ0
 clear H hX hWl hJ hJx hY hJ0
 refine callsIn_of_wp Tryz.func38 rfl trivial ?_ rfl
 simp only [Tryz.ntmps38, List.size_toArray, List.length_cons, List.length_nil, Nat.reduceAdd, Nat.reduceSub, Array.replicate_succ, Array.replicate_zero, List.push_toArray, List.append_toArray, List.nil_append, List.cons_append]
 gi_wp2_with fail
 refine ⟨trivial, fun h => (by cases h), (callsIn_wide.2 HC.out).mono ?_⟩
 rintro e w1 ⟨v, rfl, ho, hb1⟩
 obtain ⟨Av, cv, rfl⟩ := ho.shape
 have hvl : (bothV s[m].cols.length old now).length = 2 * s[m].cols.length := both_len hnO hnN
 rw [hvl] at ho ⊢
 clear hvl
 have kW : KpI n0 W w1 := KpI.below hn0 hb1
 have HO := Lib.hid ho
 have HK := Lib.hid kW
 have HE1 := Lib.hid (HE.out.kp kW)
 have HJ1 := Lib.hid (ownFrom_below'' HJ.out HJ0.out hb1)
 have hsz1 := hb1.size
 obtain ⟨f0, f1, f2, f3, f4, f5⟩ := HE1.out.cells
 clear HC e0 e1 e2 e3 e4 e5 ho kW hb1
 gi_wp2_with fail
 clear f0 f1 f2 f3 f4 f5
 gi_loopw [13] (fun i wr => ∃ k : Nat, k ≤ l.length ∧ i = .int .i64 k ∧ Hid (J (firesN s[m] ev old now l k) wr) ∧ Hid (KpI n0 w1 wr) ∧ W.heap.size ≤ wr.heap.size) (fun i _ => l.length - (intOf i).toNat)
 case atStart => exact ⟨0, by omega, rfl, HJ1, Lib.hid (KpI.refl _ _), hsz1⟩
 case round =>
  obtain ⟨k, hk, rfl, hj, hkp, hsz⟩ := hrel
  have HEr := Lib.hid (HE1.out.kp hkp.out)
  obtain ⟨f0, f1, f2, f3, -, -⟩ := HEr.out.cells
  by_cases hlt : k < l.length
  ·have k0 : (0 : Int) ≤ k := by omega
   have k1 : (k : Int) < l.length := by omega
   obtain ⟨gb, go, B2, n2, c2, B4, n4, c4, -, rfl, y0, y1, y2, -, -, hwh, -⟩ := TgR.at_ HEr.out.hl hlt
   obtain ⟨tb, tofs, -, -, -, -, -, -, -, -, -, -, -, -, -, -, -, -, rfl, z0, -⟩ := TbR.at_ HEr.out.hs hm
   have m0 : (0 : Int) ≤ (m : Int) := by omega
   have m1 : (m : Int) < s.length := by omega
   have HOr := Lib.hid (HO.out.kpi hkp.out)
   by_cases ht : (l[k].table.toList == s[m].name.toList) = true
   ·by_cases he : l[k].event = ev
    ·have he' : (l[k].event == ev) = true := by simpa using he
     by_cases hw : l[k].wher.length = 0
     ·have HF := Lib.hid (firesN_yes (t := s[m]) (ev := ev) (old := old) (now := now) hlt (by unfold fireB; rw [ht, he', hw]; rfl))
      have hn2 : n2 = 0 := by rw [← hw]; exact hwh.1.symm
      subst hn2
      rw [he] at y1
      clear he he'
      gi_wp2_with fail
      refine wpIn_wide.2 ?_
      go_quiet (fail)
      have hb2 : Below wr.heap.size wr (wr.drewN nq) := ⟨rfl, rfl, rfl, Nat.le_refl _, fun _ _ => rfl⟩
      have HQ := Lib.hid (And.intro (ownFrom_below'' HJ.out hj.out hb2) (And.intro (hkp.out.trans (KpI.below HEr.out.n0_le hb2)) (Nat.le_trans hsz hb2.size)))
      have y2' := below_keep hb2 _ _ y2
      clear hb2
      generalize wr.drewN nq = w2 at *
      have hpl : (firesN s[m] ev old now l k).length < l.length := Nat.lt_of_le_of_lt (firesN_len _ _ _ _ _ _) hlt
      obtain ⟨fn, tm, asg, bo, hy, hR⟩ := HY.out _ k w2 HQ.out.1 hpl
      simp only [ptrT, Option.map_some] at hy
      gi_wp2_with fail
      refine ⟨trivial, ?_⟩
      gi_wp2_with fail
      refine ⟨fun h => (by cases h), (roundIn_any hR).mono ?_⟩
      rintro e W9 ⟨hk9, ⟨rfl, hj9, hkp9⟩ | ⟨rfl, hj9⟩⟩
      ·have hR9 := Lib.hid (And.intro hj9 (And.intro (HQ.out.2.1.trans hkp9) (Nat.le_trans HQ.out.2.2 (hk9.size))))
       clear hR hy hk9 hj9 hkp9
       gi_wp2_with fail
       go_roundw
       case rel => exact ⟨k + 1, by omega, by go_num, Lib.hid (by rw [HF.out]; exact hR9.out.1), Lib.hid hR9.out.2.1, hR9.out.2.2⟩
       case measure => simp [intOf]; omega
      ·have hR9 := Lib.hid hj9
       clear hR hy hk9 hj9
       gi_wp2_with fail
       refine bodyPost_ret (results_none rfl _ _ _) rfl ?_
       exact ⟨⟨_, rfl⟩, .inr ⟨_, by have h := firesN_pre s[m] ev old now l (show k + 1 ≤ l.length by omega); rw [HF.out] at h; exact h, hR9.out⟩⟩
     ·have hn2 : n2 = l[k].wher.length := hwh.1.symm
      subst hn2
      have hw2 : (0 : Int) < (l[k].wher.length : Int) := by omega
      have HWl := Lib.hid (HWL.out _ (List.getElem_mem hlt))
      rw [he] at y1
      by_cases htv : truthB l[k].wher (bothV s[m].cols.length old now) = 1
      ·have HF := Lib.hid (firesN_yes (t := s[m]) (ev := ev) (old := old) (now := now) hlt (by unfold fireB; rw [ht, he', htv]; simp))
       clear he he'
       gi_wp2_with fail
       refine wpIn_wide.2 ?_
       go_quiet (fail)
       have hb2 : Below wr.heap.size wr (wr.drewN nq) := ⟨rfl, rfl, rfl, Nat.le_refl _, fun _ _ => rfl⟩
       have HQ := Lib.hid (And.intro (ownFrom_below'' HJ.out hj.out hb2) (And.intro (hkp.out.trans (KpI.below HEr.out.n0_le hb2)) (Nat.le_trans hsz hb2.size)))
       have y2' := below_keep hb2 _ _ y2
       have HTR := Lib.hid (implTruth B2 Av l[k].wher.length _ c2 cv l[k].wher _ _ (Sl.cellz (fun _ => rfl) (hwh.below TkR.stays hb2)) (HOr.out.below hb2).vals8 (by have := HWl.out; unfold maxLen; omega) (by unfold maxLen; omega))
       clear hb2
       generalize wr.drewN nq = w2 at *
       gi_wp2_with fail
       refine ⟨trivial, fun h => (by cases h), (callsIn_wide.2 HTR.out).mono ?_⟩
       rintro e w3 ⟨rfl, hb3⟩
       rw [htv]
       have HQ' := Lib.hid (And.intro (ownFrom_below'' HJ.out HQ.out.1 hb3) (And.intro (HQ.out.2.1.trans (KpI.below (by have := HEr.out.n0_le; have := HQ.out.2.2; omega) hb3)) (Nat.le_trans HQ.out.2.2 hb3.size)))
       have HQ := HQ'
       clear HTR hb3 y2'
       have hpl : (firesN s[m] ev old now l k).length < l.length := Nat.lt_of_le_of_lt (firesN_len _ _ _ _ _ _) hlt
       obtain ⟨fn, tm, asg, bo, hy, hR⟩ := HY.out _ k w3 HQ.out.1 hpl
       simp only [ptrT, Option.map_some] at hy
       gi_wp2_with fail
       refine ⟨fun h => (by cases h), (roundIn_any hR).mono ?_⟩
       rintro e W9 ⟨hk9, ⟨rfl, hj9, hkp9⟩ | ⟨rfl, hj9⟩⟩
       ·have hR9 := Lib.hid (And.intro hj9 (And.intro (HQ.out.2.1.trans hkp9) (Nat.le_trans HQ.out.2.2 (hk9.size))))
        clear hR hy hk9 hj9 hkp9
        gi_wp2_with fail
        go_roundw
        case rel => exact ⟨k + 1, by omega, by go_num, Lib.hid (by rw [HF.out]; exact hR9.out.1), Lib.hid hR9.out.2.1, hR9.out.2.2⟩
        case measure => simp [intOf]; omega
       ·have hR9 := Lib.hid hj9
        clear hR hy hk9 hj9
        gi_wp2_with fail
        refine bodyPost_ret (results_none rfl _ _ _) rfl ?_
        exact ⟨⟨_, rfl⟩, .inr ⟨_, by have h := firesN_pre s[m] ev old now l (show k + 1 ≤ l.length by omega); rw [HF.out] at h; exact h, hR9.out⟩⟩
      ·have HF := Lib.hid (firesN_no (t := s[m]) (ev := ev) (old := old) (now := now) hlt (by unfold fireB; rw [ht, he']; simp [hw, htv]))
       clear he he'
       gi_wp2_with fail
       refine wpIn_wide.2 ?_
       go_quiet (fail)
       have hb2 : Below wr.heap.size wr (wr.drewN nq) := ⟨rfl, rfl, rfl, Nat.le_refl _, fun _ _ => rfl⟩
       have HQ := Lib.hid (And.intro (ownFrom_below'' HJ.out hj.out hb2) (And.intro (hkp.out.trans (KpI.below HEr.out.n0_le hb2)) (Nat.le_trans hsz hb2.size)))
       have y2' := below_keep hb2 _ _ y2
       have HTR := Lib.hid (implTruth B2 Av l[k].wher.length _ c2 cv l[k].wher _ _ (Sl.cellz (fun _ => rfl) (hwh.below TkR.stays hb2)) (HOr.out.below hb2).vals8 (by have := HWl.out; unfold maxLen; omega) (by unfold maxLen; omega))
       clear hb2
       generalize wr.drewN nq = w2 at *
       gi_wp2_with fail
       refine ⟨trivial, fun h => (by cases h), (callsIn_wide.2 HTR.out).mono ?_⟩
       rintro e w3 ⟨rfl, hb3⟩
       have HQ' := Lib.hid (And.intro (ownFrom_below'' HJ.out HQ.out.1 hb3) (And.intro (HQ.out.2.1.trans (KpI.below (by have := HEr.out.n0_le; have := HQ.out.2.2; omega) hb3)) (Nat.le_trans HQ.out.2.2 hb3.size)))
       have HQ := HQ'
       clear HTR hb3 y2'
       gi_wp2_with fail
       go_roundw
       case rel => exact ⟨k + 1, by omega, by go_num, Lib.hid (by rw [HF.out]; exact HQ.out.1), Lib.hid HQ.out.2.1, HQ.out.2.2⟩
       case measure => simp [intOf]; omega
    ·have he' : (l[k].event == ev) = false := by simpa using he
     have HF := Lib.hid (firesN_no (t := s[m]) (ev := ev) (old := old) (now := now) hlt (by unfold fireB; rw [ht, he']; rfl))
     gi_wp2_with fail
     refine wpIn_wide.2 ?_
     go_quiet (fail)
     have hb2 : Below wr.heap.size wr (wr.drewN nq) := ⟨rfl, rfl, rfl, Nat.le_refl _, fun _ _ => rfl⟩
     have HQ := Lib.hid (And.intro (ownFrom_below'' HJ.out hj.out hb2) (And.intro (hkp.out.trans (KpI.below HEr.out.n0_le hb2)) (Nat.le_trans hsz hb2.size)))
     clear hb2
     generalize wr.drewN nq = w2 at *
     gi_wp2_with fail
     go_roundw
     case rel => exact ⟨k + 1, by omega, by go_num, Lib.hid (by rw [HF.out]; exact HQ.out.1), Lib.hid HQ.out.2.1, HQ.out.2.2⟩
     case measure => simp [intOf]; omega
   ·have ht' : (l[k].table.toList == s[m].name.toList) = false := by simpa using ht
    have HF := Lib.hid (firesN_no (t := s[m]) (ev := ev) (old := old) (now := now) hlt (by unfold fireB; rw [ht', Bool.false_and]))
    clear ht
    gi_wp2_with fail
    refine wpIn_wide.2 ?_
    go_quiet (fail)
    have hb2 : Below wr.heap.size wr (wr.drewN nq) := ⟨rfl, rfl, rfl, Nat.le_refl _, fun _ _ => rfl⟩
    have HQ := Lib.hid (And.intro (ownFrom_below'' HJ.out hj.out hb2) (And.intro (hkp.out.trans (KpI.below HEr.out.n0_le hb2)) (Nat.le_trans hsz hb2.size)))
    clear hb2
    generalize wr.drewN nq = w2 at *
    gi_wp2_with fail
    go_roundw
    case rel => exact ⟨k + 1, by omega, by go_num, Lib.hid (by rw [HF.out]; exact HQ.out.1), Lib.hid HQ.out.2.1, HQ.out.2.2⟩
    case measure => simp [intOf]; omega
  ·obtain rfl : k = l.length := by omega
   gi_wp2_with fail
   go_end0
   exact ⟨⟨_, rfl⟩, .inl ⟨_, rfl, hj.out⟩⟩
end Go.Proofs.YteiifabdbkpkiaaGreat
namespace Go.Proofs.YteiifabdbkpkiaaGreat
open Go.RowKit
theorem OwnI.mono {w : World} {base base' : Nat} {v : Value} {xs : List Int} (h : OwnI w base v xs) (hb : base' ≤ base) : OwnI w base' v xs := by
 refine ⟨h.1, ?_⟩
 rcases h.2 with h | ⟨g, cap, cur, rfl, h1, h2⟩
 ·exact .inl h
 ·exact .inr ⟨g, cap, cur, rfl, Nat.le_trans hb h1, h2⟩
def hasI (l : List Int) (x : Int) : Bool := l.any fun y => y == x
theorem hasI_take (l : List Int) (x : Int) (k : Nat) (h : k < l.length) : hasI (l.take (k + 1)) x = (hasI (l.take k) x || (l[k] == x)) := by
 unfold hasI
 rw [List.take_succ_eq_append_getElem h, List.any_append]; simp
theorem hasI_all (l : List Int) (x : Int) : hasI (l.take l.length) x = hasI l x := by rw [List.take_length]
theorem hasI_mem (l : List Int) (x : Int) : hasI l x = true ↔ x ∈ l := by
 unfold hasI; simp
set_option maxRecDepth 100000 in
set_option maxHeartbeats 1000000 in
theorem lawsSameInts (A A' : Option Addr) (n c c' : Nat) (l : List Int) (ok ok' : Nat → Prop) (w : World) (h : Sl IntR 1 ok w A n l) (h' : Sl IntR 1 ok' w A' n l) (hs : l.length ≤ 1048576) :
  Calls Tryz.prog 7 #[.slice A n c, .slice A' n c'] w fun e w' => e = .returned (.bool true) ∧ Below w.heap.size w w' := by
 obtain rfl : l.length = n := h.1
 have hn : l.length ≤ 1048576 := by exact hs
 have HS := Lib.hid hs
 clear hs
 go_enter Tryz.func7, Tryz.ntmps7
 go_wp2
 go_loopw [5] (fun i wr => ∃ k : Nat, k ≤ l.length ∧ i = .int .i64 k ∧ Below w.heap.size w wr) (fun i _ => l.length - (intOf i).toNat)
 case atStart => exact ⟨0, by omega, rfl, Below.refl _ _⟩
 case round =>
  obtain ⟨k, hk, rfl, hb⟩ := hrel
  by_cases hlt : k < l.length
  ·obtain ⟨b, off, -, rfl, q0⟩ := IntR.at_ (h.below IntR.stays hb) hlt
   obtain ⟨b', off', -, rfl, r0⟩ := IntR.at_ (h'.below IntR.stays hb) hlt
   have i0 : (0 : Int) ≤ k := by omega
   have i1 : (k : Int) < l.length := by omega
   go_wp2_with fail
   go_region_held3 (fun w' => w'.cell? ⟨b, off + k, none⟩ = some (.int .i64 l[k]) ∧ w'.cell? ⟨b', off' + k, none⟩ = some (.int .i64 l[k]))
    (go_keep) (fail)
   go_wp2
   go_roundw
   case rel => exact ⟨k + 1, by omega, by go_num, hb.drew⟩
   case measure => simp [intOf]; omega
  ·go_wp2
   go_ret
   exact ⟨rfl, hb⟩
set_option maxRecDepth 100000 in
set_option maxHeartbeats 1000000 in
theorem lawsHas (A : Option Addr) (n c : Nat) (l : List Int) (x : Int) (ok : Nat → Prop) (w : World) (h : Sl IntR 1 ok w A n l) (hs : l.length ≤ 1048576) :
  Calls Tryz.prog 10 #[.slice A n c, .int .i64 x] w fun e w' => e = .returned (.bool (hasI l x)) ∧ Below w.heap.size w w' := by
 obtain rfl : l.length = n := h.1
 go_enter Tryz.func10, Tryz.ntmps10
 go_wp2
 go_loopw [5] (fun i wr => ∃ k : Nat, k ≤ l.length ∧ i = .int .i64 k ∧ Hid (hasI (l.take k) x = false) ∧ Below w.heap.size w wr) (fun i _ => l.length - (intOf i).toNat)
 case atStart => exact ⟨0, by omega, rfl, Lib.hid rfl, Below.refl _ _⟩
 case round =>
  obtain ⟨k, hk, rfl, hno, hb⟩ := hrel
  by_cases hlt : k < l.length
  ·obtain ⟨b, off, -, rfl, q0⟩ := IntR.at_ (h.below IntR.stays hb) hlt
   have hst := hasI_take l x k hlt
   have hal := hasI_all l x
   rw [hno.out, Bool.false_or] at hst
   have i0 : (0 : Int) ≤ k := by omega
   have i1 : (k : Int) < l.length := by omega
   cases hx : (l[k] == x)
   ·rw [hx] at hst
    have HST := Lib.hid hst
    clear hst hal
    go_wp2
    go_roundw
    case rel => exact ⟨k + 1, by omega, by go_num, HST, hb⟩
    case measure => simp [intOf]; omega
   ·have hy : hasI l x = true := by
     rw [hasI_mem]
     rw [beq_iff_eq] at hx
     rw [← hx]; exact List.getElem_mem hlt
    have HY := Lib.hid hy
    clear hst hal hy
    go_wp2
    go_ret
    exact ⟨congrArg (fun b => Ending.returned (Value.bool b)) HY.out.symm, hb⟩
  ·obtain rfl : k = l.length := by omega
   have hal := hasI_all l x
   rw [hno.out] at hal
   have HY := Lib.hid hal
   clear hal
   go_wp2
   go_ret
   exact ⟨congrArg (fun b => Ending.returned (Value.bool b)) HY.out, hb⟩
end Go.Proofs.YteiifabdbkpkiaaGreat
