/-
  The key of a row: in the program and in the model.
-/
import Derived.Test.YtgmgjjoalpnmhaaOwnVals
namespace Go.Proofs.Ytgmgjjoalpnmhaa
open Go.RowKit Go.Maps
set_option linter.unusedVariables false
set_option linter.unusedSimpArgs false

theorem infoValK : (Try.prog.info? 40).map (fun i => (i.zero, i.size, i.bytes)) = some (some (.agg #[.int .i64 0, .int .i64 0, .string ⟨#[]⟩]), 3, 32) := by kernel_rfl
def OwnV (w : World) (base : Nat) (v : Value) (xs : List Vl) : Prop := OwnG 40 3 Vl.cells w base v xs

theorem implPlaceK {p nc : Int} {b : Bool} (h : (decide (0 ≤ p) && decide (p < nc)) = b) (w : World) : Calls Try.prog 20 #[.int .i64 p, .int .i64 nc] w fun e w' => e = .returned (.bool b) ∧ w = w' := by
  subst h
  by_cases h0 : 0 ≤ p
  · have h0' : decide (0 ≤ p) = true := decide_eq_true h0
    go_enter Try.func20, Try.ntmps20
    go_wp2
    go_ret
    exact ⟨by simp [h0'], rfl⟩
  · have h0' : decide (0 ≤ p) = false := decide_eq_false h0
    go_enter Try.func20, Try.ntmps20
    go_wp2
    go_ret
    exact ⟨by simp [h0'], rfl⟩
theorem not_all_of {cols : List Int} {vals : List Vl} {k : Nat} (h : k < cols.length) (hf : inV vals cols[k] = false) : keyOk cols vals = false := by
  unfold keyOk
  rw [Bool.and_eq_false_iff]
  refine Or.inr ?_
  rw [List.all_eq_false]
  exact ⟨cols[k], List.getElem_mem h, by simp [hf]⟩

set_option maxRecDepth 100000 in
set_option maxHeartbeats 2000000 in
theorem implKeyOf (AC AV : Option Addr) (nC cC nV cV : Nat) (cols : List Int) (vals : List Vl) (ok ok' : Nat → Prop) (w : World) (hc : Sl IntR 1 ok w AC nC cols) (hv : Sl VlR 3 ok' w AV nV vals) (hcn : nC ≤ 1048576) (hvn : nV ≤ 1048576) :
    Calls Try.prog 8 #[.slice AC nC cC, .slice AV nV cV] w (MadeF VlR 3 (keyOf cols vals) (keyFl cols vals) w) := by
  obtain rfl : cols.length = nC := hc.1
  obtain rfl : vals.length = nV := hv.1
  cases hB : rowB vals
  · have HB := Lib.hid hB
    have HK := Lib.hid (show keyOf cols vals = [] ∧ keyFl cols vals = false by unfold keyOf keyFl keyOk; rw [hB]; exact ⟨rfl, rfl⟩)
    clear hB
    go_enter Try.func8, Try.ntmps8
    go_wp2_with fail
    refine (implSeenOk AV vals.length cV vals _ (Sl.cellz (fun _ => rfl) hv) (by unfold maxLen; omega)).mono ?_
    rintro e w1 ⟨rfl, hb1⟩
    rw [HB.out]
    go_wp2_with fail
    go_ret2
    exact ⟨none, 0, by rw [HK.out.1, HK.out.2]; rfl, by rw [HK.out.1]; exact Nat.le_refl _, by rw [HK.out.1]; exact ⟨rfl, fun h => by simp at h⟩, hb1⟩
  have HB := Lib.hid hB
  clear hB
  have hmk := fun w => mk_rows (P := Try.prog) Try.underlying25 infoValK (by omega) cols.length hcn w
  go_enter Try.func8, Try.ntmps8
  go_wp2_with fail
  refine (implSeenOk AV vals.length cV vals _ (Sl.cellz (fun _ => rfl) hv) (by unfold maxLen; omega)).mono ?_
  rintro e w1 ⟨rfl, hb1⟩
  rw [HB.out]
  go_wp2_with fail
  have row := Row.new w1 40 (madeCells #[.int .i64 0, .int .i64 0, .string ⟨#[]⟩] (cols.length * 3))
  have hb0 := hb1.alloc hb1.size (.cells (madeCells #[.int .i64 0, .int .i64 0, .string ⟨#[]⟩] (cols.length * 3)) 40)
  have hsz := size_madeCells #[.int .i64 0, .int .i64 0, .string ⟨#[]⟩] (cols.length * 3)
  have hg : w.heap.size ≤ w1.heap.size := hb1.size
  have HG := Lib.hid hg
  generalize hgw : w1.heap.size = g at *
  generalize w1.alloc (.cells (madeCells #[.int .i64 0, .int .i64 0, .string ⟨#[]⟩] (cols.length * 3)) 40) = x at *
  generalize madeCells #[.int .i64 0, .int .i64 0, .string ⟨#[]⟩] (cols.length * 3) = cs0 at *
  have HZ := Lib.hid hsz
  have HL := Lib.hid (show (keyL cols vals).length = cols.length by simp [keyL])
  clear hmk hsz hg hgw hb1
  go_loopw [7, 18] (fun kn i wr => ∃ (k : Nat) (b : Bool) (cs : Array Value), k ≤ cols.length ∧ i = .int .i64 k ∧ kn = .bool b ∧ Hid (b = knownL ((keyL cols vals).take k)) ∧ Row wr g 40 cs ∧ Hid (cs.size = cols.length * 3) ∧ Hid (LaidR VlR 3 (okF (g + 1) wr) wr cs k (keyL cols vals)) ∧ Hid ((cols.take k).all (inV vals) = true) ∧ Hid (g + 1 ≤ wr.heap.size) ∧ Below w.heap.size w wr) (fun _ i _ => cols.length - (intOf i).toNat)
  case atStart => exact ⟨0, true, cs0, by omega, rfl, rfl, Lib.hid rfl, row, HZ, Lib.hid (LaidR.zero _ _ _ _ _ _), Lib.hid rfl, Lib.hid (lt_of_block row), hb0⟩
  case round =>
    clear hb0 row
    obtain ⟨k, kb, cs, hk, rfl, rfl, hkb, hrow, hcs, hlaid, hall, hgw, hb⟩ := hrel
    by_cases hlt : k < cols.length
    · obtain ⟨b, off, -, rfl, q0⟩ := IntR.at_ (hc.below IntR.stays hb) hlt
      have i0 : (0 : Int) ≤ k := by omega
      have i1 : (k : Int) < cols.length := by omega
      cases hin : inV vals cols[k]
      · have HK := Lib.hid (show keyOf cols vals = [] ∧ keyFl cols vals = false by unfold keyOf keyFl; rw [not_all_of hlt hin]; exact ⟨rfl, rfl⟩)
        have HI := Lib.hid (show (decide (0 ≤ cols[k]) && decide (cols[k] < (vals.length : Int))) = false from hin)
        clear hin
        go_wp2_with fail
        refine (implPlaceK HI.out _).mono ?_
        rintro e w2 ⟨rfl, rfl⟩
        go_wp2_with fail
        go_ret2
        exact ⟨none, 0, by rw [HK.out.1, HK.out.2]; rfl, by rw [HK.out.1]; exact Nat.le_refl _, by rw [HK.out.1]; exact ⟨rfl, fun h => by simp at h⟩, hb⟩
      · obtain ⟨m, hm, hmv⟩ := inV_nat hin
        have HT := Lib.hid (keyL_take hlt hm hmv)
        have HA := Lib.hid (show (cols.take (k + 1)).all (inV vals) = true by rw [List.take_succ_eq_append_getElem hlt, List.all_append, hall.out]; simp [hin])
        have HI := Lib.hid (show (decide (0 ≤ (m : Int)) && decide ((m : Int) < (vals.length : Int))) = true by rw [← hm]; exact hin)
        rw [hm] at q0
        obtain ⟨bv, offv, -, rfl, y0, y1, y2⟩ := VlR.at_ (hv.below VlR.stays hb) hmv
        have hsz1 : k * 3 + 3 ≤ cs.size := by rw [hcs.out]; omega
        have q : ∀ j, j < 3 → wr.cell? ⟨g, k * 3 + j, none⟩ = some (cs[k * 3 + j]?.getD undef) := fun j hj => by
          rw [hrow.cell, Array.getElem?_eq_getElem (by omega)]; rfl
        have z0 : wr.cell? ⟨g, k * 3, none⟩ = some (cs[k * 3]?.getD undef) := q 0 (by omega)
        have z1 := q 1 (by omega)
        have z2 := q 2 (by omega)
        have f0 := hrow.free (k * 3)
        have f1 := hrow.free (k * 3 + 1)
        have f2 := hrow.free (k * 3 + 2)
        have j0 : (0 : Int) ≤ m := by omega
        have j1 : (m : Int) < vals.length := by omega
        have HR := Lib.hid hrow
        have HM := Lib.hid hm
        have hLk : k < (keyL cols vals).length := by rw [HL.out]; exact hlt
        have HKM := Lib.hid (show (keyL cols vals)[k] = vals[m] by simp [keyL, hm, hmv])
        have HS := Lib.hid hsz1
        clear q hrow hm hin hall hsz1
        generalize hvm : vals[m] = v at *
        have HVM := Lib.hid hvm
        clear hvm
        cases kb
        · have HB2 := Lib.hid (show false = knownL ((keyL cols vals).take (k + 1)) by rw [known_take HT.out, ← hkb.out]; rfl)
          clear hkb
          go_wp2_with fail
          refine (implPlaceK HI.out _).mono ?_
          rintro e w2 ⟨rfl, rfl⟩
          go_wp2_with fail
          go_roundw
          case rel => exact ⟨k + 1, _, _, by omega, by go_num, rfl, HB2, ((HR.out.set _ _).set _ _).set _ _, Lib.hid (by simp [hcs.out]), Lib.hid ((((hlaid.out.setF VlR.stays (by simp) _).setF VlR.stays (by simp) _).setF VlR.stays (by simp) _).more hLk (c := [.int .i64 v.k, .int .i64 v.n, .string v.s]) rfl (by rw [HKM.out]; rfl) (hold3 cs k _ _ _) (fresh3 cs k _ _ _ HS.out)), HA, Lib.hid (by simpa using hgw.out), ((hb.setCell (by simpa using HG.out) _).setCell (by simpa using HG.out) _).setCell (by simpa using HG.out) _⟩
          case measure => simp [intOf]; omega
        · have HB2 := Lib.hid (show (v.k != 0) = knownL ((keyL cols vals).take (k + 1)) by rw [known_take HT.out, ← hkb.out]; rfl)
          clear hkb
          go_wp2_with fail
          refine (implPlaceK HI.out _).mono ?_
          rintro e w2 ⟨rfl, rfl⟩
          go_wp2_with fail
          go_roundw
          case rel => exact ⟨k + 1, _, _, by omega, by go_num, rfl, HB2, ((HR.out.set _ _).set _ _).set _ _, Lib.hid (by simp [hcs.out]), Lib.hid ((((hlaid.out.setF VlR.stays (by simp) _).setF VlR.stays (by simp) _).setF VlR.stays (by simp) _).more hLk (c := [.int .i64 v.k, .int .i64 v.n, .string v.s]) rfl (by rw [HKM.out]; rfl) (hold3 cs k _ _ _) (fresh3 cs k _ _ _ HS.out)), HA, Lib.hid (by simpa using hgw.out), ((hb.setCell (by simpa using HG.out) _).setCell (by simpa using HG.out) _).setCell (by simpa using HG.out) _⟩
          case measure => simp [intOf]; omega
    · obtain rfl : k = cols.length := by omega
      have hok : keyOk cols vals = true := by
        have h1 := hall.out
        rw [List.take_of_length_le (Nat.le_refl _)] at h1
        unfold keyOk
        rw [HB.out, h1]; rfl
      have hsl := (sl_of_laid (ok := okF w.heap.size _) hrow ⟨HG.out, hgw.out, fun off => hrow.free off⟩ (fun i hi hlt' => by
        obtain ⟨c', h1, h2, h3⟩ := hlaid.out i hi hlt'
        exact ⟨c', h1, VlR.stays _ _ _ _ _ _ h2 (fun b hb' => hb'.mono (Nat.le_succ_of_le HG.out)) (fun p v _ hp => hp), h3⟩) (Nat.le_of_eq HL.out))
      have HK := Lib.hid (show keyOf cols vals = keyL cols vals by unfold keyOf; rw [hok]; rfl)
      have HF := Lib.hid (show keyFl cols vals = kb by
        have h1 := hkb.out
        rw [List.take_of_length_le (Nat.le_of_eq HL.out)] at h1
        unfold keyFl; rw [hok, h1]; rfl)
      have HSL := Lib.hid hsl
      clear hok hsl
      go_wp2_with fail
      go_ret2
      exact ⟨some ⟨g, 0, none⟩, cols.length, by rw [HK.out, HF.out, HL.out]; rfl, by rw [HK.out, HL.out]; exact Nat.le_refl _, by rw [HK.out]; exact HSL.out, hb⟩
end Go.Proofs.Ytgmgjjoalpnmhaa
