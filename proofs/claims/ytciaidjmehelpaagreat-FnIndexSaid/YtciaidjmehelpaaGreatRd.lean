/-
  Several texts in one: what the proof leans on, part 4.
-/
import Derived.Test.YtciaidjmehelpaaGreatRa
import Derived.Test.YtciaidjmehelpaaGreatRb
import Derived.Test.YtciaidjmehelpaaGreatRc
import Derived.Test.YtciaidjmehelpaaGreatMa
import Derived.Test.YtciaidjmehelpaaGreatMb
import Derived.Test.YtciaidjmehelpaaGreatMc
import Derived.Test.YtciaidjmehelpaaGreatMd
import Derived.Test.YtciaidjmehelpaaGreatMe
import Derived.Deep.CutRange
set_option linter.unusedVariables false
set_option linter.unusedSimpArgs false
namespace Go.Proofs.YtciaidjmehelpaaGreat
open Go.RowKit Go.Maps
theorem infoPtrRow : (Tryz.prog.info? 112).map (fun i => (i.zero, i.size, i.bytes)) = some (some (.pointer none), 1, 8) := by kernel_rfl
def ptrC (A : Option Addr) (i : Nat) : List Value := [.pointer (A.map fun a => ⟨a.block, a.off + i * 2, none⟩)]
def MadeG {α : Type} (R : Rd α) (sz : Nat) (xs : List α) (w : World) (e : Ending) (w' : World) : Prop := ∃ A c, e = .returned (.slice A xs.length c) ∧ xs.length ≤ c ∧ Sl R sz (okF w.heap.size w') w' A xs.length xs ∧ Below w.heap.size w w'
def OwnP (A : Option Addr) (w : World) (base : Nat) (v : Value) (xs : List Nat) : Prop := OwnG 112 1 (ptrC A) w base v xs
set_option maxRecDepth 100000 in
set_option maxHeartbeats 2000000 in
theorem implRowsWith (bd od : Nat) (AL AC AK : Option Addr) (nL cL nC cC nK cK : Nat) (rows : List Rw) (cols : List Int) (key : List Vl) (ok ok' ok'' : Nat → Prop) (w : World)
  (p0 : w.cell? ⟨bd, od, none⟩ = some (.slice AL nL cL)) (hr : Sl RwR 2 ok w AL nL rows) (hc : Sl IntR 1 ok' w AC nC cols) (hk : Sl VlR 3 ok'' w AK nK key) (hrn : nL ≤ 1048576) (hcn : nC ≤ 1048576) (hkn : nK ≤ 1048576) (hvn : ∀ r ∈ rows, r.vals.length ≤ 1048576) (hall : ∀ r ∈ rows, cols.all (inV r.vals) = true) :
  Calls Tryz.prog 74 #[.pointer (some ⟨bd, od, none⟩), .slice AC nC cC, .slice AK nK cK] w (MadeG (FlatR (ptrC AL)) 1 (idxK cols key rows rows.length) w) := by
 obtain rfl : rows.length = nL := hr.1
 have HALL := Lib.hid hall
 have HVN := Lib.hid hvn
 have P0 := Lib.hid p0
 obtain ⟨i0, hi, hz0, hz1, hz2⟩ := info_parts infoPtrRow
 have H1 := Lib.hid hi
 have H2 := Lib.hid hz0
 have H3 := Lib.hid hz1
 have H4 := Lib.hid hz2
 clear hall hvn hi hz0 hz1 hz2
 go_enter Tryz.func74, Tryz.ntmps74
 go_wp2_with fail
 clear p0
 go_loopw [7, 15] (fun v i wr => ∃ k : Nat, k ≤ rows.length ∧ i = .int .i64 k ∧ Hid (OwnP AL wr w.heap.size v (idxK cols key rows k)) ∧ Below w.heap.size w wr) (fun _ i _ => rows.length - (intOf i).toNat)
 case atStart => exact ⟨0, by omega, rfl, Lib.hid (OwnG.nil _ _), Below.refl _ _⟩
 case round =>
  obtain ⟨k, hk', rfl, hown, hb⟩ := hrel
  by_cases hlt : k < rows.length
  ·obtain ⟨bl, ol, A1, n1, c1, -, ea, q0, q1, hv, -⟩ := RwR.at_ (hr.below RwR.stays hb) hlt
   obtain rfl : rows[k].vals.length = n1 := hv.1
   have p0 := below_keep hb _ _ P0.out
   have i0' : (0 : Int) ≤ k := by omega
   have i1 : (k : Int) < rows.length := by omega
   have HEA := Lib.hid ea
   have HLEN := Lib.hid (idxK_len cols key rows k)
   have HC := Lib.hid (implHasKey bl (ol + k * 2) AC AK A1 nC cC nK cK _ c1 (.int .i64 rows[k].id) cols key rows[k].vals _ _ _ wr q1 (hc.below IntR.stays hb) (hk.below VlR.stays hb) hv hcn hkn (HVN.out _ (List.getElem_mem hlt)) (HALL.out _ (List.getElem_mem hlt)))
   rw [ea] at p0
   clear ea hv q0 q1
   cases hr' : hitB cols key rows[k].vals
   ·have HRF := Lib.hid hr'
    have HRK := Lib.hid (idxK_no hlt hr')
    clear hr'
    go_wp2_with fail
    refine HC.out.mono ?_
    rintro e w2 ⟨rfl, hb2⟩
    rw [HRF.out]
    have hown' := Lib.hid (OwnG.below hown.out hb2)
    clear hown p0
    go_wp2_with fail
    go_roundw
    case rel => exact ⟨k + 1, by omega, by go_num, Lib.hid (by rw [HRK.out]; exact hown'.out), hb.trans (hb2.mono hb.size)⟩
    case measure => simp [intOf]; omega
   ·have HRF := Lib.hid hr'
    have HRK := Lib.hid (idxK_yes hlt hr')
    clear hr'
    go_wp2_with fail
    refine HC.out.mono ?_
    rintro e w2 ⟨rfl, hb2⟩
    rw [HRF.out]
    have hbz := hb.trans (hb2.mono hb.size)
    have hoz := Lib.hid (OwnG.below hown.out hb2)
    clear hown p0 hb hb2 HC
    generalize hgv : idxK cols key rows k = xs at *
    have HGV := Lib.hid hgv
    clear hgv
    go_wp2_with (at_builtin; refine wpList_append_own _ rfl _ _ 109 rfl w.heap.size 112 i0 (.pointer none) 1 8 Tryz.underlying109 H1.out H2.out H3.out H4.out rfl (by decide) _ _ _ rfl (World.ownsRow.alloc hoz.out _) ⟨_, 0, none⟩ 1 1 [.pointer (some ⟨bl, ol + k * 2, none⟩)] rfl rfl ?c1 ?c2 ?c3 ?c4 ?c5 ?_)
    case c1 => exact cell_one_new _ _ _
    case c2 => intro u hu; simp at hu; subst hu; rfl
    case c3 => have := HLEN.out; unfold maxLen; omega
    case c4 => have := HLEN.out; omega
    case c5 => have := hbz.size; simp; omega
    intro v' w3 hown3 hgrow _
    have R := Lib.hid (OwnG.app (f := ptrC AL) (x := k) hoz.out hbz.size (by rw [show ptrC AL k = [.pointer (some ⟨bl, ol + k * 2, none⟩)] by rw [HEA.out]; rfl]; exact hown3) hgrow)
    clear hown3 hgrow hoz
    go_wp2_with fail
    go_roundw
    case rel => exact ⟨k + 1, by omega, by go_num, Lib.hid (by rw [HRK.out]; exact R.out.1), hbz.trans R.out.2⟩
    case measure => simp [intOf]; omega
  ·obtain rfl : k = rows.length := by omega
   obtain ⟨AO, cO, rfl, hcO, hcm, hsl⟩ := OwnG.sl (f := ptrC AL) (sz := 1) (fun _ => rfl) hown.out
   have HSL := Lib.hid hsl
   clear hown hsl
   go_wp2_with fail
   go_ret
   exact ⟨AO, cO, rfl, hcO, HSL.out, hb⟩
def findB (s : List Tb) (db : List Dt) (t : Int) (cols : List Int) (key : List Vl) : List Int :=
 match s[t.toNat]?, db[t.toNat]? with
 | some x, some d => if dbB s db && (decide (0 ≤ t) && colsInB cols x.cols.length) then findL cols key d.rows else []
 | _, _ => []
theorem findB_bad {s : List Tb} {db : List Dt} {t : Int} {cols : List Int} {key : List Vl} (h : dbB s db = false) : findB s db t cols key = [] := by
 unfold findB
 split
 ·rw [h]; rfl
 ·rfl
theorem findB_out {s : List Tb} {db : List Dt} {t : Int} {cols : List Int} {key : List Vl} (h : (decide (0 ≤ t) && decide (t < (s.length : Int))) = false) : findB s db t cols key = [] := by
 unfold findB
 split
 ·next x d hx hd =>
  have h1 := (List.getElem?_eq_some_iff.1 hx).1
  by_cases h0 : 0 ≤ t
  ·rw [decide_eq_true h0, decide_eq_true (by omega)] at h; cases h
  ·rw [decide_eq_false h0]; simp
 ·rfl
theorem findB_cols {s : List Tb} {db : List Dt} {m : Nat} {cols : List Int} {key : List Vl} (h1 : m < s.length) (h : colsInB cols s[m].cols.length = false) : findB s db (m : Int) cols key = [] := by
 unfold findB
 rw [Int.toNat_natCast, List.getElem?_eq_getElem h1]
 split
 ·next x d hx hd =>
  cases hx
  rw [h]; simp
 ·rfl
theorem findB_yes {s : List Tb} {db : List Dt} {m : Nat} {cols : List Int} {key : List Vl} (h1 : m < s.length) (h2 : m < db.length) (hB : dbB s db = true) (h : colsInB cols s[m].cols.length = true) : findB s db (m : Int) cols key = findL cols key db[m].rows := by
 unfold findB
 rw [Int.toNat_natCast, List.getElem?_eq_getElem h1, List.getElem?_eq_getElem h2]
 simp only [hB, h]
 simp
theorem ptr_at {A P : Option Addr} {bl ol n : Nat} {xs : List Nat} {ok : Nat → Prop} {w : World} (h : Sl (FlatR (ptrC A)) 1 ok w P n xs) (hA : A = some ⟨bl, ol, none⟩) {j : Nat} (hj : j < xs.length) :
  ∃ b off, P = some ⟨b, off, none⟩ ∧ w.cell? ⟨b, off + j, none⟩ = some (.pointer (some ⟨bl, ol + xs[j] * 2, none⟩)) := by
 have hl := h.1
 obtain ⟨b, off, rfl, hb, hc⟩ := h.2 (by omega)
 obtain ⟨cs, -, hR, g⟩ := hc j hj
 have e : cs = _ := hR
 subst e hA
 exact ⟨b, off, rfl, by have := g 0 _ rfl; rwa [Nat.mul_one] at this⟩
set_option maxRecDepth 100000 in
set_option maxHeartbeats 4000000 in
theorem implFindRows (AS AD AC AK : Option Addr) (nS cS nD cD nC cC nK cK : Nat) (s : List Tb) (db : List Dt) (t : Int) (cols : List Int) (key : List Vl) (ok ok' okc okk : Nat → Prop) (w : World)
  (hs : Sl TbR 6 ok w AS nS s) (hd : Sl DtR 1 ok' w AD nD db) (hc : Sl IntR 1 okc w AC nC cols) (hk : Sl VlR 3 okk w AK nK key) (hsz : szL Tb.sz s ≤ 1048576) (hdz : szL Dt.sz db ≤ 1048576) (hcn : nC ≤ 1048576) (hkn : nK ≤ 1048576) :
  Calls Tryz.prog 28 #[.slice AS nS cS, .slice AD nD cD, .int .i64 t, .slice AC nC cC, .slice AK nK cK] w (MadeI (findB s db t cols key) w) := by
 obtain rfl : s.length = nS := hs.1
 obtain rfl : db.length = nD := hd.1
 have hn1 : s.length ≤ 1048576 := by unfold szL at hsz; omega
 have hn2 : db.length ≤ 1048576 := by unfold szL at hdz; omega
 have HSZ := Lib.hid hsz
 have HDZ := Lib.hid hdz
 have HVS := Lib.hid (rows_le hdz)
 have HDB := Lib.hid (implDbOk' AS AD s.length cS db.length cD s db ok ok' w hs hd hsz hdz)
 clear hsz hdz
 cases hB : dbB s db
 ·have HB := Lib.hid hB
  have HR := Lib.hid (findB_bad (t := t) (cols := cols) (key := key) hB)
  clear hB
  go_enter Tryz.func28, Tryz.ntmps28
  go_wp2_with fail
  refine HDB.out.mono ?_
  rintro e w1 ⟨rfl, hb1⟩
  rw [HB.out]
  go_wp2_with fail
  go_ret
  exact ⟨none, 0, by rw [HR.out]; rfl, by rw [HR.out]; exact Nat.le_refl _, by rw [HR.out]; exact ⟨rfl, fun h => by simp at h⟩, hb1⟩
 have HB := Lib.hid hB
 have hlen := dbB_len hB
 have HLEN := Lib.hid hlen
 clear hB hlen
 cases hin : (decide (0 ≤ t) && decide (t < (s.length : Int)))
 ·have HI := Lib.hid hin
  have HR := Lib.hid (findB_out (db := db) (cols := cols) (key := key) hin)
  clear hin
  go_enter Tryz.func28, Tryz.ntmps28
  go_wp2_with fail
  refine HDB.out.mono ?_
  rintro e w1 ⟨rfl, hb1⟩
  rw [HB.out]
  go_wp2_with fail
  refine (implPlaceK HI.out _).mono ?_
  rintro e w2 ⟨rfl, rfl⟩
  go_wp2_with fail
  go_ret
  exact ⟨none, 0, by rw [HR.out]; rfl, by rw [HR.out]; exact Nat.le_refl _, by rw [HR.out]; exact ⟨rfl, fun h => by simp at h⟩, hb1⟩
 have HI := Lib.hid hin
 obtain ⟨m, rfl, hm⟩ : ∃ m : Nat, t = m ∧ m < s.length := by
  simp only [Bool.and_eq_true, decide_eq_true_eq] at hin
  exact ⟨t.toNat, by omega, by omega⟩
 have hmd : m < db.length := by have := HLEN.out; omega
 have m0 : (0 : Int) ≤ m := by omega
 have m1 : (m : Int) < s.length := by omega
 have m2 : (m : Int) < db.length := by omega
 clear hin
 cases hcol : colsInB cols s[m].cols.length
 ·have HC := Lib.hid hcol
  have HR := Lib.hid (findB_cols (db := db) (key := key) hm hcol)
  clear hcol
  go_enter Tryz.func28, Tryz.ntmps28
  go_wp2_with fail
  refine HDB.out.mono ?_
  rintro e w1 ⟨rfl, hb1⟩
  rw [HB.out]
  go_wp2_with fail
  refine (implPlaceK HI.out _).mono ?_
  rintro e w2 ⟨rfl, rfl⟩
  obtain ⟨b, off, A1, n1, c1, A2, n2, c2, A3, n3, c3, A4, n4, c4, A5, n5, c5, -, rfl, q0, q1, q2, q3, q4, q5, s1, -⟩ := TbR.at_ (hs.below TbR.stays hb1) hm
  obtain rfl : s[m].cols.length = n1 := s1.1
  have hcl : s[m].cols.length ≤ 1048576 := by have h1 := HSZ.out; have := sum_mem_le Tb.sz s m hm; simp only [szL, Tb.sz] at *; omega
  go_wp2_with fail
  refine (implAreColumns AC nC cC cols s[m].cols.length _ _ (hc.below IntR.stays hb1) hcn hcl).mono ?_
  rintro e w3 ⟨rfl, hb3⟩
  rw [HC.out]
  go_wp2_with fail
  go_ret
  exact ⟨none, 0, by rw [HR.out]; rfl, by rw [HR.out]; exact Nat.le_refl _, by rw [HR.out]; exact ⟨rfl, fun h => by simp at h⟩, hb1.trans (hb3.mono hb1.size)⟩
 have HC := Lib.hid hcol
 have HR := Lib.hid (findB_yes (key := key) hm hmd HB.out hcol)
 have HROW := Lib.hid (fun r hr => all_inV hcol (dbB_row HB.out hm hmd r hr))
 have HVR := Lib.hid (HVS.out _ (List.getElem_mem hmd))
 have HFL := Lib.hid (findL_len cols key db[m].rows)
 have HRN := Lib.hid (show db[m].rows.length ≤ 1048576 by have h1 := HDZ.out; have := sum_mem_le Dt.sz db m hmd; simp only [szL, Dt.sz] at *; omega)
 obtain ⟨i0, hi, hz0, hz1, hz2⟩ := info_parts infoIntI
 have H1 := Lib.hid hi
 have H2 := Lib.hid hz0
 have H3 := Lib.hid hz1
 have H4 := Lib.hid hz2
 clear hcol hi hz0 hz1 hz2
 go_enter Tryz.func28, Tryz.ntmps28
 go_wp2_with fail
 refine HDB.out.mono ?_
 rintro e w1 ⟨rfl, hb1⟩
 rw [HB.out]
 go_wp2_with fail
 refine (implPlaceK HI.out _).mono ?_
 rintro e w2 ⟨rfl, rfl⟩
 obtain ⟨b, off, A1, n1, c1, A2, n2, c2, A3, n3, c3, A4, n4, c4, A5, n5, c5, -, rfl, q0, q1, q2, q3, q4, q5, s1, -⟩ := TbR.at_ (hs.below TbR.stays hb1) hm
 obtain rfl : s[m].cols.length = n1 := s1.1
 have hcl : s[m].cols.length ≤ 1048576 := by have h1 := HSZ.out; have := sum_mem_le Tb.sz s m hm; simp only [szL, Tb.sz] at *; omega
 go_wp2_with fail
 refine (implAreColumns AC nC cC cols s[m].cols.length _ _ (hc.below IntR.stays hb1) hcn hcl).mono ?_
 rintro e w3 ⟨rfl, hb3⟩
 rw [HC.out]
 have hbz := hb1.trans (hb3.mono hb1.size)
 clear q0 q1 q2 q3 q4 q5 hb1 hb3 hcl
 obtain ⟨bd, offd, AL, nL, cL, -, rfl, y0, hrs, -⟩ := DtR.at_ (hd.below DtR.stays hbz) hmd
 obtain rfl : db[m].rows.length = nL := hrs.1
 have HP := Lib.hid (implRowsWith bd (offd + m) AL AC AK db[m].rows.length cL nC cC nK cK db[m].rows cols key _ _ _ w3 y0 hrs (hc.below IntR.stays hbz) (hk.below VlR.stays hbz) HRN.out hcn hkn HVR.out HROW.out)
 clear y0
 go_wp2_with fail
 refine HP.out.mono ?_
 rintro e w4 ⟨AP, cP, rfl, hcP, hsp, hb4⟩
 have hrs := hrs.below RwR.stays hb4
 have hbz2 := hbz.trans (hb4.mono hbz.size)
 have HIL := Lib.hid (idxK_lt cols key db[m].rows db[m].rows.length)
 have HXL := Lib.hid (idxK_len cols key db[m].rows db[m].rows.length)
 have HRX := Lib.hid (show findB s db (m : Int) cols key = idL db[m].rows (idxK cols key db[m].rows db[m].rows.length) from HR.out)
 clear hb4 HP hbz
 generalize hxg : idxK cols key db[m].rows db[m].rows.length = xs at *
 generalize hrg : db[m].rows = rows at *
 have HXG := Lib.hid hxg
 have HRG := Lib.hid hrg
 clear hxg hrg
 go_wp2_with fail
 go_loopw [11, 43] (fun v i wr => ∃ j : Nat, j ≤ xs.length ∧ i = .int .i64 j ∧ Hid (OwnI wr w4.heap.size v (idL rows (xs.take j))) ∧ Below w4.heap.size w4 wr) (fun _ i _ => xs.length - (intOf i).toNat)
 case atStart => exact ⟨0, by omega, rfl, Lib.hid (OwnI.nil _ _), Below.refl _ _⟩
 case round =>
  obtain ⟨j, hj, rfl, hown, hb⟩ := hrel
  by_cases hlt : j < xs.length
  ·have hix := (HIL.out _ (List.getElem_mem hlt)).2
   obtain ⟨bl, ol, B1, k1, d1, -, rfl, z0, -⟩ := RwR.at_ (hrs.below RwR.stays hb) hix
   obtain ⟨bp, op, rfl, z1⟩ := ptr_at (hsp.stays (FlatR.stays _) (fun _ h => h) (fun p v _ hp => below_keep hb p v hp)) rfl hlt
   have j0 : (0 : Int) ≤ j := by omega
   have j1 : (j : Int) < xs.length := by omega
   have HT := Lib.hid (show idL rows (xs.take (j + 1)) = idL rows (xs.take j) ++ [rows[xs[j]].id] by rw [List.take_succ_eq_append_getElem hlt, idL_app _ _ _ hix])
   have HLI := Lib.hid (show (idL rows (xs.take j)).length ≤ j by unfold idL; rw [List.length_map, List.length_take]; omega)
   have hxj : xs.length ≤ 1048576 := by have h1 := HXL.out; have h2 := HRN.out; omega
   have hoz := hown
   clear hown
   generalize hgv : idL rows (xs.take j) = ys at *
   have HGV := Lib.hid hgv
   clear hgv
   go_wp2_with (at_builtin; refine wpList_append_own _ rfl _ _ 29 rfl w4.heap.size 2 i0 (.int .i64 0) 1 8 Tryz.underlying29 H1.out H2.out H3.out H4.out rfl (by decide) _ _ _ rfl (World.ownsRow.alloc hoz.out _) ⟨_, 0, none⟩ 1 1 [.int .i64 rows[xs[j]].id] rfl rfl ?c1 ?c2 ?c3 ?c4 ?c5 ?_)
   case c1 => exact cell_one_new _ _ _
   case c2 => intro u hu; simp at hu; subst hu; rfl
   case c3 => have := HLI.out; unfold maxLen; omega
   case c4 => have := HLI.out; omega
   case c5 => have := hb.size; simp; omega
   intro v' w5 hown3 hgrow _
   have R := Lib.hid (OwnI.app hoz.out hb.size hown3 hgrow)
   clear hown3 hgrow hoz
   go_wp2_with fail
   go_roundw
   case rel => exact ⟨j + 1, by omega, by go_num, Lib.hid (by rw [HT.out]; exact R.out.1), hb.trans R.out.2⟩
   case measure => simp [intOf]; omega
  ·obtain rfl : j = xs.length := by omega
   have ho := hown.out
   rw [List.take_of_length_le (Nat.le_refl _)] at ho
   obtain ⟨AO, cO, rfl, hcO, hcm, hsl⟩ := OwnI.sl ho
   have HSL := Lib.hid hsl
   clear hown ho hsl
   have hbw := hbz2.trans (hb.mono hbz2.size)
   go_wp2_with fail
   go_ret
   exact ⟨AO, cO, by rw [HRX.out]; rfl, by rw [HRX.out]; exact hcO, by rw [HRX.out]; exact HSL.out.stays IntR.stays (fun b hb => hb.mono hbz2.size) (fun _ _ _ h => h), hbw⟩
end Go.Proofs.YtciaidjmehelpaaGreat
namespace Go.Proofs.YtciaidjmehelpaaGreat
open Go.RowKit
theorem ix_no_db {s : List Tb} {db : List Dt} {tb : Int} {cols : List Int} (h : dbB s db = false) : ixOk s db tb cols = false ∧ ixL s db tb cols = [] := by
 have : ixOk s db tb cols = false := by unfold ixOk; rw [h]; rfl
 exact ⟨this, by unfold ixL; rw [this]; rfl⟩
theorem ix_no_place {s : List Tb} {db : List Dt} {tb : Int} {cols : List Int} (h : ¬ (0 ≤ tb ∧ tb < s.length)) : ixOk s db tb cols = false ∧ ixL s db tb cols = [] := by
 have : ixOk s db tb cols = false := by
  unfold ixOk
  have h1 : (decide (0 ≤ tb) && decide (tb < (s.length : Int))) = false := by
   rw [Bool.eq_false_iff]; intro h2; rw [Bool.and_eq_true, decide_eq_true_eq, decide_eq_true_eq] at h2; exact h h2
  rw [h1]; simp
 exact ⟨this, by unfold ixL; rw [this]; rfl⟩
theorem ix_no_cols {s : List Tb} {db : List Dt} {m : Nat} {cols : List Int} (hm : m < s.length) (h : colsInB cols s[m].cols.length = false) : ixOk s db (m : Int) cols = false ∧ ixL s db (m : Int) cols = [] := by
 have : ixOk s db (m : Int) cols = false := by unfold ixOk; rw [tabAt_some hm]; simp only [h]; simp
 exact ⟨this, by unfold ixL; rw [this]; rfl⟩
theorem ix_yes {s : List Tb} {db : List Dt} {m : Nat} {cols : List Int} (hb : dbB s db = true) (hm : m < s.length) (hd : m < db.length) (h : colsInB cols s[m].cols.length = true) : ixOk s db (m : Int) cols = true ∧ ixL s db (m : Int) cols = ixK cols db[m].rows db[m].rows.length := by
 have : ixOk s db (m : Int) cols = true := by
  unfold ixOk
  rw [tabAt_some hm, hb, decide_eq_true (by omega : (0 : Int) ≤ (m : Int)), decide_eq_true (by omega : (m : Int) < (s.length : Int))]; simp [h]
 exact ⟨this, by unfold ixL; rw [if_pos this, rowsAt_some hd]⟩
theorem ixIn_db {s : List Tb} {db : List Dt} {cols : List Int} (h : dbB s db = true) {m : Nat} (h1 : m < s.length) (h2 : m < db.length) (hc : colsInB cols s[m].cols.length = true) : IxIn cols db[m].rows s[m].cols.length ∧ s[m].cols.length ≤ 8 := by
 have h8 : s[m].cols.length ≤ 8 := (schema_tab (by unfold dbB at h; simp only [Bool.and_eq_true] at h; exact h.1) h1).2
 exact ⟨ixIn_of h h1 h2 hc (by have := (colsInB_len hc).1; omega), h8⟩
set_option maxRecDepth 100000 in
set_option maxHeartbeats 4000000 in
theorem implIndexOf (AS AD AC : Option Addr) (nS cS nD cD nC cC : Nat) (tb : Int) (s : List Tb) (db : List Dt) (cols : List Int) (ok okd okc : Nat → Prop) (w : World)
  (hS : Sl TbR 6 ok w AS nS s) (hD : Sl DtR 1 okd w AD nD db) (hC : Sl IntR 1 okc w AC nC cols) (hsz : szL Tb.sz s ≤ 1048576) (hdz : szL Dt.sz db ≤ 1048576) (hcn : nC ≤ 1048576) :
  Calls Tryz.prog 26 #[.slice AS nS cS, .slice AD nD cD, .int .i64 tb, .slice AC nC cC] w fun r w' => ∃ v, r = .returned (.tuple #[v, .bool (ixOk s db tb cols)]) ∧ OwnE w' w.heap.size v (ixL s db tb cols) ∧ Below w.heap.size w w' := by
 cases hB : dbB s db
 ·obtain rfl : s.length = nS := hS.1
  have HDB := Lib.hid (implDbOk' AS AD s.length cS nD cD s db ok okd w hS hD hsz hdz)
  have HN := Lib.hid (ix_no_db (tb := tb) (cols := cols) hB)
  go_enter Tryz.func26, Tryz.ntmps26
  go_wp2_with fail
  refine HDB.out.mono ?_
  rintro e w1 ⟨rfl, hb1⟩
  rw [hB]
  clear HDB
  go_wp2_with fail
  go_ret2
  exact ⟨_, by rw [HN.out.1]; rfl, by rw [HN.out.2]; exact OwnE.nil _ _, hb1⟩
 by_cases hin : 0 ≤ tb ∧ tb < s.length
 ·obtain ⟨m, rfl⟩ : ∃ m : Nat, tb = (m : Int) := ⟨tb.toNat, by omega⟩
  have hm : m < s.length := by omega
  have hdl : db.length = s.length := dbB_len hB
  have hmd : m < db.length := by omega
  cases hc : colsInB cols s[m].cols.length
  ·obtain rfl : s.length = nS := hS.1
   have HDB := Lib.hid (implDbOk' AS AD s.length cS nD cD s db ok okd w hS hD hsz hdz)
   have HN := Lib.hid (ix_no_cols (db := db) hm hc)
   have HB := Lib.hid hB
   have HCC := Lib.hid hc
   have HIN := Lib.hid (show (decide ((0 : Int) ≤ (m : Nat)) && decide (((m : Nat) : Int) < (s.length : Int))) = true by rw [decide_eq_true (by omega : (0 : Int) ≤ (m : Nat)), decide_eq_true (by omega : ((m : Nat) : Int) < (s.length : Int))]; rfl)
   have m0 : (0 : Int) ≤ (m : Nat) := by omega
   have m1 : ((m : Nat) : Int) < s.length := by omega
   obtain ⟨g, o, A1, n1, c1, A2, n2, c2, A3, n3, c3, A4, n4, c4, A5, n5, c5, -, rfl, -, x1', -, -, -, -, hcols', -⟩ := TbR.at_ hS hm
   obtain rfl : s[m].cols.length = n1 := hcols'.1
   have hcl : s[m].cols.length ≤ 1048576 := by
    have h1 := szL_mem Tb.sz s s[m] (List.getElem_mem hm)
    have h2 : s[m].cols.length ≤ szL Cl.sz s[m].cols := by unfold szL; omega
    have h4 : szL Cl.sz s[m].cols ≤ Tb.sz s[m] := by unfold Tb.sz; omega
    omega
   have HAC := Lib.hid (fun (W : World) (hb : Below w.heap.size w W) => implAreColumns AC nC cC cols s[m].cols.length okc W (hC.below IntR.stays hb) hcn hcl)
   have HX := Lib.hid x1'
   clear hB hc x1' hcols' hS hD hC
   go_enter Tryz.func26, Tryz.ntmps26
   go_wp2_with fail
   refine HDB.out.mono ?_
   rintro e w1 ⟨rfl, hb1⟩
   rw [HB.out]
   clear HDB
   go_wp2_with fail
   refine (implIsPlace (m : Nat) s.length w1).mono ?_
   rintro e w1' ⟨rfl, rfl⟩
   rw [HIN.out]
   have x1 := below_keep hb1 _ _ HX.out
   go_wp2_with fail
   refine (HAC.out w1 hb1).mono ?_
   rintro e w2 ⟨rfl, hb2⟩
   rw [HCC.out]
   have hb12 := hb1.trans (hb2.mono hb1.size)
   go_wp2_with fail
   go_ret2
   exact ⟨_, by rw [HN.out.1]; rfl, by rw [HN.out.2]; exact OwnE.nil _ _, hb12⟩
  ·rw [(ix_yes hB hm hmd hc).1, (ix_yes hB hm hmd hc).2]
   exact implIndexOfRows AS AD AC nS cS nD cD nC cC m s db cols ok okd okc w hS hD hC hsz hdz hcn hB hm hmd hc (ixIn_db hB hm hmd hc).1
 ·obtain rfl : s.length = nS := hS.1
  have HDB := Lib.hid (implDbOk' AS AD s.length cS nD cD s db ok okd w hS hD hsz hdz)
  have HN := Lib.hid (ix_no_place (db := db) (cols := cols) hin)
  have HIN := Lib.hid (show (decide ((0 : Int) ≤ tb) && decide (tb < (s.length : Int))) = false by
   rw [Bool.eq_false_iff]; intro h; rw [Bool.and_eq_true, decide_eq_true_eq, decide_eq_true_eq] at h; exact hin h)
  go_enter Tryz.func26, Tryz.ntmps26
  go_wp2_with fail
  refine HDB.out.mono ?_
  rintro e w1 ⟨rfl, hb1⟩
  rw [hB]
  clear HDB
  go_wp2_with fail
  refine (implIsPlace tb s.length w1).mono ?_
  rintro e w1' ⟨rfl, rfl⟩
  rw [HIN.out]
  go_wp2_with fail
  go_ret2
  exact ⟨_, by rw [HN.out.1]; rfl, by rw [HN.out.2]; exact OwnE.nil _ _, hb1⟩
theorem specL6OkI (AS AD : Option Addr) (nS cS nD cD : Nat) (tb : Int) (s : List Tb) (db : List Dt) (ok okd : Nat → Prop) (w : World)
  (hS : Sl TbR 6 ok w AS nS s) (hD : Sl DtR 1 okd w AD nD db) (hcp : nS ≤ cS) (hsz : szL Tb.sz s ≤ 1048576) (hdz : szL Dt.sz db ≤ 1048576) :
  Calls Tryz.prog 45 #[.slice AS nS cS, .slice AD nD cD, .int .i64 tb] w fun e w' => e = .returned (.bool (dbB s db && (decide (0 ≤ tb) && decide (tb ≤ (s.length : Int) - 1)))) ∧ Below w.heap.size w w' := by
 obtain rfl : s.length = nS := hS.1
 have hs9 : s.length ≤ 1048576 := by unfold szL at hsz; omega
 have HDB := Lib.hid (specDbOk AS AD s.length cS nD cD s db ok okd w hS hD hcp hsz hdz)
 cases hB : dbB s db
 ·rw [hB] at HDB
  simp only [Bool.false_and]
  go_enter Tryz.func45, Tryz.ntmps45
  go_wp2_with fail
  refine HDB.out.mono ?_
  rintro e w1 ⟨rfl, hb1⟩
  go_wp2_with fail
  go_ret
  exact ⟨rfl, hb1⟩
 ·rw [hB] at HDB
  simp only [Bool.true_and]
  go_enter Tryz.func45, Tryz.ntmps45
  go_wp2_with fail
  refine HDB.out.mono ?_
  rintro e w1 ⟨rfl, hb1⟩
  have HIN := Lib.hid (specIn tb 0 ((s.length : Int) - 1) w1)
  go_wp2_with fail
  refine HIN.out.mono ?_
  rintro e w2 ⟨rfl, rfl⟩
  go_wp2_with fail
  go_ret
  exact ⟨rfl, hb1⟩
set_option maxRecDepth 100000 in
set_option maxHeartbeats 4000000 in
theorem specIndexOf (AS AD AC : Option Addr) (nS cS nD cD nC cC : Nat) (tb : Int) (s : List Tb) (db : List Dt) (cols : List Int) (ok okd okc : Nat → Prop) (w : World)
  (hS : Sl TbR 6 ok w AS nS s) (hD : Sl DtR 1 okd w AD nD db) (hC : Sl IntR 1 okc w AC nC cols) (hcp : nS ≤ cS) (hcc : nC ≤ cC) (hsz : szL Tb.sz s ≤ 1048576) (hdz : szL Dt.sz db ≤ 1048576) (hcn : nC ≤ 1048576) :
  Calls Tryz.prog 27 #[.slice AS nS cS, .slice AD nD cD, .int .i64 tb, .slice AC nC cC] w fun r w' => ∃ v, r = .returned (.tuple #[v, .bool (ixOk s db tb cols)]) ∧ OwnE w' w.heap.size v (ixL s db tb cols) ∧ Below w.heap.size w w' := by
 obtain rfl : s.length = nS := hS.1
 obtain rfl : db.length = nD := hD.1
 have HL6 := Lib.hid (specL6OkI AS AD s.length cS db.length cD tb s db ok okd w hS hD hcp hsz hdz)
 go_enter Tryz.func27, Tryz.ntmps27
 go_wp2_with fail
 refine HL6.out.mono ?_
 rintro e w1 ⟨rfl, hb1⟩
 clear HL6
 by_cases hall : dbB s db = true ∧ (0 ≤ tb ∧ tb < s.length)
 ·obtain ⟨hB, hin⟩ := hall
  obtain ⟨m, rfl⟩ : ∃ m : Nat, tb = (m : Int) := ⟨tb.toNat, by omega⟩
  have hm : m < s.length := by omega
  have hdl : db.length = s.length := dbB_len hB
  have hmd : m < db.length := by omega
  have HIN := Lib.hid (show (dbB s db && (decide ((0 : Int) ≤ (m : Nat)) && decide (((m : Nat) : Int) ≤ (s.length : Int) - 1))) = true by rw [hB, decide_eq_true (by omega : (0 : Int) ≤ (m : Nat)), decide_eq_true (by omega : ((m : Nat) : Int) ≤ (s.length : Int) - 1)]; rfl)
  have m0 : (0 : Int) ≤ (m : Nat) := by omega
  have m1 : ((m : Nat) : Int) < s.length := by omega
  have m2 : ((m : Nat) : Int) < db.length := by omega
  obtain ⟨g, o, A1, n1, c1, A2, n2, c2, A3, n3, c3, A4, n4, c4, A5, n5, c5, -, rfl, -, x1', -, -, -, -, hcols', -⟩ := TbR.at_ hS hm
  obtain ⟨gd, od, AR, nR, cR, -, rfl, d0', hrows', -⟩ := DtR.at_ hD hmd
  obtain rfl : s[m].cols.length = n1 := hcols'.1
  obtain rfl : db[m].rows.length = nR := hrows'.1
  have hcl : s[m].cols.length ≤ 1048576 := by
   have h1 := szL_mem Tb.sz s s[m] (List.getElem_mem hm)
   have h2 : s[m].cols.length ≤ szL Cl.sz s[m].cols := by unfold szL; omega
   have h4 : szL Cl.sz s[m].cols ≤ Tb.sz s[m] := by unfold Tb.sz; omega
   omega
  have x1 := below_keep hb1 _ _ x1'
  have HSC := Lib.hid (specCols AC nC cC cols s[m].cols.length okc w1 (hC.below IntR.stays hb1) hcc hcn (by omega) (by omega))
  rw [HIN.out]
  have HX := Lib.hid (And.intro d0' (And.intro hrows' hC))
  cases hc : colsInB cols s[m].cols.length
  ·have HN := Lib.hid (ix_no_cols (db := db) hm hc)
   have HCC := Lib.hid hc
   clear hc
   go_wp2_with fail
   refine HSC.out.mono ?_
   rintro e w2 ⟨rfl, hb2⟩
   rw [HCC.out]
   have hb12 := hb1.trans (hb2.mono hb1.size)
   go_wp2_with fail
   go_ret2
   exact ⟨_, by rw [HN.out.1]; rfl, by rw [HN.out.2]; exact OwnE.nil _ _, hb12⟩
  ·have HY := Lib.hid (ix_yes hB hm hmd hc)
   have HI := Lib.hid (ixIn_db hB hm hmd hc)
   have HCC := Lib.hid hc
   clear hc hB
   go_wp2_with fail
   refine HSC.out.mono ?_
   rintro e w2 ⟨rfl, hb2⟩
   rw [HCC.out]
   have hb12 := hb1.trans (hb2.mono hb1.size)
   have d0 := below_keep hb12 _ _ HX.out.1
   have HOF := Lib.hid (specL11Of AR AC db[m].rows.length cR nC cC s[m].cols.length db[m].rows cols okd okc w2 (HX.out.2.1.below RwR.stays hb12) (HX.out.2.2.below IntR.stays hb12) hcn HI.out.2 HI.out.1)
   clear hb2 HSC
   go_wp2_with fail
   refine HOF.out.mono ?_
   rintro e w3 ⟨v3, rfl, ho3, hb3⟩
   have hb13 := hb12.trans (hb3.mono hb12.size)
   have HO3 := Lib.hid (ho3.mono hb12.size)
   go_wp2_with fail
   go_ret2
   exact ⟨_, by rw [HY.out.1]; rfl, by rw [HY.out.2]; exact HO3.out, hb13⟩
 ·have HN : Hid (ixOk s db tb cols = false ∧ ixL s db tb cols = []) := Lib.hid (by
   cases hB : dbB s db
   ·exact ix_no_db hB
   ·exact ix_no_place (fun h => hall ⟨hB, h⟩))
  have HIN := Lib.hid (show (dbB s db && (decide ((0 : Int) ≤ tb) && decide (tb ≤ (s.length : Int) - 1))) = false by
   rw [Bool.eq_false_iff]; intro h; rw [Bool.and_eq_true, Bool.and_eq_true, decide_eq_true_eq, decide_eq_true_eq] at h; exact hall ⟨h.1, h.2.1, by omega⟩)
  rw [HIN.out]
  go_wp2_with fail
  go_ret2
  exact ⟨_, by rw [HN.out.1]; rfl, by rw [HN.out.2]; exact OwnE.nil _ _, hb1⟩
theorem OwnE.but {R base : Nat} {w w' : World} {v : Value} {es : List En} (h : OwnE w base v es) (hb : But R w w') (hR : R < base) : OwnE w' base v es := by
 obtain ⟨vs, h⟩ := h
 exact ⟨vs, h.len, ownsRow_but h.row hb hR, fun i hi hi' => OwnG.but (h.key i hi hi') hb hR, h.apart⟩
theorem OwnE.first {w : World} {base : Nat} {v : Value} {e : En} {es : List En} (h : OwnE w base v (e :: es)) : ∃ g c, v = .slice (some ⟨g, 0, none⟩) (es.length + 1) c ∧ base ≤ g ∧ (∃ n, w.cell? ⟨g, 1, none⟩ = some (.int .i64 n)) ∧ w.frozen? ⟨g, 1, none⟩ = false ∧
  ∀ n, OwnE (w.setCell ⟨g, 1, none⟩ (.int .i64 n)) base v ({ e with id := n } :: es) := by
 obtain ⟨vs, h⟩ := h
 obtain ⟨u, us, rfl⟩ : ∃ u us, vs = u :: us := by
  cases vs with
  | nil => have := h.len; simp at this
  | cons u us => exact ⟨u, us, rfl⟩
 rcases h.cells with ⟨-, hn⟩ | ⟨g, c, rfl, h1, h2, h3, h4, h5, h6⟩
 ·cases hn
 refine ⟨g, c, rfl, h3, ⟨e.id, ?_⟩, h5 1, fun n => ⟨u :: us, h.len, ?_, fun i hi hi' => ?_, h.apart⟩⟩
 ·have := h6 0 (by simp) (by simp) 1 (.int .i64 e.id) rfl
  simpa using this
 ·have := (World.ownsRow.stored h.row 1 (.int .i64 n)).1
  simpa [entC] using this
 ·have hk : OwnK w base (u :: us)[i] ({ e with id := n } :: es)[i].key := by
   have hlt : i < (e :: es).length := by simpa using hi
   have hk := h.key i hlt hi'
   cases i with
   | zero => exact hk
   | succ i => exact hk
  refine World.ownsRow.kept hk (row := some g) (grownBy_set (p := ⟨g, 1, none⟩)) ?_
  exact OwnK.ne h.row hk
def isEnts (base : Nat) (v : Value) (w : World) : Prop := ∃ es : List En, OwnE w base v es ∧ es.length ≤ 60 ∧ ∀ e ∈ es, e.key.length = 1
theorem ixL_len {s : List Tb} {db : List Dt} {cols : List Int} {m : Nat} : (∀ e ∈ ixL s db (m : Int) cols, e.key.length = cols.length) ∧ (ixL s db (m : Int) cols).length ≤ 60 := by
 cases hok : ixOk s db (m : Int) cols
 ·have : ixL s db (m : Int) cols = [] := by unfold ixL; rw [hok]; rfl
  rw [this]
  exact ⟨fun e he => (by cases he), by simp⟩
 cases hB : dbB s db
 ·have := (ix_no_db (tb := (m : Int)) (cols := cols) hB).1
  rw [this] at hok; cases hok
 by_cases hm : m < s.length
 ·have hd : m < db.length := by have := dbB_len hB; omega
  cases hc : colsInB cols s[m].cols.length
  ·have := (ix_no_cols (db := db) hm hc).1
   rw [this] at hok; cases hok
  ·rw [(ix_yes hB hm hd hc).2]
   have hin := ixIn_db hB hm hd hc
   obtain ⟨-, h2, h3⟩ := ix_step hin.1 db[m].rows.length (Nat.le_refl _)
   refine ⟨fun e he => (h3 e he).1, ?_⟩
   rw [h2]
   exact dbB_rows hB hm hd
 ·have := (ix_no_place (s := s) (db := db) (tb := (m : Int)) (cols := cols) (by omega)).1
  rw [this] at hok; cases hok
set_option maxRecDepth 100000 in
set_option maxHeartbeats 2000000 in
theorem rdEntries (w : World) (R : Nat) (a : Option Addr) (len cap : Nat) (zs : List Int) (h : Rdr w R a len cap zs) :
  Calls Tryz.prog 48 #[.pointer (some ⟨R, 0, none⟩)] w (Drew R a len cap zs (isEnts w.heap.size) w) := by
 have hR : R < w.heap.size := cell_lt h.code
 have H0 := Lib.hid h
 go_enter Tryz.func48, Tryz.ntmps48
 go_wp2_with fail
 refine (rdSchema _ R a len cap zs h).mono ?_
 rintro e w2 ⟨v, rfl, hsch, hb2, hr2⟩
 obtain ⟨A1, c1, ts, rfl, hc1, hsl, hsk⟩ := hsch.full
 have hS := okF.weak TbR.stays hsl (Nat.le_refl _)
 have hok : ∀ b, w.heap.size ≤ b → b ≠ R := fun b hb => by omega
 clear hsl hsch h
 go_wp2_with fail
 refine (rdBase 6 (by omega) (by omega) A1 ts.length c1 ts _ _ R a len cap zs hr2 hS hok hc1 hsk).mono ?_
 rintro e w3 ⟨v, rfl, ⟨A2, c2, ds, rfl, hc2, hdl, hn2, hrw⟩, hb3, hr3⟩
 have hD := okF.weak DtR.stays hdl hb2.size
 have hS3 := hS.butY TbR.stays hb3 hok
 clear hdl hS hr2
 go_wp2_with fail
 refine (rdBelow 3 _ R a len cap zs hr3).mono ?_
 rintro e w4 ⟨v, rfl, ⟨x, rfl, x0, x1⟩, hb4, hr4⟩
 have HB := Lib.hid (((hb2.trans hb3).trans hb4).alloc (.cells #[.int .i64 x] 2))
 have HR := Lib.hid (hr4.alloc (.cells #[.int .i64 x] 2))
 have HS := Lib.hid ((hS3.butY TbR.stays hb4 hok).butY TbR.stays ((But.refl R w4).alloc (.cells #[.int .i64 x] 2)) hok)
 have HD := Lib.hid ((hD.butY DtR.stays hb4 hok).butY DtR.stays ((But.refl R w4).alloc (.cells #[.int .i64 x] 2)) hok)
 have HC := Lib.hid (colY (base := w.heap.size) (Blo.new w4 [.int .i64 x] 2) ((hb2.trans hb3).trans hb4).size)
 have hss : szL Tb.sz ts ≤ 1048576 := by have := hsk.sz; omega
 have hds : szL Dt.sz ds ≤ 1048576 := by have := hrw.sz hsk (by omega) hn2; omega
 clear hb2 hb3 hb4 hS3 hD hr3 hr4
 go_wp2_with fail
 generalize w4.alloc (.cells #[.int .i64 x] 2) = w5 at *
 generalize w4.heap.size = g5 at *
 refine (specIndexOf A1 A2 (some ⟨g5, 0, none⟩) ts.length c1 ds.length c2 1 1 0 ts ds [x] _ _ _ w5 HS.out HD.out HC.out hc1 (by omega) hss hds (by omega)).mono ?_
 rintro e w6 ⟨v, rfl, hown, hq⟩
 have hl := ixL_len (s := ts) (db := ds) (cols := [x]) (m := 0)
 obtain ⟨es, hes⟩ : ∃ es, ixL ts ds 0 [x] = es := ⟨_, rfl⟩
 rw [show ((0 : Nat) : Int) = 0 from rfl, hes] at hl
 rw [hes] at hown
 generalize ixOk ts ds 0 [x] = fl
 have hb6 := HB.out.trans (below_but hq R)
 have hr6 := rdr_below HR.out hq
 have HO6 := Lib.hid (OwnE.mono hown HB.out.size)
 have HL := Lib.hid hl
 clear HB HR HS HD HC hown hq hss hds hl hes
 go_wp2_with fail
 refine (rdOnce 30 _ R a len cap zs hr6).mono ?_
 rintro e w7 ⟨u, rfl, ⟨b7, rfl⟩, hb7, hr7⟩
 have HO7 := Lib.hid (OwnE.but HO6.out hb7 hR)
 have HB7 := Lib.hid (hb6.trans hb7)
 clear HO6 hb6 hr6 hb7
 cases b7
 ·go_wp2_with fail
  go_ret
  exact ⟨_, rfl, ⟨es, HO7.out, HL.out.2, HL.out.1⟩, HB7.out, hr7⟩
 cases es with
 | nil =>
  obtain ⟨A9, c9, rfl, -, -, -⟩ := HO7.out.sl
  go_wp2_with fail
  go_ret
  exact ⟨_, rfl, ⟨[], HO7.out, HL.out.2, HL.out.1⟩, HB7.out, hr7⟩
 | cons e0 es =>
  obtain ⟨g9, c9, rfl, -, -, -, -⟩ := HO7.out.first
  have hpos : (0 : Int) < (es.length + 1 : Nat) := by omega
  go_wp2_with fail
  refine (rdOff 1 9 (by omega) (by omega) (by omega) _ R a len cap zs hr7).mono ?_
  rintro e w8 ⟨u, rfl, ⟨y, rfl, y0, y1⟩, hb8, hr8⟩
  obtain ⟨g', c', e', hg, ⟨n9, hc9⟩, hf9, hst⟩ := (OwnE.but HO7.out hb8 hR).first
  simp only [Value.slice.injEq, Option.some.injEq, Addr.mk.injEq, and_true, true_and] at e'
  obtain ⟨rfl, rfl⟩ := e'
  have HZ := Lib.hid (hst y)
  have HBZ := Lib.hid ((HB7.out.trans hb8).setNew (p := ⟨g9, 1, none⟩) hg (.int .i64 y))
  have HRZ := Lib.hid (H0.out.setNew hr8 (p := ⟨g9, 1, none⟩) hg (.int .i64 y))
  clear hst hb8 hr8 hr7
  go_wp2_with fail
  go_ret
  exact ⟨_, rfl, ⟨_, HZ.out, HL.out.2, fun e he => by
   rcases List.mem_cons.1 he with rfl | he
   ·exact HL.out.1 e0 (List.mem_cons_self ..)
   ·exact HL.out.1 e (List.mem_cons_of_mem _ he)⟩, HBZ.out, HRZ.out⟩
theorem OwnE.low {w : World} {base : Nat} {v : Value} {es : List En} (h : OwnE w base v es) {p : Addr} (hp : p.block < base) (u : Value) : OwnE (w.setCell p u) base v es := by
 obtain ⟨vs, h⟩ := h
 exact ⟨vs, h.len, ownsRow_setCell_below h.row hp u, fun i hi hi' => ownsRow_setCell_below (h.key i hi hi') hp u, h.apart⟩
theorem OwnE.drew {w : World} {base : Nat} {v : Value} {es : List En} (h : OwnE w base v es) : OwnE w.drew base v es := by
 obtain ⟨vs, h⟩ := h
 exact ⟨vs, h.len, h.row, fun i hi hi' => h.key i hi hi', h.apart⟩
theorem Blk.belowR {w w' : World} {b : Nat} {k n : Int} {s : ByteArray} (h : Blk w b k n s) (hb : Below w.heap.size w w') : Blk w' b k n s := (hb.block b h.lt).trans h
def isRngArgs (base : Nat) (v : Value) (w : World) : Prop := ∃ (x : Value) (k n : Int) (s : ByteArray) (k2 n2 : Int) (s2 : ByteArray), v = .tuple #[x, .agg #[.int .i64 k, .int .i64 n, .string s], .agg #[.int .i64 k2, .int .i64 n2, .string s2]] ∧ isEnts base x w ∧ okV k n s ∧ okV k2 n2 s2
def RgW (w w2 wx : World) (R ga : Nat) (a : Option Addr) (len cap : Nat) (zs : List Int) : Prop := (∃ k n s, Blk wx ga k n s ∧ okV k n s) ∧ But R w2 wx ∧ Below w.heap.size w wx ∧ Rdr wx R a len cap zs
theorem RgW.but {w w2 wx wy : World} {R ga : Nat} {a : Option Addr} {len cap : Nat} {zs : List Int} (h : RgW w w2 wx R ga a len cap zs) (hb : But R wx wy) (hr : Rdr wy R a len cap zs) (hg : ga ≠ R) (hR : w.heap.size ≤ R) : RgW w w2 wy R ga a len cap zs := by
 obtain ⟨⟨k, n, s, h1, h2⟩, h3, h4, h5⟩ := h
 exact ⟨⟨k, n, s, h1.but hb hg, h2⟩, h3.trans hb, h4.trans (hb.below hR h4.size), hr⟩
theorem RgW.zero {w w2 wx : World} {R ga : Nat} {a : Option Addr} {len cap : Nat} {zs : List Int} (h : RgW w w2 wx R ga a len cap zs) (h0 : Rdr w2 R a len cap zs) (hg : w2.heap.size ≤ ga) (hw : w.heap.size ≤ ga) : RgW w w2 (((wx.setCell ⟨ga, 0, none⟩ (.int .i64 0)).setCell ⟨ga, 1, none⟩ (.int .i64 0)).setCell ⟨ga, 2, none⟩ (.string ⟨#[]⟩)) R ga a len cap zs := by
 obtain ⟨⟨k, n, s, h1, h2⟩, h3, h4, h5⟩ := h
 exact ⟨⟨0, 0, ⟨#[]⟩, h1.put 0 0 ⟨#[]⟩, okV_null⟩, ((h3.setNew (p := ⟨ga, 0, none⟩) hg _).setNew (p := ⟨ga, 1, none⟩) hg _).setNew (p := ⟨ga, 2, none⟩) hg _,
  ((h4.setCell (p := ⟨ga, 0, none⟩) hw _).setCell (p := ⟨ga, 1, none⟩) hw _).setCell (p := ⟨ga, 2, none⟩) hw _,
  h0.setNew (h0.setNew (h0.setNew h5 (p := ⟨ga, 0, none⟩) hg _) (p := ⟨ga, 1, none⟩) hg _) (p := ⟨ga, 2, none⟩) hg _⟩
set_option maxRecDepth 100000 in
set_option maxHeartbeats 2000000 in
theorem drawRange (a : Option Addr) (len cap : Nat) (zs : List Int) (w : World) (h : IsRow .u8 w a len cap zs) :
  Calls Tryz.prog 14 #[.slice a len cap] w (Drawn (isRngArgs w.heap.size) w) := by
 have hx := ((Below.refl w.heap.size w).alloc (Nat.le_refl _) (.cells #[.int .i64 0, .int .i64 0, .string ⟨#[]⟩] 34)).alloc (by simp) (.cells #[.int .i64 0, .int .i64 0, .string ⟨#[]⟩] 34)
 have r0 := (Blk.new w 0 0 ⟨#[]⟩).alloc (.cells #[.int .i64 0, .int .i64 0, .string ⟨#[]⟩] 34)
 have r1 := Blk.new (w.alloc (.cells #[.int .i64 0, .int .i64 0, .string ⟨#[]⟩] 34)) 0 0 ⟨#[]⟩
 rw [show (w.alloc (.cells #[.int .i64 0, .int .i64 0, .string ⟨#[]⟩] 34)).heap.size = w.heap.size + 1 by simp] at r1
 have hrow := h.below hx
 go_enter Tryz.func14, Tryz.ntmps14
 go_wp2_with fail
 generalize (w.alloc (.cells #[.int .i64 0, .int .i64 0, .string ⟨#[]⟩] 34)).alloc (.cells #[.int .i64 0, .int .i64 0, .string ⟨#[]⟩] 34) = x at *
 refine (specOpen _ _ _ _).mono ?_
 rintro e w1 ⟨rfl, rfl⟩
 have h0 := Rdr.new hrow 116
 have q0 := r0.alloc (.cells #[.slice a len cap, .int .i64 0] 116)
 have q1 := r1.alloc (.cells #[.slice a len cap, .int .i64 0] 116)
 have hy := hx.alloc hx.size (.cells #[.slice a len cap, .int .i64 0] 116)
 have n0 : w.heap.size ≠ x.heap.size := Nat.ne_of_lt r0.lt
 have n1 : w.heap.size + 1 ≠ x.heap.size := Nat.ne_of_lt r1.lt
 have hRx : w.heap.size + 1 < x.heap.size := r1.lt
 have hsx : (x.alloc (.cells #[.slice a len cap, .int .i64 0] 116)).heap.size = x.heap.size + 1 := by simp
 generalize x.alloc (.cells #[.slice a len cap, .int .i64 0] 116) = u at *
 generalize x.heap.size = R at *
 clear r0 r1 hrow hx
 go_wp2_with fail
 refine (rdEntries _ _ a len cap zs h0).mono ?_
 rintro e w2 ⟨v, rfl, ⟨es, hown, hle, hkl⟩, hb2, hr2⟩
 have Y0 := Lib.hid (q0.but hb2 n0).wr
 have Y1 := Lib.hid (q1.but hb2 n1).wr
 rw [hsx] at hown
 have HO := Lib.hid hown
 have HK := Lib.hid hkl
 have hz2 := hy.trans (hb2.below (by omega) hy.size)
 have H2 := Lib.hid hr2
 have hsz2 := hb2.size
 clear q0 q1 hown hkl hy hb2 h0
 go_wp2_with fail
 refine (rdVal _ _ a len cap zs hr2).mono ?_
 rintro e w3 ⟨v3, rfl, ⟨k, n, s, rfl, ok1⟩, hb3, hr3⟩
 have hsz3 := hb3.size
 have HW := Lib.hid (show RgW w w2 (w3.alloc (.cells #[.int .i64 k, .int .i64 n, .string s] 34)) R w3.heap.size a len cap zs from
  ⟨⟨k, n, s, Blk.new w3 k n s, ok1⟩, hb3.alloc _, (hz2.trans (hb3.below (by omega) hz2.size)).alloc (Nat.le_trans hz2.size hb3.size) _, hr3.alloc _⟩)
 have hga : w2.heap.size ≤ w3.heap.size := hsz3
 have hwa : w.heap.size + 1 < w3.heap.size := by omega
 have hgR : w3.heap.size ≠ R := by omega
 clear hb3 hr3 hz2 hr2
 go_wp2_with fail
 generalize w3.alloc (.cells #[.int .i64 k, .int .i64 n, .string s] 34) = w4 at *
 generalize w3.heap.size = ga at *
 refine (rdOnce 2 _ _ a len cap zs HW.out.2.2.2).mono ?_
 rintro e w5 ⟨v5, rfl, ⟨b, rfl⟩, hb5, hr5⟩
 have HW := Lib.hid (HW.out.but hb5 hr5 hgR (by omega))
 clear hb5 hr5
 go_upto_if 15 with (fail)
 go_cut [] from 16 to 16 (fun wx => RgW w w2 wx R ga a len cap zs)
 case first =>
  cases b
  ·go_wp2_with fail
   go_meet
   case rel => exact HW.out
  ·have HZ := Lib.hid (HW.out.zero H2.out hga (by omega))
   obtain ⟨⟨k5, n5, s5, hB, -⟩, -⟩ := HW.out
   obtain ⟨r0, r1, r2⟩ := hB.cells
   obtain ⟨f0, f1, f2⟩ := hB.free
   go_wp2_with fail
   go_meet
   case rel => exact HZ.out
 case rest =>
  clear HW
  obtain ⟨⟨k5, n5, s5, hB, ok5⟩, hb6, hz6, hr6⟩ := hcut
  have m0 : w.heap.size ≠ ga := by omega
  have m1 : w.heap.size + 1 ≠ ga := by omega
  have Y0 := Lib.hid (Wr.but Y0.out hb6 n0)
  have Y1 := Lib.hid (Wr.but Y1.out hb6 n1)
  have HO := Lib.hid (OwnE.but HO.out hb6 (by omega))
  have HR := Lib.hid hr6
  have hw1 : w.heap.size < R + 1 := by omega
  have hw2 : w.heap.size + 1 < R + 1 := by omega
  obtain ⟨c0, c1, c2⟩ := hB.cells
  have hBl := hB.lt
  clear hb6 hr6
  go_wp2_with fail
  go_region_held3 (fun w' => w'.cell? ⟨ga, 0, none⟩ = some (.int .i64 k5) ∧ w'.cell? ⟨ga, 1, none⟩ = some (.int .i64 n5) ∧ w'.cell? ⟨ga, 2, none⟩ = some (.string s5))
   (first | go_keep | exact ⟨(hb9.cell hBl hgR).trans c0, (hb9.cell hBl hgR).trans c1, (hb9.cell hBl hgR).trans c2⟩ | exact ⟨stay3 m0 c0, stay3 m0 c1, stay3 m0 c2⟩ | exact ⟨stay3 m1 c0, stay3 m1 c1, stay3 m1 c2⟩)
   (first | (go_at_call 49; refine (rdVal _ _ a len cap zs HR.out.drew).mono ?_; rintro e w9 ⟨v9, rfl, ⟨k2, n2', s2, rfl, ok2⟩, hb9', hr9⟩; have hb9 := hb9'.undrew; clear hb9'; obtain ⟨⟨a0, z0⟩, ⟨a1, z1⟩, ⟨a2, z2⟩, z3, z4, z5⟩ := Wr.but Y0.out hb9 n0; obtain ⟨⟨b0, t0⟩, ⟨b1, t1⟩, ⟨b2, t2⟩, t3, t4, t5⟩ := Wr.but Y1.out hb9 n1))
  all_goals
   go_wp2
   have hz9 := hz6.trans (hb9.below (by omega) hz6.size)
   have HO9 := OwnE.but HO.out hb9 (Nat.lt_succ_self R)
   refine bodyPost_ret (v := .tuple #[v, .agg #[.int .i64 k5, .int .i64 n5, .string s5], .agg #[.int .i64 k2, .int .i64 n2', .string s2]]) (by simp [results, Tryz.results14, go_sem, z0, z1, z2, t0, t1, t2]) rfl
    ⟨_, rfl, ⟨v, k5, n5, s5, k2, n2', s2, rfl, ⟨es, OwnE.mono (base := R + 1) ?_ (by omega), hle, HK.out⟩, ok5, ok2⟩, ?_⟩
   ·repeat (first | with_reducible exact HO9 | with_reducible refine OwnE.drew ?_ | with_reducible refine OwnE.low ?_ (by first | exact hw1 | exact hw2) _)
   ·repeat (first | with_reducible exact hz9 | with_reducible refine Below.drew ?_ | with_reducible refine Below.setCell ?_ (by simp) _)
theorem OwnG.setOff {α : Type} {T : TypeId} {sz : Nat} {f : α → List Value} {w : World} {base : Nat} {v : Value} {xs : List α} (h : OwnG T sz f w base v xs) {p : Addr} (hp : v.ownBlock ≠ some p.block) (u : Value) : OwnG T sz f (w.setCell p u) base v xs :=
 World.ownsRow.kept h (row := some p.block) ⟨rfl, rfl, rfl, by simp [World.setCell], fun k _ hne => Below.heap_setCell _ _ _ _ (fun e => hne (by rw [e]))⟩ (Or.inr hp)
def isIdxE (base : Nat) (v : Value) (w : World) : Prop := ∃ (x : Value) (es : List En) (B : Option Addr) (d : Nat) (e : En), v = .tuple #[x, .agg #[.slice B 1 d, .int .i64 e.id]] ∧ OwnE w base x es ∧ es.length ≤ 60 ∧ (∀ y ∈ es, y.key.length = 1) ∧ Sl VlR 3 (fun _ => True) w B 1 e.key
def PtW (w w2 wx : World) (R gk ge : Nat) (x : Vl) (a : Option Addr) (len cap : Nat) (zs : List Int) : Prop := (∃ id : Int, Blo wx ge [.slice (some ⟨gk, 0, none⟩) 1 1, .int .i64 id] 44) ∧ OwnG 34 3 Vl.cells wx (R + 1) (.slice (some ⟨gk, 0, none⟩) 1 1) [x] ∧ But R w2 wx ∧ Below w.heap.size w wx ∧ Rdr wx R a len cap zs
theorem PtW.but {w w2 wx wy : World} {R gk ge : Nat} {x : Vl} {a : Option Addr} {len cap : Nat} {zs : List Int} (h : PtW w w2 wx R gk ge x a len cap zs) (hb : But R wx wy) (hr : Rdr wy R a len cap zs) (hg : ge ≠ R) (hR : w.heap.size ≤ R) : PtW w w2 wy R gk ge x a len cap zs := by
 obtain ⟨⟨id, h1⟩, h2, h3, h4, h5⟩ := h
 exact ⟨⟨id, h1.but hb hg⟩, OwnG.but h2 hb (Nat.lt_succ_self R), h3.trans hb, h4.trans (hb.below hR h4.size), hr⟩
theorem PtW.put {w w2 wx : World} {R gk ge : Nat} {x : Vl} {a : Option Addr} {len cap : Nat} {zs : List Int} (h : PtW w w2 wx R gk ge x a len cap zs) (h0 : Rdr w2 R a len cap zs) (hg : w2.heap.size ≤ ge) (hw : w.heap.size ≤ ge) (hk : gk ≠ ge) (n : Int) : PtW w w2 (wx.setCell ⟨ge, 1, none⟩ (.int .i64 n)) R gk ge x a len cap zs := by
 obtain ⟨⟨id, h1⟩, h2, h3, h4, h5⟩ := h
 exact ⟨⟨n, h1.put 1 _⟩, OwnG.setOff h2 (fun e => hk (by simpa [Value.ownBlock] using e)) _, h3.setNew (p := ⟨ge, 1, none⟩) hg _, h4.setCell (p := ⟨ge, 1, none⟩) hw _, h0.setNew h5 (p := ⟨ge, 1, none⟩) hg _⟩
theorem Blo.belowB {w w' : World} {g : Nat} {xs : List Value} {T : TypeId} (h : Blo w g xs T) (hb : Below w.heap.size w w') : Blo w' g xs T := (hb.block g h.lt).trans h
theorem OwnG.set2 {α : Type} {T : TypeId} {sz : Nat} {f : α → List Value} {w : World} {base : Nat} {v : Value} {xs : List α} (h : OwnG T sz f w base v xs) {p : Addr} (hp : p.block < base) (u : Value) : OwnG T sz f (w.setCell p u) base v xs := ownsRow_setCell_below h hp u
theorem OwnE.slq {w : World} {base : Nat} {A : Option Addr} {n c : Nat} {es : List En} (h : OwnE w base (.slice A n c) es) : Sl EnR 2 (okF base w) w A n es := by
 obtain ⟨A', c', e, -, -, hs⟩ := h.sl
 cases e
 exact hs
theorem OwnG.slv {w : World} {base : Nat} {A : Option Addr} {n c : Nat} {xs : List Vl} (h : OwnG 34 3 Vl.cells w base (.slice A n c) xs) : Sl VlR 3 (okF base w) w A n xs := by
 obtain ⟨A', c', e, -, -, hs⟩ := OwnG.sl (f := Vl.cells) (sz := 3) (fun _ => rfl) h
 cases e
 exact hs
theorem Sl.okk {ok : Nat → Prop} {w : World} {A : Option Addr} {n : Nat} {ds : List Vl} (h : Sl VlR 3 ok w A n ds) : Sl VlR 3 (fun _ => True) w A n ds := h.stays VlR.stays (fun _ _ => trivial) fun _ _ _ h => h
theorem stay2 {w : World} {b c i : Nat} {x y v : Value} (h : b ≠ c) (hc : w.cell? ⟨c, i, none⟩ = some v) : ((w.setCell ⟨b, 0, none⟩ x).setCell ⟨b, 1, none⟩ y).cell? ⟨c, i, none⟩ = some v := by
 have e : ∀ o, (⟨b, o, none⟩ : Addr) ≠ ⟨c, i, none⟩ := fun o he => h (congrArg Addr.block he)
 rw [World.cell?_setCell_other _ _ _ _ (e 1), World.cell?_setCell_other _ _ _ _ (e 0)]; exact hc
set_option maxRecDepth 100000 in
set_option maxHeartbeats 2000000 in
theorem drawIndexPut (a : Option Addr) (len cap : Nat) (zs : List Int) (w : World) (h : IsRow .u8 w a len cap zs) :
  Calls Tryz.prog 18 #[.slice a len cap] w (Drawn (isIdxE w.heap.size) w) := by
 have hx := (Below.refl w.heap.size w).alloc (Nat.le_refl _) (.cells #[.slice none 0 0, .int .i64 0] 44)
 have q0 : Blo (w.alloc (.cells #[.slice none 0 0, .int .i64 0] 44)) w.heap.size [.slice none 0 0, .int .i64 0] 44 := Blo.new _ _ _
 have hxs : (w.alloc (.cells #[.slice none 0 0, .int .i64 0] 44)).heap.size = w.heap.size + 1 := by simp
 have hrow := h.below hx
 go_enter Tryz.func18, Tryz.ntmps18
 go_wp2_with fail
 generalize w.alloc (.cells #[.slice none 0 0, .int .i64 0] 44) = x at *
 refine (specOpen _ _ _ _).mono ?_
 rintro e w1 ⟨rfl, rfl⟩
 have h0 := Rdr.new hrow 116
 have q0 := q0.alloc (.cells #[.slice a len cap, .int .i64 0] 116)
 have hy := hx.alloc hx.size (.cells #[.slice a len cap, .int .i64 0] 116)
 have hsx : (x.alloc (.cells #[.slice a len cap, .int .i64 0] 116)).heap.size = x.heap.size + 1 := by simp
 generalize x.alloc (.cells #[.slice a len cap, .int .i64 0] 116) = u at *
 generalize x.heap.size = R at *
 subst hxs
 clear hrow hx
 go_wp2_with fail
 refine (rdEntries _ _ a len cap zs h0).mono ?_
 rintro e w2 ⟨v, rfl, ⟨es, hown, hle, hkl⟩, hb2, hr2⟩
 obtain ⟨A, c, rfl, hc, -, -⟩ := hown.sl
 rw [hsx] at hown
 have n0 : w.heap.size ≠ w.heap.size + 1 := by omega
 have Y0 := Lib.hid (q0.but hb2 n0)
 have HO := Lib.hid hown
 have HK := Lib.hid hkl
 have hz2 := hy.trans (hb2.below (by omega) hy.size)
 have H2 := Lib.hid hr2
 have hsz2 := hb2.size
 clear q0 hown hkl hy hb2 h0 hc
 go_wp2_with fail
 refine (rdVal _ _ a len cap zs hr2).mono ?_
 rintro e w3 ⟨v3, rfl, ⟨k, n, s, rfl, ok1⟩, hb3, hr3⟩
 have hsz3 := hb3.size
 have hK : OwnG 34 3 Vl.cells (w3.alloc (.cells #[.int .i64 k, .int .i64 n, .string s] 34)) (w.heap.size + 1 + 1) (.slice (some ⟨w3.heap.size, 0, none⟩) 1 1) [(⟨k, n, s⟩ : Vl)] := OwnG.one w3 (by omega) (⟨k, n, s⟩ : Vl) rfl
 have hb4 := hb3.alloc (.cells #[.int .i64 k, .int .i64 n, .string s] 34)
 have hr4 := hr3.alloc (.cells #[.int .i64 k, .int .i64 n, .string s] 34)
 have hgk : w3.heap.size < (w3.alloc (.cells #[.int .i64 k, .int .i64 n, .string s] 34)).heap.size := by simp
 clear hb3 hr3 hr2
 go_wp2_with fail
 generalize w3.alloc (.cells #[.int .i64 k, .int .i64 n, .string s] 34) = w4 at *
 generalize w3.heap.size = gk at *
 refine (rdBelow 9 _ _ a len cap zs hr4).mono ?_
 rintro e w5 ⟨v, rfl, ⟨x5, rfl, x0, x1⟩, hb5, hr5⟩
 have hsz5 := hb5.size
 have hb6 := hb5.alloc (.cells #[.slice (some ⟨gk, 0, none⟩) 1 1, .int .i64 (1 + x5)] 44)
 have HW := Lib.hid (show PtW w w2 (w5.alloc (.cells #[.slice (some ⟨gk, 0, none⟩) 1 1, .int .i64 (1 + x5)] 44)) (w.heap.size + 1) gk w5.heap.size ⟨k, n, s⟩ a len cap zs from ⟨⟨1 + x5, Blo.new _ _ _⟩, OwnG.but hK hb6 (Nat.lt_succ_self _), hb4.trans hb6, hz2.trans ((hb4.trans hb6).below (by omega) hz2.size), hr5.alloc _⟩)
 have hge : w2.heap.size ≤ w5.heap.size := by omega
 have hne : gk ≠ w5.heap.size := by omega
 have hge0 : w.heap.size + 1 < w5.heap.size := by omega
 clear hK hb4 hr4 hb5 hr5 hb6 hz2
 go_wp2_with fail
 generalize w5.alloc (.cells #[.slice (some ⟨gk, 0, none⟩) 1 1, .int .i64 (1 + x5)] 44) = w6 at *
 generalize w5.heap.size = ge at *
 refine (rdOnce 12 _ _ a len cap zs HW.out.2.2.2.2).mono ?_
 rintro e w7 ⟨v7, rfl, ⟨b, rfl⟩, hb7, hr7⟩
 have HW := Lib.hid (HW.out.but hb7 hr7 (by omega) (by omega))
 clear hb7 hr7
 go_upto_if 19 with (fail)
 go_cut [] from 20 to 22 (fun wx => PtW w w2 wx (w.heap.size + 1) gk ge ⟨k, n, s⟩ a len cap zs)
 case first =>
  cases b
  ·go_wp2_with fail
   go_meet
   case rel => exact HW.out
  ·go_wp2_with fail
   refine (rdOff 1 9 (by omega) (by omega) (by omega) _ _ a len cap zs HW.out.2.2.2.2).mono ?_
   rintro e w8 ⟨u8, rfl, ⟨y, rfl, y0, y1⟩, hb8, hr8⟩
   have HW := Lib.hid (HW.out.but hb8 hr8 (by omega) (by omega))
   have HZ := Lib.hid (HW.out.put H2.out hge (by omega) hne y)
   obtain ⟨⟨id, hB⟩, -⟩ := HW.out
   have z1 := hB.cell 1 _ rfl
   have z4 := hB.free 1
   clear hb8 hr8 hB
   go_wp2_with fail
   go_meet
   case rel => exact HZ.out
 case rest =>
  clear HW
  by_cases hp : 0 < es.length
  ·have g0 : (0 : Int) < es.length := by omega
   have hng : w.heap.size ≠ ge := by omega
   go_wp2_with fail
   refine (rdOnce 6 _ _ a len cap zs hcut.2.2.2.2).mono ?_
   rintro e w9 ⟨v9, rfl, ⟨b9, rfl⟩, hb9, hr9⟩
   have hcut := hcut.but hb9 hr9 (by omega) (by omega)
   clear hb9 hr9
   cases b9
   ·-- eight
    obtain ⟨⟨id, hB⟩, hKo, hbw, hzw, -⟩ := hcut
    have hB0 : Blo w9.drew ge [.slice (some ⟨gk, 0, none⟩) 1 1, .int .i64 id] 44 := hB
    have hY : Blo w9.drew w.heap.size [.slice none 0 0, .int .i64 0] 44 := Y0.out.but hbw.drew n0
    have hOw := (OwnE.but HO.out hbw (by omega)).drew
    have hBw := hzw.drew
    have hKo : OwnG 34 3 Vl.cells w9.drew (w.heap.size + 1 + 1) (.slice (some ⟨gk, 0, none⟩) 1 1) [(⟨k, n, s⟩ : Vl)] := hKo
    have p0 := hB.cell 0 _ rfl
    have p1 := hB.cell 1 _ rfl
    clear hB hbw hzw
    go_upto_region 8 with fail
    refine wp_region_noPanic ?_
    refine wp_region_held_drew (S := (fun w' => w'.cell? ⟨ge, 0, none⟩ = some (.slice (some ⟨gk, 0, none⟩) 1 1) ∧ w'.cell? ⟨ge, 1, none⟩ = some (.int .i64 id))) (by kernel_rfl) ⟨p0, p1⟩ (fun hHeld => ?_)
    generalize w9.drew = u0 at *
    have y0 := hY.cell 0 _ rfl
    have y1 := hY.cell 1 _ rfl
    have y2 := hY.free 0
    have y3 := hY.free 1
    refine tk 0 ?_
    refine tk 1 ?_
    refine tk 2 ?_
    refine wpAnyH_ready (rs := [3]) (by kernel_rfl) (by simp) ?_
    refine AllReadyH.cons rfl (fun K hK => ?_) AllReadyH.nil
    go_simp
    refine hK.out _ _ ⟨Blo.cell (Blo.set (Blo.set hB0 ⟨w.heap.size, 0, none⟩ hng _) ⟨w.heap.size, 1, none⟩ hng _) 0 _ rfl, Blo.cell (Blo.set (Blo.set hB0 ⟨w.heap.size, 0, none⟩ hng _) ⟨w.heap.size, 1, none⟩ hng _) 1 _ rfl⟩ (fun hHeld => ?_)
    clear hK K
    (try simp only [Act.put, pz0, pz1, pz2, pz3, pz4, pz5])
    refine wpAnyH_done (by kernel_rfl) ?_ _
    refine NoPanic.normal ?_
    clear hHeld
    go_wp2_with fail
    have hO9 := OwnE.low (OwnE.low hOw (p := ⟨w.heap.size, 0, none⟩) (show w.heap.size < w.heap.size + 1 + 1 by omega) (.slice (some ⟨gk, 0, none⟩) 1 1)) (p := ⟨w.heap.size, 1, none⟩) (show w.heap.size < w.heap.size + 1 + 1 by omega) (.int .i64 id)
    have hK9 := OwnG.set2 (OwnG.set2 hKo (p := ⟨w.heap.size, 0, none⟩) (by simp; omega) (.slice (some ⟨gk, 0, none⟩) 1 1)) (p := ⟨w.heap.size, 1, none⟩) (by simp; omega) (.int .i64 id)
    have hKf := Sl.okk (OwnG.slv hK9)
    have hB9 := (hBw.setCell (p := ⟨w.heap.size, 0, none⟩) (Nat.le_refl _) (.slice (some ⟨gk, 0, none⟩) 1 1)).setCell (p := ⟨w.heap.size, 1, none⟩) (Nat.le_refl _) (.int .i64 id)
    refine bodyPost_ret (v := .tuple #[.slice A es.length c, .agg #[.slice (some ⟨gk, 0, none⟩) 1 1, .int .i64 id]]) (by simp [results, Tryz.results18, go_sem, y0, y1]) rfl ⟨_, rfl, ⟨_, es, _, _, ⟨[⟨k, n, s⟩], id⟩, rfl, OwnE.mono hO9 (by omega), hle, HK.out, hKf⟩, hB9⟩
   ·-- seven
    obtain ⟨-, -, hbw, hzw, -⟩ := hcut
    have hY : Blo w9.drew w.heap.size [.slice none 0 0, .int .i64 0] 44 := Y0.out.but hbw.drew n0
    have hOw := (OwnE.but HO.out hbw (by omega)).drew
    have hBw := hzw.drew
    obtain ⟨bl, off, A1, n1, c1, hbl, rfl, p0, p1, hk1, -⟩ := EnR.at_ hOw.slq hp
    have h1 := HK.out _ (List.getElem_mem hp)
    obtain rfl : es[0].key.length = n1 := hk1.1
    rw [h1] at p0
    simp only [Nat.zero_mul, Nat.add_zero] at p0 p1
    have hbl := hbl.1
    clear hbw hzw hk1
    go_upto_region 7 with fail
    refine wp_region_noPanic ?_
    refine wp_region_held_drew (S := (fun w' => w'.cell? ⟨bl, off, none⟩ = some (.slice A1 1 c1) ∧ w'.cell? ⟨bl, off + 1, none⟩ = some (.int .i64 es[0].id))) (by kernel_rfl) ⟨p0, p1⟩ (fun hHeld => ?_)
    generalize w9.drew = u0 at *
    have y0 := hY.cell 0 _ rfl
    have y1 := hY.cell 1 _ rfl
    have y2 := hY.free 0
    have y3 := hY.free 1
    refine tk 0 ?_
    refine tk 1 ?_
    refine tk 2 ?_
    refine tk 3 ?_
    refine tk 4 ?_
    refine wpAnyH_ready (rs := [5]) (by kernel_rfl) (by simp) ?_
    refine AllReadyH.cons rfl (fun K hK => ?_) AllReadyH.nil
    go_simp
    refine hK.out _ _ ⟨stay2 (by omega) p0, stay2 (by omega) p1⟩ (fun hHeld => ?_)
    clear hK K
    (try simp only [Act.put, pz0, pz1, pz2, pz3, pz4, pz5])
    refine wpAnyH_done (by kernel_rfl) ?_ _
    refine NoPanic.normal ?_
    clear hHeld
    go_wp2_with fail
    have hO9 := OwnE.low (OwnE.low hOw (p := ⟨w.heap.size, 0, none⟩) (show w.heap.size < w.heap.size + 1 + 1 by omega) (.slice A1 1 c1)) (p := ⟨w.heap.size, 1, none⟩) (show w.heap.size < w.heap.size + 1 + 1 by omega) (.int .i64 es[0].id)
    obtain ⟨bl9, off9, A9, n9, c9, -, e9, p9, -, hk9, -⟩ := EnR.at_ hO9.slq hp
    cases e9
    have q9 := stay2 (x := .slice A1 1 c1) (y := .int .i64 es[0].id) (show w.heap.size ≠ bl by omega) p0
    simp only [Nat.zero_mul, Nat.add_zero] at p9
    rw [q9] at p9
    cases p9
    have hKf := Sl.okk hk9
    have hB9 := (hBw.setCell (p := ⟨w.heap.size, 0, none⟩) (Nat.le_refl _) (.slice A1 1 c1)).setCell (p := ⟨w.heap.size, 1, none⟩) (Nat.le_refl _) (.int .i64 es[0].id)
    refine bodyPost_ret (v := .tuple #[.slice (some ⟨bl, off, none⟩) es.length c, .agg #[.slice A1 1 c1, .int .i64 es[0].id]]) (by simp [results, Tryz.results18, go_sem, y0, y1]) rfl ⟨_, rfl, ⟨_, es, _, _, es[0], rfl, OwnE.mono hO9 (by omega), hle, HK.out, hKf⟩, hB9⟩
  ·have g0 : ¬ (0 : Int) < es.length := by omega
   have hng : w.heap.size ≠ ge := by omega
   obtain ⟨⟨id, hB⟩, hKo, hbw, hzw, -⟩ := hcut
   have hB0 : Blo wc.drew ge [.slice (some ⟨gk, 0, none⟩) 1 1, .int .i64 id] 44 := hB
   have hY : Blo wc.drew w.heap.size [.slice none 0 0, .int .i64 0] 44 := Y0.out.but hbw.drew n0
   have hOw := (OwnE.but HO.out hbw (by omega)).drew
   have hBw := hzw.drew
   have hKo : OwnG 34 3 Vl.cells wc.drew (w.heap.size + 1 + 1) (.slice (some ⟨gk, 0, none⟩) 1 1) [(⟨k, n, s⟩ : Vl)] := hKo
   have p0 := hB.cell 0 _ rfl
   have p1 := hB.cell 1 _ rfl
   clear hB hbw hzw
   go_upto_region 8 with fail
   refine wp_region_noPanic ?_
   refine wp_region_held_drew (S := (fun w' => w'.cell? ⟨ge, 0, none⟩ = some (.slice (some ⟨gk, 0, none⟩) 1 1) ∧ w'.cell? ⟨ge, 1, none⟩ = some (.int .i64 id))) (by kernel_rfl) ⟨p0, p1⟩ (fun hHeld => ?_)
   generalize wc.drew = u0 at *
   have y0 := hY.cell 0 _ rfl
   have y1 := hY.cell 1 _ rfl
   have y2 := hY.free 0
   have y3 := hY.free 1
   refine tk 0 ?_
   refine tk 1 ?_
   refine tk 2 ?_
   refine wpAnyH_ready (rs := [3]) (by kernel_rfl) (by simp) ?_
   refine AllReadyH.cons rfl (fun K hK => ?_) AllReadyH.nil
   go_simp
   refine hK.out _ _ ⟨Blo.cell (Blo.set (Blo.set hB0 ⟨w.heap.size, 0, none⟩ hng _) ⟨w.heap.size, 1, none⟩ hng _) 0 _ rfl, Blo.cell (Blo.set (Blo.set hB0 ⟨w.heap.size, 0, none⟩ hng _) ⟨w.heap.size, 1, none⟩ hng _) 1 _ rfl⟩ (fun hHeld => ?_)
   clear hK K
   (try simp only [Act.put, pz0, pz1, pz2, pz3, pz4, pz5])
   refine wpAnyH_done (by kernel_rfl) ?_ _
   refine NoPanic.normal ?_
   clear hHeld
   go_wp2_with fail
   have hO9 := OwnE.low (OwnE.low hOw (p := ⟨w.heap.size, 0, none⟩) (show w.heap.size < w.heap.size + 1 + 1 by omega) (.slice (some ⟨gk, 0, none⟩) 1 1)) (p := ⟨w.heap.size, 1, none⟩) (show w.heap.size < w.heap.size + 1 + 1 by omega) (.int .i64 id)
   have hK9 := OwnG.set2 (OwnG.set2 hKo (p := ⟨w.heap.size, 0, none⟩) (by simp; omega) (.slice (some ⟨gk, 0, none⟩) 1 1)) (p := ⟨w.heap.size, 1, none⟩) (by simp; omega) (.int .i64 id)
   have hKf := Sl.okk (OwnG.slv hK9)
   have hB9 := (hBw.setCell (p := ⟨w.heap.size, 0, none⟩) (Nat.le_refl _) (.slice (some ⟨gk, 0, none⟩) 1 1)).setCell (p := ⟨w.heap.size, 1, none⟩) (Nat.le_refl _) (.int .i64 id)
   refine bodyPost_ret (v := .tuple #[.slice A es.length c, .agg #[.slice (some ⟨gk, 0, none⟩) 1 1, .int .i64 id]]) (by simp [results, Tryz.results18, go_sem, y0, y1]) rfl ⟨_, rfl, ⟨_, es, _, _, ⟨[⟨k, n, s⟩], id⟩, rfl, OwnE.mono hO9 (by omega), hle, HK.out, hKf⟩, hB9⟩
set_option maxRecDepth 100000 in
set_option maxHeartbeats 2000000 in
theorem drawIndexDrop (a : Option Addr) (len cap : Nat) (zs : List Int) (w : World) (h : IsRow .u8 w a len cap zs) :
  Calls Tryz.prog 21 #[.slice a len cap] w (Drawn (isIdxE w.heap.size) w) := by
 have hx := (Below.refl w.heap.size w).alloc (Nat.le_refl _) (.cells #[.slice none 0 0, .int .i64 0] 44)
 have q0 : Blo (w.alloc (.cells #[.slice none 0 0, .int .i64 0] 44)) w.heap.size [.slice none 0 0, .int .i64 0] 44 := Blo.new _ _ _
 have hxs : (w.alloc (.cells #[.slice none 0 0, .int .i64 0] 44)).heap.size = w.heap.size + 1 := by simp
 have hrow := h.below hx
 go_enter Tryz.func21, Tryz.ntmps21
 go_wp2_with fail
 generalize w.alloc (.cells #[.slice none 0 0, .int .i64 0] 44) = x at *
 refine (specOpen _ _ _ _).mono ?_
 rintro e w1 ⟨rfl, rfl⟩
 have h0 := Rdr.new hrow 116
 have q0 := q0.alloc (.cells #[.slice a len cap, .int .i64 0] 116)
 have hy := hx.alloc hx.size (.cells #[.slice a len cap, .int .i64 0] 116)
 have hsx : (x.alloc (.cells #[.slice a len cap, .int .i64 0] 116)).heap.size = x.heap.size + 1 := by simp
 generalize x.alloc (.cells #[.slice a len cap, .int .i64 0] 116) = u at *
 generalize x.heap.size = R at *
 subst hxs
 clear hrow hx
 go_wp2_with fail
 refine (rdEntries _ _ a len cap zs h0).mono ?_
 rintro e w2 ⟨v, rfl, ⟨es, hown, hle, hkl⟩, hb2, hr2⟩
 obtain ⟨A, c, rfl, hc, -, -⟩ := hown.sl
 rw [hsx] at hown
 have n0 : w.heap.size ≠ w.heap.size + 1 := by omega
 have Y0 := Lib.hid (q0.but hb2 n0)
 have HO := Lib.hid hown
 have HK := Lib.hid hkl
 have hz2 := hy.trans (hb2.below (by omega) hy.size)
 have H2 := Lib.hid hr2
 have hsz2 := hb2.size
 clear q0 hown hkl hy hb2 h0 hc
 by_cases hp : 0 < es.length
 ·have g0 : (0 : Int) < es.length := by omega
  go_wp2_with fail
  refine (rdOnce 4 _ _ a len cap zs hr2).mono ?_
  rintro e w3 ⟨v3, rfl, ⟨b3, rfl⟩, hb3, hr3⟩
  cases b3
  ·-- four
   have hr0 := hr3.drew
   have hY0 : Blo w3.drew w.heap.size [.slice none 0 0, .int .i64 0] 44 := Y0.out.but hb3.drew n0
   have hO0 := (OwnE.but HO.out hb3 (by omega)).drew
   have hB0 := (hz2.trans (hb3.below (by omega) hz2.size)).drew
   clear hb3 hr3
   go_upto_region 4 with fail
   refine wp_region_noPanic ?_
   refine wp_region_held_drew (S := (fun _ => True)) (by kernel_rfl) trivial (fun hHeld => ?_)
   generalize w3.drew = u0 at *
   refine tk 0 ?_
   refine tk 1 ?_
   refine tk 2 ?_
   refine tk 3 ?_
   refine tk 4 ?_
   refine wpAnyH_ready (rs := [5]) (by kernel_rfl) (by simp) ?_
   refine AllReadyH.cons rfl (fun K hK => ?_) AllReadyH.nil
   go_simp
   go_at_call 59
   refine (rdBelow es.length u0 _ a len cap zs hr0).mono ?_
   rintro e u1 ⟨v4, rfl, ⟨x4, rfl, x0, x1⟩, hq4, hr4⟩
   have hOw := OwnE.but hO0 hq4 (by omega)
   have hY := hY0.but hq4 n0
   have hBw := hB0.trans (hq4.below (by omega) hB0.size)
   obtain ⟨m, rfl⟩ : ∃ m : Nat, x4 = m := ⟨x4.toNat, by omega⟩
   have hm : m < es.length := by omega
   obtain ⟨bl, off, A1, n1, c1, hbl, rfl, p0, p1, hk1, -⟩ := EnR.at_ hOw.slq hm
   have h1 := HK.out _ (List.getElem_mem hm)
   obtain rfl : es[m].key.length = n1 := hk1.1
   rw [h1] at p0
   have hbl := hbl.1
   have y0 := hY.cell 0 _ rfl
   have y1 := hY.cell 1 _ rfl
   have y2 := hY.free 0
   have y3 := hY.free 1
   clear hq4 hr4 hk1
   refine hK.out _ _ trivial (fun hHeld => ?_)
   clear hK K
   (try simp only [Act.put, pz0, pz1, pz2, pz3, pz4, pz5])
   refine tk 6 ?_
   refine tk 8 ?_
   refine wpAnyH_ready (rs := [7]) (by kernel_rfl) (by simp) ?_
   refine AllReadyH.cons rfl (fun K hK => ?_) AllReadyH.nil
   go_simp
   refine hK.out _ _ trivial (fun hHeld => ?_)
   clear hK K
   (try simp only [Act.put, pz0, pz1, pz2, pz3, pz4, pz5])
   refine wpAnyH_ready (rs := [9]) (by kernel_rfl) (by simp) ?_
   refine AllReadyH.cons rfl (fun K hK => ?_) AllReadyH.nil
   go_simp
   refine hK.out _ _ trivial (fun hHeld => ?_)
   clear hK K
   (try simp only [Act.put, pz0, pz1, pz2, pz3, pz4, pz5])
   refine wpAnyH_done (by kernel_rfl) ?_ _
   refine NoPanic.normal ?_
   clear hHeld
   go_wp2_with fail
   have hO9 := OwnE.low (OwnE.low hOw (p := ⟨w.heap.size, 0, none⟩) (show w.heap.size < w.heap.size + 1 + 1 by omega) (.slice A1 1 c1)) (p := ⟨w.heap.size, 1, none⟩) (show w.heap.size < w.heap.size + 1 + 1 by omega) (.int .i64 es[m].id)
   obtain ⟨bl9, off9, A9, n9, c9, -, e9, p9, -, hk9, -⟩ := EnR.at_ hO9.slq hm
   cases e9
   have q9 := stay2 (x := .slice A1 1 c1) (y := .int .i64 es[m].id) (show w.heap.size ≠ bl by omega) p0
   rw [q9] at p9
   cases p9
   have hKf := Sl.okk hk9
   have hB9 := (hBw.setCell (p := ⟨w.heap.size, 0, none⟩) (Nat.le_refl _) (.slice A1 1 c1)).setCell (p := ⟨w.heap.size, 1, none⟩) (Nat.le_refl _) (.int .i64 es[m].id)
   refine bodyPost_ret (v := .tuple #[.slice (some ⟨bl, off, none⟩) es.length c, .agg #[.slice A1 1 c1, .int .i64 es[m].id]]) (by simp [results, Tryz.results21, go_sem, y0, y1]) rfl ⟨_, rfl, ⟨_, es, _, _, es[m], rfl, OwnE.mono hO9 (by omega), hle, HK.out, hKf⟩, hB9⟩
  ·have hb30 := hb3
   go_wp2_with fail
   refine (rdVal _ _ a len cap zs hr3).mono ?_
   rintro e w3 ⟨v3, rfl, ⟨k, n, s, rfl, ok1⟩, hb3, hr3⟩
   have hb3 := hb30.trans hb3
   have hsz3 := hb3.size
   have hK : OwnG 34 3 Vl.cells (w3.alloc (.cells #[.int .i64 k, .int .i64 n, .string s] 34)) (w.heap.size + 1 + 1) (.slice (some ⟨w3.heap.size, 0, none⟩) 1 1) [(⟨k, n, s⟩ : Vl)] := OwnG.one w3 (by omega) (⟨k, n, s⟩ : Vl) rfl
   have hZ := Y0.out.but hb3 n0
   have z0 := hZ.cell 0 _ rfl
   have z1 := hZ.cell 1 _ rfl
   have z2 := hZ.free 0
   have z3 := hZ.free 1
   have hb4 := hb3.alloc (.cells #[.int .i64 k, .int .i64 n, .string s] 34)
   have hgk : w3.heap.size < (w3.alloc (.cells #[.int .i64 k, .int .i64 n, .string s] 34)).heap.size := by simp
   have hY := Y0.out.but hb4 n0
   have y0 := hY.cell 0 _ rfl
   have y1 := hY.cell 1 _ rfl
   have y2 := hY.free 0
   have y3 := hY.free 1
   have hOw := OwnE.but HO.out hb4 (by omega)
   have hBw := hz2.trans (hb4.below (by omega) hz2.size)
   have hng : w.heap.size < w3.heap.size := by omega
   have hng2 : w.heap.size < (w3.setCell ⟨w.heap.size, 0, none⟩ (.slice (some ⟨w3.heap.size, 0, none⟩) 1 1)).heap.size := by simp; omega
   clear hb3 hr3 hb4
   go_wp2_with fail
   rw [← World.setCell_alloc_past _ _ _ _ hng2, ← World.setCell_alloc_past _ _ _ _ hng]
   generalize w3.alloc (.cells #[.int .i64 k, .int .i64 n, .string s] 34) = u0 at *
   generalize w3.heap.size = gk at *
   have hO9 := OwnE.low (OwnE.low hOw (p := ⟨w.heap.size, 0, none⟩) (show w.heap.size < w.heap.size + 1 + 1 by omega) (.slice (some ⟨gk, 0, none⟩) 1 1)) (p := ⟨w.heap.size, 1, none⟩) (show w.heap.size < w.heap.size + 1 + 1 by omega) (.int .i64 1)
   have hK9 := OwnG.set2 (OwnG.set2 hK (p := ⟨w.heap.size, 0, none⟩) (by simp; omega) (.slice (some ⟨gk, 0, none⟩) 1 1)) (p := ⟨w.heap.size, 1, none⟩) (by simp; omega) (.int .i64 1)
   have hKf := Sl.okk (OwnG.slv hK9)
   have hB9 := (hBw.setCell (p := ⟨w.heap.size, 0, none⟩) (Nat.le_refl _) (.slice (some ⟨gk, 0, none⟩) 1 1)).setCell (p := ⟨w.heap.size, 1, none⟩) (Nat.le_refl _) (.int .i64 1)
   refine bodyPost_ret (v := .tuple #[.slice A es.length c, .agg #[.slice (some ⟨gk, 0, none⟩) 1 1, .int .i64 1]]) (by simp [results, Tryz.results21, go_sem, y0, y1]) rfl ⟨_, rfl, ⟨_, es, _, _, ⟨[⟨k, n, s⟩], 1⟩, rfl, OwnE.mono hO9 (by omega), hle, HK.out, hKf⟩, hB9⟩
 ·have g0 : ¬ (0 : Int) < es.length := by omega
  have hb20 := But.refl (w.heap.size + 1) w2
  go_wp2_with fail
  refine (rdVal _ _ a len cap zs hr2).mono ?_
  rintro e w3 ⟨v3, rfl, ⟨k, n, s, rfl, ok1⟩, hb3, hr3⟩
  have hb3 := hb20.trans hb3
  have hsz3 := hb3.size
  have hK : OwnG 34 3 Vl.cells (w3.alloc (.cells #[.int .i64 k, .int .i64 n, .string s] 34)) (w.heap.size + 1 + 1) (.slice (some ⟨w3.heap.size, 0, none⟩) 1 1) [(⟨k, n, s⟩ : Vl)] := OwnG.one w3 (by omega) (⟨k, n, s⟩ : Vl) rfl
  have hZ := Y0.out.but hb3 n0
  have z0 := hZ.cell 0 _ rfl
  have z1 := hZ.cell 1 _ rfl
  have z2 := hZ.free 0
  have z3 := hZ.free 1
  have hb4 := hb3.alloc (.cells #[.int .i64 k, .int .i64 n, .string s] 34)
  have hgk : w3.heap.size < (w3.alloc (.cells #[.int .i64 k, .int .i64 n, .string s] 34)).heap.size := by simp
  have hY := Y0.out.but hb4 n0
  have y0 := hY.cell 0 _ rfl
  have y1 := hY.cell 1 _ rfl
  have y2 := hY.free 0
  have y3 := hY.free 1
  have hOw := OwnE.but HO.out hb4 (by omega)
  have hBw := hz2.trans (hb4.below (by omega) hz2.size)
  have hng : w.heap.size < w3.heap.size := by omega
  have hng2 : w.heap.size < (w3.setCell ⟨w.heap.size, 0, none⟩ (.slice (some ⟨w3.heap.size, 0, none⟩) 1 1)).heap.size := by simp; omega
  clear hb3 hr3 hb4
  go_wp2_with fail
  rw [← World.setCell_alloc_past _ _ _ _ hng2, ← World.setCell_alloc_past _ _ _ _ hng]
  generalize w3.alloc (.cells #[.int .i64 k, .int .i64 n, .string s] 34) = u0 at *
  generalize w3.heap.size = gk at *
  have hO9 := OwnE.low (OwnE.low hOw (p := ⟨w.heap.size, 0, none⟩) (show w.heap.size < w.heap.size + 1 + 1 by omega) (.slice (some ⟨gk, 0, none⟩) 1 1)) (p := ⟨w.heap.size, 1, none⟩) (show w.heap.size < w.heap.size + 1 + 1 by omega) (.int .i64 1)
  have hK9 := OwnG.set2 (OwnG.set2 hK (p := ⟨w.heap.size, 0, none⟩) (by simp; omega) (.slice (some ⟨gk, 0, none⟩) 1 1)) (p := ⟨w.heap.size, 1, none⟩) (by simp; omega) (.int .i64 1)
  have hKf := Sl.okk (OwnG.slv hK9)
  have hB9 := (hBw.setCell (p := ⟨w.heap.size, 0, none⟩) (Nat.le_refl _) (.slice (some ⟨gk, 0, none⟩) 1 1)).setCell (p := ⟨w.heap.size, 1, none⟩) (Nat.le_refl _) (.int .i64 1)
  refine bodyPost_ret (v := .tuple #[.slice A es.length c, .agg #[.slice (some ⟨gk, 0, none⟩) 1 1, .int .i64 1]]) (by simp [results, Tryz.results21, go_sem, y0, y1]) rfl ⟨_, rfl, ⟨_, es, _, _, ⟨[⟨k, n, s⟩], 1⟩, rfl, OwnE.mono hO9 (by omega), hle, HK.out, hKf⟩, hB9⟩
def isIxArgsB (base : Nat) (v : Value) (w : World) : Prop := ∃ (A1 : Option Addr) (c1 : Nat) (ts : List Tb) (A2 : Option Addr) (c2 : Nat) (ds : List Dt) (t : Int) (A3 : Option Addr) (c3 : Nat) (cols : List Int),
 v = .tuple #[.slice A1 ts.length c1, .slice A2 ds.length c2, .int .i64 t, .slice A3 cols.length c3] ∧ ts.length ≤ c1 ∧ Sl TbR 6 (fun b => base ≤ b) w A1 ts.length ts ∧ Sl DtR 1 (fun b => base ≤ b) w A2 ds.length ds ∧ Sl IntR 1 (fun b => base ≤ b) w A3 cols.length cols ∧ cols.length ≤ c3 ∧ schOk ts ∧ baseOk 6 ts ds ∧ ds.length ≤ ts.length ∧ (cols = [1, 0] ∨ ∃ y, cols = [y])
def isIxArgs (v : Value) (w : World) : Prop := ∃ (ok : Nat → Prop) (A1 : Option Addr) (c1 : Nat) (ts : List Tb) (A2 : Option Addr) (c2 : Nat) (ds : List Dt) (t : Int) (A3 : Option Addr) (c3 : Nat) (cols : List Int),
 v = .tuple #[.slice A1 ts.length c1, .slice A2 ds.length c2, .int .i64 t, .slice A3 cols.length c3] ∧ ts.length ≤ c1 ∧ Sl TbR 6 ok w A1 ts.length ts ∧ Sl DtR 1 ok w A2 ds.length ds ∧ Sl IntR 1 ok w A3 cols.length cols ∧ cols.length ≤ c3 ∧ schOk ts ∧ baseOk 6 ts ds ∧ ds.length ≤ ts.length ∧ (cols = [1, 0] ∨ ∃ y, cols = [y])
theorem isIxArgsB.all {base : Nat} {v : Value} {w : World} (h : isIxArgsB base v w) : isIxArgs v w := ⟨_, h⟩
set_option maxRecDepth 100000 in
set_option maxHeartbeats 2000000 in
theorem drawIndexOfB (a : Option Addr) (len cap : Nat) (zs : List Int) (w : World) (h : IsRow .u8 w a len cap zs) :
  Calls Tryz.prog 25 #[.slice a len cap] w (Drawn (isIxArgsB w.heap.size) w) := by
 have h0 := Rdr.new h 116
 have b0 := (Below.refl w.heap.size w).alloc (Nat.le_refl _) (.cells #[.slice a len cap, .int .i64 0] 116)
 go_enter Tryz.func25, Tryz.ntmps25
 go_wp2_with fail
 refine (specOpen _ _ _ _).mono ?_
 rintro e w1 ⟨rfl, rfl⟩
 have hRlt : w.heap.size < (w.alloc (.cells #[.slice a len cap, .int .i64 0] 116)).heap.size := by simp
 generalize w.alloc (.cells #[.slice a len cap, .int .i64 0] 116) = u at *
 go_wp2_with fail
 refine (rdSchema _ _ a len cap zs h0).mono ?_
 rintro e w2 ⟨v, rfl, hsch, hb2, hr2⟩
 obtain ⟨A1, c1, ts, rfl, hc1, hsl, hsk⟩ := hsch.full
 have hS := okF.weak TbR.stays hsl (Nat.le_refl _)
 have hok : ∀ b, u.heap.size ≤ b → b ≠ w.heap.size := fun b hb => by omega
 clear hsl hsch
 go_wp2_with fail
 refine (rdBase 6 (by omega) (by omega) A1 ts.length c1 ts _ _ _ a len cap zs hr2 hS hok hc1 hsk).mono ?_
 rintro e w3 ⟨v, rfl, ⟨A2, c2, ds, rfl, hc2, hdl, hn2, hrw⟩, hb3, hr3⟩
 have hD := okF.weak DtR.stays hdl hb2.size
 have hS3 := hS.butY TbR.stays hb3 hok
 have hlt1 := hsk.1
 have hlt3 := hsk.2.1
 clear hdl hS hr2
 go_wp2_with fail
 refine (rdPlace A1 A2 ts.length c1 ds.length c2 _ _ a len cap zs hr3 hlt1 (by omega)).mono ?_
 rintro e w4 ⟨v, rfl, ⟨t, rfl, t0, t1⟩, hb4, hr4⟩
 go_wp2_with fail
 refine (rdOnce 3 _ _ a len cap zs hr4).mono ?_
 rintro e w5 ⟨v5, rfl, ⟨b5, rfl⟩, hb5, hr5⟩
 have hb45 := hb4.trans hb5
 have hS5 := hS3.butY TbR.stays hb45 hok
 have hD5 := hD.butY DtR.stays hb45 hok
 have hb25 := (hb2.trans hb3).trans hb45
 clear hb2 hb3 hb4 hb5 hb45 hS3 hD hr3 hr4
 cases b5
 ·go_wp2_with fail
  refine (rdOff 0 1 (by omega) (by omega) (by omega) _ _ a len cap zs hr5).mono ?_
  rintro e w6 ⟨v6, rfl, ⟨y, rfl, y0, y1⟩, hb6, hr6⟩
  have hS6 := hS5.butY TbR.stays hb6 hok
  have hD6 := hD5.butY DtR.stays hb6 hok
  have hb26 := hb25.trans hb6
  clear hS5 hD5 hb25 hb6 hr6 hr5
  have hS9 := Lib.hid (hS6.butY TbR.stays ((But.refl w.heap.size w6).alloc (.cells #[.int .i64 y] 2)) hok)
  have hD9 := Lib.hid (hD6.butY DtR.stays ((But.refl w.heap.size w6).alloc (.cells #[.int .i64 y] 2)) hok)
  have hb9 := Lib.hid (b0.trans ((hb26.alloc (.cells #[.int .i64 y] 2)).below (Nat.le_refl _) (Nat.le_of_lt hRlt)))
  have hC9 : Hid (Sl IntR 1 (fun b => w.heap.size ≤ b) (w6.alloc (.cells #[.int .i64 y] 2)) (some ⟨w6.heap.size, 0, none⟩) 1 [y]) := Lib.hid (Sl.laid (R := IntR) (sz := 1) (css := [[.int .i64 y]]) (ds := [y]) (Blo.new w6 _ _) rfl (Nat.le_trans (Nat.le_of_lt hRlt) hb26.size) fun i hi hd => by
    obtain rfl : i = 0 := by simpa using hi
    exact ⟨rfl, rfl⟩)
  go_wp2_with fail
  refine bodyPost_ret (v := .tuple #[.slice A1 ts.length c1, .slice A2 ds.length c2, .int .i64 t, .slice (some ⟨w6.heap.size, 0, none⟩) 1 1]) ?_ rfl ?_
  ·simp [results, Tryz.results25, go_sem]
  ·exact ⟨_, rfl, ⟨A1, c1, ts, A2, c2, ds, t, _, 1, [y], rfl, hc1, Sl.stays TbR.stays hS9.out (fun b hb => Nat.le_trans (Nat.le_of_lt hRlt) hb) (fun _ _ _ h => h), Sl.stays DtR.stays hD9.out (fun b hb => Nat.le_trans (Nat.le_of_lt hRlt) hb) (fun _ _ _ h => h), hC9.out, Nat.le_refl _, hsk, hrw, hn2, Or.inr ⟨_, rfl⟩⟩, hb9.out⟩
 ·have hS9 := Lib.hid (hS5.butY TbR.stays ((But.refl w.heap.size w5).alloc (.cells #[.int .i64 1, .int .i64 0] 2)) hok)
  have hD9 := Lib.hid (hD5.butY DtR.stays ((But.refl w.heap.size w5).alloc (.cells #[.int .i64 1, .int .i64 0] 2)) hok)
  have hb9 := Lib.hid (b0.trans ((hb25.alloc (.cells #[.int .i64 1, .int .i64 0] 2)).below (Nat.le_refl _) (Nat.le_of_lt hRlt)))
  have hC9 : Hid (Sl IntR 1 (fun b => w.heap.size ≤ b) (w5.alloc (.cells #[.int .i64 1, .int .i64 0] 2)) (some ⟨w5.heap.size, 0, none⟩) 2 [1, 0]) := Lib.hid (Sl.laid (R := IntR) (sz := 1) (css := [[.int .i64 1], [.int .i64 0]]) (ds := [1, 0]) (Blo.new w5 _ _) rfl (Nat.le_trans (Nat.le_of_lt hRlt) hb25.size) fun i hi hd => by
    have hi2 : i < 2 := by simpa using hi
    match i, hi2 with
    | 0, _ => exact ⟨rfl, rfl⟩
    | 1, _ => exact ⟨rfl, rfl⟩)
  go_wp2_with fail
  refine bodyPost_ret (v := .tuple #[.slice A1 ts.length c1, .slice A2 ds.length c2, .int .i64 t, .slice (some ⟨w5.heap.size, 0, none⟩) 2 2]) ?_ rfl ?_
  ·simp [results, Tryz.results25, go_sem]
  ·exact ⟨_, rfl, ⟨A1, c1, ts, A2, c2, ds, t, _, 2, [1, 0], rfl, hc1, Sl.stays TbR.stays hS9.out (fun b hb => Nat.le_trans (Nat.le_of_lt hRlt) hb) (fun _ _ _ h => h), Sl.stays DtR.stays hD9.out (fun b hb => Nat.le_trans (Nat.le_of_lt hRlt) hb) (fun _ _ _ h => h), hC9.out, Nat.le_refl _, hsk, hrw, hn2, Or.inl rfl⟩, hb9.out⟩
theorem drawIndexOf (a : Option Addr) (len cap : Nat) (zs : List Int) (w : World) (h : IsRow .u8 w a len cap zs) :
  Calls Tryz.prog 25 #[.slice a len cap] w (Drawn isIxArgs w) := (drawIndexOfB a len cap zs w h).mono fun _ _ ⟨v, h1, h2, h3⟩ => ⟨v, h1, h2.all, h3⟩
theorem ordX_zero {x y : Vl} (h : rgV x) (h' : rgV y) : ordX x y = 0 ↔ x = y := by
 constructor
 ·intro hz
  unfold ordX at hz
  rcases ordOk_zero h h' with ⟨z1, z2, z3, z4⟩ | ⟨z1, z4⟩ | ⟨z1, z2, z4⟩ | ⟨z1, z2, z3, z4⟩
  ·exact eqlV_eq (by unfold eqlV; rw [z1, z2, z3]; rfl)
  ·rw [hz] at z4; cases z4
  ·rw [hz] at z4; cases z4
  ·rw [hz] at z4; cases z4
 ·rintro rfl
  have := ordX_neg x x
  omega
theorem inR_eq {v : Vl} {e : En} (hv : rgV v) (he : rgV (headV e)) : inR v v e = true ↔ headV e = v := by
 rw [← ordX_zero he hv]
 unfold inR
 rw [Bool.and_eq_true, decide_eq_true_eq, decide_eq_true_eq]
 omega
theorem eqlV_self (v : Vl) : eqlV v v = true := by simp [eqlV]
theorem ix_range {c : Int} {rows : List Rw} {m : Nat} (h : IxIn [c] rows m) {v : Vl} (hv : rgV v) (hk : v.k ≠ 0) : ∀ k, k ≤ rows.length → rangeL v v (ixK [c] rows k) = idL rows (idxK [c] [v] rows k)
 | 0, _ => rfl
 | k + 1, hlt => by
  have IH := ix_range h hv hk k (by omega)
  have hk' : k < rows.length := by omega
  obtain ⟨i1, i2, i3⟩ := ix_step h k (by omega)
  obtain ⟨g1, g2, g3⟩ := entriesB_in i1
  have he : entryB (entOf [c] rows[k]) = true := h.ent (List.getElem_mem hk')
  have hrg := entryB_ok he
  obtain ⟨b1, b2, b3⟩ := bs_ok g3 (fun x hx => entryB_ok (g2 x hx).1) hrg
  obtain ⟨u, hu⟩ : ∃ u, keyL [c] rows[k].vals = [u] := ⟨_, rfl⟩
  have hkey : (entOf [c] rows[k]).key = [u] := hu
  have hhead : headV (entOf [c] rows[k]) = u := by unfold headV; rw [hkey]; rfl
  have hug : rgV u := hrg u (by rw [hkey]; exact List.mem_cons_self ..)
  have hin : inR v v (entOf [c] rows[k]) = true ↔ u = v := by rw [inR_eq hv (by rw [hhead]; exact hug), hhead]
  have hit : hitB [c] [v] rows[k].vals = true ↔ u = v := by
   unfold hitB
   rw [hu]
   simp only [List.length_cons, List.length_nil, decide_true, Bool.true_and, List.zip_cons_cons, List.zip_nil_right, List.all_cons, List.all_nil, Bool.and_true, hitP, eqlP]
   constructor
   ·intro h9
    rw [Bool.and_eq_true] at h9
    exact eqlV_eq h9.2
   ·rintro rfl
    rw [eqlV_self]
    simpa using hk
  rw [(ix_put h hk').2]
  unfold insL insAt
  have hspl : rangeL v v (ixK [c] rows k) = rangeL v v ((ixK [c] rows k).take (bs (ixK [c] rows k) (entOf [c] rows[k]))) ++ rangeL v v ((ixK [c] rows k).drop (bs (ixK [c] rows k) (entOf [c] rows[k]))) := by
   rw [← rangeL_app, List.take_append_drop]
  rw [rangeL_app, show ∀ (e : En) (l : List En), e :: l = [e] ++ l from fun _ _ => rfl, rangeL_app]
  by_cases huv : u = v
  ·have hd : rangeL v v ((ixK [c] rows k).drop (bs (ixK [c] rows k) (entOf [c] rows[k]))) = [] := by
    unfold rangeL
    rw [List.map_eq_nil_iff, List.filter_eq_nil_iff]
    intro x hx hxin
    obtain ⟨j, hj, hxj⟩ := List.mem_iff_getElem.1 hx
    rw [List.getElem_drop] at hxj
    rw [List.length_drop] at hj
    have hjl : bs (ixK [c] rows k) (entOf [c] rows[k]) + j < (ixK [c] rows k).length := by omega
    have hb := b3 _ hjl (by omega)
    rw [hxj] at hb
    have hxm : x ∈ ixK [c] rows k := List.mem_of_mem_drop hx
    obtain ⟨x1, jr, hjr, hjk, xid⟩ := i3 x hxm
    have hxr := entryB_ok (g2 x hxm).1
    obtain ⟨y, hy⟩ : ∃ y, x.key = [y] := by
     rcases hxk : x.key with _ | ⟨y, _ | ⟨z, t⟩⟩
     ·rw [hxk] at x1; simp at x1
     ·exact ⟨y, rfl⟩
     ·rw [hxk] at x1; simp at x1
    have hyh : headV x = y := by unfold headV; rw [hy]; rfl
    have hyv : y = v := by
     have h7 := (inR_eq hv (by rw [hyh]; exact hxr y (by rw [hy]; exact List.mem_cons_self ..))).1 hxin
     rw [← hyh]; exact h7
    have hup := List.pairwise_iff_getElem.1 h.up jr k hjr hk' hjk
    have hlt2 : x.id < (entOf [c] rows[k]).id := by rw [xid]; exact hup
    apply hb
    unfold ordE
    rw [hy, hkey, hyv, huv]
    have hz : ordL [v] [v] = 0 := by unfold ordL; rw [if_pos ((ordX_zero hv hv).2 rfl)]; rfl
    rw [if_pos hz]
    unfold cmpI
    rw [if_pos hlt2]; omega
   have h1 : rangeL v v [entOf [c] rows[k]] = [rows[k].id] := by
    unfold rangeL
    rw [List.filter_cons_of_pos (hin.2 huv)]; rfl
   rw [idxK_yes hk' (hit.2 huv), idL_app _ _ _ hk', ← IH, hspl, hd, h1, List.append_nil, List.append_nil]
  ·have h1 : rangeL v v [entOf [c] rows[k]] = [] := by
    unfold rangeL
    rw [List.filter_cons_of_neg (fun h9 => huv (hin.1 h9))]; rfl
   have hno : hitB [c] [v] rows[k].vals = false := by
    cases h9 : hitB [c] [v] rows[k].vals
    ·rfl
    ·exact absurd (hit.1 h9) huv
   rw [idxK_no hk' hno, ← IH, h1, List.nil_append, hspl]
theorem ix_find {s : List Tb} {db : List Dt} {m : Nat} {c : Int} (hB : dbB s db = true) (hm : m < s.length) (hd : m < db.length) (hc : colsInB [c] s[m].cols.length = true) {v : Vl} (hv : v.ok = true) (hk : v.k ≠ 0) :
  rangeB (ixL s db (m : Int) [c]) v v = findB s db (m : Int) [c] [v] := by
 have hin := (ixIn_db hB hm hd hc).1
 obtain ⟨h1, -, -⟩ := ix_step hin _ (Nat.le_refl _)
 rw [(ix_yes hB hm hd hc).2, findB_yes hm hd hB hc]
 unfold rangeB rangeOk
 rw [h1, hv]
 exact ix_range hin hv hk _ (Nat.le_refl _)
theorem ixL_few (s : List Tb) (db : List Dt) (t : Int) (cols : List Int) : (ixL s db t cols).length ≤ 60 ∧ ∀ e ∈ ixL s db t cols, e.key.length ≤ 1048576 := by
 cases hok : ixOk s db t cols
 ·have : ixL s db t cols = [] := by unfold ixL; rw [hok]; rfl
  rw [this]
  exact ⟨by simp, fun e he => (by cases he)⟩
 have hB : dbB s db = true := by
  cases hB : dbB s db
  ·have := (ix_no_db (tb := t) (cols := cols) hB).1
   rw [this] at hok; cases hok
  ·rfl
 by_cases hp : 0 ≤ t ∧ t < s.length
 ·obtain ⟨m, rfl⟩ : ∃ m : Nat, t = m := ⟨t.toNat, by omega⟩
  have hm : m < s.length := by omega
  have hd : m < db.length := by have := dbB_len hB; omega
  cases hc : colsInB cols s[m].cols.length
  ·have := (ix_no_cols (db := db) hm hc).1
   rw [this] at hok; cases hok
  ·rw [(ix_yes hB hm hd hc).2]
   have hin := (ixIn_db hB hm hd hc).1
   obtain ⟨-, h2, h3⟩ := ix_step hin db[m].rows.length (Nat.le_refl _)
   have h8 := hin.c1
   refine ⟨by rw [h2]; exact hin.few, fun e he => ?_⟩
   rw [(h3 e he).1]; omega
 ·have := (ix_no_place (s := s) (db := db) (tb := t) (cols := cols) hp).1
  rw [this] at hok; cases hok
theorem ixOk_in {s : List Tb} {db : List Dt} {t c : Int} (h : ixOk s db t [c] = true) : ∃ m : Nat, t = m ∧ ∃ (hm : m < s.length) (hd : m < db.length), dbB s db = true ∧ colsInB [c] s[m].cols.length = true ∧ db[m].rows.length ≤ 60 ∧ 0 ≤ c ∧ ∀ r ∈ db[m].rows, c < r.vals.length ∧ ∀ v ∈ r.vals, v.ok = true := by
 cases hB : dbB s db
 ·have := (ix_no_db (tb := t) (cols := [c]) hB).1
  rw [this] at h; cases h
 by_cases hp : 0 ≤ t ∧ t < s.length
 ·obtain ⟨m, rfl⟩ : ∃ m : Nat, t = m := ⟨t.toNat, by omega⟩
  have hm : m < s.length := by omega
  have hd : m < db.length := by have := dbB_len hB; omega
  cases hc : colsInB [c] s[m].cols.length
  ·have := (ix_no_cols (db := db) hm hc).1
   rw [this] at h; cases h
  ·have hin := (ixIn_db hB hm hd hc).1
   have hcc := hin.cin c (List.mem_cons_self ..)
   refine ⟨m, rfl, hm, hd, rfl, hc, hin.few, hcc.1, fun r hr => ?_⟩
   obtain ⟨-, -, r3, r4⟩ := hin.row r hr
   exact ⟨by omega, r4⟩
 ·have := (ix_no_place (s := s) (db := db) (tb := t) (cols := [c]) hp).1
  rw [this] at h; cases h
theorem keepI3 {w w' : World} {p0 p1 p2 : Addr} {a0 a1 a2 : Value} (h : w.cell? p0 = some a0 ∧ w.cell? p1 = some a1 ∧ w.cell? p2 = some a2) (hb : Below w.heap.size w w') : w'.cell? p0 = some a0 ∧ w'.cell? p1 = some a1 ∧ w'.cell? p2 = some a2 :=
 ⟨below_keep hb _ _ h.1, below_keep hb _ _ h.2.1, below_keep hb _ _ h.2.2⟩
theorem keepI6 {w w' : World} {p0 p1 p2 p3 p4 p5 : Addr} {a0 a1 a2 a3 a4 a5 : Value} (h : w.cell? p0 = some a0 ∧ w.cell? p1 = some a1 ∧ w.cell? p2 = some a2 ∧ w.cell? p3 = some a3 ∧ w.cell? p4 = some a4 ∧ w.cell? p5 = some a5) (hb : Below w.heap.size w w') : w'.cell? p0 = some a0 ∧ w'.cell? p1 = some a1 ∧ w'.cell? p2 = some a2 ∧ w'.cell? p3 = some a3 ∧ w'.cell? p4 = some a4 ∧ w'.cell? p5 = some a5 :=
 ⟨below_keep hb _ _ h.1, below_keep hb _ _ h.2.1, below_keep hb _ _ h.2.2.1, below_keep hb _ _ h.2.2.2.1, below_keep hb _ _ h.2.2.2.2.1, below_keep hb _ _ h.2.2.2.2.2⟩
end Go.Proofs.YtciaidjmehelpaaGreat
