/-
  Several texts in one: what the proof leans on, part 2.
-/
import Derived.Test.YtjhhamlnlalkoaaGreatQa
import Derived.Test.YtjhhamlnlalkoaaGreatPa
import Derived.Test.YtjhhamlnlalkoaaGreatPb
import Derived.Test.YtjhhamlnlalkoaaGreatPc
import Derived.Test.YtjhhamlnlalkoaaGreatPd
import Derived.Test.YtjhhamlnlalkoaaGreatPe
import Derived.Test.YtjhhamlnlalkoaaGreatPf
import Derived.Test.YtjhhamlnlalkoaaGreatPg
import Derived.Test.YtjhhamlnlalkoaaGreatPh
import Derived.Test.YtjhhamlnlalkoaaGreatPi
import Derived.Maps.AppendAt
set_option linter.unusedVariables false
set_option linter.unusedSimpArgs false
namespace Go.Proofs.YtjhhamlnlalkoaaGreat
open Go.RowKit Go.Maps
def findB (s : List Tb) (db : List Dt) (t : Int) (cols : List Int) (key : List Vl) : List Int :=
 match s[t.toNat]?, db[t.toNat]? with
 | some x, some d => if dbB s db && (decide (0 ≤ t) && colsInB cols x.cols.length) then findL cols key d.rows else []
 | _, _ => []
theorem findB_bad {s : List Tb} {db : List Dt} {t : Int} {cols : List Int} {key : List Vl} (h : dbB s db = false) : findB s db t cols key = [] := by
 unfold findB
 split
 ·rw [h]; rfl
 ·rfl
theorem findB_out {s : List Tb} {db : List Dt} {t : Int} {cols : List Int} {key : List Vl} (h : (decide (0 ≤ t) && decide (t < (s.length : Int))) = false) : findB s db t cols key = [] := by
 unfold findB
 split
 ·next x d hx hd =>
  have h1 := (List.getElem?_eq_some_iff.1 hx).1
  by_cases h0 : 0 ≤ t
  ·rw [decide_eq_true h0, decide_eq_true (by omega)] at h; cases h
  ·rw [decide_eq_false h0]; simp
 ·rfl
theorem findB_cols {s : List Tb} {db : List Dt} {m : Nat} {cols : List Int} {key : List Vl} (h1 : m < s.length) (h : colsInB cols s[m].cols.length = false) : findB s db (m : Int) cols key = [] := by
 unfold findB
 rw [Int.toNat_natCast, List.getElem?_eq_getElem h1]
 split
 ·next x d hx hd =>
  cases hx
  rw [h]; simp
 ·rfl
theorem findB_yes {s : List Tb} {db : List Dt} {m : Nat} {cols : List Int} {key : List Vl} (h1 : m < s.length) (h2 : m < db.length) (hB : dbB s db = true) (h : colsInB cols s[m].cols.length = true) : findB s db (m : Int) cols key = findL cols key db[m].rows := by
 unfold findB
 rw [Int.toNat_natCast, List.getElem?_eq_getElem h1, List.getElem?_eq_getElem h2]
 simp only [hB, h]
 simp
set_option maxRecDepth 100000 in
set_option maxHeartbeats 4000000 in
theorem implFindRows (AS AD AC AK : Option Addr) (nS cS nD cD nC cC nK cK : Nat) (s : List Tb) (db : List Dt) (t : Int) (cols : List Int) (key : List Vl) (ok ok' okc okk : Nat → Prop) (w : World)
  (hs : Sl TbR 6 ok w AS nS s) (hd : Sl DtR 1 ok' w AD nD db) (hc : Sl IntR 1 okc w AC nC cols) (hk : Sl VlR 3 okk w AK nK key) (hsz : szL Tb.sz s ≤ 1048576) (hdz : szL Dt.sz db ≤ 1048576) (hcn : nC ≤ 1048576) (hkn : nK ≤ 1048576) :
  Calls Tryz.prog 12 #[.slice AS nS cS, .slice AD nD cD, .int .i64 t, .slice AC nC cC, .slice AK nK cK] w (MadeI (findB s db t cols key) w) := by
 obtain rfl : s.length = nS := hs.1
 obtain rfl : db.length = nD := hd.1
 have hn1 : s.length ≤ 1048576 := by unfold szL at hsz; omega
 have hn2 : db.length ≤ 1048576 := by unfold szL at hdz; omega
 have HSZ := Lib.hid hsz
 have HDZ := Lib.hid hdz
 have HVS := Lib.hid (rows_le hdz)
 have HDB := Lib.hid (implDbOk' AS AD s.length cS db.length cD s db ok ok' w hs hd hsz hdz)
 clear hsz hdz
 cases hB : dbB s db
 ·have HB := Lib.hid hB
  have HR := Lib.hid (findB_bad (t := t) (cols := cols) (key := key) hB)
  clear hB
  go_enter Tryz.func12, Tryz.ntmps12
  go_wp2_with fail
  refine HDB.out.mono ?_
  rintro e w1 ⟨rfl, hb1⟩
  rw [HB.out]
  go_wp2_with fail
  go_ret
  exact ⟨none, 0, by rw [HR.out]; rfl, by rw [HR.out]; exact Nat.le_refl _, by rw [HR.out]; exact ⟨rfl, fun h => by simp at h⟩, hb1⟩
 have HB := Lib.hid hB
 have hlen := dbB_len hB
 have HLEN := Lib.hid hlen
 clear hB hlen
 cases hin : (decide (0 ≤ t) && decide (t < (s.length : Int)))
 ·have HI := Lib.hid hin
  have HR := Lib.hid (findB_out (db := db) (cols := cols) (key := key) hin)
  clear hin
  go_enter Tryz.func12, Tryz.ntmps12
  go_wp2_with fail
  refine HDB.out.mono ?_
  rintro e w1 ⟨rfl, hb1⟩
  rw [HB.out]
  go_wp2_with fail
  refine (implPlaceK HI.out _).mono ?_
  rintro e w2 ⟨rfl, rfl⟩
  go_wp2_with fail
  go_ret
  exact ⟨none, 0, by rw [HR.out]; rfl, by rw [HR.out]; exact Nat.le_refl _, by rw [HR.out]; exact ⟨rfl, fun h => by simp at h⟩, hb1⟩
 have HI := Lib.hid hin
 obtain ⟨m, rfl, hm⟩ : ∃ m : Nat, t = m ∧ m < s.length := by
  simp only [Bool.and_eq_true, decide_eq_true_eq] at hin
  exact ⟨t.toNat, by omega, by omega⟩
 have hmd : m < db.length := by have := HLEN.out; omega
 have m0 : (0 : Int) ≤ m := by omega
 have m1 : (m : Int) < s.length := by omega
 have m2 : (m : Int) < db.length := by omega
 clear hin
 cases hcol : colsInB cols s[m].cols.length
 ·have HC := Lib.hid hcol
  have HR := Lib.hid (findB_cols (db := db) (key := key) hm hcol)
  clear hcol
  go_enter Tryz.func12, Tryz.ntmps12
  go_wp2_with fail
  refine HDB.out.mono ?_
  rintro e w1 ⟨rfl, hb1⟩
  rw [HB.out]
  go_wp2_with fail
  refine (implPlaceK HI.out _).mono ?_
  rintro e w2 ⟨rfl, rfl⟩
  obtain ⟨b, off, A1, n1, c1, A2, n2, c2, A3, n3, c3, A4, n4, c4, A5, n5, c5, -, rfl, q0, q1, q2, q3, q4, q5, s1, -⟩ := TbR.at_ (hs.below TbR.stays hb1) hm
  obtain rfl : s[m].cols.length = n1 := s1.1
  have hcl : s[m].cols.length ≤ 1048576 := by have h1 := HSZ.out; have := sum_mem_le Tb.sz s m hm; simp only [szL, Tb.sz] at *; omega
  go_wp2_with fail
  refine (implAreColumns AC nC cC cols s[m].cols.length _ _ (hc.below IntR.stays hb1) hcn hcl).mono ?_
  rintro e w3 ⟨rfl, hb3⟩
  rw [HC.out]
  go_wp2_with fail
  go_ret
  exact ⟨none, 0, by rw [HR.out]; rfl, by rw [HR.out]; exact Nat.le_refl _, by rw [HR.out]; exact ⟨rfl, fun h => by simp at h⟩, hb1.trans (hb3.mono hb1.size)⟩
 have HC := Lib.hid hcol
 have HR := Lib.hid (findB_yes (key := key) hm hmd HB.out hcol)
 have HROW := Lib.hid (fun r hr => all_inV hcol (dbB_row HB.out hm hmd r hr))
 have HVR := Lib.hid (HVS.out _ (List.getElem_mem hmd))
 have HFL := Lib.hid (findL_len cols key db[m].rows)
 have HRN := Lib.hid (show db[m].rows.length ≤ 1048576 by have h1 := HDZ.out; have := sum_mem_le Dt.sz db m hmd; simp only [szL, Dt.sz] at *; omega)
 obtain ⟨i0, hi, hz0, hz1, hz2⟩ := info_parts infoIntI
 have H1 := Lib.hid hi
 have H2 := Lib.hid hz0
 have H3 := Lib.hid hz1
 have H4 := Lib.hid hz2
 clear hcol hi hz0 hz1 hz2
 go_enter Tryz.func12, Tryz.ntmps12
 go_wp2_with fail
 refine HDB.out.mono ?_
 rintro e w1 ⟨rfl, hb1⟩
 rw [HB.out]
 go_wp2_with fail
 refine (implPlaceK HI.out _).mono ?_
 rintro e w2 ⟨rfl, rfl⟩
 obtain ⟨b, off, A1, n1, c1, A2, n2, c2, A3, n3, c3, A4, n4, c4, A5, n5, c5, -, rfl, q0, q1, q2, q3, q4, q5, s1, -⟩ := TbR.at_ (hs.below TbR.stays hb1) hm
 obtain rfl : s[m].cols.length = n1 := s1.1
 have hcl : s[m].cols.length ≤ 1048576 := by have h1 := HSZ.out; have := sum_mem_le Tb.sz s m hm; simp only [szL, Tb.sz] at *; omega
 go_wp2_with fail
 refine (implAreColumns AC nC cC cols s[m].cols.length _ _ (hc.below IntR.stays hb1) hcn hcl).mono ?_
 rintro e w3 ⟨rfl, hb3⟩
 rw [HC.out]
 have hbz := hb1.trans (hb3.mono hb1.size)
 clear q0 q1 q2 q3 q4 q5 hb1 hb3 hcl
 obtain ⟨bd, offd, AL, nL, cL, -, rfl, y0, hrs, -⟩ := DtR.at_ (hd.below DtR.stays hbz) hmd
 obtain rfl : db[m].rows.length = nL := hrs.1
 have HP := Lib.hid (implRowsWith bd (offd + m) AL AC AK db[m].rows.length cL nC cC nK cK db[m].rows cols key _ _ _ w3 y0 hrs (hc.below IntR.stays hbz) (hk.below VlR.stays hbz) HRN.out hcn hkn HVR.out HROW.out)
 clear y0
 go_wp2_with fail
 refine HP.out.mono ?_
 rintro e w4 ⟨AP, cP, rfl, hcP, hsp, hb4⟩
 have hrs := hrs.below RwR.stays hb4
 have hbz2 := hbz.trans (hb4.mono hbz.size)
 have HIL := Lib.hid (idxK_lt cols key db[m].rows db[m].rows.length)
 have HXL := Lib.hid (idxK_len cols key db[m].rows db[m].rows.length)
 have HRX := Lib.hid (show findB s db (m : Int) cols key = idL db[m].rows (idxK cols key db[m].rows db[m].rows.length) from HR.out)
 clear hb4 HP hbz
 generalize hxg : idxK cols key db[m].rows db[m].rows.length = xs at *
 generalize hrg : db[m].rows = rows at *
 have HXG := Lib.hid hxg
 have HRG := Lib.hid hrg
 clear hxg hrg
 go_wp2_with fail
 go_loopw [11, 43] (fun v i wr => ∃ j : Nat, j ≤ xs.length ∧ i = .int .i64 j ∧ Hid (OwnI wr w4.heap.size v (idL rows (xs.take j))) ∧ Below w4.heap.size w4 wr) (fun _ i _ => xs.length - (intOf i).toNat)
 case atStart => exact ⟨0, by omega, rfl, Lib.hid (OwnI.nil _ _), Below.refl _ _⟩
 case round =>
  obtain ⟨j, hj, rfl, hown, hb⟩ := hrel
  by_cases hlt : j < xs.length
  ·have hix := (HIL.out _ (List.getElem_mem hlt)).2
   obtain ⟨bl, ol, B1, k1, d1, -, rfl, z0, -⟩ := RwR.at_ (hrs.below RwR.stays hb) hix
   obtain ⟨bp, op, rfl, z1⟩ := ptr_at (hsp.stays (FlatR.stays _) (fun _ h => h) (fun p v _ hp => below_keep hb p v hp)) rfl hlt
   have j0 : (0 : Int) ≤ j := by omega
   have j1 : (j : Int) < xs.length := by omega
   have HT := Lib.hid (show idL rows (xs.take (j + 1)) = idL rows (xs.take j) ++ [rows[xs[j]].id] by rw [List.take_succ_eq_append_getElem hlt, idL_app _ _ _ hix])
   have HLI := Lib.hid (show (idL rows (xs.take j)).length ≤ j by unfold idL; rw [List.length_map, List.length_take]; omega)
   have hxj : xs.length ≤ 1048576 := by have h1 := HXL.out; have h2 := HRN.out; omega
   have hoz := hown
   clear hown
   generalize hgv : idL rows (xs.take j) = ys at *
   have HGV := Lib.hid hgv
   clear hgv
   go_wp2_with (at_builtin; refine wpList_append_own _ rfl _ _ 40 rfl w4.heap.size 2 i0 (.int .i64 0) 1 8 Tryz.underlying40 H1.out H2.out H3.out H4.out rfl (by decide) _ _ _ rfl (World.ownsRow.alloc hoz.out _) ⟨_, 0, none⟩ 1 1 [.int .i64 rows[xs[j]].id] rfl rfl ?c1 ?c2 ?c3 ?c4 ?c5 ?_)
   case c1 => exact cell_one_new _ _ _
   case c2 => intro u hu; simp at hu; subst hu; rfl
   case c3 => have := HLI.out; unfold maxLen; omega
   case c4 => have := HLI.out; omega
   case c5 => have := hb.size; simp; omega
   intro v' w5 hown3 hgrow _
   have R := Lib.hid (OwnI.app hoz.out hb.size hown3 hgrow)
   clear hown3 hgrow hoz
   go_wp2_with fail
   go_roundw
   case rel => exact ⟨j + 1, by omega, by go_num, Lib.hid (by rw [HT.out]; exact R.out.1), hb.trans R.out.2⟩
   case measure => simp [intOf]; omega
  ·obtain rfl : j = xs.length := by omega
   have ho := hown.out
   rw [List.take_of_length_le (Nat.le_refl _)] at ho
   obtain ⟨AO, cO, rfl, hcO, hcm, hsl⟩ := OwnI.sl ho
   have HSL := Lib.hid hsl
   clear hown ho hsl
   have hbw := hbz2.trans (hb.mono hbz2.size)
   go_wp2_with fail
   go_ret
   exact ⟨AO, cO, by rw [HRX.out]; rfl, by rw [HRX.out]; exact hcO, by rw [HRX.out]; exact HSL.out.stays IntR.stays (fun b hb => hb.mono hbz2.size) (fun _ _ _ h => h), hbw⟩
end Go.Proofs.YtjhhamlnlalkoaaGreat
namespace Go.Proofs.YtjhhamlnlalkoaaGreat
open Go.RowKit
def flawsB (s : List Tb) (db : List Dt) (wait : Bool) : List Fw := if dbB s db then dbFw s db wait s.length else []
theorem fw_row {s : List Tb} {db : List Dt} (hB : dbB s db = true) {i : Nat} (h : i < s.length) (h' : i < db.length) {k : Nat} (hk : k < db[i].rows.length) {x : Fw} (hx : x ∈ rowFw s db s[i] db[i].rows false i db[i].rows[k]) : x ∈ flawsB s db false := by
 unfold flawsB
 rw [if_pos hB]
 unfold dbFw
 rw [List.mem_flatMap]
 refine ⟨i, List.mem_range.2 h, ?_⟩
 rw [tabFw_at _ h h', List.mem_flatMap]
 exact ⟨_, List.getElem_mem hk, hx⟩
theorem rows_up : ∀ {cols : List Cl} {last : Int} {l : List Rw}, idsGo cols last l = true → (∀ r ∈ l, last < r.id) ∧ l.Pairwise (fun a b => a.id < b.id)
 | _, _, [], _ => ⟨fun r hr => (by cases hr), List.Pairwise.nil⟩
 | cols, last, r :: rs, h => by
  rw [idsGo] at h
  simp only [Bool.and_eq_true, decide_eq_true_eq] at h
  obtain ⟨h1, h2, h3, h4⟩ := h
  obtain ⟨i1, i2⟩ := rows_up h4
  refine ⟨fun x hx => ?_, List.Pairwise.cons (fun x hx => i1 x hx) i2⟩
  rcases List.mem_cons.1 hx with rfl | hx
  ·exact h1
  ·have := i1 x hx; omega
theorem find_up {cols : List Int} {key : List Vl} {rows : List Rw} (h : rows.Pairwise (fun a b => a.id < b.id)) : ∀ k, k ≤ rows.length → (idL rows (idxK cols key rows k)).Pairwise (fun a b => a < b) ∧ ∀ x ∈ idL rows (idxK cols key rows k), ∀ j (hj : j < rows.length), k ≤ j → x < rows[j].id
 | 0, _ => ⟨List.Pairwise.nil, fun x hx => by cases hx⟩
 | k + 1, hk => by
  obtain ⟨i1, i2⟩ := find_up (cols := cols) (key := key) h k (by omega)
  have hk' : k < rows.length := by omega
  have hlt : ∀ j (hj : j < rows.length), k + 1 ≤ j → rows[k].id < rows[j].id := fun j hj hkj => List.pairwise_iff_getElem.1 h k j hk' hj (by omega)
  cases hh : hitB cols key rows[k].vals
  ·rw [idxK_no hk' hh]
   exact ⟨i1, fun x hx j hj hkj => i2 x hx j hj (by omega)⟩
  ·rw [idxK_yes hk' hh, idL_app _ _ _ hk']
   refine ⟨List.pairwise_append.2 ⟨i1, List.pairwise_singleton _ _, fun a ha b hb => ?_⟩, fun x hx j hj hkj => ?_⟩
   ·rw [List.mem_singleton] at hb
    subst hb
    exact i2 a ha k hk' (Nat.le_refl _)
   ·rcases List.mem_append.1 hx with hx | hx
    ·exact i2 x hx j hj (by omega)
    ·rw [List.mem_singleton] at hx
     subst hx
     exact hlt j hj hkj
theorem no_flaw {s : List Tb} {db : List Dt} (hB : dbB s db = true) {i : Nat} (h : i < s.length) (h' : i < db.length) {k : Nat} (hk : k < db[i].rows.length) :
  (keyFl s[i].key db[i].rows[k].vals = false → (⟨1, i, db[i].rows[k].id⟩ : Fw) ∈ flawsB s db false) ∧
  (keyFl s[i].key db[i].rows[k].vals = true → 2 ≤ (findB s db (i : Int) s[i].key (keyOf s[i].key db[i].rows[k].vals)).length → (⟨3, i, db[i].rows[k].id⟩ : Fw) ∈ flawsB s db false) := by
 obtain ⟨r1, r2, -, r4, -⟩ := rowIn_of hB i h h' _ (List.getElem_mem hk)
 have hT := (schemaB_at (dbB_schema hB) h).1
 have hkc := tableB_key hT
 have hko : keyOk s[i].key db[i].rows[k].vals = true := by unfold keyOk; rw [r2, r4]; rfl
 constructor
 ·intro hf
  refine fw_row hB h h' hk ?_
  unfold keyFl at hf
  rw [hko, Bool.true_and] at hf
  unfold knownL at hf
  rw [List.all_eq_false] at hf
  obtain ⟨v, hv, hv0⟩ := hf
  unfold keyL at hv
  rw [List.mem_map] at hv
  obtain ⟨c, hc, rfl⟩ := hv
  have hci := List.all_eq_true.1 r4 c hc
  unfold inV at hci
  rw [Bool.and_eq_true, decide_eq_true_eq, decide_eq_true_eq] at hci
  have hcl : c.toNat < db[i].rows[k].vals.length := by omega
  rw [List.getElem?_eq_getElem hcl] at hv0
  have hz : db[i].rows[k].vals[c.toNat].k = 0 := by simpa using hv0
  have hnn : nnAt s[i].cols c = true := by
   have h9 := hT
   simp only [tableB, keyB, Bool.and_eq_true] at h9
   exact List.all_eq_true.1 h9.2.2.1.2 c hc
  have hcc : c.toNat < s[i].cols.length := by omega
  unfold nnAt at hnn
  rw [List.getElem?_eq_getElem hcc] at hnn
  have hnull : nullsB s[i].cols db[i].rows[k].vals = false := by
   unfold nullsB
   rw [List.all_eq_false]
   refine ⟨(s[i].cols[c.toNat], db[i].rows[k].vals[c.toNat]), ?_, ?_⟩
   ·rw [List.mem_iff_getElem]
    exact ⟨c.toNat, by rw [List.length_zip]; omega, by simp⟩
   ·unfold nullV
    rw [hz]
    have : s[i].cols[c.toNat].nn = true := by simpa using hnn
    rw [this]; simp
  unfold rowFw oneFw
  rw [hnull]
  simp
 ·intro hf h2
  refine fw_row hB h h' hk ?_
  have hkn : knownL (keyL s[i].key db[i].rows[k].vals) = true := by unfold keyFl at hf; rw [hko, Bool.true_and] at hf; exact hf
  have hke : keyOf s[i].key db[i].rows[k].vals = keyL s[i].key db[i].rows[k].vals := by unfold keyOf; rw [if_pos hko]
  rw [hke, findB_yes h h' hB hkc] at h2
  have hup : db[i].rows.Pairwise (fun a b => a.id < b.id) := by
   have h3 := dbB_data hB h h'
   simp only [dataB, Bool.and_eq_true, decide_eq_true_eq] at h3
   exact (rows_up h3.2).2
  have hp := (find_up (cols := s[i].key) (key := keyL s[i].key db[i].rows[k].vals) hup _ (Nat.le_refl _)).1
  have htw : twiceB s[i].key db[i].rows db[i].rows[k] = true := by
   unfold twiceB
   rw [hkn, Bool.true_and]
   cases hany : (findL s[i].key (keyL s[i].key db[i].rows[k].vals) db[i].rows).any (fun i_1 => i_1 != db[i].rows[k].id)
   ·exfalso
    have hall := List.any_eq_false.1 hany
    have hp2 := List.pairwise_iff_getElem.1 hp 0 1 (by unfold findL at h2; omega) (by unfold findL at h2; omega) (by omega)
    have e0 := hall _ (List.getElem_mem (show 0 < (findL s[i].key (keyL s[i].key db[i].rows[k].vals) db[i].rows).length by omega))
    have e1 := hall _ (List.getElem_mem (show 1 < (findL s[i].key (keyL s[i].key db[i].rows[k].vals) db[i].rows).length by omega))
    simp only [bne_iff_ne, ne_eq, Decidable.not_not] at e0 e1
    unfold findL at e0 e1
    omega
   ·rfl
  have hun : uniqueB s[i] db[i].rows db[i].rows[k] = false := by unfold uniqueB; rw [htw]; rfl
  unfold rowFw oneFw
  rw [hun]
  simp
end Go.Proofs.YtjhhamlnlalkoaaGreat
namespace Go.Proofs.YtjhhamlnlalkoaaGreat
open Go.RowKit Go.Maps
section
variable (AS AD : Option Addr) (nS cS nD cD : Nat) (s : List Tb) (db : List Dt) (ok okd : Nat → Prop) (w : World)
set_option maxRecDepth 100000 in
set_option maxHeartbeats 1000000 in
theorem specFlaws (hs : Sl TbR 6 ok w AS nS s) (hd : Sl DtR 1 okd w AD nD db) (hcp : nS ≤ cS) (hss : szL Tb.sz s ≤ 1048576) (hds : szL Dt.sz db ≤ 1048576) :
  Calls Tryz.prog 10 #[.slice AS nS cS, .slice AD nD cD] w (MadeF (FlatR Fw.cells) 3 (flawsB s db false) (dbB s db) w) := by
 have HC := Lib.hid (specDbOk AS AD nS cS nD cD s db ok okd w hs hd hcp hss hds)
 cases hB : dbB s db
 ·have HB := Lib.hid hB
  have HF := Lib.hid (show flawsB s db false = [] by unfold flawsB; rw [hB]; rfl)
  clear hB
  go_enter Tryz.func10, Tryz.ntmps10
  go_wp2_with fail
  refine HC.out.mono ?_
  rintro e w1 ⟨rfl, hb1⟩
  rw [HB.out]
  clear HC
  go_wp2_with fail
  go_ret2
  exact ⟨none, 0, by rw [HF.out]; rfl, by rw [HF.out]; exact Nat.le_refl _, by rw [HF.out]; exact ⟨rfl, fun h => by simp at h⟩, hb1⟩
 ·have HB := Lib.hid hB
  have HF := Lib.hid (show flawsB s db false = dbFw s db false s.length by unfold flawsB; rw [hB]; rfl)
  have HR := Lib.hid (rowIn_of hB)
  have HL := Lib.hid (dbB_len hB)
  have HA := Lib.hid (dbB_all hB)
  clear hB
  go_enter Tryz.func10, Tryz.ntmps10
  go_wp2_with fail
  refine HC.out.mono ?_
  rintro e w1 ⟨rfl, hb1⟩
  rw [HB.out]
  clear HC
  go_wp2_with fail
  refine (specL5Flaws AS AD nS cS nD cD s db false _ _ w1 (hs.below TbR.stays hb1) (hd.below DtR.stays hb1) HL.out hss HA.out HR.out).mono ?_
  rintro e w2 ⟨AO, cO, rfl, hcO, hsl, hb2⟩
  have HSL := Lib.hid hsl
  clear hsl
  go_wp2_with fail
  go_ret2
  exact ⟨AO, cO, by rw [HF.out]; rfl, by rw [HF.out]; exact hcO, by rw [HF.out]; exact HSL.out.stays (FlatR.stays _) (fun b hb => hb.mono hb1.size) (fun _ _ _ h => h), hb1.trans (hb2.mono hb1.size)⟩
end
end Go.Proofs.YtjhhamlnlalkoaaGreat
namespace Go.Proofs.YtjhhamlnlalkoaaGreat
open Go.RowKit Go.Maps Go.Shelf
attribute [local go_sem] Oper.semAt_some
theorem ownFrom_ownF {β : Type} (B base : Nat) (v : Value) (xs : List Fw) : OwnFrom B (fun (_ : β) W => OwnF W base v xs) := fun s X Y row hs hg hr => by
 refine ⟨hs.1, ?_⟩
 rcases hs.2 with h | ⟨g, cap, cur, rfl, h1, h2, h3⟩
 ·exact .inl h
 ·exact .inr ⟨g, cap, cur, rfl, h1, ownFrom_row (β := β) B g _ cur s X Y row h2 hg hr, h3⟩
theorem KpF.grown {n0 : Nat} {W W' : World} {row : Option Nat} (hn : n0 ≤ W.heap.size) (hg : W.grownBy W' row) (hr : ∀ k, row = some k → n0 ≤ k ∧ ∃ cs fr T, (T = 28 ∨ T = 48 ∨ T = 4) ∧ W.heap[k]? = some (.cells cs T fr)) : KpF n0 W W' :=
 ⟨(Below.refl n0 W).grown hg hn fun k e => (hr k e).1, fun b T cs h1 h2 h3 hrow => (hg.block b (lt_of_block hrow) (fun e => by
  obtain ⟨-, cs', fr, T', ht, hk⟩ := hr b e.symm
  unfold Row at hrow
  rw [hrow] at hk
  injection hk with hk
  injection hk with e1 e2
  subst e2
  rcases ht with ht | ht | ht
  ·exact h1 ht
  ·exact h2 ht
  ·exact h3 ht)).trans hrow⟩
theorem grownBy_setF (W : World) (b i : Nat) (v : Value) : W.grownBy (W.setCell ⟨b, i, none⟩ v) (some b) :=
 ⟨rfl, rfl, rfl, by simp [World.setCell], fun k hk hne => Below.heap_setCell W _ v k (fun e => hne (by rw [e]))⟩
end Go.Proofs.YtjhhamlnlalkoaaGreat
namespace Go.Proofs.YtjhhamlnlalkoaaGreat
open Go.RowKit Go.Maps Go.Shelf
attribute [local go_sem] Oper.semAt_some
theorem grownBy_cells {W : World} {v : Value} {base : Nat} {xs : List Fw} (h : OwnF W base v xs) : ∀ k, v.ownBlock = some k → base ≤ k ∧ ∃ cs fr T, (T = 28 ∨ T = 48 ∨ T = 4) ∧ W.heap[k]? = some (.cells cs T fr) := by
 intro k hk
 rcases h.2 with ⟨rfl, -⟩ | ⟨g, cap, cur, rfl, h1, h2, -⟩
 ·cases hk
 ·have e : g = k := by simpa [Value.ownBlock] using hk
  subst e
  exact ⟨h1, cur, (0, 0), _, .inr (.inl rfl), h2⟩
theorem ownF_grown {W W' : World} {v : Value} {base : Nat} {xs : List Fw} {row : Option Nat} (h : OwnF W base v xs) (hg : W.grownBy W' row) (hne : ∀ k, v.ownBlock = some k → row ≠ some k) : OwnF W' base v xs := by
 refine ⟨h.1, ?_⟩
 rcases h.2 with h | ⟨g, cap, cur, rfl, h1, h2, h3⟩
 ·exact .inl h
 ·exact .inr ⟨g, cap, cur, rfl, h1, (hg.block g (lt_of_block h2) (fun e => hne g rfl e.symm)).trans h2, h3⟩
theorem sl_put {W : World} {D base n : Nat} {A : Option Addr} {xs : List Fw} {o : Obj} (o' : Obj) (h : Sl (FlatR Fw.cells) 3 (okF base W) W A n xs) (hD : W.heap[D]? = some o) (hc : o.isCells = false) (hc' : o'.isCells = false) : Sl (FlatR Fw.cells) 3 (okF base (W.putObj D o')) (W.putObj D o') A n xs := by
 refine h.stays (FlatR.stays _) (fun b hb => ⟨hb.1, by simpa using hb.2.1, fun off => ?_⟩) (fun p v _ hp => cell_kept hp (grownBy_putObj' W D o') (fun r e => by cases e; exact ⟨_, hD, hc⟩))
 by_cases e : b = D
 ·subst e
  have h1 := World.putObj_heap_same (o := o') (Array.getElem?_eq_some_iff.1 hD).1
  cases o' <;> first | (simp [Obj.isCells] at hc'; done) | simp [World.frozen?, h1]
 ·exact (World.frozen?_of_block (World.putObj_heap_other e)).trans (hb.2.2 off)
set_option maxRecDepth 100000 in
set_option maxHeartbeats 4000000 in
theorem implFlaws (AS AD : Option Addr) (nS cS nD cD : Nat) (s : List Tb) (db : List Dt) (ok okd : Nat → Prop) (w : World)
  (hs : Sl TbR 6 ok w AS nS s) (hd : Sl DtR 1 okd w AD nD db) (hss : szL Tb.sz s ≤ 1048576) (hds : szL Dt.sz db ≤ 1048576) :
  Calls Tryz.prog 9 #[.slice AS nS cS, .slice AD nD cD] w (MadeF (FlatR Fw.cells) 3 (flawsB s db false) (dbB s db) w) := by
 have HC := Lib.hid (implDbOk' AS AD nS cS nD cD s db ok okd w hs hd hss hds)
 cases hB : dbB s db
 ·have HB := Lib.hid hB
  have HF := Lib.hid (show flawsB s db false = [] by unfold flawsB; rw [hB]; rfl)
  clear hB
  go_enter Tryz.func9, Tryz.ntmps9
  go_wp2_with fail
  refine HC.out.mono ?_
  rintro e w1 ⟨rfl, hb1⟩
  rw [HB.out]
  clear HC
  go_wp2_with fail
  go_ret2
  exact ⟨none, 0, by rw [HF.out]; rfl, by rw [HF.out]; exact Nat.le_refl _, by rw [HF.out]; exact ⟨rfl, fun h => by simp at h⟩, hb1⟩
 have HB := Lib.hid hB
 have HF := Lib.hid (show flawsB s db false = dbFw s db false s.length by unfold flawsB; rw [hB]; rfl)
 have HR := Lib.hid (rowIn_of hB)
 have HLN := Lib.hid (dbB_len hB)
 have HA := Lib.hid (dbB_all hB)
 have HS5 := Lib.hid (schemaB_le (dbB_schema hB))
 clear hB
 obtain ⟨i0, hi, hz0, hz1, hz2⟩ := info_parts infoFlawF
 have H1 := Lib.hid hi
 have H2 := Lib.hid hz0
 have H3 := Lib.hid hz1
 have H4 := Lib.hid hz2
 clear hi hz0 hz1 hz2
 refine (callsIn_wide (n := 8)).1 ?_
 refine callsIn_of_wp_marks Tryz.func9 rfl trivial ?_ rfl
 simp only [Tryz.ntmps9, List.size_toArray, List.length_cons, List.length_nil, Nat.reduceAdd, Nat.reduceSub, Array.replicate_succ, Array.replicate_zero, List.push_toArray, List.append_toArray, List.nil_append, List.cons_append]
 gi_wp2_with fail
 refine ⟨trivial, (callsIn_wide.2 HC.out).mono ?_⟩
 rintro e w1 ⟨rfl, hb1⟩
 rw [HB.out]
 clear HC
 have hsz0 := hb1.size
 have hbx := hb1.alloc hb1.size (.cells #[.slice none 0 0] 28)
 have r0 := Row.newAt w1 28 #[.slice none 0 0] w1.heap.size rfl
 gi_wp2_with fail
 refine ⟨trivial, (callsIn_wide.2 (implEachFlaw AS AD nS cS nD cD (askN false) _)).mono ?_⟩
 rintro e w2 ⟨rfl, ⟨e0, e1, e2⟩, hb2⟩
 have hb3 := hbx.trans (hb2.mono hbx.size)
 have r2 := r0.below hb2
 have hsz : (w1.alloc (.cells #[.slice none 0 0] 28)).heap.size = w1.heap.size + 1 := by simp
 have hlt2 := lt_of_block e0
 rw [hsz] at e0 e1 e2 hlt2
 generalize hB0 : w1.heap.size = B0 at *
 have HE : EfIn w.heap.size AS AD nS cS nD cD (B0 + 1) s db false w2 := ⟨by omega, e0, e1, e2, (hs.lows TbR.lows (by omega)).low TbR.stays hb3, (hd.lows DtR.lows (by omega)).low DtR.stays hb3⟩
 have HE := Lib.hid HE
 clear e0 e1 e2 r0 hbx hb2 hsz hs hd hds
 gi_wp2
 refine wp_rangeX (gf := 62) (lb := #[.pointer (some ⟨B0 + 1 + 1, 0, none⟩), .pointer (some ⟨B0 + 1, 0, none⟩), .pointer (some ⟨B0 + 1 + 2, 0, none⟩)]) rfl (enters_of Tryz.func62 (by kernel_rfl) rfl)
  (eachFlaw_seq _ w.heap.size (by omega) AS AD nS cS nD cD (B0 + 1) s db false w2 HE.out HLN.out hss HA.out HR.out) (fun h k => h.trans k) (fun W l o o' hl h hc => KpF.put o' (by omega) h hc) (fun _ => rfl)
  (fun pre W => (∃ v, Row W B0 28 #[v] ∧ OwnF W w.heap.size v pre) ∧ Below w.heap.size w W)
  (fun _ _ _ => False)
  (OwnFrom.and (fun pre X Y row hs hg hr => by
   obtain ⟨v, h1, h2⟩ := hs
   exact ⟨v, ownFrom_row (β := Unit) _ B0 _ _ () X Y row h1 hg hr, ownFrom_ownF (β := Unit) _ _ v pre () X Y row h2 hg hr⟩) (ownFrom_below (Nat.le_refl _) (by omega)))
  (fun _ _ _ _ _ hs _ _ => hs)
  ⟨⟨_, r2, OwnG.nil _ _⟩, hb3⟩
  (fun x a' W => ∃ (Bf : Nat) (u0 u1 u2 u3 u4 u5 u8 u9 u10 u11 u12 u13 u14 u15 u16 u17 u18 u19 u20 : Value), Row W Bf 48 (Fw.cells x).toArray ∧ a' = { tmps := #[u0, u1, u2, u3, u4, u5, .pointer (some ⟨B0, 0, none⟩), .pointer (some ⟨Bf, 0, none⟩), u8, u9, u10, u11, u12, u13, u14, u15, u16, u17, u18, u19, u20], defers := [] })
  (fun x a' _ X Y row hs hg hr => by
   obtain ⟨Bf, u0, u1, u2, u3, u4, u5, u8, u9, u10, u11, u12, u13, u14, u15, u16, u17, u18, u19, u20, h1, h2⟩ := hs
   exact ⟨Bf, u0, u1, u2, u3, u4, u5, u8, u9, u10, u11, u12, u13, u14, u15, u16, u17, u18, u19, u20, ownFrom_row (β := Unit) _ Bf _ _ () X Y row h1 hg hr, h2⟩)
  ?assign ?body ?done ?stop
 case assign =>
  rintro l pre x W K ⟨⟨v, hr, ho⟩, hb⟩ hK
  have hba := (Below.refl W.heap.size W).alloc (Nat.le_refl _) (.cells #[.int .i64 x.k, .int .i64 x.t, .int .i64 x.id] 48)
  gi_wp2
  exact hK _ _ ((KeepsOthers.alloc _ _).from _) (KpF.below hb.size hba) ⟨⟨v, hr.alloc _, OwnG.below ho hba⟩, hb.trans (hba.mono hb.size)⟩ ⟨_, _, _, _, _, _, _, _, _, _, _, _, _, _, _, _, _, _, _, _, Row.new _ _ _, rfl⟩
 case body =>
  rintro l pre x a' W ⟨⟨v, hr, ho⟩, hb⟩ ⟨Bf, u0, u1, u2, u3, u4, u5, u8, u9, u10, u11, u12, u13, u14, u15, u16, u17, u18, u19, u20, hf, rfl⟩ hlt
  have HO := Lib.hid ho
  have HR0 := Lib.hid hr
  have HB1 := Lib.hid hb
  have hf3 : Row W Bf 48 #[.int .i64 x.k, .int .i64 x.t, .int .i64 x.id] := hf
  obtain ⟨⟨g0, g1, g2⟩, -⟩ := hf3.three
  have c0 := hr.cell 0
  simp only [List.getElem?_toArray, List.getElem?_cons_zero] at c0
  have hpl : pre.length ≤ 20971520 := by have := HS5.out; omega
  have hne0 := Lib.hid (own_ne_row ho hr (by decide))
  clear ho hr hb hf hf3
  gi_wp2_with (gi_at_builtin; refine wpListIn_append_own _ rfl _ _ 28 rfl w.heap.size 48 i0 (.agg #[.int .i64 0, .int .i64 0, .int .i64 0]) 3 24 Tryz.underlying28 H1.out H2.out H3.out H4.out rfl (by decide) _ _ _ rfl (World.ownsRow.alloc HO.out _) ⟨_, 0, none⟩ 1 1 (Fw.cells x) rfl rfl ?c1 ?c2 ?c3 ?c4 ?c5 ?_)
  case c1 => exact cells_newAt _ (Fw.cells x) _ (by simp)
  case c2 => intro u hu; simp [Fw.cells] at hu; rcases hu with rfl | rfl | rfl <;> rfl
  case c3 => unfold maxLen; omega
  case c4 => omega
  case c5 => have := HB1.out.size; simp; omega
  intro v' w5 hown3 hgrow _
  obtain ⟨g', cap', rfl⟩ := ownsRow_succ hown3
  have R := Lib.hid (OwnG.app HO.out HB1.out.size hown3 hgrow)
  have r5 := grown_rowK hgrow (HR0.out.alloc _) hne0.out
  have hba := (Below.refl W.heap.size W).alloc (Nat.le_refl _) (.cells (Fw.cells x).toArray 48)
  have HOa := OwnG.below HO.out hba
  have hca := grownBy_cells HOa
  have hn0 := HB1.out.size
  have hk1 : KpF w.heap.size W w5 := (KpF.below hn0 hba).trans (KpF.grown (by have := hba.size; omega) hgrow hca)
  have ho1 : KeepsOthers W w5 := (KeepsOthers.alloc W (.cells (Fw.cells x).toArray 48)).trans (KeepsOthers.of_grownBy hgrow (fun j o hj ho' => by
   obtain ⟨-, cs, fr, T, -, hh⟩ := hca j hj
   rw [hh] at ho'; cases ho'; rfl))
  have hne5 := own_ne_row R.out.1 r5 (by decide)
  have HX := Lib.hid (And.intro hk1 (And.intro ho1 hne5))
  have R5 := Lib.hid r5
  have c5 := r5.cell 0
  have f5 := r5.free 0
  simp only [List.getElem?_toArray, List.getElem?_cons_zero] at c5
  clear hown3 hgrow hba HOa hca hk1 ho1 hne5 r5 c0 g0 g1 g2
  gi_wp2_with fail
  have hgs := grownBy_setF w5 B0 0 (.slice (some ⟨g', 0, none⟩) (pre.length + 1) cap')
  have r6 : Row (w5.setCell ⟨B0, 0, none⟩ (.slice (some ⟨g', 0, none⟩) (pre.length + 1) cap')) B0 28 #[.slice (some ⟨g', 0, none⟩) (pre.length + 1) cap'] := by simpa using R5.out.set 0 (.slice (some ⟨g', 0, none⟩) (pre.length + 1) cap')
  have hb5 : Below w.heap.size w w5 := HB1.out.trans R.out.2
  exact ⟨((HX.out.2.1).trans (KeepsOthers.setCell _ _ _)).from _, HX.out.1.trans (KpF.grown (by have := hb5.size; omega) hgs (fun k hk => by cases hk; exact ⟨by omega, _, _, _, .inl rfl, R5.out⟩)),
   ⟨_, r6, ownF_grown R.out.1 hgs (fun k hk e => by cases e; exact HX.out.2.2 _ hk rfl)⟩, hb5.setCell (p := ⟨B0, 0, none⟩) (by omega) _⟩
 case done =>
  rintro D xs W hD rfl ⟨⟨v, hr, ho⟩, hb⟩ hK
  obtain ⟨AO, cO, rfl, hcO, -, hsl⟩ := OwnG.sl (f := Fw.cells) (sz := 3) (fun _ => rfl) ho
  have c0 := hr.cell 0
  simp only [List.getElem?_toArray, List.getElem?_cons_zero] at c0
  have HSL := Lib.hid (sl_put (.deferred none) hsl hK rfl rfl)
  have HBB := Lib.hid (hb.trans ((KpF.put (n0 := w.heap.size) (.deferred none) (by omega) hK rfl).1))
  clear hsl ho hr hb
  gi_wp2_with fail
  refine ⟨by simp, .inl ⟨_, _, rfl, run_takeDeferred hK, ?_⟩⟩
  refine ⟨.tuple #[.slice AO (dbFw s db false s.length).length cO, .bool true], ?_, AO, cO, by rw [HF.out], by rw [HF.out]; exact hcO, by rw [HF.out]; exact HSL.out, HBB.out⟩
  simp [results, Tryz.f9, go_sem]
 case stop =>
  rintro D c pre W hD hpre h hK
  exact h.elim
end Go.Proofs.YtjhhamlnlalkoaaGreat
namespace Go.Proofs.YtjhhamlnlalkoaaGreat
open Go.RowKit
def fwE (t x : Fw) : Bool := x.k == t.k && (x.t == t.t && x.id == t.id)
theorem fwE_self {t x : Fw} (h : x = t) : fwE t x = true := by subst h; simp [fwE]
theorem fw_ext {x : Fw} {a b c : Int} (h1 : x.k = a) (h2 : x.t = b) (h3 : x.id = c) : x = ⟨a, b, c⟩ := by
 cases x
 simp only at h1 h2 h3
 subst h1; subst h2; subst h3; rfl
theorem fwE_no {t x : Fw} (h : x ≠ t) : fwE t x = false := by
 cases hh : fwE t x
 ·rfl
 ·unfold fwE at hh
  simp only [Bool.and_eq_true, beq_iff_eq] at hh
  exact absurd (fw_ext hh.1 hh.2.1 hh.2.2) h
theorem fwE_mem {t : Fw} {l : List Fw} (h : t ∈ l) : l.any (fwE t) = true := List.any_eq_true.2 ⟨t, h, fwE_self rfl⟩
theorem fw_at {ok : Nat → Prop} {w : World} {A : Option Addr} {n : Nat} {l : List Fw} (h : Sl (FlatR Fw.cells) 3 ok w A n l) {i : Nat} (hi : i < l.length) :
  ∃ b off, A = some ⟨b, off, none⟩ ∧ w.cell? ⟨b, off + i * 3, none⟩ = some (.int .i64 l[i].k) ∧ w.cell? ⟨b, off + i * 3 + 1, none⟩ = some (.int .i64 l[i].t) ∧ w.cell? ⟨b, off + i * 3 + 2, none⟩ = some (.int .i64 l[i].id) := by
 have hl := h.1
 obtain ⟨b, off, e, -, hc⟩ := h.2 (by omega)
 obtain ⟨cs, -, hR, g⟩ := hc i hi
 have hR : cs = Fw.cells l[i] := hR
 subst hR
 exact ⟨b, off, e, g 0 _ rfl, g 1 _ rfl, g 2 _ rfl⟩
theorem tab_small {s : List Tb} {db : List Dt} (hB : dbB s db = true) {i : Nat} (h : i < s.length) : s[i].cols.length ≤ 8 ∧ s[i].key.length ≤ 8 := by
 have hT := (schemaB_at (dbB_schema hB) h).1
 have h8 := tableB_cols hT
 have := (colsInB_len (tableB_key hT)).1
 omega
theorem flawsB_few {s : List Tb} {db : List Dt} (hB : dbB s db = true) : (flawsB s db false).length ≤ 1048576 := by
 have hs := schemaB_le (dbB_schema hB)
 have hl := dbB_len hB
 have h1 : ∀ (n : Nat), n ≤ s.length → (dbFw s db false n).length ≤ n * 240 := fun n => by
  induction n with
  | zero => intro _; simp [dbFw]
  | succ n ih =>
   intro hn
   rw [dbFw_succ, List.length_append, tabFw_at _ (show n < s.length by omega) (show n < db.length by omega)]
   have h2 := ih (by omega)
   have h3 := dbB_rows hB (m := n) (by omega) (by omega)
   have h4 : ∀ l : List Rw, (l.flatMap (rowFw s db s[n] db[n].rows false n)).length ≤ l.length * 4 := fun l => by
    induction l with
    | nil => simp
    | cons r l ihl =>
     rw [List.flatMap_cons, List.length_append, List.length_cons]
     have : (rowFw s db s[n] db[n].rows false n r).length ≤ 4 := by
      unfold rowFw oneFw
      cases nullsB s[n].cols r.vals <;> cases checksB s[n].checks r.vals <;> cases uniqueB s[n] db[n].rows r <;> cases refersB s db s[n] r.vals false <;> simp
     omega
   have h5 := h4 db[n].rows
   omega
 unfold flawsB
 rw [if_pos hB]
 have := h1 s.length (Nat.le_refl _)
 omega
theorem keyOf_few {cols : List Int} {vals : List Vl} (h : cols.length ≤ 1048576) : (keyOf cols vals).length ≤ 1048576 := by
 unfold keyOf
 split
 ·unfold keyL; rw [List.length_map]; exact h
 ·simp
theorem keepI3 {w w' : World} {p0 p1 p2 : Addr} {a0 a1 a2 : Value} (h : w.cell? p0 = some a0 ∧ w.cell? p1 = some a1 ∧ w.cell? p2 = some a2) (hb : Below w.heap.size w w') : w'.cell? p0 = some a0 ∧ w'.cell? p1 = some a1 ∧ w'.cell? p2 = some a2 :=
 ⟨below_keep hb _ _ h.1, below_keep hb _ _ h.2.1, below_keep hb _ _ h.2.2⟩
end Go.Proofs.YtjhhamlnlalkoaaGreat
