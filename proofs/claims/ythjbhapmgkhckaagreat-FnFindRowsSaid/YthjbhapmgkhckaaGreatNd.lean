/-
  Several texts in one: what the proof leans on, part 4.
-/
import Derived.Test.YthjbhapmgkhckaaGreatNc
import Derived.Test.YthjbhapmgkhckaaGreatNa
import Derived.Test.YthjbhapmgkhckaaGreatNb
import Derived.Deep.RegionHeld3
import Derived.Deep.DeepCutAuto
import Derived.Deep.CutRange
import Derived.IntWalk
set_option linter.unusedVariables false
set_option linter.unusedSimpArgs false
namespace Go.Proofs.YthjbhapmgkhckaaGreat
open Go.RowKit Go.Maps
theorem idxK_take {cols : List Int} {key : List Vl} {rows : List Rw} {k : Nat} (h : k < rows.length) : idL rows (idxK cols key rows (k + 1)) = if hitB cols key rows[k].vals then idL rows (idxK cols key rows k) ++ [rows[k].id] else idL rows (idxK cols key rows k) := by
  cases hr : hitB cols key rows[k].vals
  · rw [idxK_no h hr]; rfl
  · rw [idxK_yes h hr, idL_app _ _ _ h]; rfl
set_option maxRecDepth 100000 in
set_option maxHeartbeats 2000000 in
theorem specL4Find (AL AC AK : Option Addr) (nL cL nC cC nK cK : Nat) (rows : List Rw) (cols : List Int) (key : List Vl) (ok ok' ok'' : Nat → Prop) (w : World)
    (hr : Sl RwR 2 ok w AL nL rows) (hc : Sl IntR 1 ok' w AC nC cols) (hk : Sl VlR 3 ok'' w AK nK key) (hrn : nL ≤ 1048576) (hcn : nC ≤ 1048576) (hkn : nK ≤ 1048576) (hvn : ∀ r ∈ rows, r.vals.length ≤ 1048576) (hall : ∀ r ∈ rows, cols.all (inV r.vals) = true) :
    Calls Tryz.prog 32 #[.agg #[.slice AL nL cL], .slice AC nC cC, .slice AK nK cK] w (MadeI (findL cols key rows) w) := by
  obtain rfl : rows.length = nL := hr.1
  have HALL := Lib.hid hall
  have HVN := Lib.hid hvn
  obtain ⟨i0, hi, hz0, hz1, hz2⟩ := info_parts infoIntI
  have H1 := Lib.hid hi
  have H2 := Lib.hid hz0
  have H3 := Lib.hid hz1
  have H4 := Lib.hid hz2
  clear hall hvn hi hz0 hz1 hz2
  have rb := (Row.new w 40 #[.slice AL rows.length cL]).alloc (.cells #[] 2)
  have hb0 := (((Below.refl w.heap.size w).alloc (Nat.le_refl _) (.cells #[.slice AL rows.length cL] 40)).alloc (by simp) (.cells #[] 2))
  have ho0 : Hid (OwnI ((w.alloc (.cells #[.slice AL rows.length cL] 40)).alloc (.cells #[] 2)) (w.heap.size + 1) (.slice (some ⟨w.heap.size + 1, 0, none⟩) 0 0) []) := by
    have h := OwnI.lit (w.alloc (.cells #[.slice AL rows.length cL] 40)) (base := w.heap.size + 1) (by simp)
    have e : (w.alloc (.cells #[.slice AL rows.length cL] 40)).heap.size = w.heap.size + 1 := by simp
    rw [e] at h
    exact Lib.hid h
  go_enter Tryz.func32, Tryz.ntmps32
  go_wp2_with fail
  have hsz0 : w.heap.size + 1 ≤ ((w.alloc (.cells #[.slice AL rows.length cL] 40)).alloc (.cells #[] 2)).heap.size := by simp
  have HSZ0 := Lib.hid hsz0
  clear hsz0
  generalize (w.alloc (.cells #[.slice AL rows.length cL] 40)).alloc (.cells #[] 2) = z0 at *
  go_loopw [7, 8] (fun v i wr => ∃ k : Nat, k ≤ rows.length ∧ i = .int .i64 k ∧ Hid (OwnI wr (w.heap.size + 1) v (idL rows (idxK cols key rows k))) ∧ Row wr w.heap.size 40 #[.slice AL rows.length cL] ∧ Hid (w.heap.size + 1 ≤ wr.heap.size) ∧ Below w.heap.size w wr) (fun _ i _ => rows.length - (intOf i).toNat)
  case atStart => exact ⟨0, by omega, rfl, by exact ho0, rb, HSZ0, hb0⟩
  case round =>
    clear hb0 ho0 rb
    obtain ⟨k, hk', rfl, hown, rb, hsz, hb⟩ := hrel
    obtain ⟨c0, -⟩ := rb.all1
    by_cases hlt : k < rows.length
    · obtain ⟨bl, ol, A1, n1, c1, -, rfl, q0, q1, hv, -⟩ := RwR.at_ (hr.below RwR.stays hb) hlt
      obtain rfl : rows[k].vals.length = n1 := hv.1
      have i0' : (0 : Int) ≤ k := by omega
      have i1 : (k : Int) < rows.length := by omega
      have HLEN := Lib.hid (show (idL rows (idxK cols key rows k)).length ≤ k by unfold idL; rw [List.length_map]; exact idxK_len cols key rows k)
      have HC := Lib.hid (specL4Key AC A1 nC cC rows[k].vals.length c1 cols rows[k].vals _ _ wr (hc.below IntR.stays hb) hv hcn (HVN.out _ (List.getElem_mem hlt)) (HALL.out _ (List.getElem_mem hlt)))
      have HKL := Lib.hid (show (keyL cols rows[k].vals).length ≤ 1048576 by rw [show (keyL cols rows[k].vals).length = cols.length by simp [keyL], hc.1]; exact hcn)
      have HT := Lib.hid (idxK_take (cols := cols) (key := key) hlt)
      have HE := Lib.hid (hitB_eq cols key rows[k].vals)
      have Q0 := Lib.hid q0
      clear hv
      go_wp2_with fail
      refine HC.out.mono ?_
      rintro e w2 ⟨AO, cO, rfl, hcO, hsl, hb2⟩
      have hown' := Lib.hid (hown.out.below hb2)
      have rb := rb.below hb2
      have hbz := hb.trans (hb2.mono hb.size)
      have hsz2 := Lib.hid (Nat.le_trans hsz.out hb2.size)
      clear q0 q1
      have q0 := below_keep hb2 _ _ Q0.out
      have hkey := (hk.below VlR.stays hb).below VlR.stays hb2
      have HS := Lib.hid (specSameVals AO AK _ cO nK cK (keyL cols rows[k].vals) key _ _ w2 hsl hkey HKL.out hkn)
      clear hown hb hb2 HC hsl hkey Q0 c0 hsz
      cases ha : knownL (keyL cols rows[k].vals)
      · have HN := Lib.hid (show idL rows (idxK cols key rows (k + 1)) = idL rows (idxK cols key rows k) by rw [HT.out, HE.out, ha]; rfl)
        clear ha q0
        go_wp2_with fail
        go_roundw
        case rel => exact ⟨k + 1, by omega, by go_num, Lib.hid (by rw [HN.out]; exact hown'.out), rb, hsz2, hbz⟩
        case measure => simp [intOf]; omega
      · cases hsm : eqlL (keyL cols rows[k].vals) key
        · have HN := Lib.hid (show idL rows (idxK cols key rows (k + 1)) = idL rows (idxK cols key rows k) by rw [HT.out, HE.out, ha, hsm]; rfl)
          have HSM := Lib.hid hsm
          clear ha hsm q0
          go_wp2_with fail
          refine HS.out.mono ?_
          rintro e w3 ⟨rfl, hb3⟩
          rw [HSM.out]
          have hown'' := Lib.hid (hown'.out.below hb3)
          go_wp2_with fail
          go_roundw
          case rel => exact ⟨k + 1, by omega, by go_num, Lib.hid (by rw [HN.out]; exact hown''.out), rb.below hb3, Lib.hid (Nat.le_trans hsz2.out hb3.size), hbz.trans (hb3.mono hbz.size)⟩
          case measure => simp [intOf]; omega
        · have HN := Lib.hid (show idL rows (idxK cols key rows (k + 1)) = idL rows (idxK cols key rows k) ++ [rows[k].id] by rw [HT.out, HE.out, ha, hsm]; rfl)
          have HSM := Lib.hid hsm
          clear ha hsm
          go_wp2_with fail
          refine HS.out.mono ?_
          rintro e w3 ⟨rfl, hb3⟩
          rw [HSM.out]
          have hoz := Lib.hid (hown'.out.below hb3)
          have rb := rb.below hb3
          have hbw := hbz.trans (hb3.mono hbz.size)
          have q0 := below_keep hb3 _ _ q0
          have hsz3 : w.heap.size + 1 ≤ w3.heap.size := Nat.le_trans hsz2.out hb3.size
          obtain ⟨c0, -⟩ := rb.all1
          have hRB := Lib.hid rb
          have hne := Lib.hid (fun j hj => Nat.ne_of_gt (show w.heap.size < j from (OwnI.block_lt hoz.out j hj).1))
          clear hown' hbz hb3 rb hsz2 HS
          generalize hgv : idL rows (idxK cols key rows k) = ys at *
          have HGV := Lib.hid hgv
          clear hgv
          go_wp2_with (at_builtin; refine wpList_append_own _ rfl _ _ 26 rfl (w.heap.size + 1) 2 i0 (.int .i64 0) 1 8 Tryz.underlying26 H1.out H2.out H3.out H4.out rfl (by decide) _ _ _ rfl (World.ownsRow.alloc hoz.out _) ⟨_, 0, none⟩ 1 1 [.int .i64 rows[k].id] rfl rfl ?c1 ?c2 ?c3 ?c4 ?c5 ?_)
          case c1 => exact cell_one_new _ _ _
          case c2 => intro u hu; simp at hu; subst hu; rfl
          case c3 => have := HLEN.out; unfold maxLen; omega
          case c4 => have := HLEN.out; omega
          case c5 => simp; omega
          intro v' w4 hown4 hgrow _
          have R := Lib.hid (OwnI.app hoz.out hsz3 hown4 hgrow)
          have rb4 := grown_rowK hgrow (hRB.out.alloc _) hne.out
          have HSZ4 := Lib.hid (Nat.le_trans hsz3 R.out.2.size)
          clear hown4 hgrow hoz hRB c0 q0
          go_wp2_with fail
          go_roundw
          case rel => exact ⟨k + 1, by omega, by go_num, Lib.hid (by rw [HN.out]; exact R.out.1), rb4, HSZ4, hbw.trans (R.out.2.mono (Nat.le_succ _))⟩
          case measure => simp [intOf]; omega
    · obtain rfl : k = rows.length := by omega
      obtain ⟨AO, cO, rfl, hcO, hcm, hsl⟩ := hown.out.sl
      have HSL := Lib.hid hsl
      clear hown hsl
      go_wp2_with fail
      go_ret
      exact ⟨AO, cO, rfl, hcO, HSL.out.stays IntR.stays (fun b hb => hb.mono (Nat.le_succ _)) (fun _ _ _ h => h), hb⟩
set_option maxRecDepth 100000 in
set_option maxHeartbeats 4000000 in
theorem specFindRows (AS AD AC AK : Option Addr) (nS cS nD cD nC cC nK cK : Nat) (s : List Tb) (db : List Dt) (t : Int) (cols : List Int) (key : List Vl) (ok ok' okc okk : Nat → Prop) (w : World)
    (hs : Sl TbR 6 ok w AS nS s) (hd : Sl DtR 1 ok' w AD nD db) (hc : Sl IntR 1 okc w AC nC cols) (hk : Sl VlR 3 okk w AK nK key) (hcp : nS ≤ cS) (hcc : nC ≤ cC) (hsz : szL Tb.sz s ≤ 1048576) (hdz : szL Dt.sz db ≤ 1048576) (hcn : nC ≤ 1048576) (hkn : nK ≤ 1048576) :
    Calls Tryz.prog 11 #[.slice AS nS cS, .slice AD nD cD, .int .i64 t, .slice AC nC cC, .slice AK nK cK] w (MadeI (findB s db t cols key) w) := by
  obtain rfl : s.length = nS := hs.1
  obtain rfl : db.length = nD := hd.1
  have hn1 : s.length ≤ 1048576 := by unfold szL at hsz; omega
  have hn2 : db.length ≤ 1048576 := by unfold szL at hdz; omega
  have HSZ := Lib.hid hsz
  have HDZ := Lib.hid hdz
  have HCC := Lib.hid hcc
  have HVS := Lib.hid (rows_le hdz)
  have HDB := Lib.hid (specDbOk AS AD s.length cS db.length cD s db ok ok' w hs hd hcp hsz hdz)
  have hb0' := fun w1 => (fun (h : Below w.heap.size w w1) => h.alloc h.size (.cells #[] 2))
  clear hsz hdz hcc
  have i2 : IntKind.i64.wrap ((s.length : Int) - 1) = (s.length : Int) - 1 := IntWalk.i64_in _ (by omega)
  have HEM := Lib.hid (fun w1 (h : Below w.heap.size w w1) => OwnI.lit w1 (base := w.heap.size) h.size)
  cases hB : dbB s db
  · have HB := Lib.hid hB
    have HR := Lib.hid (findB_bad (t := t) (cols := cols) (key := key) hB)
    clear hB hb0'
    go_enter Tryz.func11, Tryz.ntmps11
    go_wp2_with fail
    refine HDB.out.mono ?_
    rintro e w1 ⟨rfl, hb1⟩
    rw [HB.out]
    have HZ := Lib.hid (HEM.out w1 hb1).sl
    have hbz := hb1.alloc hb1.size (.cells #[] 2)
    go_wp2_with fail
    obtain ⟨AO, cO, ev, hcO, -, hsl⟩ := HZ.out
    cases ev
    go_ret
    exact ⟨_, 0, by rw [HR.out]; rfl, by rw [HR.out]; exact Nat.le_refl _, by rw [HR.out]; exact hsl, hbz⟩
  have HB := Lib.hid hB
  have hlen := dbB_len hB
  have HLEN := Lib.hid hlen
  clear hB hlen hb0'
  cases hin : (decide (0 ≤ t) && decide (t < (s.length : Int)))
  · have HI := Lib.hid (show (decide (0 ≤ t) && decide (t ≤ (s.length : Int) - 1)) = false by rw [← hin]; congr 1; rw [decide_eq_decide]; omega)
    have HR := Lib.hid (findB_out (db := db) (cols := cols) (key := key) hin)
    clear hin
    go_enter Tryz.func11, Tryz.ntmps11
    go_wp2_with fail
    refine HDB.out.mono ?_
    rintro e w1 ⟨rfl, hb1⟩
    rw [HB.out]
    go_wp2_with fail
    refine (specInK HI.out _).mono ?_
    rintro e w2 ⟨rfl, rfl⟩
    have HZ := Lib.hid (HEM.out w1 hb1).sl
    have hbz := hb1.alloc hb1.size (.cells #[] 2)
    go_wp2_with fail
    obtain ⟨AO, cO, ev, hcO, -, hsl⟩ := HZ.out
    cases ev
    go_ret
    exact ⟨_, 0, by rw [HR.out]; rfl, by rw [HR.out]; exact Nat.le_refl _, by rw [HR.out]; exact hsl, hbz⟩
  have HI := Lib.hid (show (decide (0 ≤ t) && decide (t ≤ (s.length : Int) - 1)) = true by rw [← hin]; congr 1; rw [decide_eq_decide]; omega)
  obtain ⟨m, rfl, hm⟩ : ∃ m : Nat, t = m ∧ m < s.length := by
    simp only [Bool.and_eq_true, decide_eq_true_eq] at hin
    exact ⟨t.toNat, by omega, by omega⟩
  have hmd : m < db.length := by have := HLEN.out; omega
  have m0 : (0 : Int) ≤ m := by omega
  have m1 : (m : Int) < s.length := by omega
  have m2 : (m : Int) < db.length := by omega
  clear hin
  cases hcol : colsInB cols s[m].cols.length
  · have HC := Lib.hid hcol
    have HR := Lib.hid (findB_cols (db := db) (key := key) hm hcol)
    clear hcol
    go_enter Tryz.func11, Tryz.ntmps11
    go_wp2_with fail
    refine HDB.out.mono ?_
    rintro e w1 ⟨rfl, hb1⟩
    rw [HB.out]
    go_wp2_with fail
    refine (specInK HI.out _).mono ?_
    rintro e w2 ⟨rfl, rfl⟩
    obtain ⟨b, off, A1, n1, c1, A2, n2, c2, A3, n3, c3, A4, n4, c4, A5, n5, c5, -, rfl, q0, q1, q2, q3, q4, q5, s1, -⟩ := TbR.at_ (hs.below TbR.stays hb1) hm
    obtain rfl : s[m].cols.length = n1 := s1.1
    have hcl : s[m].cols.length ≤ 1048576 := by have h1 := HSZ.out; have := sum_mem_le Tb.sz s m hm; simp only [szL, Tb.sz] at *; omega
    go_wp2_with fail
    refine (specCols AC nC cC cols (s[m].cols.length : Int) _ _ (hc.below IntR.stays hb1) HCC.out hcn (by omega) (by omega)).mono ?_
    rintro e w3 ⟨rfl, hb3⟩
    rw [HC.out]
    have hby := hb1.trans (hb3.mono hb1.size)
    have HZ := Lib.hid (HEM.out w3 hby).sl
    have hbz := hby.alloc hby.size (.cells #[] 2)
    go_wp2_with fail
    obtain ⟨AO, cO, ev, hcO, -, hsl⟩ := HZ.out
    cases ev
    go_ret
    exact ⟨_, 0, by rw [HR.out]; rfl, by rw [HR.out]; exact Nat.le_refl _, by rw [HR.out]; exact hsl, hbz⟩
  have HC := Lib.hid hcol
  have HR := Lib.hid (findB_yes (key := key) hm hmd HB.out hcol)
  have HROW := Lib.hid (fun r hr => all_inV hcol (dbB_row HB.out hm hmd r hr))
  have HVR := Lib.hid (HVS.out _ (List.getElem_mem hmd))
  have HRN := Lib.hid (show db[m].rows.length ≤ 1048576 by have h1 := HDZ.out; have := sum_mem_le Dt.sz db m hmd; simp only [szL, Dt.sz] at *; omega)
  clear hcol
  go_enter Tryz.func11, Tryz.ntmps11
  go_wp2_with fail
  refine HDB.out.mono ?_
  rintro e w1 ⟨rfl, hb1⟩
  rw [HB.out]
  go_wp2_with fail
  refine (specInK HI.out _).mono ?_
  rintro e w2 ⟨rfl, rfl⟩
  obtain ⟨b, off, A1, n1, c1, A2, n2, c2, A3, n3, c3, A4, n4, c4, A5, n5, c5, -, rfl, q0, q1, q2, q3, q4, q5, s1, -⟩ := TbR.at_ (hs.below TbR.stays hb1) hm
  obtain rfl : s[m].cols.length = n1 := s1.1
  have hcl : s[m].cols.length ≤ 1048576 := by have h1 := HSZ.out; have := sum_mem_le Tb.sz s m hm; simp only [szL, Tb.sz] at *; omega
  go_wp2_with fail
  refine (specCols AC nC cC cols (s[m].cols.length : Int) _ _ (hc.below IntR.stays hb1) HCC.out hcn (by omega) (by omega)).mono ?_
  rintro e w3 ⟨rfl, hb3⟩
  rw [HC.out]
  have hbz := hb1.trans (hb3.mono hb1.size)
  clear q0 q1 q2 q3 q4 q5 hb1 hb3 hcl
  obtain ⟨bd, offd, AL, nL, cL, -, rfl, y0, hrs, -⟩ := DtR.at_ (hd.below DtR.stays hbz) hmd
  obtain rfl : db[m].rows.length = nL := hrs.1
  have HP := Lib.hid (specL4Find AL AC AK db[m].rows.length cL nC cC nK cK db[m].rows cols key _ _ _ w3 hrs (hc.below IntR.stays hbz) (hk.below VlR.stays hbz) HRN.out hcn hkn HVR.out HROW.out)
  clear hrs
  go_wp2_with fail
  refine HP.out.mono ?_
  rintro e w4 ⟨AO, cO, rfl, hcO, hsl, hb4⟩
  have HSL := Lib.hid hsl
  clear hsl HP y0
  go_wp2_with fail
  go_ret
  exact ⟨AO, cO, by rw [HR.out]; rfl, by rw [HR.out]; exact hcO, by rw [HR.out]; exact HSL.out.stays IntR.stays (fun b hb => hb.mono hbz.size) (fun _ _ _ h => h), hbz.trans (hb4.mono hbz.size)⟩
end Go.Proofs.YthjbhapmgkhckaaGreat
namespace Go.Proofs.YthjbhapmgkhckaaGreat
open Go.RowKit Go.Maps
theorem fit_all {cols : List Cl} {row : List Vl} (hl : row.length = cols.length) (h : fitAll cols row = true) : row.all Vl.ok = true := by
  induction row generalizing cols with
  | nil => rfl
  | cons v vs ih =>
    cases cols with
    | nil => simp at hl
    | cons c cs =>
      unfold fitAll at h
      rw [List.zip_cons_cons, List.all_cons, Bool.and_eq_true] at h
      have h1 : valOkB v.k v.n v.s = true := by
        have := h.1; unfold fitV fitsB at this; simp only [Bool.and_eq_true] at this; exact this.1
      rw [List.all_cons, ih (by simpa using hl) h.2, Bool.and_true]
      exact h1
theorem rowB_of {x : Tb} {row : List Vl} (hT : tableB x = true) (hK : kindsB x.cols row = true) : rowB row = true := by
  unfold kindsB at hK
  rw [Bool.and_eq_true, decide_eq_true_eq] at hK
  unfold tableB colsB at hT
  simp only [Bool.and_eq_true, decide_eq_true_eq] at hT
  have h8 : x.cols.length ≤ 8 := hT.2.1.2.1
  unfold rowB
  rw [fit_all hK.1 hK.2, decide_eq_true (by omega)]; rfl
end Go.Proofs.YthjbhapmgkhckaaGreat
namespace Go.Proofs.YthjbhapmgkhckaaGreat
open Go.RowKit
theorem dbB_rowB {s : List Tb} {db : List Dt} (h : dbB s db = true) {m : Nat} (h1 : m < s.length) (h2 : m < db.length) : ∀ r ∈ db[m].rows, rowB r.vals = true := fun r hr => by
  have hB := h
  simp only [dbB, Bool.and_eq_true, decide_eq_true_eq] at h
  have h3 := List.all_eq_true.1 h.2.2 (s[m], db[m]) (by rw [List.mem_iff_getElem]; exact ⟨m, by rw [List.length_zip]; omega, by simp⟩)
  simp only [dbV, dataB, Bool.and_eq_true] at h3
  have h4 := idsGo_mem h3.2 r hr
  have hT : tableB s[m] = true := by
    have h5 := h.1
    simp only [schemaB, Bool.and_eq_true] at h5
    exact List.all_eq_true.1 h5.2.1 _ (List.getElem_mem h1)
  exact rowB_of hT h4
theorem idsGo_gt {cols : List Cl} : ∀ {l : List Rw} {last : Int}, idsGo cols last l = true → ∀ r ∈ l, last < r.id
  | [], _, _, r, h => by cases h
  | x :: xs, last, h, r, hr => by
    simp only [idsGo, Bool.and_eq_true, decide_eq_true_eq] at h
    rcases List.mem_cons.1 hr with rfl | hr
    · exact h.1
    · have := idsGo_gt h.2.2.2 r hr; omega
theorem idsGo_inj {cols : List Cl} : ∀ {l : List Rw} {last : Int}, idsGo cols last l = true → ∀ i j (hi : i < l.length) (hj : j < l.length), l[i].id = l[j].id → i = j
  | [], _, _, i, j, hi, _, _ => by simp at hi
  | x :: xs, last, h, i, j, hi, hj, e => by
    simp only [idsGo, Bool.and_eq_true, decide_eq_true_eq] at h
    cases i with
    | zero => cases j with
      | zero => rfl
      | succ j =>
        have hj' : j < xs.length := by simpa using hj
        have := idsGo_gt h.2.2.2 xs[j] (List.getElem_mem hj'); simp at e; omega
    | succ i => cases j with
      | zero =>
        have hi' : i < xs.length := by simpa using hi
        have := idsGo_gt h.2.2.2 xs[i] (List.getElem_mem hi'); simp at e; omega
      | succ j => have := idsGo_inj h.2.2.2 i j (by simpa using hi) (by simpa using hj) (by simpa using e); omega
theorem dbB_ids {s : List Tb} {db : List Dt} (h : dbB s db = true) {m : Nat} (h1 : m < s.length) (h2 : m < db.length) : ∀ i j (hi : i < db[m].rows.length) (hj : j < db[m].rows.length), db[m].rows[i].id = db[m].rows[j].id → i = j := by
  simp only [dbB, Bool.and_eq_true, decide_eq_true_eq] at h
  have h3 := List.all_eq_true.1 h.2.2 (s[m], db[m]) (by rw [List.mem_iff_getElem]; exact ⟨m, by rw [List.length_zip]; omega, by simp⟩)
  simp only [dbV, dataB, Bool.and_eq_true] at h3
  exact idsGo_inj h3.2
theorem idxK_has (cols : List Int) (key : List Vl) (rows : List Rw) : ∀ (k i : Nat) (hi : i < rows.length), i < k → k ≤ rows.length → (i ∈ idxK cols key rows k ↔ hitB cols key rows[i].vals = true)
  | 0, i, hi, h, _ => by omega
  | k + 1, i, hi, h, hk => by
    have hk' : k < rows.length := by omega
    by_cases e : i = k
    · subst e
      have hn : i ∉ idxK cols key rows i := fun hm => by have := idxK_lt cols key rows i _ hm; omega
      cases hr : hitB cols key rows[i].vals
      · rw [idxK_no hk' hr]; simp [hn]
      · rw [idxK_yes hk' hr]; simp
    · have ih := idxK_has cols key rows k i hi (by omega) (by omega)
      cases hr : hitB cols key rows[k].vals
      · rw [idxK_no hk' hr]; exact ih
      · rw [idxK_yes hk' hr, List.mem_append, ih]
        have : ¬ (i ∈ [k]) := by simp; omega
        simp [this]
theorem find_has {s : List Tb} {db : List Dt} (h : dbB s db = true) {m : Nat} (h1 : m < s.length) (h2 : m < db.length) {cols : List Int} {key : List Vl} (hc : colsInB cols s[m].cols.length = true) {k : Nat} (hk : k < db[m].rows.length) :
    hasI (findB s db (m : Int) cols key) db[m].rows[k].id = (keyFl cols db[m].rows[k].vals && eqlL (keyOf cols db[m].rows[k].vals) key) := by
  have hok : keyOk cols db[m].rows[k].vals = true := by
    unfold keyOk
    rw [dbB_rowB h h1 h2 _ (List.getElem_mem hk), all_inV hc (dbB_row h h1 h2 _ (List.getElem_mem hk))]; rfl
  unfold keyFl keyOf
  rw [hok, if_pos rfl, Bool.true_and, ← hitB_eq, findB_yes h1 h2 h hc, Bool.eq_iff_iff, hasI_mem]
  unfold findL idL
  rw [← idxK_has cols key db[m].rows db[m].rows.length k hk hk (Nat.le_refl _), List.mem_map]
  constructor
  · rintro ⟨i, hi, e⟩
    have hil := (idxK_lt cols key db[m].rows _ i hi).2
    rw [List.getElem?_eq_getElem hil] at e
    have := dbB_ids h h1 h2 i k hil hk (by simpa using e)
    rw [← this]; exact hi
  · intro hi
    exact ⟨k, hi, by rw [List.getElem?_eq_getElem hk]; rfl⟩
theorem eqlL_refl (l : List Vl) : eqlL l l = true := by
  unfold eqlL
  rw [decide_eq_true rfl, Bool.true_and]
  induction l with
  | nil => rfl
  | cons x l ih => rw [List.zip_cons_cons, List.all_cons, ih]; simp [eqlP, eqlV]
theorem colsInB_one {x : Int} {n : Nat} (h0 : 0 ≤ x) (h1 : x < n) : colsInB [x] n = true := by
  have e1 : decide (0 ≤ x) = true := decide_eq_true h0
  have e2 : decide (x < (n : Int)) = true := decide_eq_true h1
  simp [colsInB, colsGo, hasB, e1, e2]
end Go.Proofs.YthjbhapmgkhckaaGreat
