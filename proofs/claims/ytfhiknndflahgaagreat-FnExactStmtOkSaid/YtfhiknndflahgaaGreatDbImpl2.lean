/-
  Databases: which are right, in the program (the whole).
-/
import Derived.Test.YtfhiknndflahgaaGreatDbImpl
namespace Go.Proofs.YtfhiknndflahgaaGreat
open Go.RowKit Go.Maps
set_option linter.unusedVariables false
set_option linter.unusedSimpArgs false

set_option maxRecDepth 100000 in
set_option maxHeartbeats 1000000 in
theorem implDbOk (AS AD : Option Addr) (nS cS nD cD : Nat) (s : List Tb) (db : List Dt) (ok : Nat → Prop) (w : World) (hs : Sl TbR 6 ok w AS nS s) (hd : Sl DtR 1 ok w AD nD db) (hsz : szL Tb.sz s ≤ 1048576) (hdz : szL Dt.sz db ≤ 1048576) (hvs : ∀ d ∈ db, ∀ r ∈ d.rows, r.vals.length ≤ 1048576) :
    Calls Tryz.prog 51 #[.slice AS nS cS, .slice AD nD cD] w fun e w' => e = .returned (.bool (dbB s db)) ∧ Below w.heap.size w w' := by
  obtain rfl : s.length = nS := hs.1
  obtain rfl : db.length = nD := hd.1
  have hn1 : s.length ≤ 1048576 := by unfold szL at hsz; omega
  have hn2 : db.length ≤ 1048576 := by unfold szL at hdz; omega
  have HSZ := Lib.hid hsz
  have HDZ := Lib.hid hdz
  have HVS := Lib.hid hvs
  clear hsz hdz hvs
  cases hS : schemaB s
  · have HS := Lib.hid hS
    have HF := Lib.hid (show dbB s db = false by unfold dbB; rw [hS]; rfl)
    clear hS
    go_enter Tryz.func51, Tryz.ntmps51
    go_wp2_with fail
    refine (implSchemaOk AS s.length cS s ok _ hs HSZ.out).mono ?_
    rintro e w1 ⟨rfl, hb1⟩
    rw [HS.out]
    go_wp2_with fail
    go_ret
    exact ⟨retB HF.out.symm, hb1⟩
  have HS := Lib.hid hS
  clear hS
  cases hl : (db.length == s.length)
  · have hl' : ¬ ((db.length : Int) = s.length) := by have := beq_eq_false_iff_ne.1 hl; omega
    have HF := Lib.hid (show dbB s db = false by unfold dbB; rw [decide_eq_false (beq_eq_false_iff_ne.1 hl)]; simp)
    clear hl
    go_enter Tryz.func51, Tryz.ntmps51
    go_wp2_with fail
    refine (implSchemaOk AS s.length cS s ok _ hs HSZ.out).mono ?_
    rintro e w1 ⟨rfl, hb1⟩
    rw [HS.out]
    go_wp2_with fail
    go_ret
    exact ⟨retB HF.out.symm, hb1⟩
  have hlen : db.length = s.length := by simpa using hl
  have hl' : (db.length : Int) = s.length := by omega
  have hz : (s.zip db).length = db.length := by simp [hlen]
  have HZ := Lib.hid hz
  have HL := Lib.hid hlen
  have HE := Lib.hid (show dbB s db = (s.zip db).all dbV by unfold dbB; rw [HS.out, decide_eq_true hlen]; rfl)
  clear hl hz hlen
  go_enter Tryz.func51, Tryz.ntmps51
  go_wp2_with fail
  refine (implSchemaOk AS s.length cS s ok _ hs HSZ.out).mono ?_
  rintro e w1 ⟨rfl, hb1⟩
  rw [HS.out]
  go_wp2_with fail
  clear hl'
  go_loopw [18] (fun i wr => ∃ k : Nat, k ≤ db.length ∧ i = .int .i64 k ∧ Hid (((s.zip db).take k).all dbV = true) ∧ Below w.heap.size w wr) (fun i _ => db.length - (intOf i).toNat)
  case atStart => exact ⟨0, by omega, rfl, Lib.hid (by simp), hb1⟩
  case round =>
    clear hb1
    obtain ⟨k, hk, rfl, hall, hb⟩ := hrel
    by_cases hlt : k < db.length
    · have hlt2 : k < s.length := by have := HL.out; omega
      obtain ⟨b, off, A1, n1, c1, A2, n2, c2, A3, n3, c3, A4, n4, c4, A5, n5, c5, -, ea, q0, q1, q2, q3, q4, q5, s1, s2, s3, s4, s5, -⟩ := TbR.at_ (hs.below TbR.stays hb) hlt2
      subst ea
      obtain ⟨bd, offd, A9, n9, c9, -, ed, y0, hrs, -⟩ := DtR.at_ (hd.below DtR.stays hb) hlt
      subst ed
      obtain rfl : db[k].rows.length = n9 := hrs.1
      obtain rfl : s[k].cols.length = n1 := s1.1
      have hcn : s[k].cols.length ≤ 1048576 := by have h1 := HSZ.out; have := sum_mem_le Tb.sz s k hlt2; simp only [szL, Tb.sz] at *; omega
      have hrn : db[k].rows.length ≤ 1048576 := by have h1 := HDZ.out; have := sum_mem_le Dt.sz db k hlt; simp only [szL, Dt.sz] at *; omega
      have HV := Lib.hid (HVS.out _ (List.getElem_mem hlt))
      have hsn := all_take dbV (s.zip db) k (by rw [HZ.out]; exact hlt)
      have hno := fun hf => all_no dbV (s.zip db) k (by rw [HZ.out]; exact hlt) hf
      have eg : dbV ((s.zip db)[k]'(by rw [HZ.out]; exact hlt)) = dataB s[k].cols db[k].rows := by rw [List.getElem_zip]; rfl
      rw [hall.out, Bool.true_and, eg] at hsn
      rw [eg] at hno
      have i0 : (0 : Int) ≤ k := by omega
      have i1 : (k : Int) < db.length := by omega
      have i2 : (k : Int) < s.length := by omega
      clear eg
      have HC := Lib.hid (implDataOk b (off + k * 6) bd (offd + k) A1 A9 s[k].cols.length c1 db[k].rows.length c9 s[k].cols db[k].rows ok wr.drew q1 y0 (s1.drew ClR.stays) (hrs.drew RwR.stays) hcn HV.out hrn)
      cases hc : dataB s[k].cols db[k].rows
      · have HCC := Lib.hid hc
        have HF := Lib.hid (show dbB s db = false by rw [HE.out]; exact hno hc)
        clear hsn hno hall hc
        go_wp2_with fail
        go_region_held3 (fun w' => w'.cell? ⟨b, off + k * 6 + 1, none⟩ = some (.slice A1 s[k].cols.length c1) ∧ w'.cell? ⟨bd, offd + k, none⟩ = some (.slice A9 db[k].rows.length c9))
          (first | go_keep | exact ⟨below_keep hq _ _ q1, below_keep hq _ _ y0⟩)
          (first | (go_at_call 98; refine HC.out.mono ?_; rintro e w2 ⟨rfl, hq⟩; rw [HCC.out]))
        go_wp2_with fail
        go_ret
        exact ⟨retB HF.out.symm, hb.drew.trans (hq.mono hb.size)⟩
      · have HCC := Lib.hid hc
        have HA := Lib.hid (hsn.trans hc)
        clear hsn hno hall hc
        go_wp2_with fail
        go_region_held3 (fun w' => w'.cell? ⟨b, off + k * 6 + 1, none⟩ = some (.slice A1 s[k].cols.length c1) ∧ w'.cell? ⟨bd, offd + k, none⟩ = some (.slice A9 db[k].rows.length c9))
          (first | go_keep | exact ⟨below_keep hq _ _ q1, below_keep hq _ _ y0⟩)
          (first | (go_at_call 98; refine HC.out.mono ?_; rintro e w2 ⟨rfl, hq⟩; rw [HCC.out]))
        go_wp2_with fail
        go_roundw
        case rel => exact ⟨k + 1, by omega, by go_num, Lib.hid HA.out, hb.drew.trans (hq.mono hb.size)⟩
        case measure => simp [intOf]; omega
    · have e : (s.zip db).take k = s.zip db := List.take_of_length_le (by rw [HZ.out]; omega)
      have g1 := hall.out
      rw [e] at g1
      have HF := Lib.hid (show dbB s db = true by rw [HE.out]; exact g1)
      have i3 : ¬ (k : Int) < s.length := by have := HL.out; omega
      clear e g1 hall
      go_wp2_with fail
      go_ret
      exact ⟨retB HF.out.symm, hb⟩
end Go.Proofs.YtfhiknndflahgaaGreat
