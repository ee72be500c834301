/-
  Schemas: which are right, in the program.
-/
import Derived.Test.YtakhcgkhjmfndaaGreatSchemaImpl
namespace Go.Proofs.YtakhcgkhjmfndaaGreat
open Go.RowKit Go.Maps
set_option linter.unusedVariables false
set_option linter.unusedSimpArgs false

set_option maxRecDepth 100000 in
set_option maxHeartbeats 2000000 in
theorem implSchemaOk (AS : Option Addr) (nS cS : Nat) (s : List Tb) (ok : Nat → Prop) (w : World) (hs : Sl TbR 6 ok w AS nS s) (hsz : szL Tb.sz s ≤ 1048576) :
    Calls Tryz.prog 13 #[.slice AS nS cS] w fun e w' => e = .returned (.bool (schemaB s)) ∧ Below w.heap.size w w' := by
  obtain rfl : s.length = nS := hs.1
  have hn : s.length ≤ 1048576 := by unfold szL at hsz; omega
  have HSZ := Lib.hid hsz
  have HT := Lib.hid (fun k (hlt : k < s.length) => show s[k].sz ≤ 1048576 by have := HSZ.out; have := sum_mem_le Tb.sz s k hlt; unfold szL at *; omega)
  clear hsz
  by_cases h5 : 5 < (s.length : Int)
  · have HF := Lib.hid (show schemaB s = false by unfold schemaB; rw [decide_eq_false (by omega)]; rfl)
    go_enter Tryz.func13, Tryz.ntmps13
    go_wp2
    go_ret
    exact ⟨retB HF.out.symm, Below.refl _ _⟩
  have h5' : decide (5 < (s.length : Int)) = false := by simpa using h5
  have H5 := Lib.hid (show decide (s.length ≤ 5) = true from decide_eq_true (by omega))
  go_enter Tryz.func13, Tryz.ntmps13
  go_wp2_with fail
  go_loopw [13] (fun i wr => ∃ k : Nat, k ≤ s.length ∧ i = .int .i64 k ∧ Hid ((s.take k).all tableB = true) ∧ Below w.heap.size w wr) (fun i _ => s.length - (intOf i).toNat)
  case atStart => exact ⟨0, by omega, rfl, Lib.hid (by simp), Below.refl _ _⟩
  case round =>
    obtain ⟨k, hk, rfl, hall, hb⟩ := hrel
    by_cases hlt : k < s.length
    · obtain ⟨b, off, A1, n1, c1, A2, n2, c2, A3, n3, c3, A4, n4, c4, A5, n5, c5, -, rfl, q0, q1, q2, q3, q4, q5, s1, s2, s3, s4, s5, -⟩ := TbR.at_ (hs.below TbR.stays hb) hlt
      have hsn := all_take tableB s k hlt
      rw [hall.out, Bool.true_and] at hsn
      have hno := fun hf => all_no tableB s k hlt hf
      have HX := Lib.hid (HT.out k hlt)
      have hbx := (Below.refl wr.heap.size wr).alloc (Nat.le_refl _) (.cells #[.string s[k].name, .slice A1 n1 c1, .slice A2 n2 c2, .slice A3 n3 c3, .slice A4 n4 c4, .slice A5 n5 c5] 50)
      have hba := hb.trans (hbx.mono hb.size)
      have r0 := Row.new wr 50 #[.string s[k].name, .slice A1 n1 c1, .slice A2 n2 c2, .slice A3 n3 c3, .slice A4 n4 c4, .slice A5 n5 c5]
      obtain ⟨⟨f0, f1, f2, f3, f4, f5⟩, -⟩ := r0.all6
      have HC := Lib.hid (implTableOk s[k] A1 n1 c1 A2 n2 c2 A3 n3 c3 A4 n4 c4 A5 n5 c5 ok _ (s1.below ClR.stays hbx) (s2.below IntR.stays hbx) (s3.below UqR.stays hbx) (s4.below CkR.stays hbx) (s5.below FkR.stays hbx) HX.out)
      cases hc : tableB s[k]
      · have HCC := Lib.hid hc
        have HF := Lib.hid (show schemaB s = false by unfold schemaB; rw [hno hc]; simp)
        clear hsn hno hall hc
        go_wp2_with fail
        refine HC.out.mono ?_
        rintro e w1 ⟨rfl, hb1⟩
        rw [HCC.out]
        clear HC
        go_wp2_with fail
        go_ret
        exact ⟨retB HF.out.symm, hba.trans (hb1.mono hba.size)⟩
      · have HCC := Lib.hid hc
        have HA := Lib.hid (hsn.trans hc)
        clear hsn hno hall hc
        go_wp2_with fail
        refine HC.out.mono ?_
        rintro e w1 ⟨rfl, hb1⟩
        rw [HCC.out]
        clear HC
        go_wp2_with fail
        go_roundw
        case rel => exact ⟨k + 1, by omega, by go_num, Lib.hid HA.out, hba.trans (hb1.mono hba.size)⟩
        case measure => simp [intOf]; omega
    · have e : s.take k = s := List.take_of_length_le (by omega)
      have g1 := hall.out
      rw [e] at g1
      have HALL := Lib.hid g1
      have HU := Lib.hid (cntGo_uniq (s.map Tb.name) [])
      clear e g1 hall
      go_wp2_with fail
      refine (implTablePlaces AS s.length cS s ok _ (hs.below TbR.stays hb) HSZ.out).mono ?_
      rintro e w1 ⟨bm, rfl, hp, hbb, hb1⟩
      have hbz := hb.trans (hb1.mono hb.size)
      obtain ⟨D, p1, p2, p3, p4, p5⟩ := id hp
      clear p2 p3 p4
      have hu := HU.out
      rw [← p5, List.length_map] at hu
      clear p5
      cases huq : uniqGo [] (s.map Tb.name)
      · have hne : ¬ ((Maps.size D : Int) = s.length) := by
          rw [huq] at hu; have := beq_eq_false_iff_ne.1 hu; omega
        have HF := Lib.hid (show schemaB s = false by unfold schemaB; rw [huq]; simp)
        clear hu huq
        go_wp2_with (first | (at_len; refine wpList_len_own _ rfl _ 77 rfl 9 2 Tryz.underlying77 _ bm _ D rfl p1 ?_))
        go_ret
        exact ⟨retB HF.out.symm, hbz⟩
      have heq : (Maps.size D : Int) = s.length := by rw [huq] at hu; have : Maps.size D = s.length := by simpa using hu
                                                      omega
      have HUQ := Lib.hid huq
      clear hu huq hk hlt
      go_wp2_with (first | (at_len; refine wpList_len_own _ rfl _ 77 rfl 9 2 Tryz.underlying77 _ bm _ D rfl p1 ?_))
      clear heq p1
      go_loopw [30] (fun i wr => ∃ k : Nat, k ≤ s.length ∧ i = .int .i64 k ∧ Hid ((s.take k).all (leadsB s) = true) ∧ PlacesIn wr bm (s.map Tb.name) ∧ Below w.heap.size w wr) (fun i _ => s.length - (intOf i).toNat)
      case atStart => exact ⟨0, by omega, rfl, Lib.hid (by simp), hp, hbz⟩
      case round =>
        clear hp hbz hb1 hb
        obtain ⟨k, hk, rfl, hall, hp, hb⟩ := hrel
        by_cases hlt : k < s.length
        · obtain ⟨b, off, A1, n1, c1, A2, n2, c2, A3, n3, c3, A4, n4, c4, A5, n5, c5, -, ea, q0, q1, q2, q3, q4, q5, s1, s2, s3, s4, s5, -⟩ := TbR.at_ (hs.below TbR.stays hb) hlt
          subst ea
          have hsn := all_take (leadsB s) s k hlt
          rw [hall.out, Bool.true_and] at hsn
          have hno := fun hf => all_no (leadsB s) s k hlt hf
          have HX := Lib.hid (HT.out k hlt)
          have HTB := Lib.hid (show tableB s[k] = true from List.all_eq_true.1 HALL.out _ (List.getElem_mem hlt))
          have hbx := (Below.refl wr.heap.size wr).alloc (Nat.le_refl _) (.cells #[.string s[k].name, .slice A1 n1 c1, .slice A2 n2 c2, .slice A3 n3 c3, .slice A4 n4 c4, .slice A5 n5 c5] 50)
          have hba := hb.trans (hbx.mono hb.size)
          have hp1 := hp.below hbx
          have r0 := Row.new wr 50 #[.string s[k].name, .slice A1 n1 c1, .slice A2 n2 c2, .slice A3 n3 c3, .slice A4 n4 c4, .slice A5 n5 c5]
          obtain ⟨⟨f0, f1, f2, f3, f4, f5⟩, -⟩ := r0.all6
          have HC := Lib.hid (implFksLead s s[k] _ s.length cS bm A1 n1 c1 A2 n2 c2 A3 n3 c3 A4 n4 c4 A5 n5 c5 ok _ (hs.below TbR.stays hba) hp1 (s1.below ClR.stays hbx) (s5.below FkR.stays hbx) HTB.out HALL.out HSZ.out HX.out)
          cases hc : leadsB s s[k]
          · have HCC := Lib.hid hc
            have HF := Lib.hid (show schemaB s = false by unfold schemaB; rw [hno hc]; simp)
            clear hsn hno hall hc
            go_wp2_with fail
            refine HC.out.mono ?_
            rintro e w1 ⟨rfl, hb1⟩
            rw [HCC.out]
            clear HC
            go_wp2_with fail
            go_ret
            exact ⟨retB HF.out.symm, hba.trans (hb1.mono hba.size)⟩
          · have HCC := Lib.hid hc
            have HA := Lib.hid (hsn.trans hc)
            clear hsn hno hall hc
            go_wp2_with fail
            refine HC.out.mono ?_
            rintro e w1 ⟨rfl, hb1⟩
            rw [HCC.out]
            clear HC
            go_wp2_with fail
            go_roundw
            case rel => exact ⟨k + 1, by omega, by go_num, Lib.hid HA.out, hp1.below hb1, hba.trans (hb1.mono hba.size)⟩
            case measure => simp [intOf]; omega
        · have e : s.take k = s := List.take_of_length_le (by omega)
          have g1 := hall.out
          rw [e] at g1
          have HF := Lib.hid (show schemaB s = true by unfold schemaB; rw [H5.out, HALL.out, HUQ.out, g1]; rfl)
          clear e g1 hall
          go_wp2_with fail
          go_ret
          exact ⟨retB HF.out.symm, hb⟩
end Go.Proofs.YtakhcgkhjmfndaaGreat
