/-
  Lists of triggers: which are right, in the program and in the model.
-/
import Derived.Test.YtbdbealabffccaaGreatTrigSpec
namespace Go.Proofs.YtbdbealabffccaaGreat
open Go.RowKit Go.Maps
set_option linter.unusedVariables false
set_option linter.unusedSimpArgs false

set_option maxRecDepth 100000 in
set_option maxHeartbeats 4000000 in
theorem implTriggersOk (AS AL : Option Addr) (nS cS nL cL : Nat) (s : List Tb) (l : List Tg) (ok okl : Nat → Prop) (w : World)
    (hs : Sl TbR 6 ok w AS nS s) (hl : Sl TgR 5 okl w AL nL l) (hsz : szL Tb.sz s ≤ 1048576) (hlz : szL Tg.sz l ≤ 1048576) :
    Calls Tryz.prog 16 #[.slice AS nS cS, .slice AL nL cL] w fun e w' => e = .returned (.bool (triggersB s l)) ∧ Below w.heap.size w w' := by
  obtain rfl : l.length = nL := hl.1
  have hn : l.length ≤ 1048576 := by unfold szL at hlz; omega
  have HLZ := Lib.hid (fun (k : Nat) (hk : k < l.length) => show (l[k]).sz ≤ 1048576 from Nat.le_trans (szL_mem Tg.sz l l[k] (List.getElem_mem hk)) hlz)
  have HSZ := Lib.hid hsz
  have HL := Lib.hid hl
  have HS := Lib.hid hs
  clear hlz hsz hl
  cases hS : schemaB s
  · have HF := Lib.hid (show triggersB s l = false by unfold triggersB; rw [hS]; rfl)
    have HE := Lib.hid hS
    clear hS
    go_enter Tryz.func16, Tryz.ntmps16
    go_wp2_with fail
    refine (implSchemaOk AS nS cS s ok w hs HSZ.out).mono ?_
    rintro e w1 ⟨rfl, hq1⟩
    rw [HE.out]
    go_wp2_with fail
    go_ret
    exact ⟨retB HF.out.symm, hq1⟩
  have HE := Lib.hid hS
  by_cases h6 : l.length ≤ 6
  case neg =>
    have HF := Lib.hid (show triggersB s l = false by unfold triggersB; rw [decide_eq_false h6]; simp)
    have z6 : decide ((6 : Int) < l.length) = true := decide_eq_true (by omega)
    clear hS
    go_enter Tryz.func16, Tryz.ntmps16
    go_wp2_with fail
    refine (implSchemaOk AS nS cS s ok w hs HSZ.out).mono ?_
    rintro e w1 ⟨rfl, hq1⟩
    rw [HE.out]
    go_wp2_with fail
    go_ret
    exact ⟨retB HF.out.symm, hq1⟩
  have z6 : decide ((6 : Int) < l.length) = false := decide_eq_false (by omega)
  have HB := Lib.hid (show triggersB s l = l.all (trigB s) by unfold triggersB; rw [hS, decide_eq_true h6]; rfl)
  clear hS
  go_enter Tryz.func16, Tryz.ntmps16
  go_wp2_with fail
  refine (implSchemaOk AS nS cS s ok w hs HSZ.out).mono ?_
  rintro e w1 ⟨rfl, hq1⟩
  rw [HE.out]
  go_wp2_with fail
  clear hs
  go_loopw [16] (fun iv wr => ∃ k : Nat, k ≤ l.length ∧ iv = .int .i64 k ∧ Hid ((l.take k).all (trigB s) = true) ∧ Below w.heap.size w wr) (fun iv _ => l.length - (intOf iv).toNat)
  case atStart => exact ⟨0, by omega, rfl, Lib.hid (by simp), hq1⟩
  case round =>
    clear hq1
    obtain ⟨k, hk, rfl, hall, hb⟩ := hrel
    by_cases hlt : k < l.length
    · obtain ⟨bt, ot, A2, n2, c2, A4, n4, c4, -, rfl, y0, y1, y2, y3, y4, g2, g4, -, -⟩ := TgR.at_ (HL.out.below TgR.stays hb) hlt
      have i0 : (0 : Int) ≤ k := by omega
      have i1 : (k : Int) < l.length := by omega
      have HX := Lib.hid (implTriggerOk AS nS cS s bt (ot + k * 5) A2 n2 c2 A4 n4 c4 l[k] _ _ wr (HS.out.below TbR.stays hb) HSZ.out (HLZ.out k hlt) y0 y1 y2 y3 y4 g2 g4)
      have hst := all_take (trigB s) l k hlt
      rw [hall.out, Bool.true_and] at hst
      clear g2 g4 y0 y1 y2 y3 y4
      cases he : trigB s l[k]
      · have HF := Lib.hid (show triggersB s l = false by rw [HB.out, all_no (trigB s) l k hlt he])
        have HEE := Lib.hid he
        clear hst he
        go_wp2_with fail
        refine HX.out.mono ?_
        rintro e w3 ⟨rfl, hq3⟩
        rw [HEE.out]
        go_wp2_with fail
        go_ret
        exact ⟨retB HF.out.symm, hb.trans (hq3.mono hb.size)⟩
      · have HA := Lib.hid (show (l.take (k + 1)).all (trigB s) = true by rw [hst]; exact he)
        have HEE := Lib.hid he
        clear hst he
        go_wp2_with fail
        refine HX.out.mono ?_
        rintro e w3 ⟨rfl, hq3⟩
        rw [HEE.out]
        go_wp2_with fail
        go_roundw
        case rel => exact ⟨k + 1, by omega, by go_num, HA, hb.trans (hq3.mono hb.size)⟩
        case measure => simp [intOf]; omega
    · obtain rfl : k = l.length := by omega
      have h1 := hall.out
      rw [List.take_of_length_le (Nat.le_refl _)] at h1
      have HF := Lib.hid (show triggersB s l = true by rw [HB.out]; exact h1)
      clear hall h1
      go_wp2_with fail
      go_ret
      exact ⟨retB HF.out.symm, hb⟩

set_option maxRecDepth 100000 in
set_option maxHeartbeats 4000000 in
theorem specTriggersOk (AS AL : Option Addr) (nS cS nL cL : Nat) (s : List Tb) (l : List Tg) (ok okl : Nat → Prop) (w : World)
    (hs : Sl TbR 6 ok w AS nS s) (hl : Sl TgR 5 okl w AL nL l) (hcp : nS ≤ cS) (hsz : szL Tb.sz s ≤ 1048576) (hlz : szL Tg.sz l ≤ 1048576) :
    Calls Tryz.prog 14 #[.slice AS nS cS, .slice AL nL cL] w fun e w' => e = .returned (.bool (triggersB s l)) ∧ Below w.heap.size w w' := by
  obtain rfl : l.length = nL := hl.1
  have hn : l.length ≤ 1048576 := by unfold szL at hlz; omega
  have HLZ := Lib.hid (fun (k : Nat) (hk : k < l.length) => show (l[k]).sz ≤ 1048576 from Nat.le_trans (szL_mem Tg.sz l l[k] (List.getElem_mem hk)) hlz)
  have HSZ := Lib.hid hsz
  have HL := Lib.hid hl
  have HS := Lib.hid hs
  clear hlz hsz hl
  cases hS : schemaB s
  · have HF := Lib.hid (show triggersB s l = false by unfold triggersB; rw [hS]; rfl)
    have HE := Lib.hid hS
    clear hS
    go_enter Tryz.func14, Tryz.ntmps14
    go_wp2_with fail
    go_loopw [5] (fun iv wr => iv = .int .i64 0 ∧ Below w.heap.size w wr) (fun iv _ => 0)
    case atStart => exact ⟨rfl, Below.refl _ _⟩
    case round =>
      obtain ⟨rfl, hb⟩ := hrel
      go_wp2_with fail
      refine (specSchemaOk AS nS cS s ok _ (HS.out.below TbR.stays hb) hcp HSZ.out).mono ?_
      rintro e w1 ⟨rfl, hq1⟩
      rw [HE.out]
      go_wp2_with fail
      refine (specSchemaOk AS nS cS s ok _ (HS.out.below TbR.stays (hb.trans (hq1.mono hb.size))) hcp HSZ.out).mono ?_
      rintro e w2 ⟨rfl, hq2⟩
      rw [HE.out]
      go_wp2_with fail
      go_ret
      exact ⟨retB HF.out.symm, (hb.trans (hq1.mono hb.size)).trans (hq2.mono (hb.trans (hq1.mono hb.size)).size)⟩
  have HE := Lib.hid hS
  have HB := Lib.hid (show triggersB s l = (decide (l.length ≤ 6) && l.all (trigB s)) by unfold triggersB; rw [hS]; rfl)
  clear hS
  go_enter Tryz.func14, Tryz.ntmps14
  go_wp2_with fail
  clear hs
  go_loopw [5] (fun iv wr => ∃ k : Nat, k ≤ l.length ∧ iv = .int .i64 k ∧ Hid ((l.take k).all (trigB s) = true) ∧ Below w.heap.size w wr) (fun iv _ => l.length - (intOf iv).toNat)
  case atStart => exact ⟨0, by omega, rfl, Lib.hid (by simp), Below.refl _ _⟩
  case round =>
    obtain ⟨k, hk, rfl, hall, hb⟩ := hrel
    by_cases hlt : k < l.length
    · have i0 : (0 : Int) ≤ k := by omega
      have i1 : (k : Int) < l.length := by omega
      go_wp2_with fail
      refine (specSchemaOk AS nS cS s ok _ (HS.out.below TbR.stays hb) hcp HSZ.out).mono ?_
      rintro e w1 ⟨rfl, hq1⟩
      rw [HE.out]
      have hb1 := hb.trans (hq1.mono hb.size)
      obtain ⟨bt, ot, A2, n2, c2, A4, n4, c4, -, rfl, y0, y1, y2, y3, y4, g2, g4, -, -⟩ := TgR.at_ (HL.out.below TgR.stays hb1) hlt
      have HX := Lib.hid (specOne AS nS cS s A2 n2 c2 A4 n4 c4 l[k] _ _ w1 (HS.out.below TbR.stays hb1) HSZ.out HE.out (HLZ.out k hlt) g2 g4)
      have hst := all_take (trigB s) l k hlt
      rw [hall.out, Bool.true_and] at hst
      clear g2 g4
      cases he : trigB s l[k]
      · have HF := Lib.hid (show triggersB s l = false by rw [HB.out, all_no (trigB s) l k hlt he]; simp)
        have HEE := Lib.hid he
        clear hst he
        go_wp2_with fail
        refine HX.out.mono ?_
        rintro e w3 ⟨rfl, hq3⟩
        rw [HEE.out]
        go_wp2_with fail
        go_ret
        exact ⟨retB HF.out.symm, hb1.trans (hq3.mono hb1.size)⟩
      · have HA := Lib.hid (show (l.take (k + 1)).all (trigB s) = true by rw [hst]; exact he)
        have HEE := Lib.hid he
        clear hst he
        go_wp2_with fail
        refine HX.out.mono ?_
        rintro e w3 ⟨rfl, hq3⟩
        rw [HEE.out]
        go_wp2_with fail
        go_roundw
        case rel => exact ⟨k + 1, by omega, by go_num, HA, hb1.trans (hq3.mono hb1.size)⟩
        case measure => simp [intOf]; omega
    · obtain rfl : k = l.length := by omega
      have h1 := hall.out
      rw [List.take_of_length_le (Nat.le_refl _)] at h1
      have HF := Lib.hid (show triggersB s l = decide (l.length ≤ 6) by rw [HB.out, h1, Bool.and_true])
      clear hall h1
      go_wp2_with fail
      refine (specSchemaOk AS nS cS s ok _ (HS.out.below TbR.stays hb) hcp HSZ.out).mono ?_
      rintro e w1 ⟨rfl, hq1⟩
      rw [HE.out]
      have hb1 := hb.trans (hq1.mono hb.size)
      go_wp2_with fail
      refine (specSchemaOk AS nS cS s ok _ (HS.out.below TbR.stays hb1) hcp HSZ.out).mono ?_
      rintro e w2 ⟨rfl, hq2⟩
      rw [HE.out]
      by_cases h6 : l.length ≤ 6
      · have z6 : decide ((l.length : Int) ≤ 6) = true := decide_eq_true (by omega)
        have HF2 := Lib.hid (show triggersB s l = true by rw [HF.out, decide_eq_true h6])
        go_wp2_with fail
        go_ret
        exact ⟨retB HF2.out.symm, hb1.trans (hq2.mono hb1.size)⟩
      · have z6 : decide ((l.length : Int) ≤ 6) = false := decide_eq_false (by omega)
        have HF2 := Lib.hid (show triggersB s l = false by rw [HF.out, decide_eq_false h6])
        go_wp2_with fail
        go_ret
        exact ⟨retB HF2.out.symm, hb1.trans (hq2.mono hb1.size)⟩
end Go.Proofs.YtbdbealabffccaaGreat
