/-
  Several texts in one: what the proof leans on, part 6.
-/
import Derived.Test.YtemimhghhihllaaGreatVe
set_option linter.unusedVariables false
set_option linter.unusedSimpArgs false
namespace Go.Proofs.YtemimhghhihllaaGreat
open Go.RowKit
set_option maxRecDepth 100000 in
set_option maxHeartbeats 4000000 in
theorem implFires (AS AL AO AN : Option Addr) (nS cS nL cL nO cO nN cN : Nat) (tb ev : Int) (s : List Tb) (l : List Tg) (ok okl oko okn : Nat → Prop) (old now : List Vl) (w : World)
    (hS : Sl TbR 6 ok w AS nS s) (hL : Sl TgR 5 okl w AL nL l) (hsz : szL Tb.sz s ≤ 1048576) (hlz : szL Tg.sz l ≤ 1048576) (hO : Sl VlR 3 oko w AO nO old) (hN : Sl VlR 3 okn w AN nN now) (hnO : nO ≤ 1048576) (hnN : nN ≤ 1048576) :
    Calls Tryz.prog 13 #[.slice AS nS cS, .slice AL nL cL, .int .i64 tb, .int .i64 ev, .slice AO nO cO, .slice AN nN cN] w fun e w' => ∃ v, e = .returned v ∧ OwnI w' w.heap.size v (firesL s l tb ev old now) ∧ Below w.heap.size w w' := by
  obtain rfl : s.length = nS := hS.1
  obtain rfl : l.length = nL := hL.1
  obtain rfl : old.length = nO := hO.1
  obtain rfl : now.length = nN := hN.1
  have hs9 : s.length ≤ 1048576 := by unfold szL at hsz; omega
  have HT := Lib.hid (implTriggersOk AS AL s.length cS l.length cL s l ok okl w hS hL hsz hlz)
  cases hT : triggersB s l
  · have HF := Lib.hid (show firesL s l tb ev old now = [] by unfold firesL; rw [hT]; rfl)
    go_enter Tryz.func13, Tryz.ntmps13
    go_wp2_with fail
    refine HT.out.mono ?_
    rintro e w1 ⟨rfl, hb1⟩
    rw [hT]
    clear HT
    go_wp2_with fail
    go_ret
    exact ⟨_, rfl, by rw [HF.out]; exact OwnI.nil _ _, hb1⟩
  have HTB := Lib.hid hT
  have hsch : schemaB s = true := by unfold triggersB at hT; simp only [Bool.and_eq_true] at hT; exact hT.1
  by_cases hin : 0 ≤ tb ∧ tb < s.length
  · obtain ⟨m, rfl⟩ : ∃ m : Nat, tb = (m : Int) := ⟨tb.toNat, by omega⟩
    have hm : m < s.length := by omega
    have HTA := Lib.hid (tabAt_some hm)
    cases hrO : rowIfB s[m].cols old
    · have HF := Lib.hid (show firesL s l (m : Nat) ev old now = [] by unfold firesL; rw [if_pos HTB.out, HTA.out]; simp [hrO])
      have HRO := Lib.hid hrO
      have HIN := Lib.hid (show (decide ((0 : Int) ≤ (m : Nat)) && decide (((m : Nat) : Int) < (s.length : Int))) = true by rw [decide_eq_true (by omega : (0 : Int) ≤ (m : Nat)), decide_eq_true (by omega : ((m : Nat) : Int) < (s.length : Int))]; rfl)
      have m0 : (0 : Int) ≤ (m : Nat) := by omega
      have m1 : ((m : Nat) : Int) < s.length := by omega
      have HSC := Lib.hid (schema_tab hsch hm)
      have HVO := Lib.hid hO
      obtain ⟨g, o, A1, n1, c1, A2, n2, c2, A3, n3, c3, A4, n4, c4, A5, n5, c5, -, rfl, x0', x1', -, -, -, -, hcols', -⟩ := TbR.at_ hS hm
      have HC1 := Lib.hid (And.intro x1' hcols')
      have hc1 : n1 ≤ 1048576 := by have := hcols'.1; have := HSC.out; omega
      clear x0' x1' hcols' hrO hT hO hN hL hS
      go_enter Tryz.func13, Tryz.ntmps13
      go_wp2_with fail
      refine HT.out.mono ?_
      rintro e w1 ⟨rfl, hb1⟩
      rw [HTB.out]
      clear HT
      go_wp2_with fail
      refine (implIsPlace (m : Nat) s.length w1).mono ?_
      rintro e w1' ⟨rfl, rfl⟩
      rw [HIN.out]
      go_wp2_with fail
      refine (implFitsIf g (o + m * 6) A1 AO n1 c1 old.length cO s[m].cols old ok w1 (below_keep hb1 _ _ HC1.out.1) (HC1.out.2.below ClR.stays hb1) (Sl.cellz (fun _ => rfl) (HVO.out.below VlR.stays hb1)) hc1 hnO).mono ?_
      rintro e w2 ⟨rfl, hb2⟩
      rw [HRO.out]
      have hb12 := hb1.trans (hb2.mono hb1.size)
      go_wp2_with fail
      go_ret
      exact ⟨_, rfl, by rw [HF.out]; exact OwnI.nil _ _, hb12⟩
    cases hrN : rowIfB s[m].cols now
    · have HF := Lib.hid (show firesL s l (m : Nat) ev old now = [] by unfold firesL; rw [if_pos HTB.out, HTA.out]; simp [hrN])
      have HRO := Lib.hid hrO
      have HRN := Lib.hid hrN
      have HIN := Lib.hid (show (decide ((0 : Int) ≤ (m : Nat)) && decide (((m : Nat) : Int) < (s.length : Int))) = true by rw [decide_eq_true (by omega : (0 : Int) ≤ (m : Nat)), decide_eq_true (by omega : ((m : Nat) : Int) < (s.length : Int))]; rfl)
      have m0 : (0 : Int) ≤ (m : Nat) := by omega
      have m1 : ((m : Nat) : Int) < s.length := by omega
      have HSC := Lib.hid (schema_tab hsch hm)
      have HVO := Lib.hid (And.intro hO hN)
      obtain ⟨g, o, A1, n1, c1, A2, n2, c2, A3, n3, c3, A4, n4, c4, A5, n5, c5, -, rfl, x0', x1', -, -, -, -, hcols', -⟩ := TbR.at_ hS hm
      have HC1 := Lib.hid (And.intro x1' hcols')
      have hc1 : n1 ≤ 1048576 := by have := hcols'.1; have := HSC.out; omega
      clear x0' x1' hcols' hrO hrN hT hO hN hL hS
      go_enter Tryz.func13, Tryz.ntmps13
      go_wp2_with fail
      refine HT.out.mono ?_
      rintro e w1 ⟨rfl, hb1⟩
      rw [HTB.out]
      clear HT
      go_wp2_with fail
      refine (implIsPlace (m : Nat) s.length w1).mono ?_
      rintro e w1' ⟨rfl, rfl⟩
      rw [HIN.out]
      go_wp2_with fail
      refine (implFitsIf g (o + m * 6) A1 AO n1 c1 old.length cO s[m].cols old ok w1 (below_keep hb1 _ _ HC1.out.1) (HC1.out.2.below ClR.stays hb1) (Sl.cellz (fun _ => rfl) (HVO.out.1.below VlR.stays hb1)) hc1 hnO).mono ?_
      rintro e w2 ⟨rfl, hb2⟩
      rw [HRO.out]
      have hb12 := hb1.trans (hb2.mono hb1.size)
      go_wp2_with fail
      refine (implFitsIf g (o + m * 6) A1 AN n1 c1 now.length cN s[m].cols now ok w2 (below_keep hb12 _ _ HC1.out.1) (HC1.out.2.below ClR.stays hb12) (Sl.cellz (fun _ => rfl) (HVO.out.2.below VlR.stays hb12)) hc1 hnN).mono ?_
      rintro e w3 ⟨rfl, hb3⟩
      rw [HRN.out]
      have hb13 := hb12.trans (hb3.mono hb12.size)
      go_wp2_with fail
      go_ret
      exact ⟨_, rfl, by rw [HF.out]; exact OwnI.nil _ _, hb13⟩
    have HF : firesL s l (m : Nat) ev old now = firesTo s[m] ev old now l l.length := by unfold firesL; rw [if_pos hT, tabAt_some hm]; simp [hrO, hrN]
    rw [HF]
    exact implFiresOk AS AL AO AN s.length cS l.length cL old.length cO now.length cN m ev s l ok okl oko okn old now w hS hL hsz hlz hO hN hnO hnN hT hm hrO hrN
  · have HF := Lib.hid (show firesL s l tb ev old now = [] by unfold firesL; rw [if_pos hT, tabAt_none hin])
    have HIN := Lib.hid (show (decide ((0 : Int) ≤ tb) && decide (tb < (s.length : Int))) = false by
      rw [Bool.eq_false_iff]; intro h; rw [Bool.and_eq_true, decide_eq_true_eq, decide_eq_true_eq] at h; exact hin h)
    go_enter Tryz.func13, Tryz.ntmps13
    go_wp2_with fail
    refine HT.out.mono ?_
    rintro e w1 ⟨rfl, hb1⟩
    rw [HTB.out]
    clear HT
    go_wp2_with fail
    refine (implIsPlace tb s.length w1).mono ?_
    rintro e w1' ⟨rfl, rfl⟩
    rw [HIN.out]
    go_wp2_with fail
    go_ret
    exact ⟨_, rfl, by rw [HF.out]; exact OwnI.nil _ _, hb1⟩
def MadeN (xs : List Int) (w : World) (e : Ending) (w' : World) : Prop := ∃ A c, e = .returned (.slice A xs.length c) ∧ xs.length ≤ c ∧ Sl IntR 1 (okF w.heap.size w') w' A xs.length xs ∧ Below w.heap.size w w'
theorem madeN_of {xs : List Int} {w w' : World} {e : Ending} (h : ∃ v, e = .returned v ∧ OwnI w' w.heap.size v xs ∧ Below w.heap.size w w') : MadeN xs w e w' := by
  obtain ⟨v, rfl, ho, hb⟩ := h
  obtain ⟨A, c, rfl, h1, -, h2⟩ := ho.sl
  exact ⟨A, c, rfl, h1, h2, hb⟩
theorem implFiresM (AS AL AO AN : Option Addr) (nS cS nL cL nO cO nN cN : Nat) (tb ev : Int) (s : List Tb) (l : List Tg) (ok okl oko okn : Nat → Prop) (old now : List Vl) (w : World)
    (hS : Sl TbR 6 ok w AS nS s) (hL : Sl TgR 5 okl w AL nL l) (hO : Sl VlR 3 oko w AO nO old) (hN : Sl VlR 3 okn w AN nN now) (hsz : szL Tb.sz s ≤ 1048576) (hlz : szL Tg.sz l ≤ 1048576) (hnO : nO ≤ 1048576) (hnN : nN ≤ 1048576) :
    Calls Tryz.prog 13 #[.slice AS nS cS, .slice AL nL cL, .int .i64 tb, .int .i64 ev, .slice AO nO cO, .slice AN nN cN] w (MadeN (firesL s l tb ev old now) w) :=
  (implFires AS AL AO AN nS cS nL cL nO cO nN cN tb ev s l ok okl oko okn old now w hS hL hsz hlz hO hN hnO hnN).mono fun _ _ h => madeN_of h
theorem specFiresM (AS AL AO AN : Option Addr) (nS cS nL cL nO cO nN cN : Nat) (tb ev : Int) (s : List Tb) (l : List Tg) (ok okl oko okn : Nat → Prop) (old now : List Vl) (w : World)
    (hS : Sl TbR 6 ok w AS nS s) (hL : Sl TgR 5 okl w AL nL l) (hO : Sl VlR 3 oko w AO nO old) (hN : Sl VlR 3 okn w AN nN now) (hcp : nS ≤ cS) (hsz : szL Tb.sz s ≤ 1048576) (hlz : szL Tg.sz l ≤ 1048576) (hnO : nO ≤ 1048576) (hnN : nN ≤ 1048576) :
    Calls Tryz.prog 9 #[.slice AS nS cS, .slice AL nL cL, .int .i64 tb, .int .i64 ev, .slice AO nO cO, .slice AN nN cN] w (MadeN (firesL s l tb ev old now) w) :=
  (specFires AS AL nS cS nL cL s l ok okl tb ev AO AN nO cO nN cN old now w hS hL hcp hsz hlz (Sl.cellz (fun _ => rfl) hO) (Sl.cellz (fun _ => rfl) hN) hnO hnN).mono fun _ _ h => madeN_of h
end Go.Proofs.YtemimhghhihllaaGreat
