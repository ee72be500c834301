/-
  Several texts in one: what the proof leans on, part 9.
-/
import Derived.Test.YtjhhamlnlalkoaaGreatPh
import Derived.Test.YtjhhamlnlalkoaaGreatPc
import Derived.Test.YtjhhamlnlalkoaaGreatPd
set_option linter.unusedVariables false
set_option linter.unusedSimpArgs false
namespace Go.Proofs.YtjhhamlnlalkoaaGreat
open Go.RowKit Go.Maps Go.Shelf
attribute [local go_sem] Oper.semAt_some
set_option maxRecDepth 100000 in
set_option maxHeartbeats 8000000 in
theorem rowFlaws1_in (n l : Nat) (n0 : Nat) (AS AD AV : Option Addr) (nS cS nD cD cV b bl ol i : Nat) (s : List Tb) (db : List Dt) (x : Rw) (wait : Bool) (J Jx : List Int → World → Prop) (W : World)
  (H : RfIn n0 AS AD AV nS cS nD cD cV b bl ol i s db x wait W) (hi : i < s.length) (hid : i < db.length) (HX : RowIn s db s[i] x) (hss : szL Tb.sz s ≤ 1048576) (hrn : db[i].rows.length ≤ 1048576)
  (hdn : db.length ≤ 1048576) (hall : ∀ r ∈ db[i].rows, RowIn s db s[i] r)
  (hJ : AbidesFrom W.heap.size J) (hY : ∀ pre y W1, J pre W1 → pre.length < 4 → YieldAt Fence.wide (n - 1) Tryz.prog l #[.int .i64 y] W1 fun e W' => (e = .returned (.bool true) ∧ J (pre ++ [y]) W' ∧ KpF n0 W1 W') ∨ (e = .returned (.bool false) ∧ Jx (pre ++ [y]) W')) (h0 : J [] W) :
  CallsIn Fence.wide n Tryz.prog 100 #[.func (.yield l) #[] #[], .pointer (some ⟨b, 0, none⟩), .pointer (some ⟨b + 2, 0, none⟩), .pointer (some ⟨b + 3, 0, none⟩), .pointer (some ⟨b + 1, 0, none⟩), .pointer (some ⟨b + 4, 0, none⟩)] W fun e W' =>
   (∃ v, e = .returned v) ∧ ((∃ ys, ys = rowK s db s[i] db[i].rows wait x ∧ J ys W') ∨ (∃ pre, pre <+: rowK s db s[i] db[i].rows wait x ∧ Jx pre W')) := by
 have HS := Lib.hid H
 have HSS := Lib.hid hss
 have HXX := Lib.hid HX
 have HALL := Lib.hid hall
 have HJ := Lib.hid hJ
 have hn0 := H.n0_le
 -- a round, in one way: a truth comes back
 have HYB : Hid (∀ m pre y W1, J pre W1 → KpF n0 W W1 → pre.length < 4 → (pre ++ [y]) <+: rowK s db s[i] db[i].rows wait x → YieldAt Fence.wide m Tryz.prog l #[.int .i64 y] W1 fun e W' => ∃ g : Bool, e = .returned (.bool g) ∧ StK J Jx (rowK s db s[i] db[i].rows wait x) n0 W (pre ++ [y]) (!g) W') := Lib.hid fun m pre y W1 hj hk hl hp =>
  YieldAt.mono (yieldAt_any (hY pre y W1 hj hl)) fun e W' h => by
   rcases h with ⟨rfl, h1, h2⟩ | ⟨rfl, h1⟩
   ·exact ⟨true, rfl, h1, hk.trans h2⟩
   ·exact ⟨false, rfl, _, hp, h1⟩
 have HSN := Lib.hid (show s.length ≤ 1048576 by unfold szL at hss; omega)
 have HTS := Lib.hid (szL_mem Tb.sz s s[i] (List.getElem_mem hi))
 -- what there is to read in any world that is kept
 have HT : Hid (∀ W1, KpF n0 W W1 → ∃ bt ot A1 n1 c1 A2 n2 c2 A3 n3 c3 A4 n4 c4 A5 n5 c5, AS = some ⟨bt, ot, none⟩ ∧ W1.cell? ⟨bt, ot + i * 6 + 1, none⟩ = some (.slice A1 n1 c1) ∧ W1.cell? ⟨bt, ot + i * 6 + 2, none⟩ = some (.slice A2 n2 c2) ∧ W1.cell? ⟨bt, ot + i * 6 + 3, none⟩ = some (.slice A3 n3 c3) ∧ W1.cell? ⟨bt, ot + i * 6 + 4, none⟩ = some (.slice A4 n4 c4) ∧ W1.cell? ⟨bt, ot + i * 6 + 5, none⟩ = some (.slice A5 n5 c5) ∧
   Sl ClR 6 (fun b => b < n0) W1 A1 n1 s[i].cols ∧ Sl IntR 1 (fun b => b < n0) W1 A2 n2 s[i].key ∧ Sl UqR 1 (fun b => b < n0) W1 A3 n3 s[i].uniqs ∧ Sl CkR 1 (fun b => b < n0) W1 A4 n4 s[i].checks ∧ Sl FkR 5 (fun b => b < n0) W1 A5 n5 s[i].fks) := Lib.hid fun W1 hk => by
  obtain ⟨bt, ot, A1, n1, c1, A2, n2, c2, A3, n3, c3, A4, n4, c4, A5, n5, c5, -, rfl, q0, q1, q2, q3, q4, q5, s1, s2, s3, s4, s5, -⟩ := TbR.at_ (HS.out.kp hk).hs hi
  exact ⟨bt, ot, A1, n1, c1, A2, n2, c2, A3, n3, c3, A4, n4, c4, A5, n5, c5, rfl, q1, q2, q3, q4, q5, s1, s2, s3, s4, s5⟩
 obtain ⟨bt, ot, -, -, -, -, -, -, -, -, -, -, -, -, -, -, -, rfl, -⟩ := HT.out W (KpF.refl _ _)
 have HT2 : Hid (∀ W1, KpF n0 W W1 → ∃ A1 n1 c1 A2 n2 c2 A3 n3 c3 A4 n4 c4 A5 n5 c5, W1.cell? ⟨bt, ot + i * 6 + 1, none⟩ = some (.slice A1 n1 c1) ∧ W1.cell? ⟨bt, ot + i * 6 + 2, none⟩ = some (.slice A2 n2 c2) ∧ W1.cell? ⟨bt, ot + i * 6 + 3, none⟩ = some (.slice A3 n3 c3) ∧ W1.cell? ⟨bt, ot + i * 6 + 4, none⟩ = some (.slice A4 n4 c4) ∧ W1.cell? ⟨bt, ot + i * 6 + 5, none⟩ = some (.slice A5 n5 c5) ∧
   Sl ClR 6 (fun b => b < n0) W1 A1 n1 s[i].cols ∧ Sl IntR 1 (fun b => b < n0) W1 A2 n2 s[i].key ∧ Sl UqR 1 (fun b => b < n0) W1 A3 n3 s[i].uniqs ∧ Sl CkR 1 (fun b => b < n0) W1 A4 n4 s[i].checks ∧ Sl FkR 5 (fun b => b < n0) W1 A5 n5 s[i].fks) := Lib.hid fun W1 hk => by
  obtain ⟨bt', ot', A1, n1, c1, A2, n2, c2, A3, n3, c3, A4, n4, c4, A5, n5, c5, e, hh⟩ := HT.out W1 hk
  injection e with e
  injection e with e1 e2
  subst e1 e2
  exact ⟨A1, n1, c1, A2, n2, c2, A3, n3, c3, A4, n4, c4, A5, n5, c5, hh⟩
 clear HT
 have HP1 := Lib.hid (show oneK (nullsB s[i].cols x.vals) 1 <+: rowK s db s[i] db[i].rows wait x by unfold rowK; rw [List.append_assoc, List.append_assoc]; exact List.prefix_append _ _)
 have HP2 := Lib.hid (show oneK (nullsB s[i].cols x.vals) 1 ++ oneK (checksB s[i].checks x.vals) 2 <+: rowK s db s[i] db[i].rows wait x by unfold rowK; rw [List.append_assoc (_ ++ _)]; exact List.prefix_append _ _)
 have HP3 := Lib.hid (show oneK (nullsB s[i].cols x.vals) 1 ++ oneK (checksB s[i].checks x.vals) 2 ++ oneK (uniqueB s[i] db[i].rows x) 3 <+: rowK s db s[i] db[i].rows wait x by unfold rowK; exact List.prefix_append _ _)
 have HL1 : ∀ (b : Bool) (k : Int), (oneK b k).length ≤ 1 := fun b k => by cases b <;> simp [oneK]
 have HL1 := Lib.hid HL1
 have i0 : (0 : Int) ≤ i := by omega
 have i1 : (i : Int) < s.length := by omega
 have i2 : (i : Int) < db.length := by omega
 obtain rfl : s.length = nS := H.hs.1
 obtain rfl : db.length = nD := H.hd.1
 have hxl : x.vals.length ≤ 1048576 := HX.2.2.2.2.2.2
 obtain ⟨e0, -, e2, -, -⟩ := H.cells
 clear H hss HX hall hJ hY
 refine callsIn_of_wp Tryz.func100 rfl trivial ?_ rfl
 simp only [Tryz.ntmps100, List.size_toArray, List.length_cons, List.length_nil, Nat.reduceAdd, Nat.reduceSub, Array.replicate_succ, Array.replicate_zero, List.push_toArray, List.append_toArray, List.nil_append, List.cons_append]
 gi_upto_region 1 with fail
 gi_cut [7, 21] from 8 (fun s7 s21 W' => s7 = .pointer (some ⟨bt, ot + i * 6, none⟩) ∧ ∃ st, s21 = .bool st ∧ StK J Jx (rowK s db s[i] db[i].rows wait x) n0 W (oneK (nullsB s[i].cols x.vals) 1) st W')
 case first =>
  obtain ⟨A1, n1, c1, A2, n2, c2, A3, n3, c3, A4, n4, c4, A5, n5, c5, q1, q2, q3, q4, q5, s1, s2, s3, s4, s5⟩ := HT2.out W (KpF.refl n0 W)
  have HW := Lib.hid (HS.out.kp (KpF.refl n0 W))
  have hnw := HW.out.n0_le
  obtain ⟨e0, e1, e2, e3, e4⟩ := HW.out.cells
  have z1 := HW.out.z1
  have HJ1 := Lib.hid h0
  have hn1 : n1 ≤ 1048576 := by have h1 := s1.1; have h4 := Nat.le_trans HTS.out HSS.out; unfold Tb.sz szL at h4; omega
  have HC := Lib.hid (implWrongNullAt bt (ot + i * 6) A1 AV n1 c1 x.vals.length cV s[i].cols x.vals _ W q1 s1 (Sl.cellz (fun _ => rfl) HW.out.hv) hn1 hxl HXX.out.1)
  clear q1 q2 q3 q4 q5 s1 s2 s3 s4 s5 e0 e4 e1 e2
  cases hN : nullsB s[i].cols x.vals
  ·have HN := Lib.hid hN
   have HQ := Lib.hid (show (([] : List Int)) ++ [1] <+: rowK s db s[i] db[i].rows wait x by have h := HP1.out; rw [hN] at h; exact h)
   have HQL := Lib.hid (show (([] : List Int)).length < 4 by have h1 := HL1.out; (try simp only [List.length_append]); have g1 := h1 (nullsB s[i].cols x.vals) 1; have g2 := h1 (checksB s[i].checks x.vals) 2; simp)
   clear hN
   gi_wp2_with fail
   refine ⟨trivial, fun h => (by cases h), (callsIn_wide.2 HC.out).mono ?_⟩
   rintro e w1 ⟨rfl, hb1⟩
   rw [HN.out]
   have k1 : KpF n0 W w1 := KpF.trans (KpF.refl n0 W) (KpF.below hnw hb1)
   obtain ⟨fn, tm, asg, bo, hy, hR⟩ := HYB.out 0 _ 1 w1 (abides_below HJ.out HJ1.out hb1) k1 HQL.out HQ.out
   clear HC e3 z1
   gi_wp2_with fail
   refine ⟨fun h => (by cases h), (roundIn_any hR).mono ?_⟩
   rintro e W' ⟨g, rfl, hst⟩
   clear hR hy
   gi_wp2_with fail
   gi_meet
   case rel => exact ⟨rfl, !g, rfl, by rw [HN.out]; exact hst⟩
  ·have HN := Lib.hid hN
   clear hN
   gi_wp2_with fail
   refine ⟨trivial, fun h => (by cases h), (callsIn_wide.2 HC.out).mono ?_⟩
   rintro e w1 ⟨rfl, hb1⟩
   rw [HN.out]
   have k1 : KpF n0 W w1 := KpF.trans (KpF.refl n0 W) (KpF.below hnw hb1)
   have hj1 := abides_below HJ.out HJ1.out hb1
   clear HC e3 z1
   gi_wp2_with fail
   refine ⟨fun _ h => (by cases h), ?_⟩
   gi_wp2_with fail
   gi_meet
   case rel => exact ⟨rfl, false, rfl, by rw [HN.out]; exact ⟨by simpa [oneK] using hj1, k1⟩⟩
 case rest =>
  obtain ⟨rfl, st, rfl, hst⟩ := hcut
  cases st
  ·obtain ⟨hj1, hk1⟩ : J (oneK (nullsB s[i].cols x.vals) 1) wc ∧ KpF n0 W wc := hst
   have hjk := Lib.hid (And.intro hj1 hk1)
   clear hj1 hk1
   gi_upto_region 2 with fail
   gi_cut [7, 32] from 8 (fun s7 s32 W' => s7 = .pointer (some ⟨bt, ot + i * 6, none⟩) ∧ ∃ st, s32 = .bool st ∧ StK J Jx (rowK s db s[i] db[i].rows wait x) n0 W (oneK (nullsB s[i].cols x.vals) 1 ++ oneK (checksB s[i].checks x.vals) 2) st W')
   case first =>
    obtain ⟨A1, n1, c1, A2, n2, c2, A3, n3, c3, A4, n4, c4, A5, n5, c5, q1, q2, q3, q4, q5, s1, s2, s3, s4, s5⟩ := HT2.out wc hjk.out.2
    have HW := Lib.hid (HS.out.kp hjk.out.2)
    have hnw := HW.out.n0_le
    obtain ⟨e0, e1, e2, e3, e4⟩ := HW.out.cells
    have z1 := HW.out.z1
    have HJ1 := Lib.hid hjk.out.1
    have HC := Lib.hid (implFailsCheckAt bt (ot + i * 6) A4 AV n4 c4 x.vals.length cV s[i].checks x.vals _ wc q4 s4 (Sl.cellz (fun _ => rfl) HW.out.hv) (by have h4 := Nat.le_trans HTS.out HSS.out; unfold Tb.sz at h4; omega) hxl)
    clear q1 q2 q3 q4 q5 s1 s2 s3 s4 s5 e0 e4 e1 e2
    cases hN : checksB s[i].checks x.vals
    ·have HN := Lib.hid hN
     have HQ := Lib.hid (show (oneK (nullsB s[i].cols x.vals) 1) ++ [2] <+: rowK s db s[i] db[i].rows wait x by have h := HP2.out; rw [hN] at h; exact h)
     have HQL := Lib.hid (show (oneK (nullsB s[i].cols x.vals) 1).length < 4 by have h1 := HL1.out; (try simp only [List.length_append]); have g1 := h1 (nullsB s[i].cols x.vals) 1; have g2 := h1 (checksB s[i].checks x.vals) 2; omega)
     clear hN
     gi_wp2_with fail
     refine ⟨trivial, fun h => (by cases h), (callsIn_wide.2 HC.out).mono ?_⟩
     rintro e w1 ⟨rfl, hb1⟩
     rw [HN.out]
     have k1 : KpF n0 W w1 := KpF.trans hjk.out.2 (KpF.below hnw hb1)
     obtain ⟨fn, tm, asg, bo, hy, hR⟩ := HYB.out 0 _ 2 w1 (abides_below HJ.out HJ1.out hb1) k1 HQL.out HQ.out
     clear HC e3 z1
     gi_wp2_with fail
     refine ⟨fun h => (by cases h), (roundIn_any hR).mono ?_⟩
     rintro e W' ⟨g, rfl, hst⟩
     clear hR hy
     gi_wp2_with fail
     gi_meet
     case rel => exact ⟨rfl, !g, rfl, by rw [HN.out]; exact hst⟩
    ·have HN := Lib.hid hN
     clear hN
     gi_wp2_with fail
     refine ⟨trivial, fun h => (by cases h), (callsIn_wide.2 HC.out).mono ?_⟩
     rintro e w1 ⟨rfl, hb1⟩
     rw [HN.out]
     have k1 : KpF n0 W w1 := KpF.trans hjk.out.2 (KpF.below hnw hb1)
     have hj1 := abides_below HJ.out HJ1.out hb1
     clear HC e3 z1
     gi_wp2_with fail
     refine ⟨fun _ h => (by cases h), ?_⟩
     gi_wp2_with fail
     gi_meet
     case rel => exact ⟨rfl, false, rfl, by rw [HN.out]; exact ⟨by simpa [oneK] using hj1, k1⟩⟩
   case rest =>
    obtain ⟨rfl, st, rfl, hst⟩ := hcut
    cases st
    ·obtain ⟨hj2, hk2⟩ : J (oneK (nullsB s[i].cols x.vals) 1 ++ oneK (checksB s[i].checks x.vals) 2) wc ∧ KpF n0 W wc := hst
     have hjk := Lib.hid (And.intro hj2 hk2)
     clear hj2 hk2
     gi_upto_region 3 with fail
     gi_cut [7, 45] from 8 (fun s7 s45 W' => s7 = .pointer (some ⟨bt, ot + i * 6, none⟩) ∧ ∃ st, s45 = .bool st ∧ StK J Jx (rowK s db s[i] db[i].rows wait x) n0 W (oneK (nullsB s[i].cols x.vals) 1 ++ oneK (checksB s[i].checks x.vals) 2 ++ oneK (uniqueB s[i] db[i].rows x) 3) st W')
     case first =>
      obtain ⟨A1, n1, c1, A2, n2, c2, A3, n3, c3, A4, n4, c4, A5, n5, c5, q1, q2, q3, q4, q5, s1, s2, s3, s4, s5⟩ := HT2.out wc hjk.out.2
      have HW := Lib.hid (HS.out.kp hjk.out.2)
      have hnw := HW.out.n0_le
      obtain ⟨e0, e1, e2, e3, e4⟩ := HW.out.cells
      have z1 := HW.out.z1
      have HJ1 := Lib.hid hjk.out.1
      have hn2 : n2 ≤ 1048576 := by have h1 := s2.1; have h4 := Nat.le_trans HTS.out HSS.out; unfold Tb.sz szL at h4; omega
      have hn3 : n3 ≤ 1048576 := by have h1 := s3.1; have h4 := Nat.le_trans HTS.out HSS.out; unfold Tb.sz szL at h4; omega
      obtain ⟨bd, od, AL, nL, cL, hbd, eAD, p0, hrw, -⟩ := DtR.at_ HW.out.hd hid
      subst eAD
      obtain rfl : db[i].rows.length = nL := hrw.1
      have hun : ∀ u ∈ s[i].uniqs, u.cols.length ≤ 1048576 := fun u hu => by
       have h1 := szL_mem Uq.sz s[i].uniqs u hu
       have h4 := Nat.le_trans HTS.out HSS.out
       have h3 : szL Uq.sz s[i].uniqs ≤ s[i].sz := by unfold Tb.sz; omega
       have h5 : u.cols.length ≤ u.sz := by unfold Uq.sz; omega
       omega
      have HC := Lib.hid (implRivalsOf bt (ot + i * 6) bd (od + i) bl ol AL A2 A3 AV db[i].rows.length cL n2 c2 n3 c3 x.vals.length cV db[i].rows s[i] x _ _ _ _ (World.drew wc) q2 q3 (s2.drew IntR.stays) (s3.drew UqR.stays) p0 (hrw.drew RwR.stays) HW.out.z0 HW.out.z1 (HW.out.hv.drew VlR.stays) hrn hn2 hn3 hun hxl (fun r hr => (HALL.out r hr).2.2.2.2.2.2) (fun r hr => (HALL.out r hr).2.2.2.1) (fun u hu r hr => (HALL.out r hr).2.2.2.2.1 u hu) HXX.out.2.1 HXX.out.2.2.2.1 HXX.out.2.2.2.2.1)
      have d1 : (World.drew wc).cell? ⟨b + 1, 0, none⟩ = some (.slice (some ⟨bd, od, none⟩) db.length cD) := e1
      have d2 : (World.drew wc).cell? ⟨b + 2, 0, none⟩ = some (.int .i64 i) := e2
      have d3 : (World.drew wc).cell? ⟨b + 3, 0, none⟩ = some (.pointer (some ⟨bl, ol, none⟩)) := e3
      clear q1 q2 q3 q4 q5 s1 s2 s3 s4 s5 e0 e4 e1 e2 e3 z1 p0 hrw hun
      cases hN : uniqueB s[i] db[i].rows x
      ·have HN := Lib.hid hN
       have HQ := Lib.hid (show (oneK (nullsB s[i].cols x.vals) 1 ++ oneK (checksB s[i].checks x.vals) 2) ++ [3] <+: rowK s db s[i] db[i].rows wait x by have h := HP3.out; rw [hN] at h; exact h)
       have HQL := Lib.hid (show (oneK (nullsB s[i].cols x.vals) 1 ++ oneK (checksB s[i].checks x.vals) 2).length < 4 by have h1 := HL1.out; (try simp only [List.length_append]); have g1 := h1 (nullsB s[i].cols x.vals) 1; have g2 := h1 (checksB s[i].checks x.vals) 2; omega)
       have hmx : Tryz.prog.follows .mixedOrders = true := by kernel_rfl
       have hfx : Fence.wide.fn 101 := trivial
       have hdx : Fence.wide.depth = none := rfl
       have HV := Lib.hid (show 0 < (rivB s[i] db[i].rows x).length by have h := uniqueB_riv s[i] db[i].rows x; rw [hN] at h; simpa using h)
       clear hN
       have hv0 := HV.out
       have hv1 : (0 : Int) < ((rivB s[i] db[i].rows x).length : Int) := by omega
       gi_region_with_o (first
        | (refine (callsIn_wide.2 HC.out).mono ?_; rintro e w1 ⟨v9, rfl, ho9, hb1⟩; obtain ⟨A9, c9, rfl, -, -, -⟩ := OwnI.sl ho9; replace hb1 := ((Below.refl (World.heap wc).size wc).drew).trans hb1; have k1 : KpF n0 W w1 := KpF.trans hjk.out.2 (KpF.below hnw hb1); obtain ⟨fn, tm, asg, bo, hy, hR⟩ := HYB.out 0 _ 3 w1 (abides_below HJ.out HJ1.out hb1) k1 HQL.out HQ.out)
        | (refine (roundIn_any hR).mono ?_; rintro e W' ⟨g, rfl, hst⟩))
       all_goals gi_wp2
       all_goals gi_meet
       all_goals exact ⟨rfl, !g, rfl, by rw [HN.out]; exact hst⟩
      ·have HN := Lib.hid hN
       have hmx : Tryz.prog.follows .mixedOrders = true := by kernel_rfl
       have hfx : Fence.wide.fn 101 := trivial
       have hdx : Fence.wide.depth = none := rfl
       have HV := Lib.hid (show (rivB s[i] db[i].rows x).length = 0 by have h := uniqueB_riv s[i] db[i].rows x; rw [hN] at h; simpa using h)
       clear hN
       first | (gi_region_with_o (first
        | (refine (callsIn_wide.2 HC.out).mono ?_; rintro e w1 ⟨v9, rfl, ho9, hb1⟩; obtain ⟨A9, c9, rfl, -, -, -⟩ := OwnI.sl ho9; replace hb1 := ((Below.refl (World.heap wc).size wc).drew).trans hb1; rw [HV.out]; have k1 : KpF n0 W w1 := KpF.trans hjk.out.2 (KpF.below hnw hb1); have hj1 := abides_below HJ.out HJ1.out hb1)
        | (refine ⟨fun _ h => (by cases h), ?_⟩))) | fail
       all_goals gi_wp2
       all_goals gi_meet
       all_goals exact ⟨rfl, false, rfl, by rw [HN.out]; exact ⟨by simpa [oneK] using hj1, k1⟩⟩
     case rest =>
      obtain ⟨rfl, st, rfl, hst⟩ := hcut
      cases st
      ·obtain ⟨hj3, hk3⟩ : J (oneK (nullsB s[i].cols x.vals) 1 ++ oneK (checksB s[i].checks x.vals) 2 ++ oneK (uniqueB s[i] db[i].rows x) 3) wc ∧ KpF n0 W wc := hst
       have hjk := Lib.hid (And.intro hj3 hk3)
       clear hj3 hk3
       obtain ⟨A1, n1, c1, A2, n2, c2, A3, n3, c3, A4, n4, c4, A5, n5, c5, q1, q2, q3, q4, q5, s1, s2, s3, s4, s5⟩ := HT2.out wc hjk.out.2
       have HW := Lib.hid (HS.out.kp hjk.out.2)
       have hnw := HW.out.n0_le
       obtain ⟨e0, e1, e2, e3, e4⟩ := HW.out.cells
       have HC := Lib.hid (implIsLost (some ⟨bt, ot, none⟩) AD A5 AV bt (ot + i * 6) bl ol s.length cS db.length cD n5 c5 x.vals.length cV s db i x.vals wait _ _ _ _ wc HW.out.hs HW.out.hd hi s5 HW.out.hv q5 HW.out.z1 HSS.out hdn hxl HXX.out.2.1 HXX.out.2.2.2.2.2.1)
       clear q1 q2 q3 q4 q5 s1 s2 s3 s4 s5 e2
       cases hN : refersB s db s[i] x.vals wait
       ·have HN := Lib.hid hN
        have HF := Lib.hid (show (oneK (nullsB s[i].cols x.vals) 1 ++ oneK (checksB s[i].checks x.vals) 2 ++ oneK (uniqueB s[i] db[i].rows x) 3) ++ [4] = rowK s db s[i] db[i].rows wait x by unfold rowK; rw [hN]; rfl)
        have HQL := Lib.hid (show (oneK (nullsB s[i].cols x.vals) 1 ++ oneK (checksB s[i].checks x.vals) 2 ++ oneK (uniqueB s[i] db[i].rows x) 3).length < 4 by have h1 := HL1.out; (try simp only [List.length_append]); have g1 := h1 (nullsB s[i].cols x.vals) 1; have g2 := h1 (checksB s[i].checks x.vals) 2; have g3 := h1 (uniqueB s[i] db[i].rows x) 3; omega)
        clear hN
        gi_wp2_with fail
        refine ⟨trivial, fun h => (by cases h), (callsIn_wide.2 HC.out).mono ?_⟩
        rintro e w1 ⟨rfl, hb1⟩
        rw [HN.out]
        have k1 : KpF n0 W w1 := KpF.trans hjk.out.2 (KpF.below hnw hb1)
        obtain ⟨fn, tm, asg, bo, hy, hR⟩ := HYB.out 0 _ 4 w1 (abides_below HJ.out hjk.out.1 hb1) k1 HQL.out (by rw [HF.out]; exact List.prefix_refl _)
        rw [HF.out] at hR
        clear HC e0 e1 e3 e4
        gi_wp2_with fail
        refine ⟨fun h => (by cases h), (roundIn_any hR).mono ?_⟩
        rintro e W' ⟨g, rfl, hst⟩
        clear hR hy
        gi_wp2_with fail
        go_end0
        cases g
        ·exact ⟨⟨_, rfl⟩, .inr hst⟩
        ·exact ⟨⟨_, rfl⟩, .inl ⟨_, rfl, hst.1⟩⟩
       ·have HN := Lib.hid hN
        have HF := Lib.hid (show oneK (nullsB s[i].cols x.vals) 1 ++ oneK (checksB s[i].checks x.vals) 2 ++ oneK (uniqueB s[i] db[i].rows x) 3 = rowK s db s[i] db[i].rows wait x by unfold rowK; rw [hN]; simp [oneK])
        clear hN
        gi_wp2_with fail
        refine ⟨trivial, fun h => (by cases h), (callsIn_wide.2 HC.out).mono ?_⟩
        rintro e w1 ⟨rfl, hb1⟩
        rw [HN.out]
        have hj4 := abides_below HJ.out hjk.out.1 hb1
        rw [HF.out] at hj4
        clear HC e0 e1 e3 e4
        gi_wp2_with fail
        go_end0
        exact ⟨⟨_, rfl⟩, .inl ⟨_, rfl, hj4⟩⟩
      ·gi_wp2
       refine bodyPost_ret (results_none rfl _ _ _) rfl ?_
       exact ⟨⟨_, rfl⟩, .inr hst⟩
    ·gi_wp2
     refine bodyPost_ret (results_none rfl _ _ _) rfl ?_
     exact ⟨⟨_, rfl⟩, .inr hst⟩
  ·gi_wp2
   refine bodyPost_ret (results_none rfl _ _ _) rfl ?_
   exact ⟨⟨_, rfl⟩, .inr hst⟩
end Go.Proofs.YtjhhamlnlalkoaaGreat
namespace Go.Proofs.YtjhhamlnlalkoaaGreat
open Go.RowKit Go.Maps Go.Shelf
attribute [local go_sem] Oper.semAt_some
structure EfIn (n0 : Nat) (AS AD : Option Addr) (nS cS nD cD b : Nat) (s : List Tb) (db : List Dt) (wait : Bool) (w : World) : Prop where
 low : n0 ≤ b
 s0 : Row w b 24 #[.slice AS nS cS]
 s1 : Row w (b + 1) 25 #[.slice AD nD cD]
 s2 : Row w (b + 2) 71 #[.func (askN wait) #[] #[]]
 hs : Sl TbR 6 (fun b => b < n0) w AS nS s
 hd : Sl DtR 1 (fun b => b < n0) w AD nD db
theorem EfIn.kp {n0 : Nat} {AS AD : Option Addr} {nS cS nD cD b : Nat} {s : List Tb} {db : List Dt} {wait : Bool} {w W : World} (h : EfIn n0 AS AD nS cS nD cD b s db wait w) (k : KpF n0 w W) : EfIn n0 AS AD nS cS nD cD b s db wait W :=
 ⟨h.low, k.2 _ _ _ (by decide) (by decide) (by decide) h.s0, k.2 _ _ _ (by decide) (by decide) (by decide) h.s1, k.2 _ _ _ (by decide) (by decide) (by decide) h.s2, h.hs.low TbR.stays k.1, h.hd.low DtR.stays k.1⟩
theorem EfIn.n0_le {n0 : Nat} {AS AD : Option Addr} {nS cS nD cD b : Nat} {s : List Tb} {db : List Dt} {wait : Bool} {w : World} (h : EfIn n0 AS AD nS cS nD cD b s db wait w) : n0 ≤ w.heap.size := by
 have := lt_of_block h.s0; have := h.low; omega
def Marks (B : Nat) : List Deferred → World → Prop
 | [], _ => True
 | d :: ds, W => ∃ D, d = { target := .collected D, args := #[] } ∧ B ≤ D ∧ W.heap[D]? = some (.deferred (some [])) ∧ (∀ d' ∈ ds, ∀ D', d'.target = .collected D' → D' < D) ∧ Marks B ds W
theorem Marks.keep {B : Nat} : ∀ {ds : List Deferred} {W W' : World}, Marks B ds W → KeepsFrom B W W' → Marks B ds W'
 | [], _, _, _, _ => trivial
 | _ :: _, _, _, ⟨D, e, h1, h2, h3, h4⟩, k => ⟨D, e, h1, k.same _ _ h1 h2 rfl, h3, h4.keep k⟩
theorem Marks.lt {B : Nat} : ∀ {ds : List Deferred} {W : World}, Marks B ds W → ∀ d' ∈ ds, ∀ D', d'.target = .collected D' → D' < W.heap.size
 | [], _, _, _, h, _, _ => by cases h
 | d :: ds, W, ⟨D, e, h1, h2, h3, h4⟩, d', hm, D', ht => by
  rcases List.mem_cons.1 hm with rfl | hm
  ·rw [e] at ht; injection ht with ht; subst ht; exact (Array.getElem?_eq_some_iff.1 h2).1
  ·exact h4.lt d' hm D' ht
theorem Marks.put {B D0 : Nat} : ∀ {ds : List Deferred} {W : World} (o : Obj), Marks B ds W → (∀ d' ∈ ds, ∀ D', d'.target = .collected D' → D' ≠ D0) → Marks B ds (W.putObj D0 o)
 | [], _, _, _, _ => trivial
 | d :: ds, W, o, ⟨D, e, h1, h2, h3, h4⟩, hne => ⟨D, e, h1, (World.putObj_heap_other (hne d (by simp) D (by rw [e]))).trans h2, h3, h4.put o fun d' hm => hne d' (List.mem_cons_of_mem _ hm)⟩
theorem leaves_marks {F : Fence} {n : Nat} {P : Program} {fn : Func} {tmps : Array Value} {R : Ending → World → Prop} {B : Nat} (K : World → Prop) (hK : ∀ W D o, B ≤ D → K W → W.heap[D]? = some (.deferred (some [])) → K (W.putObj D o))
  (hend : ∀ W, K W → LeavesIn F n P fn tmps R [] .returning W) : ∀ (ds : List Deferred) (W : World), Marks B ds W → K W → LeavesInM F n P fn tmps R ds .returning W
 | [], W, _, hk => hend W hk
 | d :: ds, W, ⟨D, e, h1, h2, h3, h4⟩, hk => ⟨by simp, .inl ⟨D, _, by rw [e], run_takeDeferred h2, leaves_marks K hK hend ds _ (h4.put _ fun d' hm D' ht => by have := h3 d' hm D' ht; omega) (hK W D _ h1 hk h2)⟩⟩
theorem ownFrom_below' {β : Type} {B : Nat} {J : β → World → Prop} (hJ : OwnFrom B J) {s : β} {W W' : World} (h : J s W) (hb : Below W.heap.size W W') : J s W' :=
 hJ s W W' none h ⟨hb.os, hb.tape, hb.output, hb.size, fun k hk _ => hb.block k hk⟩ (fun r e => by cases e)
theorem ownFrom_row {β : Type} (B b : Nat) (T : TypeId) (cs : Array Value) : OwnFrom B (fun (_ : β) W => Row W b T cs) := fun _ X Y row hs hg hr =>
 (hg.block b (lt_of_block hs) (fun e => by
  obtain ⟨o, ho, hc⟩ := (hr b e.symm).2
  unfold Row at hs
  rw [hs] at ho; cases ho; cases hc)).trans hs
theorem ownFrom_kpf {β : Type} {n0 B : Nat} {w0 : World} (hn : n0 ≤ w0.heap.size) (hB : n0 ≤ B) : OwnFrom B (fun (_ : β) W => KpF n0 w0 W) := fun s X Y row hs hg hr =>
 ⟨ownFrom_below hn hB s X Y row hs.1 hg hr, fun b T cs h1 h2 h3 hrow => ownFrom_row B b T cs s X Y row (hs.2 b T cs h1 h2 h3 hrow) hg hr⟩
theorem map_prefix {α β : Type} (f : α → β) {a b : List α} (h : a <+: b) : a.map f <+: b.map f := by obtain ⟨t, rfl⟩ := h; exact ⟨t.map f, by simp⟩
theorem tab_prefix (s : List Tb) (db : List Dt) (wait : Bool) {i n : Nat} (h : i < n) : dbFw s db wait i ++ tabFw s db wait i <+: dbFw s db wait n := by
 obtain ⟨m, rfl⟩ := Nat.exists_eq_add_of_le (show i + 1 ≤ n by omega)
 have e : dbFw s db wait (i + 1 + m) = dbFw s db wait (i + 1) ++ ((List.range m).map fun k => i + 1 + k).flatMap (tabFw s db wait) := by
  unfold dbFw; rw [List.range_add, List.flatMap_append]
 rw [e, dbFw_succ]
 exact List.prefix_append _ _
theorem rows_prefix {α β : Type} (f : α → List β) (l : List α) {k : Nat} (h : k < l.length) : (l.take k).flatMap f ++ f l[k] <+: l.flatMap f := by
 rw [← flat_take f l k h]
 conv => rhs; rw [← List.take_append_drop (k + 1) l, List.flatMap_append]
 exact List.prefix_append _ _
theorem rowFlaws_prefix (s : List Tb) (db : List Dt) (wait : Bool) {i k n : Nat} (hi : i < s.length) (hid : i < db.length) (hn : i < n) (hk : k < db[i].rows.length) {q : List Int} (hq : q <+: rowK s db s[i] db[i].rows wait db[i].rows[k]) :
  dbFw s db wait i ++ (db[i].rows.take k).flatMap (rowFw s db s[i] db[i].rows wait i) ++ q.map (fun c => (⟨c, i, db[i].rows[k].id⟩ : Fw)) <+: dbFw s db wait n := by
 refine List.IsPrefix.trans ?_ (tab_prefix s db wait hn)
 rw [tabFw_at wait hi hid, List.append_assoc]
 refine (List.prefix_append_right_inj _).2 ?_
 refine List.IsPrefix.trans ?_ (rows_prefix (rowFw s db s[i] db[i].rows wait i) db[i].rows hk)
 refine (List.prefix_append_right_inj _).2 ?_
 rw [rowFw_K]
 exact map_prefix _ hq
theorem rowFlaws1_stops (n n0 : Nat) (AS AD AV : Option Addr) (nS cS nD cD cV b bl ol i : Nat) (s : List Tb) (db : List Dt) (x : Rw) (wait : Bool) (w : World)
  (H : RfIn n0 AS AD AV nS cS nD cD cV b bl ol i s db x wait w) (hi : i < s.length) (hid : i < db.length) (HX : RowIn s db s[i] x) (hss : szL Tb.sz s ≤ 1048576) (hrn : db[i].rows.length ≤ 1048576) (hdn : db.length ≤ 1048576) (hall : ∀ r ∈ db[i].rows, RowIn s db s[i] r) :
  SeqStopsK Fence.wide n Tryz.prog 100 #[.pointer (some ⟨b, 0, none⟩), .pointer (some ⟨b + 2, 0, none⟩), .pointer (some ⟨b + 3, 0, none⟩), .pointer (some ⟨b + 1, 0, none⟩), .pointer (some ⟨b + 4, 0, none⟩)] (fun y : Int => #[Value.int .i64 y]) (KpF n0)
   (fun ys => ys = rowK s db s[i] db[i].rows wait x) (fun pre => pre <+: rowK s db s[i] db[i].rows wait x) 4 w := fun l J Jx W hW hJ _ hY h0 =>
 rowFlaws1_in n l n0 AS AD AV nS cS nD cD cV b bl ol i s db x wait J Jx W (H.kp (KpF.below H.n0_le hW)) hi hid HX hss hrn hdn hall hJ hY h0
set_option maxHeartbeats 1000000 in
theorem implRowFlaws (AS AD ap : Option Addr) (nS cS nD cD i : Nat) (fn : Fn) (w : World) :
  Calls Tryz.prog 63 #[.slice AS nS cS, .slice AD nD cD, .int .i64 i, .pointer ap, .func fn #[] #[]] w fun e w' => e = .returned (.func (.func 100) #[] #[.pointer (some ⟨w.heap.size, 0, none⟩), .pointer (some ⟨w.heap.size + 2, 0, none⟩), .pointer (some ⟨w.heap.size + 3, 0, none⟩), .pointer (some ⟨w.heap.size + 1, 0, none⟩), .pointer (some ⟨w.heap.size + 4, 0, none⟩)]) ∧
   (Row w' w.heap.size 24 #[.slice AS nS cS] ∧ Row w' (w.heap.size + 1) 25 #[.slice AD nD cD] ∧ Row w' (w.heap.size + 2) 3 #[.int .i64 i] ∧ Row w' (w.heap.size + 3) 79 #[.pointer ap] ∧ Row w' (w.heap.size + 4) 71 #[.func fn #[] #[]]) ∧ Below w.heap.size w w' := by
 have b0 := (Below.refl w.heap.size w).alloc (Nat.le_refl _) (.cells #[.slice AS nS cS] 24)
 have b1 := b0.alloc b0.size (.cells #[.slice AD nD cD] 25)
 have b2 := b1.alloc b1.size (.cells #[.int .i64 i] 3)
 have b3 := b2.alloc b2.size (.cells #[.pointer ap] 79)
 have b4 := b3.alloc b3.size (.cells #[.func fn #[] #[]] 71)
 have r0 := ((((Row.newAt w 24 #[.slice AS nS cS] w.heap.size rfl).alloc (.cells #[.slice AD nD cD] 25)).alloc (.cells #[.int .i64 i] 3)).alloc (.cells #[.pointer ap] 79)).alloc (.cells #[.func fn #[] #[]] 71)
 have r1 := (((Row.newAt (w.alloc (.cells #[.slice AS nS cS] 24)) 25 #[.slice AD nD cD] (w.heap.size + 1) (by simp)).alloc (.cells #[.int .i64 i] 3)).alloc (.cells #[.pointer ap] 79)).alloc (.cells #[.func fn #[] #[]] 71)
 have r2 := ((Row.newAt ((w.alloc (.cells #[.slice AS nS cS] 24)).alloc (.cells #[.slice AD nD cD] 25)) 3 #[.int .i64 i] (w.heap.size + 2) (by simp)).alloc (.cells #[.pointer ap] 79)).alloc (.cells #[.func fn #[] #[]] 71)
 have r3 := (Row.newAt (((w.alloc (.cells #[.slice AS nS cS] 24)).alloc (.cells #[.slice AD nD cD] 25)).alloc (.cells #[.int .i64 i] 3)) 79 #[.pointer ap] (w.heap.size + 3) (by simp)).alloc (.cells #[.func fn #[] #[]] 71)
 have r4 := Row.newAt ((((w.alloc (.cells #[.slice AS nS cS] 24)).alloc (.cells #[.slice AD nD cD] 25)).alloc (.cells #[.int .i64 i] 3)).alloc (.cells #[.pointer ap] 79)) 71 #[.func fn #[] #[]] (w.heap.size + 4) (by simp)
 have HR := Lib.hid (And.intro (And.intro r0 (And.intro r1 (And.intro r2 (And.intro r3 r4)))) b4)
 clear b0 b1 b2 b3 b4 r0 r1 r2 r3 r4
 go_enter Tryz.func63, Tryz.ntmps63
 go_wp2
 go_ret
 exact ⟨rfl, HR.out⟩
set_option maxRecDepth 100000 in
set_option maxHeartbeats 16000000 in
theorem eachFlaw1_in (n l n0 : Nat) (hn : 6 ≤ n) (AS AD : Option Addr) (nS cS nD cD b : Nat) (s : List Tb) (db : List Dt) (wait : Bool) (J Jx : List Fw → World → Prop) (W : World)
  (H : EfIn n0 AS AD nS cS nD cD b s db wait W) (hlen : db.length = s.length) (hss : szL Tb.sz s ≤ 1048576) (hdz : ∀ d ∈ db, d.rows.length ≤ 1048576)
  (hall : ∀ (i : Nat) (h : i < s.length) (h' : i < db.length), ∀ x ∈ db[i].rows, RowIn s db s[i] x)
  (hJ : OwnFrom W.heap.size J) (hJx : OwnFrom W.heap.size Jx)
  (hY : ∀ pre x W1, J pre W1 → pre.length < 4194304 * s.length → YieldAt Fence.wide n Tryz.prog l #[.agg #[.int .i64 x.k, .int .i64 x.t, .int .i64 x.id]] W1 (RoundX W.heap.size (KpF n0) J Jx (pre ++ [x]) W1)) (h0 : J [] W) :
  CallsIn Fence.wide n Tryz.prog 62 #[.func (.yield l) #[] #[], .pointer (some ⟨b + 1, 0, none⟩), .pointer (some ⟨b, 0, none⟩), .pointer (some ⟨b + 2, 0, none⟩)] W fun e W' => (∃ v, e = .returned v) ∧ ((∃ xs, xs = dbFw s db wait s.length ∧ J xs W') ∨ (∃ pre, pre <+: dbFw s db wait s.length ∧ Jx pre W')) := by
 have hn0 := H.n0_le
 obtain rfl : s.length = nS := H.hs.1
 obtain rfl : db.length = nD := H.hd.1
 have HLN := Lib.hid hlen
 have HSS := Lib.hid hss
 have HDZ := Lib.hid hdz
 have HALL := Lib.hid hall
 have HJ := Lib.hid hJ
 have HJX := Lib.hid hJx
 have HY := Lib.hid hY
 have HE := Lib.hid H
 have hsn : s.length ≤ 1048576 := by unfold szL at hss; omega
 have bW := Row.newAt W 101 #[.func (.yield l) #[] #[]] W.heap.size rfl
 have kW : KpF n0 W (W.alloc (.cells #[.func (.yield l) #[] #[]] 101)) := KpF.below hn0 ((Below.refl _ W).alloc (Nat.le_refl _) _)
 have jW : J [] (W.alloc (.cells #[.func (.yield l) #[] #[]] 101)) := HJ.out.alloc _ h0
 have sW : W.heap.size ≤ (W.alloc (.cells #[.func (.yield l) #[] #[]] 101)).heap.size := by simp
 have c1 := (H.kp kW).s1.cell 0
 simp only [List.getElem?_toArray, List.getElem?_cons_zero] at c1
 clear H hss hdz hall hJ hJx hY h0 hlen
 refine callsIn_of_wp_marks Tryz.func62 rfl trivial ?_ rfl
 simp only [Tryz.ntmps62, List.size_toArray, List.length_cons, List.length_nil, Nat.reduceAdd, Nat.reduceSub, Array.replicate_succ, Array.replicate_zero, List.push_toArray, List.append_toArray, List.nil_append, List.cons_append]
 gi_wp2
 clear c1
 generalize W.alloc (.cells #[.func (.yield l) #[] #[]] 101) = W1 at *
 refine wpIn_loop (fun a' wr => ∃ (i : Nat) (u5 u6 u7 u8 u11 u12 u13 u14 u15 u16 u17 u18 u19 u20 u21 u22 u23 u24 u25 u26 u27 u28 u29 u30 u31 u32 u33 u34 u35 u36 u37 u38 u39 u40 u41 u42 u43 u44 u45 u46 u47 u48 : Value) (ds : List Deferred), i ≤ db.length ∧ u11 = .int .i64 i ∧ J (dbFw s db wait i) wr ∧ KpF n0 W1 wr ∧ W1.heap.size ≤ wr.heap.size ∧ Marks W.heap.size ds wr ∧ a' = { tmps := #[.func (.yield l) #[] #[], .pointer (some ⟨b + 1, 0, none⟩), .pointer (some ⟨b, 0, none⟩), .pointer (some ⟨b + 2, 0, none⟩), .pointer (some ⟨W.heap.size, 0, none⟩), u5, u6, u7, u8, .slice AD db.length cD, .int .i64 db.length, u11, u12, u13, u14, u15, u16, u17, u18, u19, u20, u21, u22, u23, u24, u25, u26, u27, u28, u29, u30, u31, u32, u33, u34, u35, u36, u37, u38, u39, u40, u41, u42, u43, u44, u45, u46, u47, u48], defers := ds }) (fun a' _ => db.length - (intOf (a'.tmps.getD 11 undef)).toNat) ?_ ?_
 ·exact ⟨0, _, _, _, _, _, _, _, _, _, _, _, _, _, _, _, _, _, _, _, _, _, _, _, _, _, _, _, _, _, _, _, _, _, _, _, _, _, _, _, _, _, _, [], by omega, rfl, jW, KpF.refl _ _, Nat.le_refl _, trivial, rfl⟩
 rintro a' wr ⟨i, u5, u6, u7, u8, u11, u12, u13, u14, u15, u16, u17, u18, u19, u20, u21, u22, u23, u24, u25, u26, u27, u28, u29, u30, u31, u32, u33, u34, u35, u36, u37, u38, u39, u40, u41, u42, u43, u44, u45, u46, u47, u48, ds, hi', rfl, hj, hk, hsz, hm, rfl⟩
 dsimp only
 have HM := Lib.hid hm
 have HEr := Lib.hid (HE.out.kp (kW.trans hk))
 by_cases hlt : i < db.length
 ·have hlts : i < s.length := by have := HLN.out; omega
  have hi0 : (0 : Int) ≤ i := by omega
  have hi1 : (i : Int) < db.length := by omega
  obtain ⟨bd, od, AL, nL, cL, hbd, eAD, p0, hrw, -⟩ := DtR.at_ HEr.out.hd hlt
  subst eAD
  obtain rfl : db[i].rows.length = nL := hrw.1
  have k2 : KpF n0 wr (wr.alloc (.cells #[.int .i64 i] 3)) := KpF.below HEr.out.n0_le ((Below.refl _ wr).alloc (Nat.le_refl _) _)
  have b5 := Row.newAt wr 3 #[.int .i64 i] wr.heap.size rfl
  have j2 : J (dbFw s db wait i) (wr.alloc (.cells #[.int .i64 i] 3)) := HJ.out.alloc _ hj
  have m2 : Marks W.heap.size ds (wr.alloc (.cells #[.int .i64 i] 3)) := HM.out.keep ((KeepsOthers.alloc _ _).from _)
  have s2 : wr.heap.size < (wr.alloc (.cells #[.int .i64 i] 3)).heap.size := by simp
  have c1 := (HEr.out.kp k2).s1.cell 0
  have c5 := b5.cell 0
  have p2 := (k2.1.cell (p := ⟨bd, od + i, none⟩) hbd).trans p0
  simp only [List.getElem?_toArray, List.getElem?_cons_zero] at c1 c5
  have hdl : db.length ≤ 1048576 := by have := HLN.out; omega
  have hrl : db[i].rows.length ≤ 1048576 := HDZ.out _ (List.getElem_mem hlt)
  clear hm hj
  gi_wp2
  clear c1 c5 p2
  generalize wr.alloc (.cells #[.int .i64 i] 3) = w2 at *
  have HE2 := Lib.hid (HEr.out.kp k2)
  generalize hB5 : wr.heap.size = B5 at *
  refine wpIn_loop (fun a' wq => ∃ (k : Nat) (u6 u7 u8 u12 u13 u14 u15 u16 u17 u20 u21 u22 u23 u24 u25 u26 u27 u28 u29 u30 u31 u32 u33 u34 u35 u36 u37 u38 u39 u40 u41 u42 u43 u44 u45 u46 u47 u48 : Value) (ds : List Deferred), k ≤ db[i].rows.length ∧ u20 = .int .i64 k ∧ J (dbFw s db wait i ++ (db[i].rows.take k).flatMap (rowFw s db s[i] db[i].rows wait i)) wq ∧ KpF n0 w2 wq ∧ w2.heap.size ≤ wq.heap.size ∧ Marks W.heap.size ds wq ∧ a' = { tmps := #[.func (.yield l) #[] #[], .pointer (some ⟨b + 1, 0, none⟩), .pointer (some ⟨b, 0, none⟩), .pointer (some ⟨b + 2, 0, none⟩), .pointer (some ⟨W.heap.size, 0, none⟩), .pointer (some ⟨B5, 0, none⟩), u6, u7, u8, .slice (some ⟨bd, od, none⟩) db.length cD, .int .i64 db.length, .int .i64 i, u12, u13, u14, u15, u16, u17, .slice AL db[i].rows.length cL, .int .i64 db[i].rows.length, u20, u21, u22, u23, u24, u25, u26, u27, u28, u29, u30, u31, u32, u33, u34, u35, u36, u37, u38, u39, u40, u41, u42, u43, u44, u45, u46, u47, u48], defers := ds }) (fun a' _ => db[i].rows.length - (intOf (a'.tmps.getD 20 undef)).toNat) ?_ ?_
  ·exact ⟨0, _, _, _, _, _, _, _, _, _, _, _, _, _, _, _, _, _, _, _, _, _, _, _, _, _, _, _, _, _, _, _, _, _, _, _, _, _, _, ds, by omega, rfl, by simpa using j2, KpF.refl _ _, Nat.le_refl _, m2, rfl⟩
  clear j2 m2
  rintro a' wq ⟨k, u6, u7, u8, u12, u13, u14, u15, u16, u17, u20, u21, u22, u23, u24, u25, u26, u27, u28, u29, u30, u31, u32, u33, u34, u35, u36, u37, u38, u39, u40, u41, u42, u43, u44, u45, u46, u47, u48, ds, hk', rfl, hj, hkq, hszq, hm, rfl⟩
  dsimp only
  have HMq := Lib.hid hm
  have HEq := Lib.hid (HE2.out.kp hkq)
  by_cases hkt : k < db[i].rows.length
  ·have hk0 : (0 : Int) ≤ k := by omega
   have hk1 : (k : Int) < db[i].rows.length := by omega
   obtain ⟨bd', od', AL', nL', cL', -, eAD, p0q, hrq, -⟩ := DtR.at_ HEq.out.hd hlt
   injection eAD with eAD
   injection eAD with e1 e2
   subst e1 e2
   have p0w := ((k2.trans hkq).1.cell (p := ⟨bd, od + i, none⟩) hbd).trans p0
   rw [p0w] at p0q
   injection p0q with p0q
   injection p0q with e1 e2 e3
   subst e1 e2 e3
   obtain ⟨bl, ol, B1, k1, e1, hbl, eAL, z0, z1, hv, -⟩ := RwR.at_ hrq hkt
   subst eAL
   obtain rfl : db[i].rows[k].vals.length = k1 := hv.1
   have k3 : KpF n0 wq (wq.alloc (.cells #[.pointer (some ⟨bl, ol + k * 2, none⟩)] 79)) := KpF.below HEq.out.n0_le ((Below.refl _ wq).alloc (Nat.le_refl _) _)
   have b7 := Row.newAt wq 79 #[.pointer (some ⟨bl, ol + k * 2, none⟩)] wq.heap.size rfl
   have b5q := hkq.2 B5 3 _ (by decide) (by decide) (by decide) b5
   have j3 : J _ (wq.alloc (.cells #[.pointer (some ⟨bl, ol + k * 2, none⟩)] 79)) := HJ.out.alloc _ hj
   have m3 : Marks W.heap.size ds (wq.alloc (.cells #[.pointer (some ⟨bl, ol + k * 2, none⟩)] 79)) := HMq.out.keep ((KeepsOthers.alloc _ _).from _)
   have s3 : wq.heap.size < (wq.alloc (.cells #[.pointer (some ⟨bl, ol + k * 2, none⟩)] 79)).heap.size := by simp
   have bW3 := (((hk.trans k2).trans hkq).trans k3).2 _ 101 _ (by decide) (by decide) (by decide) bW
   have b53 := k3.2 B5 3 _ (by decide) (by decide) (by decide) b5q
   have HE3 := Lib.hid (HEq.out.kp k3)
   have y1 := HEq.out.s1.cell 0
   have y5 := b5q.cell 0
   have v0 := HE3.out.s0.cell 0
   have v1 := HE3.out.s1.cell 0
   have v2 := HE3.out.s2.cell 0
   have v5 := b53.cell 0
   have v7 := b7.cell 0
   simp only [List.getElem?_toArray, List.getElem?_cons_zero] at y1 y5 v0 v1 v2 v5 v7
   clear hj hm
   gi_wp2_with fail
   clear y1 y5 v0 v1 v2 v5 v7
   generalize wq.alloc (.cells #[.pointer (some ⟨bl, ol + k * 2, none⟩)] 79) = w3 at *
   generalize hB7 : wq.heap.size = B7 at *
   refine ⟨trivial, fun h => (by cases h), (callsIn_wide.2 (implRowFlaws AS (some ⟨bd, od, none⟩) (some ⟨bl, ol + k * 2, none⟩) s.length cS db.length cD i (askN wait) w3)).mono ?_⟩
   rintro e w4 ⟨rfl, ⟨R0, R1, R2, R3, R4⟩, hb4⟩
   have k4 : KpF n0 w3 w4 := KpF.below HE3.out.n0_le hb4
   have f34 : KeepsFrom W.heap.size w3 w4 := ⟨hb4.size, fun z o _ hz _ => (hb4.block z (Array.getElem?_eq_some_iff.1 hz).1).trans hz⟩
   have j4 := ownFrom_below' HJ.out j3 hb4
   have m4 := m3.keep f34
   have HE4 := Lib.hid (HE3.out.kp k4)
   have kq4 := k3.trans k4
   have RF : RfIn n0 AS (some ⟨bd, od, none⟩) B1 s.length cS db.length cD e1 w3.heap.size bl (ol + k * 2) i s db db[i].rows[k] wait w4 :=
    ⟨HE3.out.n0_le, R0, R1, R2, R3, R4, HE4.out.hs, HE4.out.hd, hbl, (kq4.1.cell (p := ⟨bl, ol + k * 2, none⟩) hbl).trans z0, (kq4.1.cell (p := ⟨bl, ol + k * 2 + 1, none⟩) hbl).trans z1, hv.low VlR.stays kq4.1⟩
   have RF := Lib.hid RF
   have bW4 := Lib.hid (k4.2 _ 101 _ (by decide) (by decide) (by decide) bW3)
   have b54 := Lib.hid (k4.2 B5 3 _ (by decide) (by decide) (by decide) b53)
   have b74 := Lib.hid (k4.2 B7 79 _ (by decide) (by decide) (by decide) b7)
   have z04 := Lib.hid ((kq4.1.cell (p := ⟨bl, ol + k * 2, none⟩) hbl).trans z0)
   have hs4 := hb4.size
   have HM4 := Lib.hid m4
   have HJ4 := Lib.hid j4
   clear R0 R1 R2 R3 R4 b53 b7 bW3 j3 m3 m4 j4 b5q z0 z1
   gi_wp2_with fail
   have HDL := Lib.hid (dbFw_len (s := s) wait HDZ.out i)
   have HFB := Lib.hid (flat_bound (rowFw s db s[i] db[i].rows wait i) 4 (db[i].rows.take k) fun x _ => rowFw_len _ _ _ _ _ _ _)
   refine wpIn_rangeFunc_ownH rfl (by omega) (gf := 100) (lb := #[.pointer (some ⟨w3.heap.size, 0, none⟩), .pointer (some ⟨w3.heap.size + 2, 0, none⟩), .pointer (some ⟨w3.heap.size + 3, 0, none⟩), .pointer (some ⟨w3.heap.size + 1, 0, none⟩), .pointer (some ⟨w3.heap.size + 4, 0, none⟩)]) rfl trivial (enters_of Tryz.func100 (by kernel_rfl) rfl)
    (rowFlaws1_stops (n - 1) n0 AS (some ⟨bd, od, none⟩) B1 s.length cS db.length cD e1 w3.heap.size bl (ol + k * 2) i s db db[i].rows[k] wait w4 RF.out hlts hlt (HALL.out i hlts hlt _ (List.getElem_mem hkt)) HSS.out hrl hdl (HALL.out i hlts hlt)) (fun h k => h.trans k) (fun W l o o' hl h hc _ => KpF.put o' (by have := HE3.out.n0_le; omega) h hc) (Below.refl _ _) (fun _ => rfl)
    (fun pre W' => J (dbFw s db wait i ++ (db[i].rows.take k).flatMap (rowFw s db s[i] db[i].rows wait i) ++ pre.map (fun c => (⟨c, i, db[i].rows[k].id⟩ : Fw))) W' ∧ KpF n0 w4 W' ∧ KeepsFrom W.heap.size w4 W')
    (fun c pre W' => c = .ret ∧ Jx (dbFw s db wait i ++ (db[i].rows.take k).flatMap (rowFw s db s[i] db[i].rows wait i) ++ pre.map (fun c => (⟨c, i, db[i].rows[k].id⟩ : Fw))) W' ∧ KeepsFrom W.heap.size w4 W')
    (OwnFrom.and (fun pre X Y row hs hg hr => HJ.out _ X Y row hs hg (fun r e => ⟨by have := (hr r e).1; omega, (hr r e).2⟩)) (OwnFrom.and (ownFrom_kpf (by have := HE3.out.n0_le; omega) (by have := HE3.out.n0_le; omega)) (ownFrom_keepsFrom (Nat.le_refl _))))
    (fun c => OwnFrom.and (ownFrom_pure _ _) (OwnFrom.and (fun pre X Y row hs hg hr => HJX.out _ X Y row hs hg (fun r e => ⟨by have := (hr r e).1; omega, (hr r e).2⟩)) (ownFrom_keepsFrom (Nat.le_refl _))))
    ⟨by simpa using HJ4.out, KpF.refl _ _, KeepsFrom.refl _ _⟩
    (fun kd a' _ => ∃ u0 u1 u2 u3 u6 u9 u10 u11 u12 u13 u14 u15 u16 u17 u18 u19 u20 u21 u22 u23 u24 u25 u26 u27 u28 u29 u30 u31 u32 u33 u34 u35 u36 u37 u38 u39 u40 u41 u42 u43 u44 u45 u46 u47 u48 : Value, a' = { tmps := #[u0, u1, u2, u3, .pointer (some ⟨W.heap.size, 0, none⟩), .pointer (some ⟨B5, 0, none⟩), u6, .pointer (some ⟨B7, 0, none⟩), .int .i64 kd, u9, u10, u11, u12, u13, u14, u15, u16, u17, u18, u19, u20, u21, u22, u23, u24, u25, u26, u27, u28, u29, u30, u31, u32, u33, u34, u35, u36, u37, u38, u39, u40, u41, u42, u43, u44, u45, u46, u47, u48], defers := [] })
    (fun _ _ _ _ _ _ hs _ _ => hs)
    ?assign ?body ?done ?stop
   case assign =>
    rintro l2 pre kd W' K hi hK
    gi_wp2
    exact hK _ _ (KeepsFrom.refl _ _) (KpF.refl _ _) hi ⟨_, _, _, _, _, _, _, _, _, _, _, _, _, _, _, _, _, _, _, _, _, _, _, _, _, _, _, _, _, _, _, _, _, _, _, _, _, _, _, _, _, _, _, _, _, rfl⟩
   case body =>
    rintro l2 pre kd a' W' hl2 - ⟨hj5, hk5, hf5⟩ ⟨u0, u1, u2, u3, u6, u9, u10, u11, u12, u13, u14, u15, u16, u17, u18, u19, u20, u21, u22, u23, u24, u25, u26, u27, u28, u29, u30, u31, u32, u33, u34, u35, u36, u37, u38, u39, u40, u41, u42, u43, u44, u45, u46, u47, u48, rfl⟩ hlt4
    have x4 := (hk5.2 _ 101 _ (by decide) (by decide) (by decide) bW4.out).cell 0
    have x5 := (hk5.2 B5 3 _ (by decide) (by decide) (by decide) b54.out).cell 0
    have x7 := (hk5.2 B7 79 _ (by decide) (by decide) (by decide) b74.out).cell 0
    have x8 := (hk5.1.cell (p := ⟨bl, ol + k * 2, none⟩) hbl).trans z04.out
    simp only [List.getElem?_toArray, List.getElem?_cons_zero] at x4 x5 x7
    have d4 : W'.drew.cell? ⟨W.heap.size, 0, none⟩ = some (.func (.yield l) #[] #[]) := x4
    have d5 : W'.drew.cell? ⟨B5, 0, none⟩ = some (.int .i64 i) := x5
    have d7 : W'.drew.cell? ⟨B7, 0, none⟩ = some (.pointer (some ⟨bl, ol + k * 2, none⟩)) := x7
    have d8 : W'.drew.cell? ⟨bl, ol + k * 2, none⟩ = some (.int .i64 db[i].rows[k].id) := x8
    have hj5d := ownFrom_below' HJ.out hj5 ((Below.refl W'.heap.size W').drew)
    have hbound : (dbFw s db wait i ++ (db[i].rows.take k).flatMap (rowFw s db s[i] db[i].rows wait i) ++ pre.map (fun c => (⟨c, i, db[i].rows[k].id⟩ : Fw))).length < 4194304 * s.length := by
     rw [List.length_append, List.length_append, List.length_map]
     have h1 := HDL.out
     have h2 := HFB.out
     rw [List.length_take] at h2
     have h3 : 4194304 * i + 4194304 ≤ 4194304 * s.length := by omega
     omega
    obtain ⟨fn, tq, asg, bo, hy, hR⟩ := HY.out _ ⟨kd, i, db[i].rows[k].id⟩ W'.drew hj5d hbound
    clear x4 x5 x7 x8 hj5 hj5d hbound
    dsimp only at hy
    gi_wp2_with fail
    refine wpIn_region_any (by kernel_rfl) (wpAnyIn_round rfl ?nodefer _ _ _ _ ?_)
    case nodefer =>
     intro o ho ρ
     simp only [List.mem_toArray, List.mem_cons, List.not_mem_nil, or_false] at ho
     rcases ho with rfl | rfl | rfl | rfl | rfl | rfl | rfl | rfl | rfl | rfl <;> rfl
    change wpAnyIn _ _ _ _ _ _ _ _ _ (World.drew _)
    refine wpAnyIn_take (i := 1) (v := .int .i64 kd) rfl rfl (by kernel_rfl) (by kernel_rfl) (by kernel_rfl) (fun _ _ _ h => h) ⟨Or.inl ⟨by rfl, fun w => by go_simp⟩, fun _ => rfl⟩ ?_
    refine wpAnyIn_ready (rs := [0, 2, 3]) (by kernel_rfl) (by simp) ?_
    refine AllReadyIn.cons rfl (fun K hK => ?_) ?_
    ·go_simp
     refine hK _ _ ?_
     clear hK K
     refine wpAnyIn_ready (rs := [2, 3]) (by kernel_rfl) (by simp) ?_
     refine AllReadyIn.cons rfl (fun K hK => ?_) ?_
     ·go_simp
      refine hK _ _ ?_
      clear hK K
      refine wpAnyIn_ready (rs := [3]) (by kernel_rfl) (by simp) ?_
      refine AllReadyIn.cons rfl (fun K hK => ?_) ?_
      ·go_simp
       refine hK _ _ ?_
       clear hK K
       refine wpAnyIn_take (i := 4) (v := .pointer (some ⟨bl, ol + k * 2, none⟩)) rfl rfl (by kernel_rfl) (by kernel_rfl) (by kernel_rfl) (fun _ _ _ h => h) ⟨Or.inl ⟨by rfl, fun w => by go_simp⟩, fun _ => rfl⟩ ?_
       refine wpAnyIn_take (i := 5) (v := .pointer (some ⟨bl, ol + k * 2, none⟩)) rfl rfl (by kernel_rfl) (by kernel_rfl) (by kernel_rfl) (fun _ _ _ h => h) ⟨Or.inl ⟨by rfl, fun w => by go_simp⟩, fun _ => rfl⟩ ?_
       refine wpAnyIn_ready (rs := [6]) (by kernel_rfl) (by simp) ?_
       refine AllReadyIn.cons rfl (fun K hK => ?_) ?_
       ·go_simp
        refine hK _ _ ?_
        clear hK K
        refine wpAnyIn_take (i := 7) (v := .agg #[.int .i64 kd, .int .i64 i, .int .i64 db[i].rows[k].id]) rfl rfl (by kernel_rfl) (by kernel_rfl) (by kernel_rfl) (fun _ _ _ h => h) ⟨Or.inl ⟨by rfl, fun w => by go_simp⟩, fun _ => rfl⟩ ?_
        refine wpAnyIn_ready (rs := [8]) (by kernel_rfl) (by simp) ?_
        refine AllReadyIn.cons rfl (fun K hK => ?_) AllReadyIn.nil
        go_simp
        refine ⟨fun h => (by cases h), (roundIn_any hR).mono ?_⟩
        rintro e W5 ⟨hkf, h6⟩
        have hkg : KeepsFrom W.heap.size W' W5 := ⟨hkf.size, fun z o hz h ho => hkf.same z o hz h ho⟩
        rcases h6 with ⟨rfl, hj6, hk6⟩ | ⟨rfl, hx6⟩
        ·refine hK _ _ ?_
         clear hK K
         refine wpAnyIn_take (i := 9) (v := .bool false) rfl rfl (by kernel_rfl) (by kernel_rfl) (by kernel_rfl) (fun _ _ _ h => h) ⟨Or.inl ⟨by rfl, fun w => by go_simp⟩, fun _ => rfl⟩ ?_
         refine wpAnyIn_done (by kernel_rfl) ?_ _
         gi_wp2_with fail
         exact ⟨⟨hkg.size, fun z o hz h ho => hkg.same z o (by omega) h ho⟩, ⟨((Below.refl n0 W').drew).trans hk6.1, fun z T cs h1 h2 h3 hr => hk6.2 z T cs h1 h2 h3 hr⟩, by rw [List.map_append, ← List.append_assoc]; exact hj6, hk5.trans ⟨((Below.refl n0 W').drew).trans hk6.1, fun z T cs h1 h2 h3 hr => hk6.2 z T cs h1 h2 h3 hr⟩, hf5.trans hkg⟩
        ·refine hK _ _ ?_
         clear hK K
         refine wpAnyIn_take (i := 9) (v := .bool true) rfl rfl (by kernel_rfl) (by kernel_rfl) (by kernel_rfl) (fun _ _ _ h => h) ⟨Or.inl ⟨by rfl, fun w => by go_simp⟩, fun _ => rfl⟩ ?_
         refine wpAnyIn_done (by kernel_rfl) ?_ _
         gi_wp2_with fail
         exact ⟨⟨hkg.size, fun z o hz h ho => hkg.same z o (by omega) h ho⟩, rfl, by rw [List.map_append, ← List.append_assoc]; exact hx6, hf5.trans hkg⟩
       exact AllReadyIn.nil
      exact AllReadyIn.nil
     refine AllReadyIn.cons rfl (fun K hK => ?_) ?_
     ·go_simp
      refine hK _ _ ?_
      clear hK K
      refine wpAnyIn_take (i := 4) (v := .pointer (some ⟨bl, ol + k * 2, none⟩)) rfl rfl (by kernel_rfl) (by kernel_rfl) (by kernel_rfl) (fun _ _ _ h => h) ⟨Or.inl ⟨by rfl, fun w => by go_simp⟩, fun _ => rfl⟩ ?_
      refine wpAnyIn_take (i := 5) (v := .pointer (some ⟨bl, ol + k * 2, none⟩)) rfl rfl (by kernel_rfl) (by kernel_rfl) (by kernel_rfl) (fun _ _ _ h => h) ⟨Or.inl ⟨by rfl, fun w => by go_simp⟩, fun _ => rfl⟩ ?_
      refine wpAnyIn_ready (rs := [2, 6]) (by kernel_rfl) (by simp) ?_
      refine AllReadyIn.cons rfl (fun K hK => ?_) ?_
      ·go_simp
       refine hK _ _ ?_
       clear hK K
       refine wpAnyIn_ready (rs := [6]) (by kernel_rfl) (by simp) ?_
       refine AllReadyIn.cons rfl (fun K hK => ?_) ?_
       ·go_simp
        refine hK _ _ ?_
        clear hK K
        refine wpAnyIn_take (i := 7) (v := .agg #[.int .i64 kd, .int .i64 i, .int .i64 db[i].rows[k].id]) rfl rfl (by kernel_rfl) (by kernel_rfl) (by kernel_rfl) (fun _ _ _ h => h) ⟨Or.inl ⟨by rfl, fun w => by go_simp⟩, fun _ => rfl⟩ ?_
        refine wpAnyIn_ready (rs := [8]) (by kernel_rfl) (by simp) ?_
        refine AllReadyIn.cons rfl (fun K hK => ?_) AllReadyIn.nil
        go_simp
        refine ⟨fun h => (by cases h), (roundIn_any hR).mono ?_⟩
        rintro e W5 ⟨hkf, h6⟩
        have hkg : KeepsFrom W.heap.size W' W5 := ⟨hkf.size, fun z o hz h ho => hkf.same z o hz h ho⟩
        rcases h6 with ⟨rfl, hj6, hk6⟩ | ⟨rfl, hx6⟩
        ·refine hK _ _ ?_
         clear hK K
         refine wpAnyIn_take (i := 9) (v := .bool false) rfl rfl (by kernel_rfl) (by kernel_rfl) (by kernel_rfl) (fun _ _ _ h => h) ⟨Or.inl ⟨by rfl, fun w => by go_simp⟩, fun _ => rfl⟩ ?_
         refine wpAnyIn_done (by kernel_rfl) ?_ _
         gi_wp2_with fail
         exact ⟨⟨hkg.size, fun z o hz h ho => hkg.same z o (by omega) h ho⟩, ⟨((Below.refl n0 W').drew).trans hk6.1, fun z T cs h1 h2 h3 hr => hk6.2 z T cs h1 h2 h3 hr⟩, by rw [List.map_append, ← List.append_assoc]; exact hj6, hk5.trans ⟨((Below.refl n0 W').drew).trans hk6.1, fun z T cs h1 h2 h3 hr => hk6.2 z T cs h1 h2 h3 hr⟩, hf5.trans hkg⟩
        ·refine hK _ _ ?_
         clear hK K
         refine wpAnyIn_take (i := 9) (v := .bool true) rfl rfl (by kernel_rfl) (by kernel_rfl) (by kernel_rfl) (fun _ _ _ h => h) ⟨Or.inl ⟨by rfl, fun w => by go_simp⟩, fun _ => rfl⟩ ?_
         refine wpAnyIn_done (by kernel_rfl) ?_ _
         gi_wp2_with fail
         exact ⟨⟨hkg.size, fun z o hz h ho => hkg.same z o (by omega) h ho⟩, rfl, by rw [List.map_append, ← List.append_assoc]; exact hx6, hf5.trans hkg⟩
       exact AllReadyIn.nil
      refine AllReadyIn.cons rfl (fun K hK => ?_) ?_
      ·go_simp
       refine hK _ _ ?_
       clear hK K
       refine wpAnyIn_ready (rs := [2]) (by kernel_rfl) (by simp) ?_
       refine AllReadyIn.cons rfl (fun K hK => ?_) ?_
       ·go_simp
        refine hK _ _ ?_
        clear hK K
        refine wpAnyIn_take (i := 7) (v := .agg #[.int .i64 kd, .int .i64 i, .int .i64 db[i].rows[k].id]) rfl rfl (by kernel_rfl) (by kernel_rfl) (by kernel_rfl) (fun _ _ _ h => h) ⟨Or.inl ⟨by rfl, fun w => by go_simp⟩, fun _ => rfl⟩ ?_
        refine wpAnyIn_ready (rs := [8]) (by kernel_rfl) (by simp) ?_
        refine AllReadyIn.cons rfl (fun K hK => ?_) AllReadyIn.nil
        go_simp
        refine ⟨fun h => (by cases h), (roundIn_any hR).mono ?_⟩
        rintro e W5 ⟨hkf, h6⟩
        have hkg : KeepsFrom W.heap.size W' W5 := ⟨hkf.size, fun z o hz h ho => hkf.same z o hz h ho⟩
        rcases h6 with ⟨rfl, hj6, hk6⟩ | ⟨rfl, hx6⟩
        ·refine hK _ _ ?_
         clear hK K
         refine wpAnyIn_take (i := 9) (v := .bool false) rfl rfl (by kernel_rfl) (by kernel_rfl) (by kernel_rfl) (fun _ _ _ h => h) ⟨Or.inl ⟨by rfl, fun w => by go_simp⟩, fun _ => rfl⟩ ?_
         refine wpAnyIn_done (by kernel_rfl) ?_ _
         gi_wp2_with fail
         exact ⟨⟨hkg.size, fun z o hz h ho => hkg.same z o (by omega) h ho⟩, ⟨((Below.refl n0 W').drew).trans hk6.1, fun z T cs h1 h2 h3 hr => hk6.2 z T cs h1 h2 h3 hr⟩, by rw [List.map_append, ← List.append_assoc]; exact hj6, hk5.trans ⟨((Below.refl n0 W').drew).trans hk6.1, fun z T cs h1 h2 h3 hr => hk6.2 z T cs h1 h2 h3 hr⟩, hf5.trans hkg⟩
        ·refine hK _ _ ?_
         clear hK K
         refine wpAnyIn_take (i := 9) (v := .bool true) rfl rfl (by kernel_rfl) (by kernel_rfl) (by kernel_rfl) (fun _ _ _ h => h) ⟨Or.inl ⟨by rfl, fun w => by go_simp⟩, fun _ => rfl⟩ ?_
         refine wpAnyIn_done (by kernel_rfl) ?_ _
         gi_wp2_with fail
         exact ⟨⟨hkg.size, fun z o hz h ho => hkg.same z o (by omega) h ho⟩, rfl, by rw [List.map_append, ← List.append_assoc]; exact hx6, hf5.trans hkg⟩
       exact AllReadyIn.nil
      exact AllReadyIn.nil
     exact AllReadyIn.nil
    refine AllReadyIn.cons rfl (fun K hK => ?_) ?_
    ·go_simp
     refine hK _ _ ?_
     clear hK K
     refine wpAnyIn_ready (rs := [0, 3]) (by kernel_rfl) (by simp) ?_
     refine AllReadyIn.cons rfl (fun K hK => ?_) ?_
     ·go_simp
      refine hK _ _ ?_
      clear hK K
      refine wpAnyIn_ready (rs := [3]) (by kernel_rfl) (by simp) ?_
      refine AllReadyIn.cons rfl (fun K hK => ?_) ?_
      ·go_simp
       refine hK _ _ ?_
       clear hK K
       refine wpAnyIn_take (i := 4) (v := .pointer (some ⟨bl, ol + k * 2, none⟩)) rfl rfl (by kernel_rfl) (by kernel_rfl) (by kernel_rfl) (fun _ _ _ h => h) ⟨Or.inl ⟨by rfl, fun w => by go_simp⟩, fun _ => rfl⟩ ?_
       refine wpAnyIn_take (i := 5) (v := .pointer (some ⟨bl, ol + k * 2, none⟩)) rfl rfl (by kernel_rfl) (by kernel_rfl) (by kernel_rfl) (fun _ _ _ h => h) ⟨Or.inl ⟨by rfl, fun w => by go_simp⟩, fun _ => rfl⟩ ?_
       refine wpAnyIn_ready (rs := [6]) (by kernel_rfl) (by simp) ?_
       refine AllReadyIn.cons rfl (fun K hK => ?_) ?_
       ·go_simp
        refine hK _ _ ?_
        clear hK K
        refine wpAnyIn_take (i := 7) (v := .agg #[.int .i64 kd, .int .i64 i, .int .i64 db[i].rows[k].id]) rfl rfl (by kernel_rfl) (by kernel_rfl) (by kernel_rfl) (fun _ _ _ h => h) ⟨Or.inl ⟨by rfl, fun w => by go_simp⟩, fun _ => rfl⟩ ?_
        refine wpAnyIn_ready (rs := [8]) (by kernel_rfl) (by simp) ?_
        refine AllReadyIn.cons rfl (fun K hK => ?_) AllReadyIn.nil
        go_simp
        refine ⟨fun h => (by cases h), (roundIn_any hR).mono ?_⟩
        rintro e W5 ⟨hkf, h6⟩
        have hkg : KeepsFrom W.heap.size W' W5 := ⟨hkf.size, fun z o hz h ho => hkf.same z o hz h ho⟩
        rcases h6 with ⟨rfl, hj6, hk6⟩ | ⟨rfl, hx6⟩
        ·refine hK _ _ ?_
         clear hK K
         refine wpAnyIn_take (i := 9) (v := .bool false) rfl rfl (by kernel_rfl) (by kernel_rfl) (by kernel_rfl) (fun _ _ _ h => h) ⟨Or.inl ⟨by rfl, fun w => by go_simp⟩, fun _ => rfl⟩ ?_
         refine wpAnyIn_done (by kernel_rfl) ?_ _
         gi_wp2_with fail
         exact ⟨⟨hkg.size, fun z o hz h ho => hkg.same z o (by omega) h ho⟩, ⟨((Below.refl n0 W').drew).trans hk6.1, fun z T cs h1 h2 h3 hr => hk6.2 z T cs h1 h2 h3 hr⟩, by rw [List.map_append, ← List.append_assoc]; exact hj6, hk5.trans ⟨((Below.refl n0 W').drew).trans hk6.1, fun z T cs h1 h2 h3 hr => hk6.2 z T cs h1 h2 h3 hr⟩, hf5.trans hkg⟩
        ·refine hK _ _ ?_
         clear hK K
         refine wpAnyIn_take (i := 9) (v := .bool true) rfl rfl (by kernel_rfl) (by kernel_rfl) (by kernel_rfl) (fun _ _ _ h => h) ⟨Or.inl ⟨by rfl, fun w => by go_simp⟩, fun _ => rfl⟩ ?_
         refine wpAnyIn_done (by kernel_rfl) ?_ _
         gi_wp2_with fail
         exact ⟨⟨hkg.size, fun z o hz h ho => hkg.same z o (by omega) h ho⟩, rfl, by rw [List.map_append, ← List.append_assoc]; exact hx6, hf5.trans hkg⟩
       exact AllReadyIn.nil
      exact AllReadyIn.nil
     refine AllReadyIn.cons rfl (fun K hK => ?_) ?_
     ·go_simp
      refine hK _ _ ?_
      clear hK K
      refine wpAnyIn_take (i := 4) (v := .pointer (some ⟨bl, ol + k * 2, none⟩)) rfl rfl (by kernel_rfl) (by kernel_rfl) (by kernel_rfl) (fun _ _ _ h => h) ⟨Or.inl ⟨by rfl, fun w => by go_simp⟩, fun _ => rfl⟩ ?_
      refine wpAnyIn_take (i := 5) (v := .pointer (some ⟨bl, ol + k * 2, none⟩)) rfl rfl (by kernel_rfl) (by kernel_rfl) (by kernel_rfl) (fun _ _ _ h => h) ⟨Or.inl ⟨by rfl, fun w => by go_simp⟩, fun _ => rfl⟩ ?_
      refine wpAnyIn_ready (rs := [0, 6]) (by kernel_rfl) (by simp) ?_
      refine AllReadyIn.cons rfl (fun K hK => ?_) ?_
      ·go_simp
       refine hK _ _ ?_
       clear hK K
       refine wpAnyIn_ready (rs := [6]) (by kernel_rfl) (by simp) ?_
       refine AllReadyIn.cons rfl (fun K hK => ?_) ?_
       ·go_simp
        refine hK _ _ ?_
        clear hK K
        refine wpAnyIn_take (i := 7) (v := .agg #[.int .i64 kd, .int .i64 i, .int .i64 db[i].rows[k].id]) rfl rfl (by kernel_rfl) (by kernel_rfl) (by kernel_rfl) (fun _ _ _ h => h) ⟨Or.inl ⟨by rfl, fun w => by go_simp⟩, fun _ => rfl⟩ ?_
        refine wpAnyIn_ready (rs := [8]) (by kernel_rfl) (by simp) ?_
        refine AllReadyIn.cons rfl (fun K hK => ?_) AllReadyIn.nil
        go_simp
        refine ⟨fun h => (by cases h), (roundIn_any hR).mono ?_⟩
        rintro e W5 ⟨hkf, h6⟩
        have hkg : KeepsFrom W.heap.size W' W5 := ⟨hkf.size, fun z o hz h ho => hkf.same z o hz h ho⟩
        rcases h6 with ⟨rfl, hj6, hk6⟩ | ⟨rfl, hx6⟩
        ·refine hK _ _ ?_
         clear hK K
         refine wpAnyIn_take (i := 9) (v := .bool false) rfl rfl (by kernel_rfl) (by kernel_rfl) (by kernel_rfl) (fun _ _ _ h => h) ⟨Or.inl ⟨by rfl, fun w => by go_simp⟩, fun _ => rfl⟩ ?_
         refine wpAnyIn_done (by kernel_rfl) ?_ _
         gi_wp2_with fail
         exact ⟨⟨hkg.size, fun z o hz h ho => hkg.same z o (by omega) h ho⟩, ⟨((Below.refl n0 W').drew).trans hk6.1, fun z T cs h1 h2 h3 hr => hk6.2 z T cs h1 h2 h3 hr⟩, by rw [List.map_append, ← List.append_assoc]; exact hj6, hk5.trans ⟨((Below.refl n0 W').drew).trans hk6.1, fun z T cs h1 h2 h3 hr => hk6.2 z T cs h1 h2 h3 hr⟩, hf5.trans hkg⟩
        ·refine hK _ _ ?_
         clear hK K
         refine wpAnyIn_take (i := 9) (v := .bool true) rfl rfl (by kernel_rfl) (by kernel_rfl) (by kernel_rfl) (fun _ _ _ h => h) ⟨Or.inl ⟨by rfl, fun w => by go_simp⟩, fun _ => rfl⟩ ?_
         refine wpAnyIn_done (by kernel_rfl) ?_ _
         gi_wp2_with fail
         exact ⟨⟨hkg.size, fun z o hz h ho => hkg.same z o (by omega) h ho⟩, rfl, by rw [List.map_append, ← List.append_assoc]; exact hx6, hf5.trans hkg⟩
       exact AllReadyIn.nil
      refine AllReadyIn.cons rfl (fun K hK => ?_) ?_
      ·go_simp
       refine hK _ _ ?_
       clear hK K
       refine wpAnyIn_take (i := 7) (v := .agg #[.int .i64 kd, .int .i64 i, .int .i64 db[i].rows[k].id]) rfl rfl (by kernel_rfl) (by kernel_rfl) (by kernel_rfl) (fun _ _ _ h => h) ⟨Or.inl ⟨by rfl, fun w => by go_simp⟩, fun _ => rfl⟩ ?_
       refine wpAnyIn_ready (rs := [0]) (by kernel_rfl) (by simp) ?_
       refine AllReadyIn.cons rfl (fun K hK => ?_) ?_
       ·go_simp
        refine hK _ _ ?_
        clear hK K
        refine wpAnyIn_ready (rs := [8]) (by kernel_rfl) (by simp) ?_
        refine AllReadyIn.cons rfl (fun K hK => ?_) AllReadyIn.nil
        go_simp
        refine ⟨fun h => (by cases h), (roundIn_any hR).mono ?_⟩
        rintro e W5 ⟨hkf, h6⟩
        have hkg : KeepsFrom W.heap.size W' W5 := ⟨hkf.size, fun z o hz h ho => hkf.same z o hz h ho⟩
        rcases h6 with ⟨rfl, hj6, hk6⟩ | ⟨rfl, hx6⟩
        ·refine hK _ _ ?_
         clear hK K
         refine wpAnyIn_take (i := 9) (v := .bool false) rfl rfl (by kernel_rfl) (by kernel_rfl) (by kernel_rfl) (fun _ _ _ h => h) ⟨Or.inl ⟨by rfl, fun w => by go_simp⟩, fun _ => rfl⟩ ?_
         refine wpAnyIn_done (by kernel_rfl) ?_ _
         gi_wp2_with fail
         exact ⟨⟨hkg.size, fun z o hz h ho => hkg.same z o (by omega) h ho⟩, ⟨((Below.refl n0 W').drew).trans hk6.1, fun z T cs h1 h2 h3 hr => hk6.2 z T cs h1 h2 h3 hr⟩, by rw [List.map_append, ← List.append_assoc]; exact hj6, hk5.trans ⟨((Below.refl n0 W').drew).trans hk6.1, fun z T cs h1 h2 h3 hr => hk6.2 z T cs h1 h2 h3 hr⟩, hf5.trans hkg⟩
        ·refine hK _ _ ?_
         clear hK K
         refine wpAnyIn_take (i := 9) (v := .bool true) rfl rfl (by kernel_rfl) (by kernel_rfl) (by kernel_rfl) (fun _ _ _ h => h) ⟨Or.inl ⟨by rfl, fun w => by go_simp⟩, fun _ => rfl⟩ ?_
         refine wpAnyIn_done (by kernel_rfl) ?_ _
         gi_wp2_with fail
         exact ⟨⟨hkg.size, fun z o hz h ho => hkg.same z o (by omega) h ho⟩, rfl, by rw [List.map_append, ← List.append_assoc]; exact hx6, hf5.trans hkg⟩
       exact AllReadyIn.nil
      exact AllReadyIn.nil
     exact AllReadyIn.nil
    refine AllReadyIn.cons rfl (fun K hK => ?_) ?_
    ·go_simp
     refine hK _ _ ?_
     clear hK K
     refine wpAnyIn_take (i := 4) (v := .pointer (some ⟨bl, ol + k * 2, none⟩)) rfl rfl (by kernel_rfl) (by kernel_rfl) (by kernel_rfl) (fun _ _ _ h => h) ⟨Or.inl ⟨by rfl, fun w => by go_simp⟩, fun _ => rfl⟩ ?_
     refine wpAnyIn_take (i := 5) (v := .pointer (some ⟨bl, ol + k * 2, none⟩)) rfl rfl (by kernel_rfl) (by kernel_rfl) (by kernel_rfl) (fun _ _ _ h => h) ⟨Or.inl ⟨by rfl, fun w => by go_simp⟩, fun _ => rfl⟩ ?_
     refine wpAnyIn_ready (rs := [0, 2, 6]) (by kernel_rfl) (by simp) ?_
     refine AllReadyIn.cons rfl (fun K hK => ?_) ?_
     ·go_simp
      refine hK _ _ ?_
      clear hK K
      refine wpAnyIn_ready (rs := [2, 6]) (by kernel_rfl) (by simp) ?_
      refine AllReadyIn.cons rfl (fun K hK => ?_) ?_
      ·go_simp
       refine hK _ _ ?_
       clear hK K
       refine wpAnyIn_ready (rs := [6]) (by kernel_rfl) (by simp) ?_
       refine AllReadyIn.cons rfl (fun K hK => ?_) ?_
       ·go_simp
        refine hK _ _ ?_
        clear hK K
        refine wpAnyIn_take (i := 7) (v := .agg #[.int .i64 kd, .int .i64 i, .int .i64 db[i].rows[k].id]) rfl rfl (by kernel_rfl) (by kernel_rfl) (by kernel_rfl) (fun _ _ _ h => h) ⟨Or.inl ⟨by rfl, fun w => by go_simp⟩, fun _ => rfl⟩ ?_
        refine wpAnyIn_ready (rs := [8]) (by kernel_rfl) (by simp) ?_
        refine AllReadyIn.cons rfl (fun K hK => ?_) AllReadyIn.nil
        go_simp
        refine ⟨fun h => (by cases h), (roundIn_any hR).mono ?_⟩
        rintro e W5 ⟨hkf, h6⟩
        have hkg : KeepsFrom W.heap.size W' W5 := ⟨hkf.size, fun z o hz h ho => hkf.same z o hz h ho⟩
        rcases h6 with ⟨rfl, hj6, hk6⟩ | ⟨rfl, hx6⟩
        ·refine hK _ _ ?_
         clear hK K
         refine wpAnyIn_take (i := 9) (v := .bool false) rfl rfl (by kernel_rfl) (by kernel_rfl) (by kernel_rfl) (fun _ _ _ h => h) ⟨Or.inl ⟨by rfl, fun w => by go_simp⟩, fun _ => rfl⟩ ?_
         refine wpAnyIn_done (by kernel_rfl) ?_ _
         gi_wp2_with fail
         exact ⟨⟨hkg.size, fun z o hz h ho => hkg.same z o (by omega) h ho⟩, ⟨((Below.refl n0 W').drew).trans hk6.1, fun z T cs h1 h2 h3 hr => hk6.2 z T cs h1 h2 h3 hr⟩, by rw [List.map_append, ← List.append_assoc]; exact hj6, hk5.trans ⟨((Below.refl n0 W').drew).trans hk6.1, fun z T cs h1 h2 h3 hr => hk6.2 z T cs h1 h2 h3 hr⟩, hf5.trans hkg⟩
        ·refine hK _ _ ?_
         clear hK K
         refine wpAnyIn_take (i := 9) (v := .bool true) rfl rfl (by kernel_rfl) (by kernel_rfl) (by kernel_rfl) (fun _ _ _ h => h) ⟨Or.inl ⟨by rfl, fun w => by go_simp⟩, fun _ => rfl⟩ ?_
         refine wpAnyIn_done (by kernel_rfl) ?_ _
         gi_wp2_with fail
         exact ⟨⟨hkg.size, fun z o hz h ho => hkg.same z o (by omega) h ho⟩, rfl, by rw [List.map_append, ← List.append_assoc]; exact hx6, hf5.trans hkg⟩
       exact AllReadyIn.nil
      refine AllReadyIn.cons rfl (fun K hK => ?_) ?_
      ·go_simp
       refine hK _ _ ?_
       clear hK K
       refine wpAnyIn_ready (rs := [2]) (by kernel_rfl) (by simp) ?_
       refine AllReadyIn.cons rfl (fun K hK => ?_) ?_
       ·go_simp
        refine hK _ _ ?_
        clear hK K
        refine wpAnyIn_take (i := 7) (v := .agg #[.int .i64 kd, .int .i64 i, .int .i64 db[i].rows[k].id]) rfl rfl (by kernel_rfl) (by kernel_rfl) (by kernel_rfl) (fun _ _ _ h => h) ⟨Or.inl ⟨by rfl, fun w => by go_simp⟩, fun _ => rfl⟩ ?_
        refine wpAnyIn_ready (rs := [8]) (by kernel_rfl) (by simp) ?_
        refine AllReadyIn.cons rfl (fun K hK => ?_) AllReadyIn.nil
        go_simp
        refine ⟨fun h => (by cases h), (roundIn_any hR).mono ?_⟩
        rintro e W5 ⟨hkf, h6⟩
        have hkg : KeepsFrom W.heap.size W' W5 := ⟨hkf.size, fun z o hz h ho => hkf.same z o hz h ho⟩
        rcases h6 with ⟨rfl, hj6, hk6⟩ | ⟨rfl, hx6⟩
        ·refine hK _ _ ?_
         clear hK K
         refine wpAnyIn_take (i := 9) (v := .bool false) rfl rfl (by kernel_rfl) (by kernel_rfl) (by kernel_rfl) (fun _ _ _ h => h) ⟨Or.inl ⟨by rfl, fun w => by go_simp⟩, fun _ => rfl⟩ ?_
         refine wpAnyIn_done (by kernel_rfl) ?_ _
         gi_wp2_with fail
         exact ⟨⟨hkg.size, fun z o hz h ho => hkg.same z o (by omega) h ho⟩, ⟨((Below.refl n0 W').drew).trans hk6.1, fun z T cs h1 h2 h3 hr => hk6.2 z T cs h1 h2 h3 hr⟩, by rw [List.map_append, ← List.append_assoc]; exact hj6, hk5.trans ⟨((Below.refl n0 W').drew).trans hk6.1, fun z T cs h1 h2 h3 hr => hk6.2 z T cs h1 h2 h3 hr⟩, hf5.trans hkg⟩
        ·refine hK _ _ ?_
         clear hK K
         refine wpAnyIn_take (i := 9) (v := .bool true) rfl rfl (by kernel_rfl) (by kernel_rfl) (by kernel_rfl) (fun _ _ _ h => h) ⟨Or.inl ⟨by rfl, fun w => by go_simp⟩, fun _ => rfl⟩ ?_
         refine wpAnyIn_done (by kernel_rfl) ?_ _
         gi_wp2_with fail
         exact ⟨⟨hkg.size, fun z o hz h ho => hkg.same z o (by omega) h ho⟩, rfl, by rw [List.map_append, ← List.append_assoc]; exact hx6, hf5.trans hkg⟩
       exact AllReadyIn.nil
      exact AllReadyIn.nil
     refine AllReadyIn.cons rfl (fun K hK => ?_) ?_
     ·go_simp
      refine hK _ _ ?_
      clear hK K
      refine wpAnyIn_ready (rs := [0, 6]) (by kernel_rfl) (by simp) ?_
      refine AllReadyIn.cons rfl (fun K hK => ?_) ?_
      ·go_simp
       refine hK _ _ ?_
       clear hK K
       refine wpAnyIn_ready (rs := [6]) (by kernel_rfl) (by simp) ?_
       refine AllReadyIn.cons rfl (fun K hK => ?_) ?_
       ·go_simp
        refine hK _ _ ?_
        clear hK K
        refine wpAnyIn_take (i := 7) (v := .agg #[.int .i64 kd, .int .i64 i, .int .i64 db[i].rows[k].id]) rfl rfl (by kernel_rfl) (by kernel_rfl) (by kernel_rfl) (fun _ _ _ h => h) ⟨Or.inl ⟨by rfl, fun w => by go_simp⟩, fun _ => rfl⟩ ?_
        refine wpAnyIn_ready (rs := [8]) (by kernel_rfl) (by simp) ?_
        refine AllReadyIn.cons rfl (fun K hK => ?_) AllReadyIn.nil
        go_simp
        refine ⟨fun h => (by cases h), (roundIn_any hR).mono ?_⟩
        rintro e W5 ⟨hkf, h6⟩
        have hkg : KeepsFrom W.heap.size W' W5 := ⟨hkf.size, fun z o hz h ho => hkf.same z o hz h ho⟩
        rcases h6 with ⟨rfl, hj6, hk6⟩ | ⟨rfl, hx6⟩
        ·refine hK _ _ ?_
         clear hK K
         refine wpAnyIn_take (i := 9) (v := .bool false) rfl rfl (by kernel_rfl) (by kernel_rfl) (by kernel_rfl) (fun _ _ _ h => h) ⟨Or.inl ⟨by rfl, fun w => by go_simp⟩, fun _ => rfl⟩ ?_
         refine wpAnyIn_done (by kernel_rfl) ?_ _
         gi_wp2_with fail
         exact ⟨⟨hkg.size, fun z o hz h ho => hkg.same z o (by omega) h ho⟩, ⟨((Below.refl n0 W').drew).trans hk6.1, fun z T cs h1 h2 h3 hr => hk6.2 z T cs h1 h2 h3 hr⟩, by rw [List.map_append, ← List.append_assoc]; exact hj6, hk5.trans ⟨((Below.refl n0 W').drew).trans hk6.1, fun z T cs h1 h2 h3 hr => hk6.2 z T cs h1 h2 h3 hr⟩, hf5.trans hkg⟩
        ·refine hK _ _ ?_
         clear hK K
         refine wpAnyIn_take (i := 9) (v := .bool true) rfl rfl (by kernel_rfl) (by kernel_rfl) (by kernel_rfl) (fun _ _ _ h => h) ⟨Or.inl ⟨by rfl, fun w => by go_simp⟩, fun _ => rfl⟩ ?_
         refine wpAnyIn_done (by kernel_rfl) ?_ _
         gi_wp2_with fail
         exact ⟨⟨hkg.size, fun z o hz h ho => hkg.same z o (by omega) h ho⟩, rfl, by rw [List.map_append, ← List.append_assoc]; exact hx6, hf5.trans hkg⟩
       exact AllReadyIn.nil
      refine AllReadyIn.cons rfl (fun K hK => ?_) ?_
      ·go_simp
       refine hK _ _ ?_
       clear hK K
       refine wpAnyIn_take (i := 7) (v := .agg #[.int .i64 kd, .int .i64 i, .int .i64 db[i].rows[k].id]) rfl rfl (by kernel_rfl) (by kernel_rfl) (by kernel_rfl) (fun _ _ _ h => h) ⟨Or.inl ⟨by rfl, fun w => by go_simp⟩, fun _ => rfl⟩ ?_
       refine wpAnyIn_ready (rs := [0]) (by kernel_rfl) (by simp) ?_
       refine AllReadyIn.cons rfl (fun K hK => ?_) ?_
       ·go_simp
        refine hK _ _ ?_
        clear hK K
        refine wpAnyIn_ready (rs := [8]) (by kernel_rfl) (by simp) ?_
        refine AllReadyIn.cons rfl (fun K hK => ?_) AllReadyIn.nil
        go_simp
        refine ⟨fun h => (by cases h), (roundIn_any hR).mono ?_⟩
        rintro e W5 ⟨hkf, h6⟩
        have hkg : KeepsFrom W.heap.size W' W5 := ⟨hkf.size, fun z o hz h ho => hkf.same z o hz h ho⟩
        rcases h6 with ⟨rfl, hj6, hk6⟩ | ⟨rfl, hx6⟩
        ·refine hK _ _ ?_
         clear hK K
         refine wpAnyIn_take (i := 9) (v := .bool false) rfl rfl (by kernel_rfl) (by kernel_rfl) (by kernel_rfl) (fun _ _ _ h => h) ⟨Or.inl ⟨by rfl, fun w => by go_simp⟩, fun _ => rfl⟩ ?_
         refine wpAnyIn_done (by kernel_rfl) ?_ _
         gi_wp2_with fail
         exact ⟨⟨hkg.size, fun z o hz h ho => hkg.same z o (by omega) h ho⟩, ⟨((Below.refl n0 W').drew).trans hk6.1, fun z T cs h1 h2 h3 hr => hk6.2 z T cs h1 h2 h3 hr⟩, by rw [List.map_append, ← List.append_assoc]; exact hj6, hk5.trans ⟨((Below.refl n0 W').drew).trans hk6.1, fun z T cs h1 h2 h3 hr => hk6.2 z T cs h1 h2 h3 hr⟩, hf5.trans hkg⟩
        ·refine hK _ _ ?_
         clear hK K
         refine wpAnyIn_take (i := 9) (v := .bool true) rfl rfl (by kernel_rfl) (by kernel_rfl) (by kernel_rfl) (fun _ _ _ h => h) ⟨Or.inl ⟨by rfl, fun w => by go_simp⟩, fun _ => rfl⟩ ?_
         refine wpAnyIn_done (by kernel_rfl) ?_ _
         gi_wp2_with fail
         exact ⟨⟨hkg.size, fun z o hz h ho => hkg.same z o (by omega) h ho⟩, rfl, by rw [List.map_append, ← List.append_assoc]; exact hx6, hf5.trans hkg⟩
       exact AllReadyIn.nil
      exact AllReadyIn.nil
     refine AllReadyIn.cons rfl (fun K hK => ?_) ?_
     ·go_simp
      refine hK _ _ ?_
      clear hK K
      refine wpAnyIn_ready (rs := [0, 2]) (by kernel_rfl) (by simp) ?_
      refine AllReadyIn.cons rfl (fun K hK => ?_) ?_
      ·go_simp
       refine hK _ _ ?_
       clear hK K
       refine wpAnyIn_ready (rs := [2]) (by kernel_rfl) (by simp) ?_
       refine AllReadyIn.cons rfl (fun K hK => ?_) ?_
       ·go_simp
        refine hK _ _ ?_
        clear hK K
        refine wpAnyIn_take (i := 7) (v := .agg #[.int .i64 kd, .int .i64 i, .int .i64 db[i].rows[k].id]) rfl rfl (by kernel_rfl) (by kernel_rfl) (by kernel_rfl) (fun _ _ _ h => h) ⟨Or.inl ⟨by rfl, fun w => by go_simp⟩, fun _ => rfl⟩ ?_
        refine wpAnyIn_ready (rs := [8]) (by kernel_rfl) (by simp) ?_
        refine AllReadyIn.cons rfl (fun K hK => ?_) AllReadyIn.nil
        go_simp
        refine ⟨fun h => (by cases h), (roundIn_any hR).mono ?_⟩
        rintro e W5 ⟨hkf, h6⟩
        have hkg : KeepsFrom W.heap.size W' W5 := ⟨hkf.size, fun z o hz h ho => hkf.same z o hz h ho⟩
        rcases h6 with ⟨rfl, hj6, hk6⟩ | ⟨rfl, hx6⟩
        ·refine hK _ _ ?_
         clear hK K
         refine wpAnyIn_take (i := 9) (v := .bool false) rfl rfl (by kernel_rfl) (by kernel_rfl) (by kernel_rfl) (fun _ _ _ h => h) ⟨Or.inl ⟨by rfl, fun w => by go_simp⟩, fun _ => rfl⟩ ?_
         refine wpAnyIn_done (by kernel_rfl) ?_ _
         gi_wp2_with fail
         exact ⟨⟨hkg.size, fun z o hz h ho => hkg.same z o (by omega) h ho⟩, ⟨((Below.refl n0 W').drew).trans hk6.1, fun z T cs h1 h2 h3 hr => hk6.2 z T cs h1 h2 h3 hr⟩, by rw [List.map_append, ← List.append_assoc]; exact hj6, hk5.trans ⟨((Below.refl n0 W').drew).trans hk6.1, fun z T cs h1 h2 h3 hr => hk6.2 z T cs h1 h2 h3 hr⟩, hf5.trans hkg⟩
        ·refine hK _ _ ?_
         clear hK K
         refine wpAnyIn_take (i := 9) (v := .bool true) rfl rfl (by kernel_rfl) (by kernel_rfl) (by kernel_rfl) (fun _ _ _ h => h) ⟨Or.inl ⟨by rfl, fun w => by go_simp⟩, fun _ => rfl⟩ ?_
         refine wpAnyIn_done (by kernel_rfl) ?_ _
         gi_wp2_with fail
         exact ⟨⟨hkg.size, fun z o hz h ho => hkg.same z o (by omega) h ho⟩, rfl, by rw [List.map_append, ← List.append_assoc]; exact hx6, hf5.trans hkg⟩
       exact AllReadyIn.nil
      refine AllReadyIn.cons rfl (fun K hK => ?_) ?_
      ·go_simp
       refine hK _ _ ?_
       clear hK K
       refine wpAnyIn_take (i := 7) (v := .agg #[.int .i64 kd, .int .i64 i, .int .i64 db[i].rows[k].id]) rfl rfl (by kernel_rfl) (by kernel_rfl) (by kernel_rfl) (fun _ _ _ h => h) ⟨Or.inl ⟨by rfl, fun w => by go_simp⟩, fun _ => rfl⟩ ?_
       refine wpAnyIn_ready (rs := [0]) (by kernel_rfl) (by simp) ?_
       refine AllReadyIn.cons rfl (fun K hK => ?_) ?_
       ·go_simp
        refine hK _ _ ?_
        clear hK K
        refine wpAnyIn_ready (rs := [8]) (by kernel_rfl) (by simp) ?_
        refine AllReadyIn.cons rfl (fun K hK => ?_) AllReadyIn.nil
        go_simp
        refine ⟨fun h => (by cases h), (roundIn_any hR).mono ?_⟩
        rintro e W5 ⟨hkf, h6⟩
        have hkg : KeepsFrom W.heap.size W' W5 := ⟨hkf.size, fun z o hz h ho => hkf.same z o hz h ho⟩
        rcases h6 with ⟨rfl, hj6, hk6⟩ | ⟨rfl, hx6⟩
        ·refine hK _ _ ?_
         clear hK K
         refine wpAnyIn_take (i := 9) (v := .bool false) rfl rfl (by kernel_rfl) (by kernel_rfl) (by kernel_rfl) (fun _ _ _ h => h) ⟨Or.inl ⟨by rfl, fun w => by go_simp⟩, fun _ => rfl⟩ ?_
         refine wpAnyIn_done (by kernel_rfl) ?_ _
         gi_wp2_with fail
         exact ⟨⟨hkg.size, fun z o hz h ho => hkg.same z o (by omega) h ho⟩, ⟨((Below.refl n0 W').drew).trans hk6.1, fun z T cs h1 h2 h3 hr => hk6.2 z T cs h1 h2 h3 hr⟩, by rw [List.map_append, ← List.append_assoc]; exact hj6, hk5.trans ⟨((Below.refl n0 W').drew).trans hk6.1, fun z T cs h1 h2 h3 hr => hk6.2 z T cs h1 h2 h3 hr⟩, hf5.trans hkg⟩
        ·refine hK _ _ ?_
         clear hK K
         refine wpAnyIn_take (i := 9) (v := .bool true) rfl rfl (by kernel_rfl) (by kernel_rfl) (by kernel_rfl) (fun _ _ _ h => h) ⟨Or.inl ⟨by rfl, fun w => by go_simp⟩, fun _ => rfl⟩ ?_
         refine wpAnyIn_done (by kernel_rfl) ?_ _
         gi_wp2_with fail
         exact ⟨⟨hkg.size, fun z o hz h ho => hkg.same z o (by omega) h ho⟩, rfl, by rw [List.map_append, ← List.append_assoc]; exact hx6, hf5.trans hkg⟩
       exact AllReadyIn.nil
      exact AllReadyIn.nil
     exact AllReadyIn.nil
    exact AllReadyIn.nil
   case done =>
    rintro D ys W' hD rfl ⟨hj5, hk5, hf5⟩ hDD
    have HT := Lib.hid (show dbFw s db wait i ++ (db[i].rows.take (k + 1)).flatMap (rowFw s db s[i] db[i].rows wait i) = dbFw s db wait i ++ (db[i].rows.take k).flatMap (rowFw s db s[i] db[i].rows wait i) ++ (rowK s db s[i] db[i].rows wait db[i].rows[k]).map (fun c => (⟨c, i, db[i].rows[k].id⟩ : Fw)) by
     rw [flat_take _ _ _ hkt, rowFw_K, List.append_assoc])
    have HJ5 := Lib.hid hj5
    have HM5 := Lib.hid (show Marks W.heap.size ({ target := .collected D, args := #[] } :: ds) W' from ⟨D, rfl, by omega, hDD, fun d' hd' D' ht => by have := HM4.out.lt d' hd' D' ht; omega, HM4.out.keep hf5⟩)
    have HKQ := Lib.hid (hkq.trans (kq4.trans hk5))
    have hsz5 := hf5.size
    clear hj5 hk5 hf5 hDD
    gi_wp2_with fail
    refine ⟨⟨k + 1, _, _, _, _, _, _, _, _, _, _, _, _, _, _, _, _, _, _, _, _, _, _, _, _, _, _, _, _, _, _, _, _, _, _, _, _, _, _, _, by omega, by go_num, by rw [HT.out]; exact HJ5.out, HKQ.out, by omega, HM5.out, rfl⟩, ?_⟩
    simp [intOf]; omega
   case stop =>
    rintro D c pre W' hD hpre ⟨rfl, hx5, hf5⟩ hDD
    have HX5 := Lib.hid hx5
    have HP5 := Lib.hid (rowFlaws_prefix s db wait hlts hlt hlts hkt hpre)
    have HM5 := Lib.hid (show Marks W.heap.size ({ target := .collected D, args := #[] } :: ds) W' from ⟨D, rfl, by omega, hDD, fun d' hd' D' ht => by have := HM4.out.lt d' hd' D' ht; omega, HM4.out.keep hf5⟩)
    clear hx5 hpre hf5 hDD
    gi_wp2_with fail
    refine leaves_marks (B := W.heap.size) (fun W'' => Jx (dbFw s db wait i ++ (db[i].rows.take k).flatMap (rowFw s db s[i] db[i].rows wait i) ++ pre.map (fun c => (⟨c, i, db[i].rows[k].id⟩ : Fw))) W'') (fun X D' o hD' hx hh => HJX.out.putObj o hx hD' hh rfl) (fun X hx => ?_) _ _ HM5.out HX5.out
    exact ⟨_, results_none rfl _ _ _, ⟨_, rfl⟩, .inr ⟨_, HP5.out, hx⟩⟩
  ·obtain rfl : k = db[i].rows.length := by omega
   have HT := Lib.hid (show dbFw s db wait (i + 1) = dbFw s db wait i ++ db[i].rows.flatMap (rowFw s db s[i] db[i].rows wait i) by rw [dbFw_succ, tabFw_at wait hlts hlt])
   rw [List.take_of_length_le (Nat.le_refl _)] at hj
   have HJ5 := Lib.hid hj
   have HKQ := Lib.hid (hk.trans (k2.trans hkq))
   clear hj hm
   gi_wp2_with fail
   refine ⟨⟨i + 1, _, _, _, _, _, _, _, _, _, _, _, _, _, _, _, _, _, _, _, _, _, _, _, _, _, _, _, _, _, _, _, _, _, _, _, _, _, _, _, _, _, _, ds, by omega, by go_num, by rw [HT.out]; exact HJ5.out, HKQ.out, by omega, HMq.out, rfl⟩, ?_⟩
   simp [intOf]; omega
 ·obtain rfl : i = db.length := by omega
  rw [HLN.out] at hj
  have HJ5 := Lib.hid hj
  clear hj hm
  gi_wp2_with fail
  refine leaves_marks (B := W.heap.size) (fun W'' => J (dbFw s db wait s.length) W'') (fun X D' o hD' hx hh => HJ.out.putObj o hx hD' hh rfl) (fun X hx => ?_) _ _ HM.out HJ5.out
  exact ⟨_, results_none rfl _ _ _, ⟨_, rfl⟩, .inl ⟨_, rfl, hx⟩⟩
end Go.Proofs.YtjhhamlnlalkoaaGreat
namespace Go.Proofs.YtjhhamlnlalkoaaGreat
open Go.RowKit Go.Maps Go.Shelf
attribute [local go_sem] Oper.semAt_some
set_option maxHeartbeats 1000000 in
theorem implEachFlaw (AS AD : Option Addr) (nS cS nD cD : Nat) (fn : Fn) (w : World) :
  Calls Tryz.prog 29 #[.slice AS nS cS, .slice AD nD cD, .func fn #[] #[]] w fun e w' => e = .returned (.func (.func 62) #[] #[.pointer (some ⟨w.heap.size + 1, 0, none⟩), .pointer (some ⟨w.heap.size, 0, none⟩), .pointer (some ⟨w.heap.size + 2, 0, none⟩)]) ∧
   (Row w' w.heap.size 24 #[.slice AS nS cS] ∧ Row w' (w.heap.size + 1) 25 #[.slice AD nD cD] ∧ Row w' (w.heap.size + 2) 71 #[.func fn #[] #[]]) ∧ Below w.heap.size w w' := by
 have b0 := (Below.refl w.heap.size w).alloc (Nat.le_refl _) (.cells #[.slice AS nS cS] 24)
 have b1 := b0.alloc b0.size (.cells #[.slice AD nD cD] 25)
 have b2 := b1.alloc b1.size (.cells #[.func fn #[] #[]] 71)
 have r0 := ((Row.newAt w 24 #[.slice AS nS cS] w.heap.size rfl).alloc (.cells #[.slice AD nD cD] 25)).alloc (.cells #[.func fn #[] #[]] 71)
 have r1 := (Row.newAt (w.alloc (.cells #[.slice AS nS cS] 24)) 25 #[.slice AD nD cD] (w.heap.size + 1) (by simp)).alloc (.cells #[.func fn #[] #[]] 71)
 have r2 := Row.newAt ((w.alloc (.cells #[.slice AS nS cS] 24)).alloc (.cells #[.slice AD nD cD] 25)) 71 #[.func fn #[] #[]] (w.heap.size + 2) (by simp)
 have HR := Lib.hid (And.intro (And.intro r0 (And.intro r1 r2)) b2)
 clear b0 b1 b2 r0 r1 r2
 go_enter Tryz.func29, Tryz.ntmps29
 go_wp2
 go_ret
 exact ⟨rfl, HR.out⟩
theorem eachFlaw_seq (n n0 : Nat) (hn : 6 ≤ n) (AS AD : Option Addr) (nS cS nD cD b : Nat) (s : List Tb) (db : List Dt) (wait : Bool) (w : World)
  (H : EfIn n0 AS AD nS cS nD cD b s db wait w) (hlen : db.length = s.length) (hss : szL Tb.sz s ≤ 1048576) (hdz : ∀ d ∈ db, d.rows.length ≤ 1048576)
  (hall : ∀ (i : Nat) (h : i < s.length) (h' : i < db.length), ∀ x ∈ db[i].rows, RowIn s db s[i] x) :
  SeqX Tryz.prog n 62 #[.pointer (some ⟨b + 1, 0, none⟩), .pointer (some ⟨b, 0, none⟩), .pointer (some ⟨b + 2, 0, none⟩)] (fun x : Fw => #[Value.agg #[.int .i64 x.k, .int .i64 x.t, .int .i64 x.id]]) (KpF n0)
   (fun xs => xs = dbFw s db wait s.length) (fun pre => pre <+: dbFw s db wait s.length) (4194304 * s.length) w := fun l J Jx W hW hJ hJx hY h0 =>
 eachFlaw1_in n l n0 hn AS AD nS cS nD cD b s db wait J Jx W (H.kp (KpF.below H.n0_le hW)) hlen hss hdz hall hJ hJx hY h0
set_option maxRecDepth 100000 in
set_option maxHeartbeats 4000000 in
theorem implIsFlawless (AS AD : Option Addr) (nS cS nD cD : Nat) (s : List Tb) (db : List Dt) (wait : Bool) (ok okd : Nat → Prop) (w : World)
  (hs : Sl TbR 6 ok w AS nS s) (hd : Sl DtR 1 okd w AD nD db) (hlen : db.length = s.length) (hss : szL Tb.sz s ≤ 1048576) (hdz : ∀ d ∈ db, d.rows.length ≤ 1048576)
  (hall : ∀ (i : Nat) (h : i < s.length) (h' : i < db.length), ∀ x ∈ db[i].rows, RowIn s db s[i] x) :
  Calls Tryz.prog 41 #[.slice AS nS cS, .slice AD nD cD, .func (askN wait) #[] #[]] w fun e w' => e = .returned (.bool (decide ((dbFw s db wait s.length).length = 0))) ∧ Below w.heap.size w w' := by
 have HS := Lib.hid (hs.lows TbR.lows (by omega))
 have HD := Lib.hid (hd.lows DtR.lows (by omega))
 have HLN := Lib.hid hlen
 have HDZ := Lib.hid hdz
 have HALL := Lib.hid hall
 clear hs hd hlen hdz hall
 refine (callsIn_wide (n := 8)).1 ?_
 refine callsIn_of_wp_marks Tryz.func41 rfl trivial ?_ rfl
 simp only [Tryz.ntmps41, List.size_toArray, List.length_cons, List.length_nil, Nat.reduceAdd, Nat.reduceSub, Array.replicate_succ, Array.replicate_zero, List.push_toArray, List.append_toArray, List.nil_append, List.cons_append]
 have hb0 := (Below.refl w.heap.size w).alloc (Nat.le_refl _) (.cells #[.bool false] 4)
 have r0 := Row.newAt w 4 #[.bool false] w.heap.size rfl
 gi_wp2_with fail
 refine ⟨trivial, (callsIn_wide.2 (implEachFlaw AS AD nS cS nD cD (askN wait) _)).mono ?_⟩
 rintro e w2 ⟨rfl, ⟨e0, e1, e2⟩, hb2⟩
 have hb3 := hb0.trans (hb2.mono hb0.size)
 have r2 := r0.below hb2
 have hsz : (w.alloc (.cells #[.bool false] 4)).heap.size = w.heap.size + 1 := by simp
 have hlt2 := lt_of_block e0
 rw [hsz] at e0 e1 e2 hlt2
 have HE : EfIn w.heap.size AS AD nS cS nD cD (w.heap.size + 1) s db wait w2 := ⟨by omega, e0, e1, e2, HS.out.low TbR.stays hb3, HD.out.low DtR.stays hb3⟩
 have HE := Lib.hid HE
 clear e0 e1 e2 r0 hb0 hb2
 gi_wp2
 refine wp_rangeX (gf := 62) (lb := #[.pointer (some ⟨w.heap.size + 1 + 1, 0, none⟩), .pointer (some ⟨w.heap.size + 1, 0, none⟩), .pointer (some ⟨w.heap.size + 1 + 2, 0, none⟩)]) rfl (enters_of Tryz.func62 (by kernel_rfl) rfl)
  (eachFlaw_seq _ w.heap.size (by omega) AS AD nS cS nD cD (w.heap.size + 1) s db wait w2 HE.out HLN.out hss HDZ.out HALL.out) (fun h k => h.trans k) (fun W l o o' hl h hc => KpF.put o' (by omega) h hc) (fun _ => rfl)
  (fun pre W => (pre = [] ∧ Row W w.heap.size 4 #[.bool false]) ∧ Below w.heap.size w W)
  (fun c pre W => ((c = .ret ∧ pre ≠ []) ∧ Row W w.heap.size 4 #[.bool false]) ∧ Below w.heap.size w W)
  (OwnFrom.and (OwnFrom.and (ownFrom_pure _ _) (ownFrom_row _ _ _ _)) (ownFrom_below (Nat.le_refl _) (by omega)))
  (fun c => OwnFrom.and (OwnFrom.and (ownFrom_pure _ _) (ownFrom_row _ _ _ _)) (ownFrom_below (Nat.le_refl _) (by omega)))
  ⟨⟨rfl, r2⟩, hb3⟩
  (fun x a' _ => ∃ u0 u1 u2 u3 u4 u5 u7 u8 u9 u10 u11 : Value, a' = { tmps := #[u0, u1, u2, u3, u4, u5, .pointer (some ⟨w.heap.size, 0, none⟩), u7, u8, u9, u10, u11], defers := [] })
  (fun _ _ _ _ _ _ hs _ _ => hs)
  ?assign ?body ?done ?stop
 case assign =>
  rintro l pre x W K hi hK
  gi_wp2
  exact hK _ _ (KeepsFrom.refl _ _) (KpF.refl _ _) hi ⟨.slice AS nS cS, .slice AD nD cD, .func (askN wait) #[] #[], undef, undef, undef, .slice AS nS cS, .slice AD nD cD, .func (askN wait) #[] #[], .func (.func 62) #[] #[.pointer (some ⟨w.heap.size + 1 + 1, 0, none⟩), .pointer (some ⟨w.heap.size + 1, 0, none⟩), .pointer (some ⟨w.heap.size + 1 + 2, 0, none⟩)], .agg #[.int .i64 x.k, .int .i64 x.t, .int .i64 x.id], by simp⟩
 case body =>
  rintro l pre x a' W ⟨⟨rfl, hr⟩, hb⟩ ⟨u0, u1, u2, u3, u4, u5, u7, u8, u9, u10, u11, rfl⟩ hlt
  have c0 := hr.cell 0
  have f0 := hr.free 0
  simp only [List.getElem?_toArray, List.getElem?_cons_zero] at c0
  gi_wp2
  exact ⟨(KeepsOthers.setCell _ _ _).from _, ⟨⟨rfl, by simp⟩, by simpa using hr.set 0 (.bool false)⟩, hb.setCell (p := ⟨w.heap.size, 0, none⟩) (Nat.le_refl _) _⟩
 case done =>
  rintro D xs W hD rfl ⟨⟨hnil, hr⟩, hb⟩ hK
  have HF := Lib.hid (show decide ((dbFw s db wait s.length).length = 0) = true by rw [hnil]; rfl)
  clear hnil
  have c0 := hr.cell 0
  have f0 := hr.free 0
  simp only [List.getElem?_toArray, List.getElem?_cons_zero] at c0
  gi_wp2
  have hr' : Row (W.setCell ⟨w.heap.size, 0, none⟩ (.bool true)) w.heap.size 4 #[.bool true] := by simpa using hr.set 0 (.bool true)
  have hK' := (KeepsOthers.setCell W ⟨w.heap.size, 0, none⟩ (.bool true)).same D _ hK rfl
  have hr'' := (World.putObj_heap_other (o := .deferred none) (show w.heap.size ≠ D by omega)).trans hr'
  refine ⟨by simp, .inl ⟨_, _, rfl, run_takeDeferred hK', ?_⟩⟩
  have hc5 := Row.cell hr'' 0
  simp only [List.getElem?_toArray, List.getElem?_cons_zero] at hc5
  refine ⟨.bool true, ?_, by rw [HF.out], (hb.setCell (p := ⟨w.heap.size, 0, none⟩) (Nat.le_refl _) _).trans ((KpF.put (n0 := w.heap.size) _ (by omega) hK' rfl).1)⟩
  simp [results, Tryz.f41, go_sem, hc5]
 case stop =>
  rintro D c pre W hD hpre ⟨⟨⟨rfl, hne⟩, hr⟩, hb⟩ hK
  have HF := Lib.hid (show decide ((dbFw s db wait s.length).length = 0) = false by
   refine decide_eq_false fun h => hne ?_
   obtain ⟨t, ht⟩ := hpre
   rw [← ht, List.length_append] at h
   exact List.eq_nil_of_length_eq_zero (by omega))
  clear hne hpre
  gi_wp2
  have hr'' := (World.putObj_heap_other (o := .deferred none) (show w.heap.size ≠ D by omega)).trans hr
  refine ⟨by simp, .inl ⟨_, _, rfl, run_takeDeferred hK, ?_⟩⟩
  have hc5 := Row.cell hr'' 0
  simp only [List.getElem?_toArray, List.getElem?_cons_zero] at hc5
  refine ⟨.bool false, ?_, by rw [HF.out], hb.trans ((KpF.put (n0 := w.heap.size) _ (by omega) hK rfl).1)⟩
  simp [results, Tryz.f41, go_sem, hc5]
set_option maxRecDepth 100000 in
set_option maxHeartbeats 1000000 in
theorem implSound (AS AD : Option Addr) (nS cS nD cD : Nat) (s : List Tb) (db : List Dt) (ok okd : Nat → Prop) (w : World) (hs : Sl TbR 6 ok w AS nS s) (hd : Sl DtR 1 okd w AD nD db) (hss : szL Tb.sz s ≤ 1048576) (hds : szL Dt.sz db ≤ 1048576) :
  Calls Tryz.prog 14 #[.slice AS nS cS, .slice AD nD cD] w fun e w' => e = .returned (.bool (soundB s db false)) ∧ Below w.heap.size w w' := by
 have HC := Lib.hid (implDbOk' AS AD nS cS nD cD s db ok okd w hs hd hss hds)
 cases hB : dbB s db
 ·have HB := Lib.hid hB
  have HF := Lib.hid (show soundB s db false = false by unfold soundB; rw [hB]; rfl)
  clear hB
  go_enter Tryz.func14, Tryz.ntmps14
  go_wp2_with fail
  refine HC.out.mono ?_
  rintro e w1 ⟨rfl, hb1⟩
  rw [HB.out]
  clear HC
  go_wp2_with fail
  go_ret
  exact ⟨retB HF.out.symm, hb1⟩
 ·have HB := Lib.hid hB
  have HF := Lib.hid (show soundB s db false = decide ((dbFw s db false s.length).length = 0) by unfold soundB; rw [hB]; rfl)
  have HR := Lib.hid (rowIn_of hB)
  have HL := Lib.hid (dbB_len hB)
  have HA := Lib.hid (dbB_all hB)
  clear hB
  go_enter Tryz.func14, Tryz.ntmps14
  go_wp2_with fail
  refine HC.out.mono ?_
  rintro e w1 ⟨rfl, hb1⟩
  rw [HB.out]
  clear HC
  go_wp2_with fail
  refine (implIsFlawless AS AD nS cS nD cD s db false _ _ w1 (hs.below TbR.stays hb1) (hd.below DtR.stays hb1) HL.out hss HA.out HR.out).mono ?_
  rintro e w2 ⟨rfl, hb2⟩
  rw [← HF.out]
  go_wp2_with fail
  go_ret
  exact ⟨rfl, hb1.trans (hb2.mono hb1.size)⟩
set_option maxRecDepth 100000 in
set_option maxHeartbeats 1000000 in
theorem implSoundNow (AS AD : Option Addr) (nS cS nD cD : Nat) (s : List Tb) (db : List Dt) (ok okd : Nat → Prop) (w : World) (hs : Sl TbR 6 ok w AS nS s) (hd : Sl DtR 1 okd w AD nD db) (hss : szL Tb.sz s ≤ 1048576) (hds : szL Dt.sz db ≤ 1048576) :
  Calls Tryz.prog 16 #[.slice AS nS cS, .slice AD nD cD] w fun e w' => e = .returned (.bool (soundB s db true)) ∧ Below w.heap.size w w' := by
 have HC := Lib.hid (implDbOk' AS AD nS cS nD cD s db ok okd w hs hd hss hds)
 cases hB : dbB s db
 ·have HB := Lib.hid hB
  have HF := Lib.hid (show soundB s db true = false by unfold soundB; rw [hB]; rfl)
  clear hB
  go_enter Tryz.func16, Tryz.ntmps16
  go_wp2_with fail
  refine HC.out.mono ?_
  rintro e w1 ⟨rfl, hb1⟩
  rw [HB.out]
  clear HC
  go_wp2_with fail
  go_ret
  exact ⟨retB HF.out.symm, hb1⟩
 ·have HB := Lib.hid hB
  have HF := Lib.hid (show soundB s db true = decide ((dbFw s db true s.length).length = 0) by unfold soundB; rw [hB]; rfl)
  have HR := Lib.hid (rowIn_of hB)
  have HL := Lib.hid (dbB_len hB)
  have HA := Lib.hid (dbB_all hB)
  clear hB
  go_enter Tryz.func16, Tryz.ntmps16
  go_wp2_with fail
  refine HC.out.mono ?_
  rintro e w1 ⟨rfl, hb1⟩
  rw [HB.out]
  clear HC
  go_wp2_with fail
  refine (implIsFlawless AS AD nS cS nD cD s db true _ _ w1 (hs.below TbR.stays hb1) (hd.below DtR.stays hb1) HL.out hss HA.out HR.out).mono ?_
  rintro e w2 ⟨rfl, hb2⟩
  rw [← HF.out]
  go_wp2_with fail
  go_ret
  exact ⟨rfl, hb1.trans (hb2.mono hb1.size)⟩
end Go.Proofs.YtjhhamlnlalkoaaGreat
