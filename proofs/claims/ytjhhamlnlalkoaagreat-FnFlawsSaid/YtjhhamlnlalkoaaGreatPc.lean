/-
  Several texts in one: what the proof leans on, part 3.
-/
import Derived.Test.YtjhhamlnlalkoaaGreatPb
import Derived.Test.YtjhhamlnlalkoaaGreatPa
import Derived.Deep.QuietTactic
import Derived.BigQuiet
import Derived.Deep.DeepMust
import Derived.Maps.AppendAt
import Derived.OwnWalk
import Derived.Deep.RegionLaw
import Derived.Deep.AppendLies
set_option linter.unusedVariables false
set_option linter.unusedSimpArgs false
namespace Go.Proofs.YtjhhamlnlalkoaaGreat
open Go.RowKit Go.Maps
set_option maxRecDepth 100000 in
set_option maxHeartbeats 1000000 in
theorem implFksOk (A1 AL : Option Addr) (n1 c1 nL cL : Nat) (v0 v2 v3 v4 : Value) (cols : List Cl) (l : List Fk) (ok : Nat → Prop) (w : World) (h : Sl ClR 6 ok w A1 n1 cols) (hl : Sl FkR 5 ok w AL nL l) (hn1 : n1 ≤ 1048576) (hs : szL Fk.sz l ≤ 1048576) :
  Calls Tryz.prog 90 #[.agg #[v0, .slice A1 n1 c1, v2, v3, v4, .slice AL nL cL]] w fun e w' => e = .returned (.bool (fksB cols l)) ∧ Below w.heap.size w w' := by
 obtain rfl : cols.length = n1 := h.1
 obtain rfl : l.length = nL := hl.1
 have hn2 : l.length ≤ 1048576 := by unfold szL at hs; omega
 have HSZ := Lib.hid hs
 clear hs
 have hb0 := (Below.refl w.heap.size w).alloc (Nat.le_refl _) (.cells #[v0, .slice A1 cols.length c1, v2, v3, v4, .slice AL l.length cL] 45)
 have r0 := Row.new w 45 #[v0, .slice A1 cols.length c1, v2, v3, v4, .slice AL l.length cL]
 by_cases hbig : 3 < (l.length : Int)
 ·have HF := Lib.hid (show fksB cols l = false by unfold fksB; rw [decide_eq_false (by omega), Bool.false_and])
  go_enter Tryz.func90, Tryz.ntmps90
  go_wp2
  go_ret
  exact ⟨retB HF.out.symm, hb0⟩
 have hbig' : decide (3 < (l.length : Int)) = false := by simpa using hbig
 have H3 := Lib.hid (show decide (l.length ≤ 3) = true from decide_eq_true (by omega))
 go_enter Tryz.func90, Tryz.ntmps90
 go_wp2_with fail
 generalize w.alloc (.cells #[v0, .slice A1 cols.length c1, v2, v3, v4, .slice AL l.length cL] 45) = x0 at *
 go_loopw [12] (fun i wr => ∃ k : Nat, k ≤ l.length ∧ i = .int .i64 k ∧ Hid ((l.take k).all (fkB cols.length) = true) ∧ Row wr w.heap.size 45 #[v0, .slice A1 cols.length c1, v2, v3, v4, .slice AL l.length cL] ∧ Below w.heap.size w wr) (fun i _ => l.length - (intOf i).toNat)
 case atStart => exact ⟨0, by omega, rfl, Lib.hid (by simp), r0, hb0⟩
 case round =>
  obtain ⟨k, hkk, rfl, hall, hr, hb⟩ := hrel
  obtain ⟨⟨a0, a1, a2, a3, a4, a5⟩, -⟩ := hr.all6
  by_cases hlt : k < l.length
  ·obtain ⟨b, off, A9, n9, c9, -, rfl, q0, q1, q2, q3, q4, s0, hcp⟩ := FkR.at_ (hl.below FkR.stays hb) hlt
   obtain rfl : l[k].cols.length = n9 := s0.1
   have hsn := all_take (fkB cols.length) l k hlt
   rw [hall.out, Bool.true_and] at hsn
   have hno := fun hf => all_no (fkB cols.length) l k hlt hf
   obtain ⟨hk9, hk8⟩ : l[k].cols.length ≤ 1048576 ∧ l[k].table.size ≤ 1048576 := by have := HSZ.out; have := sum_mem_le Fk.sz l k hlt; unfold szL at *; simp only [Fk.sz] at *; omega
   have HK9 := Lib.hid hk9
   have HK8 := Lib.hid (show l[k].table.size ≤ maxLen by unfold maxLen; omega)
   clear hk9 hk8
   have hbx := (Below.refl wr.heap.size wr).alloc (Nat.le_refl _) (.cells #[.slice A9 l[k].cols.length c9, .string l[k].table, .int .i64 l[k].del, .int .i64 l[k].upd, .bool l[k].dfr] 63)
   have hba := hb.trans (hbx.mono hb.size)
   have s1 := s0.below IntR.stays hbx
   have hr1 := hr.below hbx
   have rf := Row.new wr 63 #[.slice A9 l[k].cols.length c9, .string l[k].table, .int .i64 l[k].del, .int .i64 l[k].upd, .bool l[k].dfr]
   obtain ⟨⟨d0, d1, d2, d3, d4, d5⟩, -⟩ := hr1.all6
   have hcall := fun (w' : World) (hw : Sl IntR 1 ok w' A9 l[k].cols.length l[k].cols) => implAreColumns A9 l[k].cols.length c9 l[k].cols cols.length ok w' hw HK9.out hn1
   cases hc : colsInB l[k].cols cols.length
   ·have HC := Lib.hid hc
    have HF := Lib.hid (show fksB cols l = false by unfold fksB; rw [hno (by unfold fkB; rw [hc]; rfl), Bool.and_false])
    clear hsn hno hc hall hr
    go_wp2_with fail
    refine (hcall _ s1).mono ?_
    rintro e w1 ⟨rfl, hb1⟩
    rw [HC.out]
    clear hcall
    go_wp2
    go_ret
    exact ⟨retB HF.out.symm, hba.trans (hb1.mono hba.size)⟩
   have HC := Lib.hid hc
   cases hnm : nameB l[k].table
   ·have HN := Lib.hid hnm
    have HF := Lib.hid (show fksB cols l = false by unfold fksB; rw [hno (by unfold fkB; rw [hc, hnm]; rfl), Bool.and_false])
    clear hsn hno hc hall hr hnm
    go_wp2_with fail
    refine (hcall _ s1).mono ?_
    rintro e w1 ⟨rfl, hb1⟩
    rw [HC.out]
    clear hcall
    obtain ⟨⟨f0, f1, f2, f3, f4⟩, -⟩ := (rf.below hb1).five
    go_wp2_with fail
    refine (implIsName _ _ HK8.out).mono ?_
    rintro e w2 ⟨rfl, rfl⟩
    rw [HN.out]
    go_wp2
    go_ret
    exact ⟨retB HF.out.symm, hba.trans (hb1.mono hba.size)⟩
   have HN := Lib.hid hnm
   cases hd : actB l[k].del
   ·have HD := Lib.hid hd
    have HF := Lib.hid (show fksB cols l = false by unfold fksB; rw [hno (by unfold fkB; rw [hc, hnm, hd]; rfl), Bool.and_false])
    clear hsn hno hc hall hr hnm hd
    go_wp2_with fail
    refine (hcall _ s1).mono ?_
    rintro e w1 ⟨rfl, hb1⟩
    rw [HC.out]
    clear hcall
    obtain ⟨⟨f0, f1, f2, f3, f4⟩, -⟩ := (rf.below hb1).five
    go_wp2_with fail
    refine (implIsName _ _ HK8.out).mono ?_
    rintro e w2 ⟨rfl, rfl⟩
    rw [HN.out]
    go_wp2_with fail
    refine (implAction _ _).mono ?_
    rintro e w2 ⟨rfl, rfl⟩
    rw [HD.out]
    go_wp2
    go_ret
    exact ⟨retB HF.out.symm, hba.trans (hb1.mono hba.size)⟩
   have HD := Lib.hid hd
   cases hu : actB l[k].upd
   ·have HU := Lib.hid hu
    have HF := Lib.hid (show fksB cols l = false by unfold fksB; rw [hno (by unfold fkB; rw [hc, hnm, hd, hu]; rfl), Bool.and_false])
    clear hsn hno hc hall hr hnm hd hu
    go_wp2_with fail
    refine (hcall _ s1).mono ?_
    rintro e w1 ⟨rfl, hb1⟩
    rw [HC.out]
    clear hcall
    obtain ⟨⟨f0, f1, f2, f3, f4⟩, -⟩ := (rf.below hb1).five
    go_wp2_with fail
    refine (implIsName _ _ HK8.out).mono ?_
    rintro e w2 ⟨rfl, rfl⟩
    rw [HN.out]
    go_wp2_with fail
    refine (implAction _ _).mono ?_
    rintro e w2 ⟨rfl, rfl⟩
    rw [HD.out]
    go_wp2_with fail
    refine (implAction _ _).mono ?_
    rintro e w2 ⟨rfl, rfl⟩
    rw [HU.out]
    go_wp2
    go_ret
    exact ⟨retB HF.out.symm, hba.trans (hb1.mono hba.size)⟩
   ·have HU := Lib.hid hu
    have HA := Lib.hid (hsn.trans (show fkB cols.length l[k] = true by unfold fkB; rw [hc, hnm, hd, hu]; rfl))
    clear hsn hno hc hall hr hnm hd hu
    go_wp2_with fail
    refine (hcall _ s1).mono ?_
    rintro e w1 ⟨rfl, hb1⟩
    rw [HC.out]
    clear hcall
    obtain ⟨⟨f0, f1, f2, f3, f4⟩, -⟩ := (rf.below hb1).five
    go_wp2_with fail
    refine (implIsName _ _ HK8.out).mono ?_
    rintro e w2 ⟨rfl, rfl⟩
    rw [HN.out]
    go_wp2_with fail
    refine (implAction _ _).mono ?_
    rintro e w2 ⟨rfl, rfl⟩
    rw [HD.out]
    go_wp2_with fail
    refine (implAction _ _).mono ?_
    rintro e w2 ⟨rfl, rfl⟩
    rw [HU.out]
    have hr2 := hr1.below hb1
    go_wp2
    go_roundw
    case rel => exact ⟨k + 1, by omega, by go_num, HA, hr2, hba.trans (hb1.mono hba.size)⟩
    case measure => simp [intOf]; omega
  ·have e : l.take k = l := List.take_of_length_le (by omega)
   have h2 := hall.out
   rw [e] at h2
   have HF := Lib.hid (show fksB cols l = true by unfold fksB; rw [h2, H3.out]; rfl)
   clear h2 e hall
   go_wp2
   go_ret
   exact ⟨retB HF.out.symm, hb⟩
set_option maxRecDepth 100000 in
set_option maxHeartbeats 1000000 in
theorem implTableOk (x : Tb) (A1 : Option Addr) (n1 c1 : Nat) (A2 : Option Addr) (n2 c2 : Nat) (A3 : Option Addr) (n3 c3 : Nat) (A4 : Option Addr) (n4 c4 : Nat) (A5 : Option Addr) (n5 c5 : Nat) (ok : Nat → Prop) (w : World)
  (h1 : Sl ClR 6 ok w A1 n1 x.cols) (h2 : Sl IntR 1 ok w A2 n2 x.key) (h3 : Sl UqR 1 ok w A3 n3 x.uniqs) (h4 : Sl CkR 1 ok w A4 n4 x.checks) (h5 : Sl FkR 5 ok w A5 n5 x.fks) (hs : x.sz ≤ 1048576) :
  Calls Tryz.prog 51 #[.agg #[.string x.name, .slice A1 n1 c1, .slice A2 n2 c2, .slice A3 n3 c3, .slice A4 n4 c4, .slice A5 n5 c5]] w fun e w' => e = .returned (.bool (tableB x)) ∧ Below w.heap.size w w' := by
 have e1 := h1.1
 have e2 := h2.1
 have HNM := Lib.hid (show x.name.size ≤ maxLen by unfold Tb.sz at hs; unfold maxLen; omega)
 have HS1 := Lib.hid (show szL Cl.sz x.cols ≤ 1048576 by unfold Tb.sz at hs; omega)
 have HS3 := Lib.hid (show szL Uq.sz x.uniqs ≤ 1048576 by unfold Tb.sz at hs; omega)
 have HS4 := Lib.hid (show szL Ck.sz x.checks ≤ 1048576 by unfold Tb.sz at hs; omega)
 have HS5 := Lib.hid (show szL Fk.sz x.fks ≤ 1048576 by unfold Tb.sz at hs; omega)
 have HL1 := Lib.hid (show n1 ≤ 1048576 by unfold Tb.sz szL at hs; omega)
 have HL2 := Lib.hid (show n2 ≤ 1048576 by unfold Tb.sz szL at hs; omega)
 clear e1 e2 hs
 have hb0 := (Below.refl w.heap.size w).alloc (Nat.le_refl _) (.cells #[.string x.name, .slice A1 n1 c1, .slice A2 n2 c2, .slice A3 n3 c3, .slice A4 n4 c4, .slice A5 n5 c5] 45)
 have r0 := Row.new w 45 #[.string x.name, .slice A1 n1 c1, .slice A2 n2 c2, .slice A3 n3 c3, .slice A4 n4 c4, .slice A5 n5 c5]
 cases hN : nameB x.name
 ·have HN := Lib.hid hN
  clear hN
  go_enter Tryz.func51, Tryz.ntmps51
  go_wp2_with fail
  refine (implIsName _ _ HNM.out).mono ?_
  rintro e w1 ⟨rfl, rfl⟩
  rw [HN.out]
  go_wp2_with fail
  go_ret
  exact ⟨retB (by unfold tableB; rw [HN.out]; rfl), hb0⟩
 have HN := Lib.hid hN
 clear hN
 cases hC : colsB x.cols
 ·have HC := Lib.hid hC
  clear hC
  go_enter Tryz.func51, Tryz.ntmps51
  go_wp2_with fail
  refine (implIsName _ _ HNM.out).mono ?_
  rintro e w1 ⟨rfl, rfl⟩
  rw [HN.out]
  go_wp2_with fail
  refine (implColsOk A1 n1 c1 x.cols ok _ (h1.below ClR.stays hb0) HS1.out).mono ?_
  rintro e w2 ⟨rfl, hq2⟩
  have hb2 := hb0.trans (hq2.mono hb0.size)
  have r2 := r0.below hq2
  obtain ⟨⟨x2_0, x2_1, x2_2, x2_3, x2_4, x2_5⟩, -⟩ := r2.all6
  rw [HC.out]
  go_wp2_with fail
  go_ret
  exact ⟨retB (by unfold tableB; rw [HN.out, HC.out]; rfl), hb2⟩
 have HC := Lib.hid hC
 clear hC
 cases hK : keyB x.cols x.key
 ·have HK := Lib.hid hK
  clear hK
  go_enter Tryz.func51, Tryz.ntmps51
  go_wp2_with fail
  refine (implIsName _ _ HNM.out).mono ?_
  rintro e w1 ⟨rfl, rfl⟩
  rw [HN.out]
  go_wp2_with fail
  refine (implColsOk A1 n1 c1 x.cols ok _ (h1.below ClR.stays hb0) HS1.out).mono ?_
  rintro e w2 ⟨rfl, hq2⟩
  have hb2 := hb0.trans (hq2.mono hb0.size)
  have r2 := r0.below hq2
  obtain ⟨⟨x2_0, x2_1, x2_2, x2_3, x2_4, x2_5⟩, -⟩ := r2.all6
  rw [HC.out]
  go_wp2_with fail
  refine (implKeyOk A1 A2 n1 c1 n2 c2 _ _ _ _ x.cols x.key ok _ (h1.below ClR.stays hb2) (h2.below IntR.stays hb2) HL1.out HL2.out).mono ?_
  rintro e w3 ⟨rfl, hq3⟩
  have hb3 := hb2.trans (hq3.mono hb2.size)
  have r3 := r2.below hq3
  obtain ⟨⟨x3_0, x3_1, x3_2, x3_3, x3_4, x3_5⟩, -⟩ := r3.all6
  rw [HK.out]
  go_wp2_with fail
  go_ret
  exact ⟨retB (by unfold tableB; rw [HN.out, HC.out, HK.out]; rfl), hb3⟩
 have HK := Lib.hid hK
 clear hK
 cases hU : uqsB x.cols x.uniqs
 ·have HU := Lib.hid hU
  clear hU
  go_enter Tryz.func51, Tryz.ntmps51
  go_wp2_with fail
  refine (implIsName _ _ HNM.out).mono ?_
  rintro e w1 ⟨rfl, rfl⟩
  rw [HN.out]
  go_wp2_with fail
  refine (implColsOk A1 n1 c1 x.cols ok _ (h1.below ClR.stays hb0) HS1.out).mono ?_
  rintro e w2 ⟨rfl, hq2⟩
  have hb2 := hb0.trans (hq2.mono hb0.size)
  have r2 := r0.below hq2
  obtain ⟨⟨x2_0, x2_1, x2_2, x2_3, x2_4, x2_5⟩, -⟩ := r2.all6
  rw [HC.out]
  go_wp2_with fail
  refine (implKeyOk A1 A2 n1 c1 n2 c2 _ _ _ _ x.cols x.key ok _ (h1.below ClR.stays hb2) (h2.below IntR.stays hb2) HL1.out HL2.out).mono ?_
  rintro e w3 ⟨rfl, hq3⟩
  have hb3 := hb2.trans (hq3.mono hb2.size)
  have r3 := r2.below hq3
  obtain ⟨⟨x3_0, x3_1, x3_2, x3_3, x3_4, x3_5⟩, -⟩ := r3.all6
  rw [HK.out]
  go_wp2_with fail
  refine (implUniquesOk A1 A3 n1 c1 n3 c3 _ _ _ _ x.cols x.uniqs ok _ (h1.below ClR.stays hb3) (h3.below UqR.stays hb3) HL1.out HS3.out).mono ?_
  rintro e w4 ⟨rfl, hq4⟩
  have hb4 := hb3.trans (hq4.mono hb3.size)
  have r4 := r3.below hq4
  obtain ⟨⟨x4_0, x4_1, x4_2, x4_3, x4_4, x4_5⟩, -⟩ := r4.all6
  rw [HU.out]
  go_wp2_with fail
  go_ret
  exact ⟨retB (by unfold tableB; rw [HN.out, HC.out, HK.out, HU.out]; rfl), hb4⟩
 have HU := Lib.hid hU
 clear hU
 cases hE : cksB x.cols x.checks
 ·have HE := Lib.hid hE
  clear hE
  go_enter Tryz.func51, Tryz.ntmps51
  go_wp2_with fail
  refine (implIsName _ _ HNM.out).mono ?_
  rintro e w1 ⟨rfl, rfl⟩
  rw [HN.out]
  go_wp2_with fail
  refine (implColsOk A1 n1 c1 x.cols ok _ (h1.below ClR.stays hb0) HS1.out).mono ?_
  rintro e w2 ⟨rfl, hq2⟩
  have hb2 := hb0.trans (hq2.mono hb0.size)
  have r2 := r0.below hq2
  obtain ⟨⟨x2_0, x2_1, x2_2, x2_3, x2_4, x2_5⟩, -⟩ := r2.all6
  rw [HC.out]
  go_wp2_with fail
  refine (implKeyOk A1 A2 n1 c1 n2 c2 _ _ _ _ x.cols x.key ok _ (h1.below ClR.stays hb2) (h2.below IntR.stays hb2) HL1.out HL2.out).mono ?_
  rintro e w3 ⟨rfl, hq3⟩
  have hb3 := hb2.trans (hq3.mono hb2.size)
  have r3 := r2.below hq3
  obtain ⟨⟨x3_0, x3_1, x3_2, x3_3, x3_4, x3_5⟩, -⟩ := r3.all6
  rw [HK.out]
  go_wp2_with fail
  refine (implUniquesOk A1 A3 n1 c1 n3 c3 _ _ _ _ x.cols x.uniqs ok _ (h1.below ClR.stays hb3) (h3.below UqR.stays hb3) HL1.out HS3.out).mono ?_
  rintro e w4 ⟨rfl, hq4⟩
  have hb4 := hb3.trans (hq4.mono hb3.size)
  have r4 := r3.below hq4
  obtain ⟨⟨x4_0, x4_1, x4_2, x4_3, x4_4, x4_5⟩, -⟩ := r4.all6
  rw [HU.out]
  go_wp2_with fail
  refine (implChecksOk A1 A4 n1 c1 n4 c4 _ _ _ _ x.cols x.checks ok _ (h1.below ClR.stays hb4) (h4.below CkR.stays hb4) HL1.out HS4.out).mono ?_
  rintro e w5 ⟨rfl, hq5⟩
  have hb5 := hb4.trans (hq5.mono hb4.size)
  have r5 := r4.below hq5
  obtain ⟨⟨x5_0, x5_1, x5_2, x5_3, x5_4, x5_5⟩, -⟩ := r5.all6
  rw [HE.out]
  go_wp2_with fail
  go_ret
  exact ⟨retB (by unfold tableB; rw [HN.out, HC.out, HK.out, HU.out, HE.out]; rfl), hb5⟩
 have HE := Lib.hid hE
 clear hE
 cases hF : fksB x.cols x.fks
 ·have HF := Lib.hid hF
  clear hF
  go_enter Tryz.func51, Tryz.ntmps51
  go_wp2_with fail
  refine (implIsName _ _ HNM.out).mono ?_
  rintro e w1 ⟨rfl, rfl⟩
  rw [HN.out]
  go_wp2_with fail
  refine (implColsOk A1 n1 c1 x.cols ok _ (h1.below ClR.stays hb0) HS1.out).mono ?_
  rintro e w2 ⟨rfl, hq2⟩
  have hb2 := hb0.trans (hq2.mono hb0.size)
  have r2 := r0.below hq2
  obtain ⟨⟨x2_0, x2_1, x2_2, x2_3, x2_4, x2_5⟩, -⟩ := r2.all6
  rw [HC.out]
  go_wp2_with fail
  refine (implKeyOk A1 A2 n1 c1 n2 c2 _ _ _ _ x.cols x.key ok _ (h1.below ClR.stays hb2) (h2.below IntR.stays hb2) HL1.out HL2.out).mono ?_
  rintro e w3 ⟨rfl, hq3⟩
  have hb3 := hb2.trans (hq3.mono hb2.size)
  have r3 := r2.below hq3
  obtain ⟨⟨x3_0, x3_1, x3_2, x3_3, x3_4, x3_5⟩, -⟩ := r3.all6
  rw [HK.out]
  go_wp2_with fail
  refine (implUniquesOk A1 A3 n1 c1 n3 c3 _ _ _ _ x.cols x.uniqs ok _ (h1.below ClR.stays hb3) (h3.below UqR.stays hb3) HL1.out HS3.out).mono ?_
  rintro e w4 ⟨rfl, hq4⟩
  have hb4 := hb3.trans (hq4.mono hb3.size)
  have r4 := r3.below hq4
  obtain ⟨⟨x4_0, x4_1, x4_2, x4_3, x4_4, x4_5⟩, -⟩ := r4.all6
  rw [HU.out]
  go_wp2_with fail
  refine (implChecksOk A1 A4 n1 c1 n4 c4 _ _ _ _ x.cols x.checks ok _ (h1.below ClR.stays hb4) (h4.below CkR.stays hb4) HL1.out HS4.out).mono ?_
  rintro e w5 ⟨rfl, hq5⟩
  have hb5 := hb4.trans (hq5.mono hb4.size)
  have r5 := r4.below hq5
  obtain ⟨⟨x5_0, x5_1, x5_2, x5_3, x5_4, x5_5⟩, -⟩ := r5.all6
  rw [HE.out]
  go_wp2_with fail
  refine (implFksOk A1 A5 n1 c1 n5 c5 _ _ _ _ x.cols x.fks ok _ (h1.below ClR.stays hb5) (h5.below FkR.stays hb5) HL1.out HS5.out).mono ?_
  rintro e w6 ⟨rfl, hq6⟩
  have hb6 := hb5.trans (hq6.mono hb5.size)
  have r6 := r5.below hq6
  obtain ⟨⟨x6_0, x6_1, x6_2, x6_3, x6_4, x6_5⟩, -⟩ := r6.all6
  rw [HF.out]
  go_wp2_with fail
  go_ret
  exact ⟨retB (by unfold tableB; rw [HN.out, HC.out, HK.out, HU.out, HE.out, HF.out]; rfl), hb6⟩
 have HF := Lib.hid hF
 clear hF
 go_enter Tryz.func51, Tryz.ntmps51
 go_wp2_with fail
 refine (implIsName _ _ HNM.out).mono ?_
 rintro e w1 ⟨rfl, rfl⟩
 rw [HN.out]
 go_wp2_with fail
 refine (implColsOk A1 n1 c1 x.cols ok _ (h1.below ClR.stays hb0) HS1.out).mono ?_
 rintro e w2 ⟨rfl, hq2⟩
 have hb2 := hb0.trans (hq2.mono hb0.size)
 have r2 := r0.below hq2
 obtain ⟨⟨x2_0, x2_1, x2_2, x2_3, x2_4, x2_5⟩, -⟩ := r2.all6
 rw [HC.out]
 go_wp2_with fail
 refine (implKeyOk A1 A2 n1 c1 n2 c2 _ _ _ _ x.cols x.key ok _ (h1.below ClR.stays hb2) (h2.below IntR.stays hb2) HL1.out HL2.out).mono ?_
 rintro e w3 ⟨rfl, hq3⟩
 have hb3 := hb2.trans (hq3.mono hb2.size)
 have r3 := r2.below hq3
 obtain ⟨⟨x3_0, x3_1, x3_2, x3_3, x3_4, x3_5⟩, -⟩ := r3.all6
 rw [HK.out]
 go_wp2_with fail
 refine (implUniquesOk A1 A3 n1 c1 n3 c3 _ _ _ _ x.cols x.uniqs ok _ (h1.below ClR.stays hb3) (h3.below UqR.stays hb3) HL1.out HS3.out).mono ?_
 rintro e w4 ⟨rfl, hq4⟩
 have hb4 := hb3.trans (hq4.mono hb3.size)
 have r4 := r3.below hq4
 obtain ⟨⟨x4_0, x4_1, x4_2, x4_3, x4_4, x4_5⟩, -⟩ := r4.all6
 rw [HU.out]
 go_wp2_with fail
 refine (implChecksOk A1 A4 n1 c1 n4 c4 _ _ _ _ x.cols x.checks ok _ (h1.below ClR.stays hb4) (h4.below CkR.stays hb4) HL1.out HS4.out).mono ?_
 rintro e w5 ⟨rfl, hq5⟩
 have hb5 := hb4.trans (hq5.mono hb4.size)
 have r5 := r4.below hq5
 obtain ⟨⟨x5_0, x5_1, x5_2, x5_3, x5_4, x5_5⟩, -⟩ := r5.all6
 rw [HE.out]
 go_wp2_with fail
 refine (implFksOk A1 A5 n1 c1 n5 c5 _ _ _ _ x.cols x.fks ok _ (h1.below ClR.stays hb5) (h5.below FkR.stays hb5) HL1.out HS5.out).mono ?_
 rintro e w6 ⟨rfl, hq6⟩
 have hb6 := hb5.trans (hq6.mono hb5.size)
 have r6 := r5.below hq6
 obtain ⟨⟨x6_0, x6_1, x6_2, x6_3, x6_4, x6_5⟩, -⟩ := r6.all6
 rw [HF.out]
 go_wp2_with fail
 go_ret
 exact ⟨retB (by unfold tableB; rw [HN.out, HC.out, HK.out, HU.out, HE.out, HF.out]; rfl), hb6⟩
def kindAt (cols : List Cl) (i : Int) : Int := (cols[i.toNat]?.map Cl.kind).getD 0
def kindV (c1 c2 : List Cl) (p : Int × Int) : Bool := kindAt c1 p.1 == kindAt c2 p.2
def sameB (c1 : List Cl) (l1 : List Int) (c2 : List Cl) (l2 : List Int) : Bool := decide (l1.length = l2.length) && (l1.zip l2).all (kindV c1 c2)
def leadB (s : List Tb) (x : Tb) (f : Fk) : Bool := decide (atN (s.map Tb.name) f.table ≠ -1) && (match s[(atN (s.map Tb.name) f.table).toNat]? with | some o => sameB x.cols f.cols o.cols o.key | none => false)
def leadsB (s : List Tb) (x : Tb) : Bool := x.fks.all (leadB s x)
def schemaB (s : List Tb) : Bool := decide (s.length ≤ 5) && (s.all tableB && (uniqGo [] (s.map Tb.name) && s.all (leadsB s)))
theorem kindAt_nat {cols : List Cl} {j : Nat} (h : j < cols.length) : kindAt cols j = cols[j].kind := by
 unfold kindAt; simp [List.getElem?_eq_getElem h]
theorem PlacesIn.below {w w' : World} {b : Nat} {names : List ByteArray} (h : PlacesIn w b names) (hb : Below w.heap.size w w') : PlacesIn w' b names :=
 h.kept (row := none) ⟨hb.os, hb.tape, hb.output, hb.size, fun k hk _ => hb.block k hk⟩ (by simp)
set_option maxRecDepth 100000 in
set_option maxHeartbeats 1000000 in
theorem implSameKinds (A1 AK B1 BK : Option Addr) (n1 c1 nK cK m1 d1 mK dK : Nat) (v0 v2 v3 v4 v5 u0 u2 u3 u4 u5 : Value) (cols1 cols2 : List Cl) (l1 l2 : List Int) (ok : Nat → Prop) (w : World)
  (h1 : Sl ClR 6 ok w A1 n1 cols1) (hk1 : Sl IntR 1 ok w AK nK l1) (h2 : Sl ClR 6 ok w B1 m1 cols2) (hk2 : Sl IntR 1 ok w BK mK l2) (hin1 : ∀ x ∈ l1, 0 ≤ x ∧ x < cols1.length) (hin2 : ∀ x ∈ l2, 0 ≤ x ∧ x < cols2.length)
  (hn1 : n1 ≤ 1048576) (hnK : nK ≤ 1048576) (hm1 : m1 ≤ 1048576) (hmK : mK ≤ 1048576) :
  Calls Tryz.prog 109 #[.agg #[v0, .slice A1 n1 c1, v2, v3, v4, v5], .slice AK nK cK, .agg #[u0, .slice B1 m1 d1, u2, u3, u4, u5], .slice BK mK dK] w fun e w' => e = .returned (.bool (sameB cols1 l1 cols2 l2)) ∧ Below w.heap.size w w' := by
 obtain rfl : cols1.length = n1 := h1.1
 obtain rfl : cols2.length = m1 := h2.1
 obtain rfl : l1.length = nK := hk1.1
 obtain rfl : l2.length = mK := hk2.1
 have HI1 := Lib.hid hin1
 have HI2 := Lib.hid hin2
 clear hin1 hin2
 have hb0 := ((Below.refl w.heap.size w).alloc (Nat.le_refl _) (.cells #[v0, .slice A1 cols1.length c1, v2, v3, v4, v5] 45)).alloc (by simp) (.cells #[u0, .slice B1 cols2.length d1, u2, u3, u4, u5] 45)
 have r1 := (Row.new w 45 #[v0, .slice A1 cols1.length c1, v2, v3, v4, v5]).alloc (.cells #[u0, .slice B1 cols2.length d1, u2, u3, u4, u5] 45)
 have r2 := Row.newAt (w.alloc (.cells #[v0, .slice A1 cols1.length c1, v2, v3, v4, v5] 45)) 45 #[u0, .slice B1 cols2.length d1, u2, u3, u4, u5] (w.heap.size + 1) (by simp)
 cases hl : (l1.length == l2.length)
 ·have hl' : ¬ ((l1.length : Int) = l2.length) := by have := beq_eq_false_iff_ne.1 hl; omega
  have HF := Lib.hid (show sameB cols1 l1 cols2 l2 = false by unfold sameB; rw [decide_eq_false (beq_eq_false_iff_ne.1 hl)]; rfl)
  clear hl
  go_enter Tryz.func109, Tryz.ntmps109
  go_wp2
  go_ret
  exact ⟨retB HF.out.symm, hb0⟩
 have hlen : l1.length = l2.length := by simpa using hl
 have hl' : (l1.length : Int) = l2.length := by omega
 have hz : (l1.zip l2).length = l1.length := by simp [hlen]
 have HZ := Lib.hid hz
 have HL := Lib.hid hlen
 have HE := Lib.hid (show sameB cols1 l1 cols2 l2 = (l1.zip l2).all (kindV cols1 cols2) by unfold sameB; rw [decide_eq_true hlen]; rfl)
 clear hl hz hlen
 go_enter Tryz.func109, Tryz.ntmps109
 go_wp2_with fail
 clear hl'
 generalize (w.alloc (.cells #[v0, .slice A1 cols1.length c1, v2, v3, v4, v5] 45)).alloc (.cells #[u0, .slice B1 cols2.length d1, u2, u3, u4, u5] 45) = x0 at *
 go_loopw [17] (fun i wr => ∃ k : Nat, k ≤ l1.length ∧ i = .int .i64 k ∧ Hid (((l1.zip l2).take k).all (kindV cols1 cols2) = true) ∧ Row wr w.heap.size 45 #[v0, .slice A1 cols1.length c1, v2, v3, v4, v5] ∧ Row wr (w.heap.size + 1) 45 #[u0, .slice B1 cols2.length d1, u2, u3, u4, u5] ∧ Below w.heap.size w wr) (fun i _ => l1.length - (intOf i).toNat)
 case atStart => exact ⟨0, by omega, rfl, Lib.hid (by simp), r1, r2, hb0⟩
 case round =>
  obtain ⟨k, hk, rfl, hall, hr1, hr2, hb⟩ := hrel
  by_cases hlt : k < l1.length
  ·have hlt2 : k < l2.length := by have := HL.out; omega
   obtain ⟨⟨a0, a1, a2, a3, a4, a5⟩, -⟩ := hr1.all6
   obtain ⟨⟨z0, z1, z2, z3, z4, z5⟩, -⟩ := hr2.all6
   obtain ⟨bk, offk, -, rfl, p0⟩ := IntR.at_ (hk1.below IntR.stays hb) hlt
   obtain ⟨bl, offl, -, rfl, p1⟩ := IntR.at_ (hk2.below IntR.stays hb) hlt2
   have hi1 := HI1.out _ (List.getElem_mem hlt)
   have hi2 := HI2.out _ (List.getElem_mem hlt2)
   have hsn := all_take (kindV cols1 cols2) (l1.zip l2) k (by rw [HZ.out]; exact hlt)
   have hno := fun hf => all_no (kindV cols1 cols2) (l1.zip l2) k (by rw [HZ.out]; exact hlt) hf
   obtain ⟨j1, hj1⟩ : ∃ j : Nat, l1[k] = (j : Int) := ⟨l1[k].toNat, by omega⟩
   obtain ⟨j2, hj2⟩ : ∃ j : Nat, l2[k] = (j : Int) := ⟨l2[k].toNat, by omega⟩
   rw [hj1] at p0 hi1
   rw [hj2] at p1 hi2
   have hjl1 : j1 < cols1.length := by omega
   have hjl2 : j2 < cols2.length := by omega
   have eg : kindV cols1 cols2 ((l1.zip l2)[k]'(by rw [HZ.out]; exact hlt)) = (cols1[j1].kind == cols2[j2].kind) := by
    rw [List.getElem_zip]; unfold kindV; simp only [hj1, hj2, kindAt_nat hjl1, kindAt_nat hjl2]
   rw [hall.out, Bool.true_and, eg] at hsn
   rw [eg] at hno
   obtain ⟨b, off, -, rfl, q0, q1, q2, q3, q4, q5⟩ := ClR.at_ (h1.below ClR.stays hb) hjl1
   obtain ⟨b', off', -, rfl, y0, y1, y2, y3, y4, y5⟩ := ClR.at_ (h2.below ClR.stays hb) hjl2
   have i0 : (0 : Int) ≤ k := by omega
   have i1 : (k : Int) < l1.length := by omega
   have i2 : (k : Int) < l2.length := by omega
   have i3 : (0 : Int) ≤ j1 := by omega
   have i4 : (j1 : Int) < cols1.length := by omega
   have i5 : (0 : Int) ≤ j2 := by omega
   have i6 : (j2 : Int) < cols2.length := by omega
   clear eg hj1 hj2 hi1 hi2
   cases hc : (cols1[j1].kind == cols2[j2].kind)
   ·have HF := Lib.hid (show sameB cols1 l1 cols2 l2 = false by rw [HE.out]; exact hno hc)
    have hc2 : (cols1[j1].kind != cols2[j2].kind) = true := by rw [bne, hc]; rfl
    clear hsn hno hall
    go_wp2_with fail
    go_quiet (fail)
    go_wp2_with fail
    go_ret
    exact ⟨retB HF.out.symm, below_drewN hb _⟩
   ·have HA := Lib.hid (hsn.trans hc)
    have hc2 : (cols1[j1].kind != cols2[j2].kind) = false := by rw [bne, hc]; rfl
    clear hsn hno hall
    go_wp2_with fail
    go_quiet (fail)
    go_wp2_with fail
    go_roundw
    case rel => exact ⟨k + 1, by omega, by go_num, Lib.hid HA.out, hr1.drewN _, hr2.drewN _, below_drewN hb _⟩
    case measure => simp [intOf]; omega
  ·have e : (l1.zip l2).take k = l1.zip l2 := List.take_of_length_le (by rw [HZ.out]; omega)
   have h1 := hall.out
   rw [e] at h1
   have HF := Lib.hid (show sameB cols1 l1 cols2 l2 = true by rw [HE.out]; exact h1)
   have i3 : ¬ (k : Int) < l2.length := by have := HL.out; omega
   clear e h1 hall
   go_wp2
   go_ret
   exact ⟨retB HF.out.symm, hb⟩
theorem fk_cols {x : Tb} (hx : tableB x = true) {k : Nat} (hlt : k < x.fks.length) : ∀ y ∈ x.fks[k].cols, 0 ≤ y ∧ y < x.cols.length := by
 unfold tableB fksB at hx
 simp only [Bool.and_eq_true, decide_eq_true_eq] at hx
 have := List.all_eq_true.1 hx.2.2.2.2.2.2 _ (List.getElem_mem hlt)
 unfold fkB at this
 rw [Bool.and_eq_true] at this
 exact (colsInB_len this.1).2
theorem key_cols {x : Tb} (hx : tableB x = true) : ∀ y ∈ x.key, 0 ≤ y ∧ y < x.cols.length := by
 unfold tableB keyB at hx
 simp only [Bool.and_eq_true] at hx
 exact (colsInB_len hx.2.2.1.1).2
set_option maxRecDepth 100000 in
set_option maxHeartbeats 2000000 in
theorem implFksLead (s : List Tb) (x : Tb) (AS : Option Addr) (nS cS bm : Nat) (A1 : Option Addr) (n1 c1 : Nat) (A2 : Option Addr) (n2 c2 : Nat) (A3 : Option Addr) (n3 c3 : Nat) (A4 : Option Addr) (n4 c4 : Nat) (A5 : Option Addr) (n5 c5 : Nat) (ok : Nat → Prop) (w : World)
  (hs : Sl TbR 6 ok w AS nS s) (hp : PlacesIn w bm (s.map Tb.name)) (h1 : Sl ClR 6 ok w A1 n1 x.cols) (h5 : Sl FkR 5 ok w A5 n5 x.fks) (hx : tableB x = true) (hall : s.all tableB = true) (hsz : szL Tb.sz s ≤ 1048576) (hxs : x.sz ≤ 1048576) :
  Calls Tryz.prog 75 #[.slice AS nS cS, .map (some bm), .agg #[.string x.name, .slice A1 n1 c1, .slice A2 n2 c2, .slice A3 n3 c3, .slice A4 n4 c4, .slice A5 n5 c5]] w fun e w' => e = .returned (.bool (leadsB s x)) ∧ Below w.heap.size w w' := by
 obtain rfl : s.length = nS := hs.1
 obtain rfl : x.fks.length = n5 := h5.1
 have e1 := h1.1
 have HN1 := Lib.hid (show n1 ≤ 1048576 by unfold Tb.sz szL at hxs; omega)
 have hn5 : x.fks.length ≤ 1048576 := by unfold Tb.sz szL at hxs; omega
 have HXS := Lib.hid (show szL Fk.sz x.fks ≤ 1048576 by unfold Tb.sz at hxs; omega)
 have HSZ := Lib.hid hsz
 have HX := Lib.hid hx
 have HALL := Lib.hid hall
 clear hsz hxs hx hall e1
 have hb0 := (Below.refl w.heap.size w).alloc (Nat.le_refl _) (.cells #[.string x.name, .slice A1 n1 c1, .slice A2 n2 c2, .slice A3 n3 c3, .slice A4 n4 c4, .slice A5 x.fks.length c5] 45)
 have r0 := Row.new w 45 #[.string x.name, .slice A1 n1 c1, .slice A2 n2 c2, .slice A3 n3 c3, .slice A4 n4 c4, .slice A5 x.fks.length c5]
 have hp0 := hp.alloc (.cells #[.string x.name, .slice A1 n1 c1, .slice A2 n2 c2, .slice A3 n3 c3, .slice A4 n4 c4, .slice A5 x.fks.length c5] 45)
 go_enter Tryz.func75, Tryz.ntmps75
 go_wp2_with fail
 generalize w.alloc (.cells #[.string x.name, .slice A1 n1 c1, .slice A2 n2 c2, .slice A3 n3 c3, .slice A4 n4 c4, .slice A5 x.fks.length c5] 45) = x0 at *
 go_loopw [14] (fun i wr => ∃ k : Nat, k ≤ x.fks.length ∧ i = .int .i64 k ∧ Hid ((x.fks.take k).all (leadB s x) = true) ∧ Row wr w.heap.size 45 #[.string x.name, .slice A1 n1 c1, .slice A2 n2 c2, .slice A3 n3 c3, .slice A4 n4 c4, .slice A5 x.fks.length c5] ∧ PlacesIn wr bm (s.map Tb.name) ∧ Below w.heap.size w wr) (fun i _ => x.fks.length - (intOf i).toNat)
 case atStart => exact ⟨0, by omega, rfl, Lib.hid (by simp), r0, hp0, hb0⟩
 case round =>
  clear hp hp0 r0 hb0
  obtain ⟨k, hk, rfl, hall, hr, hp, hb⟩ := hrel
  by_cases hlt : k < x.fks.length
  ·obtain ⟨b, off, A9, n9, c9, -, rfl, q0, q1, q2, q3, q4, hfc, -⟩ := FkR.at_ (h5.below FkR.stays hb) hlt
   obtain rfl : x.fks[k].cols.length = n9 := hfc.1
   have hsn := all_take (leadB s x) x.fks k hlt
   rw [hall.out, Bool.true_and] at hsn
   have hno := fun hf : leadB s x x.fks[k] = false => show leadsB s x = false from all_no (leadB s x) x.fks k hlt hf
   have hfk : x.fks[k].cols.length ≤ 1048576 ∧ x.fks[k].table.size ≤ 1048576 := by have := HXS.out; have := sum_mem_le Fk.sz x.fks k hlt; unfold szL at *; simp only [Fk.sz] at *; omega
   have HN9 := Lib.hid hfk.1
   have HTB := Lib.hid (show x.fks[k].table.size ≤ maxLen by have := hfk.2; unfold maxLen; omega)
   have HI1 := Lib.hid (show ∀ y ∈ x.fks[k].cols, 0 ≤ y ∧ y < x.cols.length from fk_cols HX.out hlt)
   clear hfk
   generalize x.fks[k] = f at *
   have hbx := (Below.refl wr.heap.size wr).alloc (Nat.le_refl _) (.cells #[.slice A9 f.cols.length c9, .string f.table, .int .i64 f.del, .int .i64 f.upd, .bool f.dfr] 63)
   have hba := hb.trans (hbx.mono hb.size)
   have rf := Row.new wr 63 #[.slice A9 f.cols.length c9, .string f.table, .int .i64 f.del, .int .i64 f.upd, .bool f.dfr]
   have hr1 := hr.below hbx
   have hp1 := hp.below hbx
   obtain ⟨⟨f0, f1, f2, f3, f4⟩, -⟩ := rf.five
   obtain ⟨⟨x0, x1, x2, x3, x4, x5⟩, -⟩ := hr1.all6
   obtain ⟨D, m1', m2', m3, m4, m5⟩ := id hp1
   have hh := m3 f.table
   clear m5 m3 m2'
   by_cases hno1 : atN (s.map Tb.name) f.table = -1
   ·rw [decide_eq_false (by simp [hno1])] at hh
    have HH := Lib.hid hh
    have HF := Lib.hid (hno (by unfold leadB; rw [decide_eq_false (by simp [hno1])]; rfl))
    clear hh hno1 hno hsn hall m4
    go_wp2_with (first
     | (at_lookup; refine wpList_lookup_own_ok_int _ rfl _ _ 93 rfl 9 2 .i64 lawS Tryz.underlying93 Tryz.underlying2 (zeroI _) bm _ D rfl m1' _ _ rfl (keyS_of f.table HTB.out) ?_; intro c hat hwc; rw [HH.out]))
    clear hat hwc m1'
    go_quiet (fail)
    go_wp2_with fail
    go_ret
    exact ⟨retB HF.out.symm, below_drewN hba _⟩
   rw [decide_eq_true hno1] at hh
   have HH := Lib.hid hh
   obtain ⟨j, hj, hjl⟩ : ∃ j : Nat, atN (s.map Tb.name) f.table = (j : Int) ∧ j < s.length := by
    rcases atN_rng (s.map Tb.name) f.table with h | h
    ·exact absurd h hno1
    ·rw [List.length_map] at h; exact ⟨(atN (s.map Tb.name) f.table).toNat, by omega, by omega⟩
   have hm4 := m4 f.table hno1
   rw [hj] at hm4
   have HA := Lib.hid hm4
   have hld : leadB s x f = sameB x.cols f.cols s[j].cols s[j].key := by
    unfold leadB; rw [decide_eq_true hno1, hj]; simp [List.getElem?_eq_getElem hjl]
   rw [hld] at hsn hno
   obtain ⟨bs, offs, B1, m1, d1, B2, m2, d2, B3, m3, d3, B4, m4', d4, B5, m5, d5, -, rfl, y0, y1, y2, y3, y4, y5, hs1, hs2, -, -, -, -⟩ := TbR.at_ (hs.below TbR.stays hba) hjl
   have hx1 := h1.below ClR.stays hba
   have hfc := hfc.below IntR.stays hbx
   have hto : tableB s[j] = true := List.all_eq_true.1 HALL.out _ (List.getElem_mem hjl)
   have HI2 := Lib.hid (show ∀ y ∈ s[j].key, 0 ≤ y ∧ y < s[j].cols.length from key_cols hto)
   have hsj : m1 ≤ 1048576 ∧ m2 ≤ 1048576 := by have := HSZ.out; have := sum_mem_le Tb.sz s j hjl; have := hs1.1; have := hs2.1; unfold szL at *; simp only [Tb.sz] at *; unfold szL at *; omega
   have HM1 := Lib.hid hsj.1
   have HM2 := Lib.hid hsj.2
   have i0 : (0 : Int) ≤ j := by omega
   have i1 : (j : Int) < s.length := by omega
   clear hh hno1 hall m4 hm4 hj hld hto hsj
   cases hsm : sameB x.cols f.cols s[j].cols s[j].key
   ·have HSM := Lib.hid hsm
    have HF := Lib.hid (hno hsm)
    clear hsn hno hsm
    go_wp2_with (first
     | (at_lookup; refine wpList_lookup_own_ok_int _ rfl _ _ 93 rfl 9 2 .i64 lawS Tryz.underlying93 Tryz.underlying2 (zeroI _) bm _ D rfl m1' _ _ rfl (keyS_of f.table HTB.out) ?_; intro c hat hwc; rw [HH.out]))
    obtain rfl : c = (j : Int) := by have := HA.out; rw [hat] at this; simpa using this
    clear hat hwc m1'
    generalize wr.alloc (.cells #[.slice A9 f.cols.length c9, .string f.table, .int .i64 f.del, .int .i64 f.upd, .bool f.dfr] 63) = z1 at *
    refine wp_region_noPanic ?_
    refine wp_region_held_drew (S := fun w' => w'.cell? ⟨w.heap.size, 0, none⟩ = some (.string x.name) ∧ w'.cell? ⟨w.heap.size, 1, none⟩ = some (.slice A1 n1 c1) ∧ w'.cell? ⟨w.heap.size, 2, none⟩ = some (.slice A2 n2 c2) ∧ w'.cell? ⟨w.heap.size, 3, none⟩ = some (.slice A3 n3 c3) ∧ w'.cell? ⟨w.heap.size, 4, none⟩ = some (.slice A4 n4 c4) ∧ w'.cell? ⟨w.heap.size, 5, none⟩ = some (.slice (some ⟨b,off,none⟩) x.fks.length c5) ∧ w'.cell? ⟨wr.heap.size, 0, none⟩ = some (.slice A9 f.cols.length c9) ∧ w'.cell? ⟨bs, offs + j * 6, none⟩ = some (.string s[j].name) ∧ w'.cell? ⟨bs, offs + j * 6 + 1, none⟩ = some (.slice B1 m1 d1) ∧ w'.cell? ⟨bs, offs + j * 6 + 2, none⟩ = some (.slice B2 m2 d2) ∧ w'.cell? ⟨bs, offs + j * 6 + 3, none⟩ = some (.slice B3 m3 d3) ∧ w'.cell? ⟨bs, offs + j * 6 + 4, none⟩ = some (.slice B4 m4' d4) ∧ w'.cell? ⟨bs, offs + j * 6 + 5, none⟩ = some (.slice B5 m5 d5)) (by kernel_rfl) ⟨x0, x1, x2, x3, x4, x5, f0, y0, y1, y2, y3, y4, y5⟩ (fun hHeld => ?_)
    refine tk 0 ?_
    refine tk 1 ?_
    refine tk 2 ?_
    refine tk 3 ?_
    refine tk 4 ?_
    refine tk 5 ?_
    refine tk 6 ?_
    refine tk 7 ?_
    refine tk 8 ?_
    refine tk 9 ?_
    refine tk 10 ?_
    refine tk 11 ?_
    refine tk 12 ?_
    refine tk 13 ?_
    refine tk 14 ?_
    refine wpAnyH_ready (rs := [15]) (by kernel_rfl) (by simp) ?_
    refine AllReadyH.cons rfl (fun K hK => ?_) AllReadyH.nil
    go_simp
    refine (implSameKinds A1 A9 B1 B2 n1 c1 f.cols.length c9 m1 d1 m2 d2 _ _ _ _ _ _ _ _ _ _ x.cols s[j].cols f.cols s[j].key ok _ (hx1.drew ClR.stays) (hfc.drew IntR.stays) (hs1.drew ClR.stays) (hs2.drew IntR.stays) HI1.out HI2.out HN1.out HN9.out HM1.out HM2.out).mono ?_
    rintro e wd ⟨rfl, hqd⟩
    rw [HSM.out]
    go_wp2_with fail
    refine hK.out _ _ ⟨below_keep hqd _ _ hHeld.1, below_keep hqd _ _ hHeld.2.1, below_keep hqd _ _ hHeld.2.2.1, below_keep hqd _ _ hHeld.2.2.2.1, below_keep hqd _ _ hHeld.2.2.2.2.1, below_keep hqd _ _ hHeld.2.2.2.2.2.1, below_keep hqd _ _ hHeld.2.2.2.2.2.2.1, below_keep hqd _ _ hHeld.2.2.2.2.2.2.2.1, below_keep hqd _ _ hHeld.2.2.2.2.2.2.2.2.1, below_keep hqd _ _ hHeld.2.2.2.2.2.2.2.2.2.1, below_keep hqd _ _ hHeld.2.2.2.2.2.2.2.2.2.2.1, below_keep hqd _ _ hHeld.2.2.2.2.2.2.2.2.2.2.2.1, below_keep hqd _ _ hHeld.2.2.2.2.2.2.2.2.2.2.2.2⟩ (fun hHeld => ?_)
    clear hK K
    (try simp only [Act.put, pz0, pz1, pz2, pz3, pz4, pz5])
    refine tk 16 ?_
    refine tk 17 ?_
    refine wpAnyH_done (by kernel_rfl) ?_ _
    refine NoPanic.normal ?_
    have hz := hba.drew.trans (hqd.mono hba.drew.size)
    have rz := hr1.drew.below hqd
    have hpz := hp1.drew.below hqd
    clear hHeld x0 x1 x2 x3 x4 x5 f0 y0 y1 y2 y3 y4 y5
    go_wp2_with fail
    go_ret
    exact ⟨retB HF.out.symm, hz⟩
   ·have HSM := Lib.hid hsm
    have HG := Lib.hid (hsn.trans hsm)
    clear hsn hno hsm
    go_wp2_with (first
     | (at_lookup; refine wpList_lookup_own_ok_int _ rfl _ _ 93 rfl 9 2 .i64 lawS Tryz.underlying93 Tryz.underlying2 (zeroI _) bm _ D rfl m1' _ _ rfl (keyS_of f.table HTB.out) ?_; intro c hat hwc; rw [HH.out]))
    obtain rfl : c = (j : Int) := by have := HA.out; rw [hat] at this; simpa using this
    clear hat hwc m1'
    generalize wr.alloc (.cells #[.slice A9 f.cols.length c9, .string f.table, .int .i64 f.del, .int .i64 f.upd, .bool f.dfr] 63) = z1 at *
    refine wp_region_noPanic ?_
    refine wp_region_held_drew (S := fun w' => w'.cell? ⟨w.heap.size, 0, none⟩ = some (.string x.name) ∧ w'.cell? ⟨w.heap.size, 1, none⟩ = some (.slice A1 n1 c1) ∧ w'.cell? ⟨w.heap.size, 2, none⟩ = some (.slice A2 n2 c2) ∧ w'.cell? ⟨w.heap.size, 3, none⟩ = some (.slice A3 n3 c3) ∧ w'.cell? ⟨w.heap.size, 4, none⟩ = some (.slice A4 n4 c4) ∧ w'.cell? ⟨w.heap.size, 5, none⟩ = some (.slice (some ⟨b,off,none⟩) x.fks.length c5) ∧ w'.cell? ⟨wr.heap.size, 0, none⟩ = some (.slice A9 f.cols.length c9) ∧ w'.cell? ⟨bs, offs + j * 6, none⟩ = some (.string s[j].name) ∧ w'.cell? ⟨bs, offs + j * 6 + 1, none⟩ = some (.slice B1 m1 d1) ∧ w'.cell? ⟨bs, offs + j * 6 + 2, none⟩ = some (.slice B2 m2 d2) ∧ w'.cell? ⟨bs, offs + j * 6 + 3, none⟩ = some (.slice B3 m3 d3) ∧ w'.cell? ⟨bs, offs + j * 6 + 4, none⟩ = some (.slice B4 m4' d4) ∧ w'.cell? ⟨bs, offs + j * 6 + 5, none⟩ = some (.slice B5 m5 d5)) (by kernel_rfl) ⟨x0, x1, x2, x3, x4, x5, f0, y0, y1, y2, y3, y4, y5⟩ (fun hHeld => ?_)
    refine tk 0 ?_
    refine tk 1 ?_
    refine tk 2 ?_
    refine tk 3 ?_
    refine tk 4 ?_
    refine tk 5 ?_
    refine tk 6 ?_
    refine tk 7 ?_
    refine tk 8 ?_
    refine tk 9 ?_
    refine tk 10 ?_
    refine tk 11 ?_
    refine tk 12 ?_
    refine tk 13 ?_
    refine tk 14 ?_
    refine wpAnyH_ready (rs := [15]) (by kernel_rfl) (by simp) ?_
    refine AllReadyH.cons rfl (fun K hK => ?_) AllReadyH.nil
    go_simp
    refine (implSameKinds A1 A9 B1 B2 n1 c1 f.cols.length c9 m1 d1 m2 d2 _ _ _ _ _ _ _ _ _ _ x.cols s[j].cols f.cols s[j].key ok _ (hx1.drew ClR.stays) (hfc.drew IntR.stays) (hs1.drew ClR.stays) (hs2.drew IntR.stays) HI1.out HI2.out HN1.out HN9.out HM1.out HM2.out).mono ?_
    rintro e wd ⟨rfl, hqd⟩
    rw [HSM.out]
    go_wp2_with fail
    refine hK.out _ _ ⟨below_keep hqd _ _ hHeld.1, below_keep hqd _ _ hHeld.2.1, below_keep hqd _ _ hHeld.2.2.1, below_keep hqd _ _ hHeld.2.2.2.1, below_keep hqd _ _ hHeld.2.2.2.2.1, below_keep hqd _ _ hHeld.2.2.2.2.2.1, below_keep hqd _ _ hHeld.2.2.2.2.2.2.1, below_keep hqd _ _ hHeld.2.2.2.2.2.2.2.1, below_keep hqd _ _ hHeld.2.2.2.2.2.2.2.2.1, below_keep hqd _ _ hHeld.2.2.2.2.2.2.2.2.2.1, below_keep hqd _ _ hHeld.2.2.2.2.2.2.2.2.2.2.1, below_keep hqd _ _ hHeld.2.2.2.2.2.2.2.2.2.2.2.1, below_keep hqd _ _ hHeld.2.2.2.2.2.2.2.2.2.2.2.2⟩ (fun hHeld => ?_)
    clear hK K
    (try simp only [Act.put, pz0, pz1, pz2, pz3, pz4, pz5])
    refine tk 16 ?_
    refine tk 17 ?_
    refine wpAnyH_done (by kernel_rfl) ?_ _
    refine NoPanic.normal ?_
    have hz := hba.drew.trans (hqd.mono hba.drew.size)
    have rz := hr1.drew.below hqd
    have hpz := hp1.drew.below hqd
    clear hHeld x0 x1 x2 x3 x4 x5 f0 y0 y1 y2 y3 y4 y5
    go_wp2_with fail
    go_roundw
    case rel => exact ⟨k + 1, by omega, by go_num, Lib.hid HG.out, rz, hpz, hz⟩
    case measure => simp [intOf]; omega
  ·have e : x.fks.take k = x.fks := List.take_of_length_le (by omega)
   have g1 := hall.out
   rw [e] at g1
   have HF := Lib.hid (show leadsB s x = true from g1)
   clear e g1 hall
   go_wp2
   go_ret
   exact ⟨retB HF.out.symm, hb⟩
set_option maxRecDepth 100000 in
set_option maxHeartbeats 2000000 in
theorem implSchemaOk (AS : Option Addr) (nS cS : Nat) (s : List Tb) (ok : Nat → Prop) (w : World) (hs : Sl TbR 6 ok w AS nS s) (hsz : szL Tb.sz s ≤ 1048576) :
  Calls Tryz.prog 43 #[.slice AS nS cS] w fun e w' => e = .returned (.bool (schemaB s)) ∧ Below w.heap.size w w' := by
 obtain rfl : s.length = nS := hs.1
 have hn : s.length ≤ 1048576 := by unfold szL at hsz; omega
 have HSZ := Lib.hid hsz
 have HT := Lib.hid (fun k (hlt : k < s.length) => show s[k].sz ≤ 1048576 by have := HSZ.out; have := sum_mem_le Tb.sz s k hlt; unfold szL at *; omega)
 clear hsz
 by_cases h5 : 5 < (s.length : Int)
 ·have HF := Lib.hid (show schemaB s = false by unfold schemaB; rw [decide_eq_false (by omega)]; rfl)
  go_enter Tryz.func43, Tryz.ntmps43
  go_wp2
  go_ret
  exact ⟨retB HF.out.symm, Below.refl _ _⟩
 have h5' : decide (5 < (s.length : Int)) = false := by simpa using h5
 have H5 := Lib.hid (show decide (s.length ≤ 5) = true from decide_eq_true (by omega))
 go_enter Tryz.func43, Tryz.ntmps43
 go_wp2_with fail
 go_loopw [13] (fun i wr => ∃ k : Nat, k ≤ s.length ∧ i = .int .i64 k ∧ Hid ((s.take k).all tableB = true) ∧ Below w.heap.size w wr) (fun i _ => s.length - (intOf i).toNat)
 case atStart => exact ⟨0, by omega, rfl, Lib.hid (by simp), Below.refl _ _⟩
 case round =>
  obtain ⟨k, hk, rfl, hall, hb⟩ := hrel
  by_cases hlt : k < s.length
  ·obtain ⟨b, off, A1, n1, c1, A2, n2, c2, A3, n3, c3, A4, n4, c4, A5, n5, c5, -, rfl, q0, q1, q2, q3, q4, q5, s1, s2, s3, s4, s5, -⟩ := TbR.at_ (hs.below TbR.stays hb) hlt
   have hsn := all_take tableB s k hlt
   rw [hall.out, Bool.true_and] at hsn
   have hno := fun hf => all_no tableB s k hlt hf
   have HX := Lib.hid (HT.out k hlt)
   have hbx := (Below.refl wr.heap.size wr).alloc (Nat.le_refl _) (.cells #[.string s[k].name, .slice A1 n1 c1, .slice A2 n2 c2, .slice A3 n3 c3, .slice A4 n4 c4, .slice A5 n5 c5] 45)
   have hba := hb.trans (hbx.mono hb.size)
   have r0 := Row.new wr 45 #[.string s[k].name, .slice A1 n1 c1, .slice A2 n2 c2, .slice A3 n3 c3, .slice A4 n4 c4, .slice A5 n5 c5]
   obtain ⟨⟨f0, f1, f2, f3, f4, f5⟩, -⟩ := r0.all6
   have HC := Lib.hid (implTableOk s[k] A1 n1 c1 A2 n2 c2 A3 n3 c3 A4 n4 c4 A5 n5 c5 ok _ (s1.below ClR.stays hbx) (s2.below IntR.stays hbx) (s3.below UqR.stays hbx) (s4.below CkR.stays hbx) (s5.below FkR.stays hbx) HX.out)
   cases hc : tableB s[k]
   ·have HCC := Lib.hid hc
    have HF := Lib.hid (show schemaB s = false by unfold schemaB; rw [hno hc]; simp)
    clear hsn hno hall hc
    go_wp2_with fail
    refine HC.out.mono ?_
    rintro e w1 ⟨rfl, hb1⟩
    rw [HCC.out]
    clear HC
    go_wp2_with fail
    go_ret
    exact ⟨retB HF.out.symm, hba.trans (hb1.mono hba.size)⟩
   ·have HCC := Lib.hid hc
    have HA := Lib.hid (hsn.trans hc)
    clear hsn hno hall hc
    go_wp2_with fail
    refine HC.out.mono ?_
    rintro e w1 ⟨rfl, hb1⟩
    rw [HCC.out]
    clear HC
    go_wp2_with fail
    go_roundw
    case rel => exact ⟨k + 1, by omega, by go_num, Lib.hid HA.out, hba.trans (hb1.mono hba.size)⟩
    case measure => simp [intOf]; omega
  ·have e : s.take k = s := List.take_of_length_le (by omega)
   have g1 := hall.out
   rw [e] at g1
   have HALL := Lib.hid g1
   have HU := Lib.hid (cntGo_uniq (s.map Tb.name) [])
   clear e g1 hall
   go_wp2_with fail
   refine (implTablePlaces AS s.length cS s ok _ (hs.below TbR.stays hb) HSZ.out).mono ?_
   rintro e w1 ⟨bm, rfl, hp, hbb, hb1⟩
   have hbz := hb.trans (hb1.mono hb.size)
   obtain ⟨D, p1, p2, p3, p4, p5⟩ := id hp
   clear p2 p3 p4
   have hu := HU.out
   rw [← p5, List.length_map] at hu
   clear p5
   cases huq : uniqGo [] (s.map Tb.name)
   ·have hne : ¬ ((Maps.size D : Int) = s.length) := by
     rw [huq] at hu; have := beq_eq_false_iff_ne.1 hu; omega
    have HF := Lib.hid (show schemaB s = false by unfold schemaB; rw [huq]; simp)
    clear hu huq
    go_wp2_with (first | (at_len; refine wpList_len_own _ rfl _ 93 rfl 9 2 Tryz.underlying93 _ bm _ D rfl p1 ?_))
    go_ret
    exact ⟨retB HF.out.symm, hbz⟩
   have heq : (Maps.size D : Int) = s.length := by rw [huq] at hu; have : Maps.size D = s.length := by simpa using hu
                                                   omega
   have HUQ := Lib.hid huq
   clear hu huq hk hlt
   go_wp2_with (first | (at_len; refine wpList_len_own _ rfl _ 93 rfl 9 2 Tryz.underlying93 _ bm _ D rfl p1 ?_))
   clear heq p1
   go_loopw [30] (fun i wr => ∃ k : Nat, k ≤ s.length ∧ i = .int .i64 k ∧ Hid ((s.take k).all (leadsB s) = true) ∧ PlacesIn wr bm (s.map Tb.name) ∧ Below w.heap.size w wr) (fun i _ => s.length - (intOf i).toNat)
   case atStart => exact ⟨0, by omega, rfl, Lib.hid (by simp), hp, hbz⟩
   case round =>
    clear hp hbz hb1 hb
    obtain ⟨k, hk, rfl, hall, hp, hb⟩ := hrel
    by_cases hlt : k < s.length
    ·obtain ⟨b, off, A1, n1, c1, A2, n2, c2, A3, n3, c3, A4, n4, c4, A5, n5, c5, -, ea, q0, q1, q2, q3, q4, q5, s1, s2, s3, s4, s5, -⟩ := TbR.at_ (hs.below TbR.stays hb) hlt
     subst ea
     have hsn := all_take (leadsB s) s k hlt
     rw [hall.out, Bool.true_and] at hsn
     have hno := fun hf => all_no (leadsB s) s k hlt hf
     have HX := Lib.hid (HT.out k hlt)
     have HTB := Lib.hid (show tableB s[k] = true from List.all_eq_true.1 HALL.out _ (List.getElem_mem hlt))
     have hbx := (Below.refl wr.heap.size wr).alloc (Nat.le_refl _) (.cells #[.string s[k].name, .slice A1 n1 c1, .slice A2 n2 c2, .slice A3 n3 c3, .slice A4 n4 c4, .slice A5 n5 c5] 45)
     have hba := hb.trans (hbx.mono hb.size)
     have hp1 := hp.below hbx
     have r0 := Row.new wr 45 #[.string s[k].name, .slice A1 n1 c1, .slice A2 n2 c2, .slice A3 n3 c3, .slice A4 n4 c4, .slice A5 n5 c5]
     obtain ⟨⟨f0, f1, f2, f3, f4, f5⟩, -⟩ := r0.all6
     have HC := Lib.hid (implFksLead s s[k] _ s.length cS bm A1 n1 c1 A2 n2 c2 A3 n3 c3 A4 n4 c4 A5 n5 c5 ok _ (hs.below TbR.stays hba) hp1 (s1.below ClR.stays hbx) (s5.below FkR.stays hbx) HTB.out HALL.out HSZ.out HX.out)
     cases hc : leadsB s s[k]
     ·have HCC := Lib.hid hc
      have HF := Lib.hid (show schemaB s = false by unfold schemaB; rw [hno hc]; simp)
      clear hsn hno hall hc
      go_wp2_with fail
      refine HC.out.mono ?_
      rintro e w1 ⟨rfl, hb1⟩
      rw [HCC.out]
      clear HC
      go_wp2_with fail
      go_ret
      exact ⟨retB HF.out.symm, hba.trans (hb1.mono hba.size)⟩
     ·have HCC := Lib.hid hc
      have HA := Lib.hid (hsn.trans hc)
      clear hsn hno hall hc
      go_wp2_with fail
      refine HC.out.mono ?_
      rintro e w1 ⟨rfl, hb1⟩
      rw [HCC.out]
      clear HC
      go_wp2_with fail
      go_roundw
      case rel => exact ⟨k + 1, by omega, by go_num, Lib.hid HA.out, hp1.below hb1, hba.trans (hb1.mono hba.size)⟩
      case measure => simp [intOf]; omega
    ·have e : s.take k = s := List.take_of_length_le (by omega)
     have g1 := hall.out
     rw [e] at g1
     have HF := Lib.hid (show schemaB s = true by unfold schemaB; rw [H5.out, HALL.out, HUQ.out, g1]; rfl)
     clear e g1 hall
     go_wp2_with fail
     go_ret
     exact ⟨retB HF.out.symm, hb⟩
end Go.Proofs.YtjhhamlnlalkoaaGreat
namespace Go.Proofs.YtjhhamlnlalkoaaGreat
open Go.RowKit
theorem below_dN {B : Nat} {w w' : World} (h : Below B w w') (m : Nat) : Below B w (w'.drewN m) := ⟨h.os, h.tape, h.output, h.size, h.block⟩
def eqlV (a b : Vl) : Bool := (a.k == b.k) && ((a.n == b.n) && (a.s.toList == b.s.toList))
def eqlP (p : Vl × Vl) : Bool := eqlV p.1 p.2
def eqlL (a b : List Vl) : Bool := decide (a.length = b.length) && (a.zip b).all eqlP
def hitP (p : Vl × Vl) : Bool := !(p.1.k == 0) && eqlP p
def hitB (cols : List Int) (key : List Vl) (vals : List Vl) : Bool := decide (key.length = cols.length) && ((keyL cols vals).zip key).all hitP
theorem hit_zip : ∀ (l m : List Vl), l.length = m.length → (l.zip m).all hitP = (knownL l && (l.zip m).all eqlP)
 | [], [], _ => rfl
 | [], b :: m, h => by simp at h
 | a :: l, [], h => by simp at h
 | a :: l, b :: m, h => by
  have := hit_zip l m (by simpa using h)
  simp only [List.zip_cons_cons, List.all_cons, this, hitP, knownL]
  cases (!(a.k == 0)) <;> cases eqlP (a, b) <;> simp
theorem hitB_eq (cols : List Int) (key : List Vl) (vals : List Vl) : hitB cols key vals = (knownL (keyL cols vals) && eqlL (keyL cols vals) key) := by
 have hl : (keyL cols vals).length = cols.length := by simp [keyL]
 unfold hitB eqlL
 by_cases h : key.length = cols.length
 ·rw [decide_eq_true h, decide_eq_true (by omega), hit_zip _ _ (by omega)]; simp
 ·rw [decide_eq_false h, decide_eq_false (by omega)]; simp
def idxK (cols : List Int) (key : List Vl) (rows : List Rw) : Nat → List Nat
 | 0 => []
 | k + 1 => idxK cols key rows k ++ (match rows[k]? with | some r => if hitB cols key r.vals then [k] else [] | none => [])
theorem idxK_yes {cols : List Int} {key : List Vl} {rows : List Rw} {k : Nat} (h : k < rows.length) (hr : hitB cols key rows[k].vals = true) : idxK cols key rows (k + 1) = idxK cols key rows k ++ [k] := by
 rw [idxK, List.getElem?_eq_getElem h]; simp [hr]
theorem idxK_no {cols : List Int} {key : List Vl} {rows : List Rw} {k : Nat} (h : k < rows.length) (hr : hitB cols key rows[k].vals = false) : idxK cols key rows (k + 1) = idxK cols key rows k := by
 rw [idxK, List.getElem?_eq_getElem h]; simp [hr]
theorem idxK_len (cols : List Int) (key : List Vl) (rows : List Rw) : ∀ k, (idxK cols key rows k).length ≤ k
 | 0 => Nat.le_refl _
 | k + 1 => by
  have := idxK_len cols key rows k
  rw [idxK]
  split
  ·split <;> simp <;> omega
  ·simp; omega
theorem idxK_lt (cols : List Int) (key : List Vl) (rows : List Rw) : ∀ k, ∀ x ∈ idxK cols key rows k, x < k ∧ x < rows.length
 | 0, x, h => by cases h
 | k + 1, x, h => by
  rw [idxK, List.mem_append] at h
  rcases h with h | h
  ·have := idxK_lt cols key rows k x h; omega
  ·split at h
   ·next r hr =>
    split at h
    ·have := (List.getElem?_eq_some_iff.1 hr).1; simp at h; omega
    ·cases h
   ·cases h
def idL (rows : List Rw) (l : List Nat) : List Int := l.map fun i => (rows[i]?.map Rw.id).getD 0
def findL (cols : List Int) (key : List Vl) (rows : List Rw) : List Int := idL rows (idxK cols key rows rows.length)
theorem findL_len (cols : List Int) (key : List Vl) (rows : List Rw) : (findL cols key rows).length ≤ rows.length := by
 unfold findL idL; rw [List.length_map]; exact idxK_len _ _ _ _
theorem idL_app (rows : List Rw) (l : List Nat) (k : Nat) (h : k < rows.length) : idL rows (l ++ [k]) = idL rows l ++ [rows[k].id] := by
 simp [idL, List.getElem?_eq_getElem h]
theorem zip_take {α β : Type} (a : List α) (b : List β) (k : Nat) (h : k < a.length) (h' : k < b.length) (f : α × β → Bool) : ((a.zip b).take (k + 1)).all f = (((a.zip b).take k).all f && f (a[k], b[k])) := by
 rw [List.take_succ_eq_append_getElem (by rw [List.length_zip]; omega), List.all_append]
 simp
theorem zip_no {α β : Type} {a : List α} {b : List β} {k : Nat} (h : k < a.length) (h' : k < b.length) {f : α × β → Bool} (hf : f (a[k], b[k]) = false) : (a.zip b).all f = false := by
 rw [List.all_eq_false]
 exact ⟨(a[k], b[k]), by rw [List.mem_iff_getElem]; exact ⟨k, by rw [List.length_zip]; omega, by simp⟩, by simp [hf]⟩
set_option maxRecDepth 100000 in
set_option maxHeartbeats 1000000 in
theorem specSameVals (A A' : Option Addr) (n c n' c' : Nat) (a b : List Vl) (ok ok' : Nat → Prop) (w : World) (h : Sl VlR 3 ok w A n a) (h' : Sl VlR 3 ok' w A' n' b) (hn : n ≤ 1048576) (hn' : n' ≤ 1048576) :
  Calls Tryz.prog 155 #[.slice A n c, .slice A' n' c'] w fun e w' => e = .returned (.bool (eqlL a b)) ∧ Below w.heap.size w w' := by
 obtain rfl : a.length = n := h.1
 obtain rfl : b.length = n' := h'.1
 by_cases hl : (a.length : Int) = b.length
 case neg =>
  have hl' : ((a.length : Int) == b.length) = false := by simpa using hl
  have HF := Lib.hid (show eqlL a b = false by unfold eqlL; rw [decide_eq_false (by omega)]; rfl)
  clear hl
  go_enter Tryz.func155, Tryz.ntmps155
  go_wp2_with fail
  go_ret
  exact ⟨retB HF.out.symm, Below.refl _ _⟩
 have hl' : ((a.length : Int) == b.length) = true := by simpa using hl
 have HL := Lib.hid (show a.length = b.length by omega)
 clear hl
 go_enter Tryz.func155, Tryz.ntmps155
 go_wp2_with fail
 clear hl'
 go_loopw [5] (fun i wr => ∃ k : Nat, k ≤ a.length ∧ i = .int .i64 k ∧ Hid (((a.zip b).take k).all eqlP = true) ∧ Below w.heap.size w wr) (fun i _ => a.length - (intOf i).toNat)
 case atStart => exact ⟨0, by omega, rfl, Lib.hid (by simp), Below.refl _ _⟩
 case round =>
  obtain ⟨k, hk, rfl, hall, hb⟩ := hrel
  by_cases hlt : k < a.length
  ·have hlt' : k < b.length := by have := HL.out; omega
   obtain ⟨b1, o1, -, rfl, q0, q1, q2⟩ := VlR.at_ (h.below VlR.stays hb) hlt
   obtain ⟨b2, o2, -, rfl, y0, y1, y2⟩ := VlR.at_ (h'.below VlR.stays hb) hlt'
   have i0 : (0 : Int) ≤ k := by omega
   have i1 : (k : Int) < a.length := by omega
   have i2 : (k : Int) < b.length := by omega
   have hst := zip_take a b k hlt hlt' eqlP
   rw [hall.out, Bool.true_and] at hst
   have hno := fun hf => zip_no (f := eqlP) hlt hlt' hf
   generalize a[k] = x at *
   generalize b[k] = y at *
   cases hs : eqlP (x, y)
   ·have HF := Lib.hid (show eqlL a b = false by unfold eqlL; rw [hno hs]; simp)
    have HS := Lib.hid hs
    clear hno hst hall hs
    cases e1 : (x.k == y.k)
    ·clear HS
     go_wp2_with fail
     go_quiet (fail)
     go_wp2_with fail
     go_ret
     exact ⟨retB HF.out.symm, below_dN hb _⟩
    ·cases e2 : (x.n == y.n)
     ·clear HS
      go_wp2_with fail
      go_quiet (fail)
      go_wp2_with fail
      go_ret
      exact ⟨retB HF.out.symm, below_dN hb _⟩
     ·have e3 : (x.s.toList == y.s.toList) = false := by have := HS.out; simp only [eqlP, eqlV, e1, e2, Bool.true_and] at this; exact this
      clear HS
      go_wp2_with fail
      go_quiet (fail)
      go_wp2_with fail
      go_ret
      exact ⟨retB HF.out.symm, below_dN hb _⟩
   ·rw [hs] at hst
    have HA := Lib.hid hst
    simp only [eqlP, eqlV, Bool.and_eq_true] at hs
    obtain ⟨e1, e2, e3⟩ := hs
    clear hno hst hall
    go_wp2_with fail
    go_quiet (fail)
    go_wp2_with fail
    go_roundw
    case rel => exact ⟨k + 1, by omega, by go_num, HA, below_dN hb _⟩
    case measure => simp [intOf]; omega
  ·have e : (a.zip b).take k = a.zip b := List.take_of_length_le (by rw [List.length_zip]; have := HL.out; omega)
   have h1 := hall.out
   rw [e] at h1
   have HA := Lib.hid (show eqlL a b = true by unfold eqlL; rw [decide_eq_true HL.out, h1]; rfl)
   clear e h1 hall
   go_wp2_with fail
   go_ret
   exact ⟨retB HA.out.symm, hb⟩
theorem keep8 {w w' : World} {a0 a1 a2 a3 a4 a5 a6 a7 : Addr} {v0 v1 v2 v3 v4 v5 v6 v7 : Value} (h : w.cell? a0 = some v0 ∧ w.cell? a1 = some v1 ∧ w.cell? a2 = some v2 ∧ w.cell? a3 = some v3 ∧ w.cell? a4 = some v4 ∧ w.cell? a5 = some v5 ∧ w.cell? a6 = some v6 ∧ w.cell? a7 = some v7) (hb : Below w.heap.size w w') : w'.cell? a0 = some v0 ∧ w'.cell? a1 = some v1 ∧ w'.cell? a2 = some v2 ∧ w'.cell? a3 = some v3 ∧ w'.cell? a4 = some v4 ∧ w'.cell? a5 = some v5 ∧ w'.cell? a6 = some v6 ∧ w'.cell? a7 = some v7 := by
 obtain ⟨h0, h1, h2, h3, h4, h5, h6, h7⟩ := h
 exact ⟨(hb.cell (cell_lt h0)).trans h0, (hb.cell (cell_lt h1)).trans h1, (hb.cell (cell_lt h2)).trans h2, (hb.cell (cell_lt h3)).trans h3, (hb.cell (cell_lt h4)).trans h4, (hb.cell (cell_lt h5)).trans h5, (hb.cell (cell_lt h6)).trans h6, (hb.cell (cell_lt h7)).trans h7⟩
theorem ops_at (k : Nat) (h : k < 11) : ∃ o0 o2, opsCells[k * 3]? = some o0 ∧ opsCells[k * 3 + 2]? = some o2 := by
 have hs : opsCells.size = 33 := rfl
 exact ⟨opsCells[k * 3], opsCells[k * 3 + 2], Array.getElem?_eq_getElem (by omega), Array.getElem?_eq_getElem (by omega)⟩
theorem Vals.drew {w : World} {A : Option Addr} {n : Nat} {vs : List Vl} (h : Vals w A n vs) : Vals w.drew A n vs := h
theorem implTokValueM (kk : Nat) (hk : 1 ≤ kk ∧ kk ≤ 10) (a0 a1 a2 : Value) (h2 : opsCells[kk * 3 + 2]? = some a2) (c vk vn : Int) (vs : ByteArray) (A B : Option Addr) (cap capB m : Nat) (hm : m = takes kk) (row xs : List Vl) (w : World)
  (htok : tokB ⟨kk, c, vk, vn, vs⟩ row.length = true) (hr : Vals w A row.length row) (hx : Vals w B m xs) (hok : ∀ v ∈ xs, v.ok = true) :
  Calls Tryz.prog 78 #[.agg #[a0, a1, a2], .agg #[.int .i64 kk, .int .i64 c, .int .i64 vk, .int .i64 vn, .string vs], .slice A row.length cap, .slice B m capB] w (OptPost (tokVal row ⟨kk, c, vk, vn, vs⟩ xs) w) := by
 subst hm
 exact implTokValue kk hk a0 a1 a2 h2 ⟨kk, c, vk, vn, vs⟩ rfl A B cap capB row xs w htok hr hx hok
def EvalPost (o : Option Vl) (w : World) (e : Ending) (w' : World) : Prop := e = .returned (.tuple #[.agg #[.int .i64 (o.getD Vl.zero).k, .int .i64 (o.getD Vl.zero).n, .string (o.getD Vl.zero).s], .bool o.isSome]) ∧ Below w.heap.size w w'
set_option maxRecDepth 100000 in
set_option maxHeartbeats 1000000 in
theorem implEval (A R : Option Addr) (n m cap capR : Nat) (ts : List Tk) (row : List Vl) (w : World) (h : Toks w A n ts) (hr : Vals w R m row) (hn : n ≤ maxLen) (hm : m ≤ maxLen) :
  Calls Tryz.prog 45 #[.slice A n cap, .slice R m capR] w (EvalPost (evalB ts row) w) := by
 obtain rfl : n = ts.length := h.len.symm
 obtain rfl : m = row.length := hr.len.symm
 have rr := Row.new w 53 #[.int .i64 0, .int .i64 0, .string ⟨#[]⟩]
 have hb0 := (Below.refl w.heap.size w).alloc (Nat.le_refl _) (.cells #[.int .i64 0, .int .i64 0, .string ⟨#[]⟩] 53)
 have h0 := h.below hb0
 have hr0 := hr.below hb0
 cases hrow : rowB row
 ·have HR := Lib.hid hrow
  have HV := Lib.hid (show evalB ts row = none by simp [evalB, hrow])
  clear hrow
  go_enter Tryz.func45, Tryz.ntmps45
  go_wp2_with fail
  generalize w.alloc (.cells #[.int .i64 0, .int .i64 0, .string ⟨#[]⟩] 53) = x at *
  refine (implSeenOk _ _ _ row _ hr0 hm).mono ?_
  rintro e w1 ⟨rfl, hb1⟩
  rw [HR.out]
  obtain ⟨⟨z0, z1, z2⟩, ⟨z3, z4, z5⟩⟩ := (rr.below hb1).three
  have hz := hb0.trans (hb1.mono hb0.size)
  clear rr
  go_wp2_with fail
  refine bodyPost_ret (v := .tuple #[.agg #[.int .i64 0, .int .i64 0, .string ⟨#[]⟩], .bool false]) (by simp [results, Tryz.results45, go_sem, z0, z1, z2]) rfl ⟨by rw [HV.out]; rfl, ?_⟩
  repeat (first | with_reducible exact hz | with_reducible refine Below.setCell ?_ (by simp) _)
 have HR := Lib.hid hrow
 have h16 : row.length ≤ 16 := by simp [rowB] at hrow; exact hrow.1
 cases hex : exprB ts row.length
 ·have HE := Lib.hid hex
  have HV := Lib.hid (show evalB ts row = none by simp [evalB, hex])
  clear hrow hex
  go_enter Tryz.func45, Tryz.ntmps45
  go_wp2_with fail
  generalize w.alloc (.cells #[.int .i64 0, .int .i64 0, .string ⟨#[]⟩] 53) = x at *
  refine (implSeenOk _ _ _ row _ hr0 hm).mono ?_
  rintro e w1 ⟨rfl, hb1⟩
  rw [HR.out]
  have hz1 := hb0.trans (hb1.mono hb0.size)
  have rr1 := rr.below hb1
  clear rr
  go_wp2_with fail
  refine (implExprOk _ _ _ ts _ _ (h0.below hb1) hn).mono ?_
  rintro e w2 ⟨rfl, hb2⟩
  rw [HE.out]
  obtain ⟨⟨z0, z1, z2⟩, ⟨z3, z4, z5⟩⟩ := (rr1.below hb2).three
  have hz := hz1.trans (hb2.mono hz1.size)
  clear rr1
  go_wp2_with fail
  refine bodyPost_ret (v := .tuple #[.agg #[.int .i64 0, .int .i64 0, .string ⟨#[]⟩], .bool false]) (by simp [results, Tryz.results45, go_sem, z0, z1, z2]) rfl ⟨by rw [HV.out]; rfl, ?_⟩
  repeat (first | with_reducible exact hz | with_reducible refine Below.setCell ?_ (by simp) _)
 have HE := Lib.hid hex
 clear hrow hex
 go_enter Tryz.func45, Tryz.ntmps45
 go_wp2_with fail
 generalize w.alloc (.cells #[.int .i64 0, .int .i64 0, .string ⟨#[]⟩] 53) = x at *
 refine (implSeenOk _ _ _ row _ hr0 hm).mono ?_
 rintro e w1 ⟨rfl, hb1⟩
 rw [HR.out]
 have hz1 := hb0.trans (hb1.mono hb0.size)
 have rr1 := rr.below hb1
 clear rr
 go_wp2_with fail
 refine (implExprOk _ _ _ ts _ _ (h0.below hb1) hn).mono ?_
 rintro e w2 ⟨rfl, hb2⟩
 rw [HE.out]
 have rr2 := rr1.below hb2
 have hz2 := hz1.trans (hb2.mono hz1.size)
 clear rr1 hb1 hb2 h0 hr0 hz1 hb0
 go_wp2_with fail
 refine (implOpTable _).mono ?_
 rintro e w3 ⟨rfl, hb3⟩
 have rr3 := rr2.below hb3
 have hz3 := hz2.trans (hb3.mono hz2.size)
 clear rr2 hb3 hz2
 have hs1 : (Tryz.prog.info? 129).map (·.size) = some opsCells.size := by kernel_rfl
 have hs2 : opsCells.all (·.oneCell') = true := by simp [opsCells, Value.oneCell']
 have S1 := Lib.hid hs1
 have S2 := Lib.hid hs2
 clear hs1 hs2
 go_wp2_with (refine wpList_store_row rfl 129 (.tmp 6) (.tmp 25) rfl w3.heap.size opsCells rfl rfl 129 opsZero (Go.heap_alloc_last w3 (.cells opsZero 129)) S1.out rfl S2.out ?_)
 rw [World.setRow_alloc_new]
 obtain ⟨hgo, h24⟩ := exprB_go HE.out
 have HGO := Lib.hid hgo
 have hok : ∀ v ∈ row, v.ok = true := by have := HR.out; simp [rowB] at this; exact this.2
 have HOK := Lib.hid hok
 have ro := (Row.new w3 129 opsCells).alloc (.cells Tryz.zeroCells131 131)
 have rl := Row.newAt (w3.alloc (.cells opsCells 129)) 131 Tryz.zeroCells131 (w3.heap.size + 1) (by simp only [size1])
 have rz := (rr3.alloc (.cells opsCells 129)).alloc (.cells Tryz.zeroCells131 131)
 have hb4 := (hz3.alloc hz3.size (.cells opsCells 129)).alloc (by have := hz3.size; simp only [size1]; omega) (.cells Tryz.zeroCells131 131)
 have hw3 : w.heap.size < w3.heap.size := lt_of_block rr3
 have hzs : (Tryz.zeroCells131).size = 72 := by kernel_rfl
 have HZS := Lib.hid hzs
 clear hgo hok S1 S2 rr3 hzs
 generalize (w3.alloc (.cells opsCells 129)).alloc (.cells Tryz.zeroCells131 131) = x4 at *
 generalize Tryz.zeroCells131 = cs0 at *
 go_loopw [8, 28] (fun nn i wr => ∃ (k : Nat) (st : List Vl) (cs : Array Value), k ≤ ts.length ∧ i = .int .i64 k ∧ nn = .int .i64 st.length ∧ st.length ≤ k ∧ Hid (exprGo row.length (ts.take k) 0 = some st.length) ∧ Hid (evalGo row (ts.take k) [] = some st) ∧ Hid (∀ v ∈ st, v.ok = true) ∧
   Row wr w3.heap.size 129 opsCells ∧ Row wr (w3.heap.size + 1) 131 cs ∧ Hid (cs.size = 72) ∧ Hid (Laid cs 3 st.length (st.map Vl.cells)) ∧ Row wr w.heap.size 53 #[.int .i64 0, .int .i64 0, .string ⟨#[]⟩] ∧ Below w.heap.size w wr) (fun _ i _ => ts.length - (intOf i).toNat)
 case atStart => exact ⟨0, [], cs0, by omega, rfl, rfl, by simp, Lib.hid (by simp [exprGo]), Lib.hid (by simp [evalGo]), Lib.hid (by simp), ro, rl, HZS, Lib.hid (Laid.zero _ _ _), rz, hb4⟩
 case round =>
  obtain ⟨k, st, cs, hk, rfl, rfl, hlk, hexp, hev, hstok, hro, hrl, hcs, hlaid, hrz, hb⟩ := hrel
  by_cases hlt : k < ts.length
  ·obtain ⟨b, off, rfl, c0, c1, c2, c3, c4⟩ := (h.below hb).at_ hlt
   obtain ⟨htok, htk, hexp2⟩ := right_at HGO.out hlt hexp.out
   have hev2 := evalGo_snoc row ts k hlt [] st hev.out
   have HEXP := Lib.hid hexp2
   have HEV := Lib.hid hev2
   have HTOK := Lib.hid htok
   clear hexp2 hev2
   clear hexp hev htok
   generalize ts[k] = t at *
   obtain ⟨k0, tc, tvk, tvn, tvs⟩ := t
   simp only at c0 c1 c2 c3 c4 htk HEXP HEV HTOK
   obtain ⟨k1, k10⟩ := tokB_kind HTOK.out
   simp only at k1 k10
   obtain ⟨kk, rfl⟩ := Int.eq_ofNat_of_zero_le (show 0 ≤ k0 by omega)
   have hk11 : kk < 11 := by omega
   have hq2 := takes_le kk
   obtain ⟨fr, hfr⟩ : ∃ fr, fr + takes kk = st.length := ⟨st.length - takes kk, by omega⟩
   have hsub : (st.length : Int) - (takes kk : Int) = (fr : Int) := by omega
   have hfr2 : fr ≤ st.length := by omega
   have HFR := Lib.hid hfr
   clear hfr
   obtain ⟨o0, o2, e0, e2⟩ := ops_at kk hk11
   have E2 := Lib.hid e2
   have ro5 := hro.alloc (.cells #[.int .i64 kk, .int .i64 tc, .int .i64 tvk, .int .i64 tvn, .string tvs] 115)
   have d0 := (ro5.cell (kk * 3)).trans e0
   have d1 := (ro5.cell (kk * 3 + 1)).trans (ops_takes kk hk11)
   have d2 := (ro5.cell (kk * 3 + 2)).trans e2
   have RO := Lib.hid ro5
   have RL := Lib.hid (hrl.alloc (.cells #[.int .i64 kk, .int .i64 tc, .int .i64 tvk, .int .i64 tvn, .string tvs] 115))
   have RZ := Lib.hid (hrz.alloc (.cells #[.int .i64 kk, .int .i64 tc, .int .i64 tvk, .int .i64 tvn, .string tvs] 115))
   have HB := Lib.hid (hb.alloc hb.size (.cells #[.int .i64 kk, .int .i64 tc, .int .i64 tvk, .int .i64 tvn, .string tvs] 115))
   clear e0 e2 ro5 hro hrl hrz
   have vals := Lib.hid (hr.below HB.out)
   obtain ⟨⟨t0, t1, t2, t3, t4⟩, -⟩ := (Row.new wr 115 #[.int .i64 kk, .int .i64 tc, .int .i64 tvk, .int .i64 tvn, .string tvs]).five
   go_wp2_with fail
   generalize wr.alloc (.cells #[.int .i64 kk, .int .i64 tc, .int .i64 tvk, .int .i64 tvn, .string tvs] 115) = x5 at *
   have j0 : (0 : Int) ≤ fr := by omega
   have j1 : (fr : Int) ≤ st.length := by omega
   have j2 : (st.length : Int) ≤ 24 := by omega
   have j3 : (0 : Int) ≤ kk := by omega
   have j5 : ¬ 24 = fr := by omega
   have j4 : (kk : Int) < 11 := by omega
   have OKX := Lib.hid (show ∀ v ∈ st.drop fr, v.ok = true from fun v hv => hstok.out v (List.mem_of_mem_drop hv))
   have args := Lib.hid (show Vals x5.drew (some ⟨w3.heap.size + 1, fr * 3, none⟩) (st.length - fr) (st.drop fr) by
    unfold Vals
    rw [List.map_drop]
    exact cellz_of_mid RL.out.drew hlaid.out (by simp) (by simp [Vl.cells]) hfr2)
   have vals' := Lib.hid (Vals.drew vals.out)
   have bz := (Below.refl x5.heap.size x5).alloc (Nat.le_refl _) (.cells #[.int .i64 0, .int .i64 0, .string ⟨#[]⟩] 53)
   have valsB := Lib.hid (Vals.drew (vals.out.below bz))
   have argsB := Lib.hid (show Vals (x5.alloc (.cells #[.int .i64 0, .int .i64 0, .string ⟨#[]⟩] 53)).drew (some ⟨w3.heap.size + 1, fr * 3, none⟩) (st.length - fr) (st.drop fr) from Vals.below (w := x5.drew) (w' := (x5.alloc (.cells #[.int .i64 0, .int .i64 0, .string ⟨#[]⟩] 53)).drew) args.out ⟨bz.os, bz.tape, bz.output, bz.size, bz.block⟩)
   have KB := Lib.hid (keep8 (w := x5) ⟨d0, d1, d2, t0, t1, t2, t3, t4⟩ bz)
   have ne1 : x5.heap.size ≠ w3.heap.size := Nat.ne_of_gt (cell_lt d0)
   have ne2 : x5.heap.size ≠ wr.heap.size := Nat.ne_of_gt (cell_lt t0)
   clear bz
   have HML := Lib.hid (show st.length - fr = takes kk by have := HFR.out; omega)
   clear vals
   go_region_held3 (fun w' => w'.cell? ⟨w3.heap.size, kk * 3, none⟩ = some o0 ∧ w'.cell? ⟨w3.heap.size, kk * 3 + 1, none⟩ = some (.int .i64 (takes kk)) ∧ w'.cell? ⟨w3.heap.size, kk * 3 + 2, none⟩ = some o2 ∧ w'.cell? ⟨wr.heap.size, 0, none⟩ = some (.int .i64 kk) ∧ w'.cell? ⟨wr.heap.size, 1, none⟩ = some (.int .i64 tc) ∧ w'.cell? ⟨wr.heap.size, 2, none⟩ = some (.int .i64 tvk) ∧ w'.cell? ⟨wr.heap.size, 3, none⟩ = some (.int .i64 tvn) ∧ w'.cell? ⟨wr.heap.size, 4, none⟩ = some (.string tvs))
    (first | go_keep | ((with_reducible refine keep8 ?_ hbA); assumption) | (with_reducible exact keep8 HK8.out ((Below.refl _ _).alloc (Nat.le_refl _) _)) | (with_reducible exact keep8s ne1 ne2 HK8.out))
    (first | (go_at_call 78; (with_reducible refine (implTokValueM kk ⟨by omega, by omega⟩ o0 _ o2 E2.out tc tvk tvn tvs R _ capR _ _ HML.out row (st.drop fr) _ HTOK.out vals'.out args.out OKX.out).mono ?_); rintro e yA ⟨v, rfl, hv, hbA⟩; have HK8 := Lib.hid (keep8 (w := x5.drew) ⟨d0, d1, d2, t0, t1, t2, t3, t4⟩ hbA); have HW := Lib.hid hv; clear hv) | (go_at_call 78; (with_reducible refine (implTokValueM kk ⟨by omega, by omega⟩ o0 _ o2 E2.out tc tvk tvn tvs R _ capR _ _ HML.out row (st.drop fr) _ HTOK.out valsB.out argsB.out OKX.out).mono ?_); rintro e yA ⟨v, rfl, hv, hbA⟩; have HK8 := Lib.hid (keep8 (w := (x5.alloc (.cells #[.int .i64 0, .int .i64 0, .string ⟨#[]⟩] 53)).drew) KB.out hbA); have HW := Lib.hid hv; clear hv; obtain ⟨⟨y0, y1, y2⟩, ⟨y3, y4, y5⟩⟩ := ((Row.new x5 53 #[.int .i64 0, .int .i64 0, .string ⟨#[]⟩]).drew.below hbA).three))
   ·have hz0 := HB.out.drew.trans (hbA.mono HB.out.size)
    have hz := hz0.alloc hz0.size (.cells #[.int .i64 v.k, .int .i64 v.n, .string v.s] 53)
    have ro6 := (RO.out.drew.below hbA).alloc (.cells #[.int .i64 v.k, .int .i64 v.n, .string v.s] 53)
    have rl6 := (RL.out.drew.below hbA).alloc (.cells #[.int .i64 v.k, .int .i64 v.n, .string v.s] 53)
    have rz6 := (RZ.out.drew.below hbA).alloc (.cells #[.int .i64 v.k, .int .i64 v.n, .string v.s] 53)
    have rv6 := Row.new yA 53 #[.int .i64 v.k, .int .i64 v.n, .string v.s]
    clear HK8 hz0 hbA
    generalize yA.alloc (.cells #[.int .i64 v.k, .int .i64 v.n, .string v.s] 53) = x6 at *
    generalize yA.heap.size = gv at *
    have HFR' : st.length - takes kk = fr := by have := HFR.out; omega
    have hd : st.drop (st.length - takes (⟨kk, tc, tvk, tvn, tvs⟩ : Tk).k) = st.drop fr := by rw [← HFR']
    have hstep := HEV.out
    cases htv : tokVal row ⟨kk, tc, tvk, tvn, tvs⟩ (st.drop fr) with
    | none =>
     have HV := Lib.hid (show evalB ts row = none by
      rw [evalStep_none (by rw [hd]; exact htv)] at hstep
      have := evalGo_dead row ts (k + 1) [] hstep
      simp [evalB, this])
     obtain ⟨⟨z0, z1, z2⟩, ⟨z3, z4, z5⟩⟩ := rz6.three
     clear hstep htv hd HFR' hsub ro6 rl6 rz6 rv6
     go_wp2_with fail
     refine bodyPost_ret (v := .tuple #[.agg #[.int .i64 0, .int .i64 0, .string ⟨#[]⟩], .bool false]) (by simp [results, Tryz.results45, go_sem, z0, z1, z2]) rfl ⟨by rw [HV.out]; rfl, ?_⟩
     repeat (first | with_reducible exact hz | with_reducible refine Below.drew ?_ | with_reducible refine Below.setCell ?_ (by simp) _)
    | some v' =>
     obtain rfl : v = v' := HW.out v' htv
     have hvok := tokVal_ok HOK.out HTOK.out htv
     rw [evalStep_some (by rw [hd]; exact htv)] at hstep
     have htake : st.take (st.length - takes (⟨kk, tc, tvk, tvn, tvs⟩ : Tk).k) = st.take fr := by rw [← HFR']
     rw [htake] at hstep
     have HST := Lib.hid hstep
     have HLEN := Lib.hid (show (st.take fr ++ [v]).length = fr + 1 by simp; omega)
     have HEX := Lib.hid (show exprGo row.length (ts.take (k + 1)) 0 = some (st.take fr ++ [v]).length by rw [HEXP.out, HFR', HLEN.out])
     have HOKS := Lib.hid (show ∀ u ∈ st.take fr ++ [v], u.ok = true from fun u hu => by
      rw [List.mem_append, List.mem_singleton] at hu
      rcases hu with hu | rfl
      ·exact hstok.out u (List.mem_of_mem_take hu)
      ·exact hvok)
     have hsz1 : fr * 3 + 3 ≤ cs.size := by rw [hcs.out]; omega
     have HLAID := Lib.hid (hlaid.out.snoc3 (by simp) (by simp [Vl.cells]) hfr2 (.int .i64 v.k) (.int .i64 v.n) (.string v.s) hsz1)
     have hq : ∀ j, j < 3 → x6.cell? ⟨w3.heap.size + 1, fr * 3 + j, none⟩ = some (cs[fr * 3 + j]?.getD undef) := fun j hj => by
      rw [rl6.cell, Array.getElem?_eq_getElem (by omega)]; rfl
     have q0 : x6.cell? ⟨w3.heap.size + 1, fr * 3, none⟩ = some (cs[fr * 3]?.getD undef) := hq 0 (by omega)
     have q1 := hq 1 (by omega)
     have q2 := hq 2 (by omega)
     have f0 := rl6.free (fr * 3)
     have f1 := rl6.free (fr * 3 + 1)
     have f2 := rl6.free (fr * 3 + 2)
     obtain ⟨⟨v0, v1, v2⟩, -⟩ := rv6.three
     have RO6 := Lib.hid ro6
     have RL6 := Lib.hid rl6
     have RZ6 := Lib.hid rz6
     have HZ6 := Lib.hid hz
     clear hstep htv hd HFR' hsub ro6 rl6 rz6 rv6 hq htake hvok hz
     go_wp2_with fail
     go_roundw
     case rel => exact ⟨k + 1, st.take fr ++ [v], _, by omega, by go_num, by rw [HLEN.out]; go_num, by rw [HLEN.out]; omega, HEX, HST, HOKS,
      ((RO6.out.far (by simp) _).far (by simp) _).far (by simp) _, ((RL6.out.set _ _).set _ _).set _ _, Lib.hid (by simp [hcs.out]), Lib.hid (by rw [HLEN.out, List.map_append, List.map_take]; exact HLAID.out),
      ((RZ6.out.far (by simp; omega) _).far (by simp; omega) _).far (by simp; omega) _, ((HZ6.out.setCell (by simp; omega) _).setCell (by simp; omega) _).setCell (by simp; omega) _⟩
     case measure => simp [intOf]; omega
   ·have bz := HB.out.alloc HB.out.size (.cells #[.int .i64 0, .int .i64 0, .string ⟨#[]⟩] 53)
    have hz0 := bz.drew.trans (hbA.mono bz.size)
    have hx5 := HB.out.size
    have lt1 : w3.heap.size + 1 < x5.heap.size := lt_of_block RL.out
    have m0 : w3.heap.size ≠ x5.heap.size := ne1.symm
    have m1 : w3.heap.size + 1 ≠ x5.heap.size := Nat.ne_of_lt lt1
    have m2 : w.heap.size ≠ x5.heap.size := by omega
    have hz := ((hz0.setCell (p := ⟨x5.heap.size, 0, none⟩) hx5 (.int .i64 v.k)).setCell (p := ⟨x5.heap.size, 1, none⟩) hx5 (.int .i64 v.n)).setCell (p := ⟨x5.heap.size, 2, none⟩) hx5 (.string v.s)
    have ro6 := ((((RO.out.alloc (.cells #[.int .i64 0, .int .i64 0, .string ⟨#[]⟩] 53)).drew.below hbA).far (p := ⟨x5.heap.size, 0, none⟩) m0 (.int .i64 v.k)).far (p := ⟨x5.heap.size, 1, none⟩) m0 (.int .i64 v.n)).far (p := ⟨x5.heap.size, 2, none⟩) m0 (.string v.s)
    have rl6 := ((((RL.out.alloc (.cells #[.int .i64 0, .int .i64 0, .string ⟨#[]⟩] 53)).drew.below hbA).far (p := ⟨x5.heap.size, 0, none⟩) m1 (.int .i64 v.k)).far (p := ⟨x5.heap.size, 1, none⟩) m1 (.int .i64 v.n)).far (p := ⟨x5.heap.size, 2, none⟩) m1 (.string v.s)
    have rz6 := ((((RZ.out.alloc (.cells #[.int .i64 0, .int .i64 0, .string ⟨#[]⟩] 53)).drew.below hbA).far (p := ⟨x5.heap.size, 0, none⟩) m2 (.int .i64 v.k)).far (p := ⟨x5.heap.size, 1, none⟩) m2 (.int .i64 v.n)).far (p := ⟨x5.heap.size, 2, none⟩) m2 (.string v.s)
    have rv6 : Row (((yA.setCell ⟨x5.heap.size, 0, none⟩ (.int .i64 v.k)).setCell ⟨x5.heap.size, 1, none⟩ (.int .i64 v.n)).setCell ⟨x5.heap.size, 2, none⟩ (.string v.s)) x5.heap.size 53 #[.int .i64 v.k, .int .i64 v.n, .string v.s] := ((((Row.new x5 53 #[.int .i64 0, .int .i64 0, .string ⟨#[]⟩]).drew.below hbA).set 0 _).set 1 _).set 2 _
    clear HK8 hz0 hbA bz y0 y1 y2 y3 y4 y5
    generalize ((yA.setCell ⟨x5.heap.size, 0, none⟩ (.int .i64 v.k)).setCell ⟨x5.heap.size, 1, none⟩ (.int .i64 v.n)).setCell ⟨x5.heap.size, 2, none⟩ (.string v.s) = x6 at *
    clear vals' valsB args argsB KB RO RL RZ HB d0 d1 d2 t0 t1 t2 t3 t4
    generalize x5.heap.size = gv at *
    have HFR' : st.length - takes kk = fr := by have := HFR.out; omega
    have hd : st.drop (st.length - takes (⟨kk, tc, tvk, tvn, tvs⟩ : Tk).k) = st.drop fr := by rw [← HFR']
    have hstep := HEV.out
    cases htv : tokVal row ⟨kk, tc, tvk, tvn, tvs⟩ (st.drop fr) with
    | none =>
     have HV := Lib.hid (show evalB ts row = none by
      rw [evalStep_none (by rw [hd]; exact htv)] at hstep
      have := evalGo_dead row ts (k + 1) [] hstep
      simp [evalB, this])
     obtain ⟨⟨z0, z1, z2⟩, ⟨z3, z4, z5⟩⟩ := rz6.three
     clear hstep htv hd HFR' hsub ro6 rl6 rz6 rv6
     go_wp2_with fail
     refine bodyPost_ret (v := .tuple #[.agg #[.int .i64 0, .int .i64 0, .string ⟨#[]⟩], .bool false]) (by simp [results, Tryz.results45, go_sem, z0, z1, z2]) rfl ⟨by rw [HV.out]; rfl, ?_⟩
     repeat (first | with_reducible exact hz | with_reducible refine Below.drew ?_ | with_reducible refine Below.setCell ?_ (by simp) _)
    | some v' =>
     obtain rfl : v = v' := HW.out v' htv
     have hvok := tokVal_ok HOK.out HTOK.out htv
     rw [evalStep_some (by rw [hd]; exact htv)] at hstep
     have htake : st.take (st.length - takes (⟨kk, tc, tvk, tvn, tvs⟩ : Tk).k) = st.take fr := by rw [← HFR']
     rw [htake] at hstep
     have HST := Lib.hid hstep
     have HLEN := Lib.hid (show (st.take fr ++ [v]).length = fr + 1 by simp; omega)
     have HEX := Lib.hid (show exprGo row.length (ts.take (k + 1)) 0 = some (st.take fr ++ [v]).length by rw [HEXP.out, HFR', HLEN.out])
     have HOKS := Lib.hid (show ∀ u ∈ st.take fr ++ [v], u.ok = true from fun u hu => by
      rw [List.mem_append, List.mem_singleton] at hu
      rcases hu with hu | rfl
      ·exact hstok.out u (List.mem_of_mem_take hu)
      ·exact hvok)
     have hsz1 : fr * 3 + 3 ≤ cs.size := by rw [hcs.out]; omega
     have HLAID := Lib.hid (hlaid.out.snoc3 (by simp) (by simp [Vl.cells]) hfr2 (.int .i64 v.k) (.int .i64 v.n) (.string v.s) hsz1)
     have hq : ∀ j, j < 3 → x6.cell? ⟨w3.heap.size + 1, fr * 3 + j, none⟩ = some (cs[fr * 3 + j]?.getD undef) := fun j hj => by
      rw [rl6.cell, Array.getElem?_eq_getElem (by omega)]; rfl
     have q0 : x6.cell? ⟨w3.heap.size + 1, fr * 3, none⟩ = some (cs[fr * 3]?.getD undef) := hq 0 (by omega)
     have q1 := hq 1 (by omega)
     have q2 := hq 2 (by omega)
     have f0 := rl6.free (fr * 3)
     have f1 := rl6.free (fr * 3 + 1)
     have f2 := rl6.free (fr * 3 + 2)
     obtain ⟨⟨v0, v1, v2⟩, -⟩ := rv6.three
     have RO6 := Lib.hid ro6
     have RL6 := Lib.hid rl6
     have RZ6 := Lib.hid rz6
     have HZ6 := Lib.hid hz
     clear hstep htv hd HFR' hsub ro6 rl6 rz6 rv6 hq htake hvok hz
     go_wp2_with fail
     go_roundw
     case rel => exact ⟨k + 1, st.take fr ++ [v], _, by omega, by go_num, by rw [HLEN.out]; go_num, by rw [HLEN.out]; omega, HEX, HST, HOKS,
      ((RO6.out.far (by simp) _).far (by simp) _).far (by simp) _, ((RL6.out.set _ _).set _ _).set _ _, Lib.hid (by simp [hcs.out]), Lib.hid (by rw [HLEN.out, List.map_append, List.map_take]; exact HLAID.out),
      ((RZ6.out.far (by simp; omega) _).far (by simp; omega) _).far (by simp; omega) _, ((HZ6.out.setCell (by simp; omega) _).setCell (by simp; omega) _).setCell (by simp; omega) _⟩
     case measure => simp [intOf]; omega
  ·have e : ts.take k = ts := List.take_of_length_le (by omega)
   have h1 := hexp.out
   rw [e, HGO.out] at h1
   have h2 := hev.out
   rw [e] at h2
   match st, (Option.some.inj h1).symm with
   | [v], _ =>
    have HV := Lib.hid (show evalB ts row = some v by simp [evalB, HR.out, HE.out, h2])
    have g := hlaid.out
    have q0 := (hrl.cell 0).trans (g 0 0 _ _ (by simp) rfl rfl)
    have q1 := (hrl.cell 1).trans (g 0 1 _ _ (by simp) rfl rfl)
    have q2 := (hrl.cell 2).trans (g 0 2 _ _ (by simp) rfl rfl)
    obtain ⟨⟨z0, z1, z2⟩, ⟨z3, z4, z5⟩⟩ := hrz.three
    have hz := hb
    clear h1 h2 e g hexp hev hlaid hro hrl hrz hstok
    go_wp2
    refine bodyPost_ret (v := .tuple #[.agg #[.int .i64 v.k, .int .i64 v.n, .string v.s], .bool true]) (by simp [results, Tryz.results45, go_sem, z0, z1, z2]) rfl ⟨by rw [HV.out]; rfl, ?_⟩
    repeat (first | with_reducible exact hz | with_reducible refine Below.drew ?_ | with_reducible refine Below.setCell ?_ (by simp) _)
theorem evalGo_ok {row : List Vl} {cols : Int} (hrow : ∀ v ∈ row, v.ok = true) : ∀ (ts : List Tk) (l m : Nat) (st st' : List Vl), exprGo cols ts l = some m → (∀ v ∈ st, v.ok = true) → evalGo row ts st = some st' → ∀ v ∈ st', v.ok = true
 | [], _, _, st, st', _, hs, he => by simp [evalGo] at he; subst he; exact hs
 | t :: ts, l, m, st, st', hx, hs, he => by
  simp only [exprGo] at hx
  split at hx
  ·rename_i hc
   simp only [evalGo, evalStep] at he
   cases htv : tokVal row t (st.drop (st.length - takes t.k)) with
   | none => simp [htv] at he
   | some v =>
    simp only [htv, Option.map_some, Option.bind_some] at he
    refine evalGo_ok hrow ts _ m _ st' hx ?_ he
    intro u hu
    rw [List.mem_append, List.mem_singleton] at hu
    rcases hu with hu | rfl
    ·exact hs u (List.mem_of_mem_take hu)
    ·exact tokVal_ok hrow hc.1 htv
  ·cases hx
theorem evalB_ok {ts : List Tk} {row : List Vl} {v : Vl} (h : evalB ts row = some v) : v.ok = true := by
 unfold evalB at h
 split at h
 ·rename_i hc
  rw [Bool.and_eq_true] at hc
  obtain ⟨st, hst, hv⟩ := Option.bind_eq_some_iff.1 h
  have hrow : ∀ v ∈ row, v.ok = true := by have := hc.1; simp [rowB] at this; exact this.2
  exact evalGo_ok hrow ts 0 1 [] st (exprB_go hc.2).1 (by simp) hst v (List.mem_of_getElem? hv)
 ·cases h
def truthB (ts : List Tk) (row : List Vl) : Int := match evalB ts row with
 | some v => truOf v
 | none => -1
set_option maxRecDepth 100000 in
set_option maxHeartbeats 400000 in
theorem implTruth (A R : Option Addr) (n m cap capR : Nat) (ts : List Tk) (row : List Vl) (w : World) (h : Toks w A n ts) (hr : Vals w R m row) (hn : n ≤ maxLen) (hm : m ≤ maxLen) :
  Calls Tryz.prog 21 #[.slice A n cap, .slice R m capR] w fun e w' => e = .returned (.int .i64 (truthB ts row)) ∧ Below w.heap.size w w' := by
 cases hv : evalB ts row with
 | none =>
  have HV := Lib.hid (show truthB ts row = -1 by simp [truthB, hv])
  have HE := Lib.hid hv
  clear hv
  go_enter Tryz.func21, Tryz.ntmps21
  go_wp2_with fail
  refine (implEval A R n m cap capR ts row _ h hr hn hm).mono ?_
  rintro e w1 ⟨rfl, hb1⟩
  rw [HE.out]
  simp only [Option.getD_none, Option.isSome_none]
  go_wp2
  go_ret
  first | exact ⟨retI (by rw [HV.out]), hb1.alloc hb1.size _⟩ | exact ⟨retI (by rw [HV.out]), hb1⟩
 | some v =>
  have HV := Lib.hid (show truthB ts row = truOf v by simp [truthB, hv])
  have hok := evalB_ok hv
  have HE := Lib.hid hv
  have HO := Lib.hid hok
  clear hv hok
  go_enter Tryz.func21, Tryz.ntmps21
  go_wp2_with fail
  refine (implEval A R n m cap capR ts row _ h hr hn hm).mono ?_
  rintro e w1 ⟨rfl, hb1⟩
  rw [HE.out]
  simp only [Option.getD_some, Option.isSome_some]
  go_wp2_with fail
  refine (implTruthOf v _ HO.out).mono ?_
  rintro e w2 ⟨rfl, hb2⟩
  go_wp2
  go_ret
  have hz := hb1.alloc hb1.size (.cells #[.int .i64 v.k, .int .i64 v.n, .string v.s] 53)
  exact ⟨retI (by rw [HV.out]), hz.trans (hb2.mono hz.size)⟩
end Go.Proofs.YtjhhamlnlalkoaaGreat
namespace Go.Proofs.YtjhhamlnlalkoaaGreat
open Go.RowKit Go.Maps
def fitV (p : Cl × Vl) : Bool := fitsB p.1.kind p.2
def nullV (p : Cl × Vl) : Bool := !(p.1.nn && p.2.k == 0)
def truOkB (t : Int) : Bool := t == 1 || t == 2
def ckV (row : List Vl) (u : Ck) : Bool := truOkB (truthB u.expr row)
def fitAll (cols : List Cl) (row : List Vl) : Bool := (cols.zip row).all fitV
def kindsB (cols : List Cl) (row : List Vl) : Bool := decide (row.length = cols.length) && fitAll cols row
def nullsB (cols : List Cl) (row : List Vl) : Bool := (cols.zip row).all nullV
def checksB (cks : List Ck) (row : List Vl) : Bool := cks.all (ckV row)
theorem keepF {w w' : World} {a0 a1 a2 a3 a4 : Addr} {v0 v1 v2 v3 v4 : Value} (h : w.cell? a0 = some v0 ∧ w.cell? a1 = some v1 ∧ w.cell? a2 = some v2 ∧ w.cell? a3 = some v3 ∧ w.cell? a4 = some v4) (hb : Below w.heap.size w w') : w'.cell? a0 = some v0 ∧ w'.cell? a1 = some v1 ∧ w'.cell? a2 = some v2 ∧ w'.cell? a3 = some v3 ∧ w'.cell? a4 = some v4 := by
 obtain ⟨h0, h1, h2, h3, h4⟩ := h
 exact ⟨(hb.cell (cell_lt h0)).trans h0, (hb.cell (cell_lt h1)).trans h1, (hb.cell (cell_lt h2)).trans h2, (hb.cell (cell_lt h3)).trans h3, (hb.cell (cell_lt h4)).trans h4⟩
set_option maxRecDepth 100000 in
set_option maxHeartbeats 1000000 in
theorem implFitsAt (g o : Nat) (A1 AR : Option Addr) (n1 c1 nR cR : Nat) (cols : List Cl) (row : List Vl) (ok : Nat → Prop) (w : World)
  (x1 : w.cell? ⟨g, o + 1, none⟩ = some (.slice A1 n1 c1)) (h : Sl ClR 6 ok w A1 n1 cols) (hv : Vals w AR nR row) (hn1 : n1 ≤ 1048576) (hn2 : nR ≤ 1048576) :
  Calls Tryz.prog 52 #[.pointer (some ⟨g, o, none⟩), .slice AR nR cR] w fun e w' => e = .returned (.bool (kindsB cols row)) ∧ Below w.heap.size w w' := by
 obtain rfl : cols.length = n1 := h.1
 obtain rfl : row.length = nR := hv.len
 cases hl : (row.length == cols.length)
 ·have hl' : ¬ ((row.length : Int) = cols.length) := by have := beq_eq_false_iff_ne.1 hl; omega
  have HF := Lib.hid (show kindsB cols row = false by unfold kindsB; rw [decide_eq_false (beq_eq_false_iff_ne.1 hl)]; rfl)
  clear hl
  go_enter Tryz.func52, Tryz.ntmps52
  go_wp2
  go_ret
  exact ⟨retB HF.out.symm, Below.refl _ _⟩
 have hlen : row.length = cols.length := by simpa using hl
 have hl' : (row.length : Int) = cols.length := by omega
 have hz : (cols.zip row).length = cols.length := by simp [hlen]
 have HZ := Lib.hid hz
 have HL := Lib.hid hlen
 have HE := Lib.hid (show kindsB cols row = fitAll cols row by unfold kindsB; rw [decide_eq_true hlen]; rfl)
 clear hl hz hlen
 go_enter Tryz.func52, Tryz.ntmps52
 go_wp2
 go_loopw [17] (fun i wr => ∃ k : Nat, k ≤ cols.length ∧ i = .int .i64 k ∧ Hid (((cols.zip row).take k).all fitV = true) ∧ Below w.heap.size w wr) (fun i _ => cols.length - (intOf i).toNat)
 case atStart => exact ⟨0, by omega, rfl, Lib.hid (by simp), Below.refl _ _⟩
 case round =>
  obtain ⟨k, hk, rfl, hall, hb⟩ := hrel
  by_cases hlt : k < cols.length
  ·have hlt2 : k < row.length := by have := HL.out; omega
   have hbx := (Below.refl wr.heap.size wr).alloc (Nat.le_refl _) (.cells #[.int .i64 row[k].k, .int .i64 row[k].n, .string row[k].s] 53)
   have hba := hb.trans (hbx.mono hb.size)
   have rv := Row.new wr 53 #[.int .i64 row[k].k, .int .i64 row[k].n, .string row[k].s]
   obtain ⟨b2, off2, rfl, p0, p1, p2⟩ := (hv.below hb).at_ hlt2
   obtain ⟨b, off, -, rfl, q0, q1, q2, q3, q4, q5⟩ := ClR.at_ (h.below ClR.stays hba) hlt
   have d1 := (hba.cell (cell_lt x1)).trans x1
   obtain ⟨⟨f0, f1, f2⟩, -⟩ := rv.three
   have hsn := all_take fitV (cols.zip row) k (by rw [HZ.out]; exact hlt)
   have hno := fun hf => all_no fitV (cols.zip row) k (by rw [HZ.out]; exact hlt) hf
   have eg : fitV ((cols.zip row)[k]'(by rw [HZ.out]; exact hlt)) = fitsB cols[k].kind row[k] := by rw [List.getElem_zip]; rfl
   rw [hall.out, Bool.true_and, eg] at hsn
   rw [eg] at hno
   have i0 : (0 : Int) ≤ k := by omega
   have i1 : (k : Int) < cols.length := by omega
   have i2 : (k : Int) < row.length := by have := HL.out; omega
   clear eg
   cases hc : fitsB cols[k].kind row[k]
   ·have HC := Lib.hid hc
    have HF := Lib.hid (show kindsB cols row = false by rw [HE.out]; exact hno hc)
    clear hsn hno hc hall
    go_wp2_with fail
    go_region_held3 (fun w' => w'.cell? ⟨g, o + 1, none⟩ = some (.slice (some ⟨b, off, none⟩) cols.length c1) ∧ w'.cell? ⟨b, off + k * 6 + 1, none⟩ = some (.int .i64 cols[k].kind) ∧ w'.cell? ⟨wr.heap.size, 0, none⟩ = some (.int .i64 row[k].k) ∧ w'.cell? ⟨wr.heap.size, 1, none⟩ = some (.int .i64 row[k].n) ∧ w'.cell? ⟨wr.heap.size, 2, none⟩ = some (.string row[k].s))
     (first | go_keep | exact keepF (by assumption) hb1)
     (first | (go_at_call 91; refine (implValFits cols[k].kind row[k] _).mono ?_; rintro e w1 ⟨rfl, hb1⟩; rw [HC.out]))
    all_goals
     go_wp2
     go_ret
     exact ⟨retB HF.out.symm, hba.drew.trans (hb1.mono hba.size)⟩
   ·have HC := Lib.hid hc
    have HA := Lib.hid (hsn.trans hc)
    clear hsn hno hc hall
    go_wp2_with fail
    go_region_held3 (fun w' => w'.cell? ⟨g, o + 1, none⟩ = some (.slice (some ⟨b, off, none⟩) cols.length c1) ∧ w'.cell? ⟨b, off + k * 6 + 1, none⟩ = some (.int .i64 cols[k].kind) ∧ w'.cell? ⟨wr.heap.size, 0, none⟩ = some (.int .i64 row[k].k) ∧ w'.cell? ⟨wr.heap.size, 1, none⟩ = some (.int .i64 row[k].n) ∧ w'.cell? ⟨wr.heap.size, 2, none⟩ = some (.string row[k].s))
     (first | go_keep | exact keepF (by assumption) hb1)
     (first | (go_at_call 91; refine (implValFits cols[k].kind row[k] _).mono ?_; rintro e w1 ⟨rfl, hb1⟩; rw [HC.out]))
    all_goals
     go_wp2
     go_roundw
     case rel => exact ⟨k + 1, by omega, by go_num, Lib.hid HA.out, hba.drew.trans (hb1.mono hba.size)⟩
     case measure => simp [intOf]; omega
  ·have e : (cols.zip row).take k = cols.zip row := List.take_of_length_le (by rw [HZ.out]; omega)
   have h1 := hall.out
   rw [e] at h1
   have HF := Lib.hid (show kindsB cols row = true by rw [HE.out]; exact h1)
   clear e h1 hall
   go_wp2
   go_ret
   exact ⟨retB HF.out.symm, hb⟩
def idsGo (cols : List Cl) : Int → List Rw → Bool
 | _, [] => true
 | last, r :: rs => decide (last < r.id) && (decide (r.id ≤ 1000000000) && (kindsB cols r.vals && idsGo cols r.id rs))
def dataB (cols : List Cl) (l : List Rw) : Bool := decide (l.length ≤ 60) && idsGo cols 0 l
def dbV (p : Tb × Dt) : Bool := dataB p.1.cols p.2.rows
def dbB (s : List Tb) (db : List Dt) : Bool := schemaB s && (decide (db.length = s.length) && (s.zip db).all dbV)
theorem idsGo_at (cols : List Cl) (last : Int) (l : List Rw) (k : Nat) (h : k < l.length) : idsGo cols last (l.drop k) = (decide (last < l[k].id) && (decide (l[k].id ≤ 1000000000) && (kindsB cols l[k].vals && idsGo cols l[k].id (l.drop (k + 1))))) := by
 rw [List.drop_eq_getElem_cons h]; rfl
set_option maxRecDepth 100000 in
set_option maxHeartbeats 1000000 in
theorem implDataOk (g o gd od : Nat) (A1 AL : Option Addr) (n1 c1 nL cL : Nat) (cols : List Cl) (l : List Rw) (ok : Nat → Prop) (w : World)
  (x1 : w.cell? ⟨g, o + 1, none⟩ = some (.slice A1 n1 c1)) (y0 : w.cell? ⟨gd, od, none⟩ = some (.slice AL nL cL)) (h : Sl ClR 6 ok w A1 n1 cols) (hl : Sl RwR 2 ok w AL nL l) (hn1 : n1 ≤ 1048576) (hvs : ∀ r ∈ l, r.vals.length ≤ 1048576) (hnL : nL ≤ 1048576) :
  Calls Tryz.prog 59 #[.pointer (some ⟨g, o, none⟩), .pointer (some ⟨gd, od, none⟩)] w fun e w' => e = .returned (.bool (dataB cols l)) ∧ Below w.heap.size w w' := by
 obtain rfl : l.length = nL := hl.1
 have HVS := Lib.hid hvs
 clear hvs
 by_cases hbig : 60 < (l.length : Int)
 ·have HF := Lib.hid (show dataB cols l = false by unfold dataB; rw [decide_eq_false (by omega)]; rfl)
  go_enter Tryz.func59, Tryz.ntmps59
  go_wp2
  go_ret
  exact ⟨retB HF.out.symm, Below.refl _ _⟩
 have hbig' : decide (60 < (l.length : Int)) = false := by simpa using hbig
 have HE := Lib.hid (show dataB cols l = idsGo cols 0 l by unfold dataB; rw [decide_eq_true (by omega)]; rfl)
 go_enter Tryz.func59, Tryz.ntmps59
 go_wp2_with fail
 go_loopw [5, 19] (fun m i wr => ∃ (k : Nat) (last : Int), k ≤ l.length ∧ i = .int .i64 k ∧ m = .int .i64 last ∧ Hid (idsGo cols 0 l = idsGo cols last (l.drop k)) ∧ Below w.heap.size w wr) (fun _ i _ => l.length - (intOf i).toNat)
 case atStart => exact ⟨0, 0, by omega, rfl, rfl, Lib.hid (by simp), Below.refl _ _⟩
 case round =>
  obtain ⟨k, last, hk, rfl, rfl, hgo, hb⟩ := hrel
  by_cases hlt : k < l.length
  ·have d1 := (hb.cell (cell_lt x1)).trans x1
   have e0 := (hb.cell (cell_lt y0)).trans y0
   obtain ⟨b, off, A9, n9, c9, -, ea, q0, q1, hvl, -⟩ := RwR.at_ (hl.below RwR.stays hb) hlt
   rw [ea] at e0
   obtain rfl : l[k].vals.length = n9 := hvl.1
   have HN9 := Lib.hid (HVS.out _ (List.getElem_mem hlt))
   have hst := idsGo_at cols last l k hlt
   rw [← hgo.out, ← HE.out] at hst
   have hst0 := HE.out
   have i0 : (0 : Int) ≤ k := by omega
   have i1 : (k : Int) < l.length := by omega
   clear ea hgo
   by_cases h1 : l[k].id ≤ last
   ·have HF := Lib.hid (show dataB cols l = false by rw [hst, decide_eq_false (by omega)]; rfl)
    have h1' : decide (l[k].id ≤ last) = true := decide_eq_true h1
    clear hst hst0
    go_wp2_with fail
    go_ret
    exact ⟨retB HF.out.symm, hb⟩
   have h1' : decide (l[k].id ≤ last) = false := decide_eq_false h1
   by_cases h2 : 1000000000 < l[k].id
   ·have HF := Lib.hid (show dataB cols l = false by rw [hst, decide_eq_false (p := l[k].id ≤ 1000000000) (by omega)]; simp)
    have h2' : decide (1000000000 < l[k].id) = true := decide_eq_true h2
    clear hst hst0
    go_wp2_with fail
    go_ret
    exact ⟨retB HF.out.symm, hb⟩
   have h2' : decide (1000000000 < l[k].id) = false := decide_eq_false h2
   rw [decide_eq_true (p := last < l[k].id) (by omega), decide_eq_true (p := l[k].id ≤ 1000000000) (by omega), Bool.true_and, Bool.true_and] at hst
   have hcall := implFitsAt g o A1 A9 n1 c1 l[k].vals.length c9 cols l[k].vals ok _ d1 (h.below ClR.stays hb) (Sl.cellz (fun _ => rfl) hvl) hn1 HN9.out
   have HC := Lib.hid hcall
   clear hcall
   cases hc : kindsB cols l[k].vals
   ·have HCC := Lib.hid hc
    have HF := Lib.hid (show dataB cols l = false by rw [hst, hc]; rfl)
    clear hst hst0 hc
    go_wp2_with fail
    refine HC.out.mono ?_
    rintro e w1 ⟨rfl, hb1⟩
    rw [HCC.out]
    clear HC
    go_wp2_with fail
    go_ret
    exact ⟨retB HF.out.symm, hb.trans (hb1.mono hb.size)⟩
   ·have HCC := Lib.hid hc
    have HG := Lib.hid (show idsGo cols 0 l = idsGo cols l[k].id (l.drop (k + 1)) by rw [← hst0, hst, hc]; rfl)
    clear hst hst0 hc
    go_wp2_with fail
    refine HC.out.mono ?_
    rintro e w1 ⟨rfl, hb1⟩
    rw [HCC.out]
    clear HC
    have q0' := (hb1.cell (cell_lt q0)).trans q0
    go_wp2_with fail
    go_roundw
    case rel => exact ⟨k + 1, l[k].id, by omega, by go_num, rfl, Lib.hid HG.out, hb.trans (hb1.mono hb.size)⟩
    case measure => simp [intOf]; omega
  ·have e : l.drop k = [] := List.drop_eq_nil_of_le (by omega)
   have g1 := hgo.out
   rw [e] at g1
   have HF := Lib.hid (show dataB cols l = true by rw [HE.out, g1]; rfl)
   clear e g1 hgo
   go_wp2_with fail
   go_ret
   exact ⟨retB HF.out.symm, hb⟩
set_option maxRecDepth 100000 in
set_option maxHeartbeats 1000000 in
theorem implDbOk (AS AD : Option Addr) (nS cS nD cD : Nat) (s : List Tb) (db : List Dt) (ok : Nat → Prop) (w : World) (hs : Sl TbR 6 ok w AS nS s) (hd : Sl DtR 1 ok w AD nD db) (hsz : szL Tb.sz s ≤ 1048576) (hdz : szL Dt.sz db ≤ 1048576) (hvs : ∀ d ∈ db, ∀ r ∈ d.rows, r.vals.length ≤ 1048576) :
  Calls Tryz.prog 27 #[.slice AS nS cS, .slice AD nD cD] w fun e w' => e = .returned (.bool (dbB s db)) ∧ Below w.heap.size w w' := by
 obtain rfl : s.length = nS := hs.1
 obtain rfl : db.length = nD := hd.1
 have hn1 : s.length ≤ 1048576 := by unfold szL at hsz; omega
 have hn2 : db.length ≤ 1048576 := by unfold szL at hdz; omega
 have HSZ := Lib.hid hsz
 have HDZ := Lib.hid hdz
 have HVS := Lib.hid hvs
 clear hsz hdz hvs
 cases hS : schemaB s
 ·have HS := Lib.hid hS
  have HF := Lib.hid (show dbB s db = false by unfold dbB; rw [hS]; rfl)
  clear hS
  go_enter Tryz.func27, Tryz.ntmps27
  go_wp2_with fail
  refine (implSchemaOk AS s.length cS s ok _ hs HSZ.out).mono ?_
  rintro e w1 ⟨rfl, hb1⟩
  rw [HS.out]
  go_wp2_with fail
  go_ret
  exact ⟨retB HF.out.symm, hb1⟩
 have HS := Lib.hid hS
 clear hS
 cases hl : (db.length == s.length)
 ·have hl' : ¬ ((db.length : Int) = s.length) := by have := beq_eq_false_iff_ne.1 hl; omega
  have HF := Lib.hid (show dbB s db = false by unfold dbB; rw [decide_eq_false (beq_eq_false_iff_ne.1 hl)]; simp)
  clear hl
  go_enter Tryz.func27, Tryz.ntmps27
  go_wp2_with fail
  refine (implSchemaOk AS s.length cS s ok _ hs HSZ.out).mono ?_
  rintro e w1 ⟨rfl, hb1⟩
  rw [HS.out]
  go_wp2_with fail
  go_ret
  exact ⟨retB HF.out.symm, hb1⟩
 have hlen : db.length = s.length := by simpa using hl
 have hl' : (db.length : Int) = s.length := by omega
 have hz : (s.zip db).length = db.length := by simp [hlen]
 have HZ := Lib.hid hz
 have HL := Lib.hid hlen
 have HE := Lib.hid (show dbB s db = (s.zip db).all dbV by unfold dbB; rw [HS.out, decide_eq_true hlen]; rfl)
 clear hl hz hlen
 go_enter Tryz.func27, Tryz.ntmps27
 go_wp2_with fail
 refine (implSchemaOk AS s.length cS s ok _ hs HSZ.out).mono ?_
 rintro e w1 ⟨rfl, hb1⟩
 rw [HS.out]
 go_wp2_with fail
 clear hl'
 go_loopw [18] (fun i wr => ∃ k : Nat, k ≤ db.length ∧ i = .int .i64 k ∧ Hid (((s.zip db).take k).all dbV = true) ∧ Below w.heap.size w wr) (fun i _ => db.length - (intOf i).toNat)
 case atStart => exact ⟨0, by omega, rfl, Lib.hid (by simp), hb1⟩
 case round =>
  clear hb1
  obtain ⟨k, hk, rfl, hall, hb⟩ := hrel
  by_cases hlt : k < db.length
  ·have hlt2 : k < s.length := by have := HL.out; omega
   obtain ⟨b, off, A1, n1, c1, A2, n2, c2, A3, n3, c3, A4, n4, c4, A5, n5, c5, -, ea, q0, q1, q2, q3, q4, q5, s1, s2, s3, s4, s5, -⟩ := TbR.at_ (hs.below TbR.stays hb) hlt2
   subst ea
   obtain ⟨bd, offd, A9, n9, c9, -, ed, y0, hrs, -⟩ := DtR.at_ (hd.below DtR.stays hb) hlt
   subst ed
   obtain rfl : db[k].rows.length = n9 := hrs.1
   obtain rfl : s[k].cols.length = n1 := s1.1
   have hcn : s[k].cols.length ≤ 1048576 := by have h1 := HSZ.out; have := sum_mem_le Tb.sz s k hlt2; simp only [szL, Tb.sz] at *; omega
   have hrn : db[k].rows.length ≤ 1048576 := by have h1 := HDZ.out; have := sum_mem_le Dt.sz db k hlt; simp only [szL, Dt.sz] at *; omega
   have HV := Lib.hid (HVS.out _ (List.getElem_mem hlt))
   have hsn := all_take dbV (s.zip db) k (by rw [HZ.out]; exact hlt)
   have hno := fun hf => all_no dbV (s.zip db) k (by rw [HZ.out]; exact hlt) hf
   have eg : dbV ((s.zip db)[k]'(by rw [HZ.out]; exact hlt)) = dataB s[k].cols db[k].rows := by rw [List.getElem_zip]; rfl
   rw [hall.out, Bool.true_and, eg] at hsn
   rw [eg] at hno
   have i0 : (0 : Int) ≤ k := by omega
   have i1 : (k : Int) < db.length := by omega
   have i2 : (k : Int) < s.length := by omega
   clear eg
   have HC := Lib.hid (implDataOk b (off + k * 6) bd (offd + k) A1 A9 s[k].cols.length c1 db[k].rows.length c9 s[k].cols db[k].rows ok wr.drew q1 y0 (s1.drew ClR.stays) (hrs.drew RwR.stays) hcn HV.out hrn)
   cases hc : dataB s[k].cols db[k].rows
   ·have HCC := Lib.hid hc
    have HF := Lib.hid (show dbB s db = false by rw [HE.out]; exact hno hc)
    clear hsn hno hall hc
    go_wp2_with fail
    go_region_held3 (fun w' => w'.cell? ⟨b, off + k * 6 + 1, none⟩ = some (.slice A1 s[k].cols.length c1) ∧ w'.cell? ⟨bd, offd + k, none⟩ = some (.slice A9 db[k].rows.length c9))
     (first | go_keep | exact ⟨below_keep hq _ _ q1, below_keep hq _ _ y0⟩)
     (first | (go_at_call 59; refine HC.out.mono ?_; rintro e w2 ⟨rfl, hq⟩; rw [HCC.out]))
    go_wp2_with fail
    go_ret
    exact ⟨retB HF.out.symm, hb.drew.trans (hq.mono hb.size)⟩
   ·have HCC := Lib.hid hc
    have HA := Lib.hid (hsn.trans hc)
    clear hsn hno hall hc
    go_wp2_with fail
    go_region_held3 (fun w' => w'.cell? ⟨b, off + k * 6 + 1, none⟩ = some (.slice A1 s[k].cols.length c1) ∧ w'.cell? ⟨bd, offd + k, none⟩ = some (.slice A9 db[k].rows.length c9))
     (first | go_keep | exact ⟨below_keep hq _ _ q1, below_keep hq _ _ y0⟩)
     (first | (go_at_call 59; refine HC.out.mono ?_; rintro e w2 ⟨rfl, hq⟩; rw [HCC.out]))
    go_wp2_with fail
    go_roundw
    case rel => exact ⟨k + 1, by omega, by go_num, Lib.hid HA.out, hb.drew.trans (hq.mono hb.size)⟩
    case measure => simp [intOf]; omega
  ·have e : (s.zip db).take k = s.zip db := List.take_of_length_le (by rw [HZ.out]; omega)
   have g1 := hall.out
   rw [e] at g1
   have HF := Lib.hid (show dbB s db = true by rw [HE.out]; exact g1)
   have i3 : ¬ (k : Int) < s.length := by have := HL.out; omega
   clear e g1 hall
   go_wp2_with fail
   go_ret
   exact ⟨retB HF.out.symm, hb⟩
theorem keyL_get {cols : List Int} {vals : List Vl} {k m : Nat} (h : k < cols.length) (hm : cols[k] = m) (hv : m < vals.length) (h2 : k < (keyL cols vals).length) : (keyL cols vals)[k] = vals[m] := by
 simp [keyL, hm, hv]
set_option maxRecDepth 100000 in
set_option maxHeartbeats 2000000 in
theorem implHasKey (b off : Nat) (AC AK A1 : Option Addr) (nC cC nK cK n1 c1 : Nat) (id : Value) (cols : List Int) (key vals : List Vl) (ok ok' ok'' : Nat → Prop) (w : World)
  (p1 : w.cell? ⟨b, off + 1, none⟩ = some (.slice A1 n1 c1)) (hc : Sl IntR 1 ok w AC nC cols) (hk : Sl VlR 3 ok' w AK nK key) (hv : Sl VlR 3 ok'' w A1 n1 vals) (hcn : nC ≤ 1048576) (hkn : nK ≤ 1048576) (hvn : n1 ≤ 1048576) (hall : cols.all (inV vals) = true) :
  Calls Tryz.prog 67 #[.pointer (some ⟨b, off, none⟩), .slice AC nC cC, .slice AK nK cK] w fun e w' => e = .returned (.bool (hitB cols key vals)) ∧ Below w.heap.size w w' := by
 obtain rfl : cols.length = nC := hc.1
 obtain rfl : key.length = nK := hk.1
 obtain rfl : vals.length = n1 := hv.1
 have HALL := Lib.hid hall
 clear hall
 by_cases hl : (key.length : Int) = cols.length
 case neg =>
  have hl' : ((key.length : Int) == cols.length) = false := by simpa using hl
  have HF := Lib.hid (show hitB cols key vals = false by unfold hitB; rw [decide_eq_false (by omega)]; rfl)
  clear hl
  go_enter Tryz.func67, Tryz.ntmps67
  go_wp2_with fail
  go_ret
  exact ⟨retB HF.out.symm, Below.refl _ _⟩
 have hl' : ((key.length : Int) == cols.length) = true := by simpa using hl
 have HL := Lib.hid (show key.length = cols.length by omega)
 have HKL := Lib.hid (show (keyL cols vals).length = cols.length by simp [keyL])
 have P1 := Lib.hid p1
 clear hl p1
 go_enter Tryz.func67, Tryz.ntmps67
 go_wp2_with fail
 clear hl'
 go_loopw [17] (fun i wr => ∃ k : Nat, k ≤ cols.length ∧ i = .int .i64 k ∧ Hid ((((keyL cols vals).zip key).take k).all hitP = true) ∧ Below w.heap.size w wr) (fun i _ => cols.length - (intOf i).toNat)
 case atStart => exact ⟨0, by omega, rfl, Lib.hid (by simp), Below.refl _ _⟩
 case round =>
  obtain ⟨k, hk', rfl, hall, hb⟩ := hrel
  by_cases hlt : k < cols.length
  ·have hlk : k < key.length := by have := HL.out; omega
   have hlL : k < (keyL cols vals).length := by have := HKL.out; omega
   obtain ⟨bc, oc, -, rfl, q0⟩ := IntR.at_ (hc.below IntR.stays hb) hlt
   obtain ⟨m, hm, hmv⟩ := inV_nat (List.all_eq_true.1 HALL.out _ (List.getElem_mem hlt))
   have hst := zip_take (keyL cols vals) key k hlL hlk hitP
   rw [hall.out, Bool.true_and, keyL_get hlt hm hmv hlL] at hst
   have hno : hitP (vals[m], key[k]) = false → hitB cols key vals = false := fun hf => by
    unfold hitB
    rw [zip_no (f := hitP) hlL hlk (by rw [keyL_get hlt hm hmv hlL]; exact hf)]; simp
   rw [hm] at q0
   obtain ⟨b1, o1, -, rfl, x0, x1, x2⟩ := VlR.at_ (hv.below VlR.stays hb) hmv
   obtain ⟨b2, o2, -, rfl, y0, y1, y2⟩ := VlR.at_ (hk.below VlR.stays hb) hlk
   have p1 := below_keep hb _ _ P1.out
   have i0 : (0 : Int) ≤ k := by omega
   have i1 : (k : Int) < cols.length := by omega
   have i2 : (k : Int) < key.length := by omega
   have j0 : (0 : Int) ≤ m := by omega
   have j1 : (m : Int) < vals.length := by omega
   clear hm
   generalize vals[m] = x at *
   generalize key[k] = y at *
   have hbx := hb.alloc hb.size (.cells #[.int .i64 x.k, .int .i64 x.n, .string x.s] 53)
   have hlb := (Below.refl wr.heap.size wr).alloc (Nat.le_refl _) (.cells #[.int .i64 x.k, .int .i64 x.n, .string x.s] 53)
   have y0' := below_keep hlb _ _ y0
   have y1' := below_keep hlb _ _ y1
   have y2' := below_keep hlb _ _ y2
   clear hlb
   cases hs : hitP (x, y)
   ·have HF := Lib.hid (hno hs)
    have HS := Lib.hid hs
    clear hno hst hall hs
    cases e0 : (x.k == 0)
    ·cases e1 : (x.k == y.k)
     ·clear HS
      go_wp2_with fail
      go_quiet (fail)
      go_wp2_with fail
      go_ret
      exact ⟨retB HF.out.symm, below_dN hbx _⟩
     ·cases e2 : (x.n == y.n)
      ·clear HS
       go_wp2_with fail
       go_quiet (fail)
       go_wp2_with fail
       go_ret
       exact ⟨retB HF.out.symm, below_dN hbx _⟩
      ·have e3 : (x.s.toList == y.s.toList) = false := by have := HS.out; simp only [hitP, eqlP, eqlV, e0, e1, e2, Bool.true_and, Bool.not_false] at this; exact this
       clear HS
       go_wp2_with fail
       go_quiet (fail)
       go_wp2_with fail
       go_ret
       exact ⟨retB HF.out.symm, below_dN hbx _⟩
    ·clear HS
     go_wp2_with fail
     go_quiet (fail)
     go_wp2_with fail
     go_ret
     exact ⟨retB HF.out.symm, below_dN hbx _⟩
   ·rw [hs] at hst
    have HA := Lib.hid hst
    simp only [hitP, eqlP, eqlV, Bool.and_eq_true, Bool.not_eq_true'] at hs
    obtain ⟨e0, e1, e2, e3⟩ := hs
    clear hno hst hall
    go_wp2_with fail
    go_quiet (fail)
    go_wp2_with fail
    go_roundw
    case rel => exact ⟨k + 1, by omega, by go_num, HA, below_dN hbx _⟩
    case measure => simp [intOf]; omega
  ·have e : ((keyL cols vals).zip key).take k = (keyL cols vals).zip key := List.take_of_length_le (by rw [List.length_zip]; have := HKL.out; omega)
   have h1 := hall.out
   rw [e] at h1
   have HA := Lib.hid (show hitB cols key vals = true by unfold hitB; rw [decide_eq_true HL.out, h1]; rfl)
   clear e h1 hall
   go_wp2_with fail
   go_ret
   exact ⟨retB HA.out.symm, hb⟩
def refB (nm : ByteArray) (t : Tb) : Bool := t.fks.any fun f => f.table.toList == nm.toList
def refsK (nm : ByteArray) (s : List Tb) : Nat → List Int
 | 0 => []
 | k + 1 => refsK nm s k ++ (match s[k]? with | some t => if refB nm t then [(k : Int)] else [] | none => [])
theorem refsK_yes {nm : ByteArray} {s : List Tb} {k : Nat} (h : k < s.length) (hr : refB nm s[k] = true) : refsK nm s (k + 1) = refsK nm s k ++ [(k : Int)] := by
 rw [refsK, List.getElem?_eq_getElem h]; simp [hr]
theorem refsK_no {nm : ByteArray} {s : List Tb} {k : Nat} (h : k < s.length) (hr : refB nm s[k] = false) : refsK nm s (k + 1) = refsK nm s k := by
 rw [refsK, List.getElem?_eq_getElem h]; simp [hr]
theorem refsK_len (nm : ByteArray) (s : List Tb) : ∀ k, (refsK nm s k).length ≤ k
 | 0 => Nat.le_refl _
 | k + 1 => by
  have := refsK_len nm s k
  rw [refsK]
  split
  ·split <;> simp <;> omega
  ·simp; omega
theorem refsK_lt (nm : ByteArray) (s : List Tb) : ∀ k, ∀ x ∈ refsK nm s k, x < k
 | 0, x, h => by cases h
 | k + 1, x, h => by
  rw [refsK, List.mem_append] at h
  rcases h with h | h
  ·have := refsK_lt nm s k x h; omega
  ·split at h
   ·split at h
    ·simp at h; omega
    ·cases h
   ·cases h
def refsB (nm : ByteArray) (s : List Tb) : List Int := if schemaB s then refsK nm s s.length else []
theorem any_take_fk (l : List Fk) (nm : ByteArray) (k : Nat) (h : k < l.length) : ((l.take (k + 1)).any fun f => f.table.toList == nm.toList) = ((l.take k).any (fun f => f.table.toList == nm.toList) || (l[k].table.toList == nm.toList)) := by
 rw [List.take_succ_eq_append_getElem h, List.any_append]; simp
set_option maxRecDepth 100000 in
set_option maxHeartbeats 1000000 in
theorem implRefersTo (x : Tb) (A1 : Option Addr) (n1 c1 : Nat) (A2 : Option Addr) (n2 c2 : Nat) (A3 : Option Addr) (n3 c3 : Nat) (A4 : Option Addr) (n4 c4 : Nat) (A5 : Option Addr) (n5 c5 : Nat) (nm : ByteArray) (ok : Nat → Prop) (w : World) (h5 : Sl FkR 5 ok w A5 n5 x.fks) (hn : n5 ≤ 1048576) :
  Calls Tryz.prog 44 #[.agg #[.string x.name, .slice A1 n1 c1, .slice A2 n2 c2, .slice A3 n3 c3, .slice A4 n4 c4, .slice A5 n5 c5], .string nm] w fun e w' => e = .returned (.bool (refB nm x)) ∧ Below w.heap.size w w' := by
 obtain rfl : x.fks.length = n5 := h5.1
 have rb := Row.new w 45 #[.string x.name, .slice A1 n1 c1, .slice A2 n2 c2, .slice A3 n3 c3, .slice A4 n4 c4, .slice A5 x.fks.length c5]
 have hb0 := (Below.refl w.heap.size w).alloc (Nat.le_refl _) (.cells #[.string x.name, .slice A1 n1 c1, .slice A2 n2 c2, .slice A3 n3 c3, .slice A4 n4 c4, .slice A5 x.fks.length c5] 45)
 go_enter Tryz.func44, Tryz.ntmps44
 obtain ⟨⟨k0, k1, k2, k3, k4, k5⟩, -⟩ := rb.all6
 go_wp2_with fail
 generalize w.alloc (.cells #[.string x.name, .slice A1 n1 c1, .slice A2 n2 c2, .slice A3 n3 c3, .slice A4 n4 c4, .slice A5 x.fks.length c5] 45) = z0 at *
 go_loopw [10] (fun i wr => ∃ k : Nat, k ≤ x.fks.length ∧ i = .int .i64 k ∧ Hid (((x.fks.take k).any fun f => f.table.toList == nm.toList) = false) ∧ Below w.heap.size w wr) (fun i _ => x.fks.length - (intOf i).toNat)
 case atStart => exact ⟨0, by omega, rfl, Lib.hid (by simp), hb0⟩
 case round =>
  obtain ⟨k, hk, rfl, hno, hb⟩ := hrel
  by_cases hlt : k < x.fks.length
  ·obtain ⟨b, off, A0, m0, d0, -, rfl, q0, q1, q2, q3, q4, -⟩ := FkR.at_ (h5.below FkR.stays hb) hlt
   have hs := any_take_fk x.fks nm k hlt
   rw [hno.out, Bool.false_or] at hs
   have hbx := hb.alloc hb.size (.cells #[.slice A0 m0 d0, .string x.fks[k].table, .int .i64 x.fks[k].del, .int .i64 x.fks[k].upd, .bool x.fks[k].dfr] 63)
   have i0 : (0 : Int) ≤ k := by omega
   have i1 : (k : Int) < x.fks.length := by omega
   have hany : x.fks.any (fun f => f.table.toList == nm.toList) = ((x.fks.take (k + 1)).any (fun f => f.table.toList == nm.toList) || (x.fks.drop (k + 1)).any (fun f => f.table.toList == nm.toList)) := by rw [← List.any_append, List.take_append_drop]
   cases he : (x.fks[k].table.toList == nm.toList)
   ·have HA := Lib.hid (hs.trans he)
    clear hs hno hany
    go_wp2_with fail
    go_roundw
    case rel => exact ⟨k + 1, by omega, by go_num, HA, hbx⟩
    case measure => simp [intOf]; omega
   ·have HA := Lib.hid (show refB nm x = true by unfold refB; rw [hany, hs, he]; rfl)
    clear hs hno hany
    go_wp2_with fail
    go_ret
    exact ⟨retB HA.out.symm, hbx⟩
  ·have e : x.fks.take k = x.fks := List.take_of_length_le (by omega)
   have h1 := hno.out
   rw [e] at h1
   have HA := Lib.hid (show refB nm x = false by unfold refB; exact h1)
   clear e h1 hno
   go_wp2_with fail
   go_ret
   exact ⟨retB HA.out.symm, hb⟩
def MadeI (xs : List Int) (w : World) (e : Ending) (w' : World) : Prop := ∃ A c, e = .returned (.slice A xs.length c) ∧ xs.length ≤ c ∧ Sl IntR 1 (okF w.heap.size w') w' A xs.length xs ∧ Below w.heap.size w w'
set_option maxRecDepth 100000 in
set_option maxHeartbeats 1000000 in
theorem implRefers (A : Option Addr) (n c : Nat) (s : List Tb) (nm : ByteArray) (ok : Nat → Prop) (w : World) (h : Sl TbR 6 ok w A n s) (hs : szL Tb.sz s ≤ 1048576) :
  Calls Tryz.prog 19 #[.slice A n c, .string nm] w (MadeI (refsB nm s) w) := by
 obtain rfl : s.length = n := h.1
 have hn : s.length ≤ 1048576 := by unfold szL at hs; omega
 have HS := Lib.hid hs
 clear hs
 obtain ⟨i0, hi, hz0, hz1, hz2⟩ := info_parts infoIntI
 cases hB : schemaB s
 ·have HB := Lib.hid hB
  have HR := Lib.hid (show refsB nm s = [] by unfold refsB; rw [hB]; rfl)
  clear hB hi hz0 hz1 hz2
  go_enter Tryz.func19, Tryz.ntmps19
  go_wp2_with fail
  refine (implSchemaOk A s.length c s ok _ h HS.out).mono ?_
  rintro e w1 ⟨rfl, hb1⟩
  rw [HB.out]
  go_wp2_with fail
  go_ret
  exact ⟨none, 0, by rw [HR.out]; rfl, by rw [HR.out]; exact Nat.le_refl _, by rw [HR.out]; exact ⟨rfl, fun h => by simp at h⟩, hb1⟩
 have HB := Lib.hid hB
 have HR := Lib.hid (show refsB nm s = refsK nm s s.length by unfold refsB; rw [hB]; rfl)
 clear hB
 have H1 := Lib.hid hi
 have H2 := Lib.hid hz0
 have H3 := Lib.hid hz1
 have H4 := Lib.hid hz2
 clear hi hz0 hz1 hz2
 go_enter Tryz.func19, Tryz.ntmps19
 go_wp2_with fail
 refine (implSchemaOk A s.length c s ok _ h HS.out).mono ?_
 rintro e w1 ⟨rfl, hb1⟩
 rw [HB.out]
 go_wp2_with fail
 go_loopw [5, 13] (fun v i wr => ∃ k : Nat, k ≤ s.length ∧ i = .int .i64 k ∧ Hid (OwnI wr w.heap.size v (refsK nm s k)) ∧ Below w.heap.size w wr) (fun _ i _ => s.length - (intOf i).toNat)
 case atStart => exact ⟨0, by omega, rfl, Lib.hid (OwnI.nil _ _), hb1⟩
 case round =>
  clear hb1
  obtain ⟨k, hk, rfl, hown, hb⟩ := hrel
  by_cases hlt : k < s.length
  ·obtain ⟨b, off, A1, n1, c1, A2, n2, c2, A3, n3, c3, A4, n4, c4, A5, n5, c5, -, rfl, q0, q1, q2, q3, q4, q5, -, -, -, -, s5, -⟩ := TbR.at_ (h.below TbR.stays hb) hlt
   have hfn : n5 ≤ 1048576 := by have h1 := HS.out; have := sum_mem_le Tb.sz s k hlt; have h2 := s5.1; simp only [szL, Tb.sz] at *; omega
   have i0' : (0 : Int) ≤ k := by omega
   have i1' : (k : Int) < s.length := by omega
   have hbx := hb.alloc hb.size (.cells #[.string s[k].name, .slice A1 n1 c1, .slice A2 n2 c2, .slice A3 n3 c3, .slice A4 n4 c4, .slice A5 n5 c5] 45)
   have hlb := (Below.refl wr.heap.size wr).alloc (Nat.le_refl _) (.cells #[.string s[k].name, .slice A1 n1 c1, .slice A2 n2 c2, .slice A3 n3 c3, .slice A4 n4 c4, .slice A5 n5 c5] 45)
   have s5' := s5.below FkR.stays hlb
   have hown' := Lib.hid (hown.out.below hlb)
   have HLEN := Lib.hid (refsK_len nm s k)
   clear hown hlb s5
   cases hr : refB nm s[k]
   ·have HRF := Lib.hid hr
    have HRK := Lib.hid (refsK_no hlt hr)
    clear hr
    go_wp2_with fail
    refine (implRefersTo s[k] A1 n1 c1 A2 n2 c2 A3 n3 c3 A4 n4 c4 A5 n5 c5 nm _ _ s5' hfn).mono ?_
    rintro e w2 ⟨rfl, hb2⟩
    rw [HRF.out]
    go_wp2_with fail
    go_roundw
    case rel => exact ⟨k + 1, by omega, by go_num, Lib.hid (by rw [HRK.out]; exact hown'.out.below hb2), hbx.trans (hb2.mono hbx.size)⟩
    case measure => simp [intOf]; omega
   ·have HRF := Lib.hid hr
    have HRK := Lib.hid (refsK_yes hlt hr)
    clear hr
    go_wp2_with fail
    refine (implRefersTo s[k] A1 n1 c1 A2 n2 c2 A3 n3 c3 A4 n4 c4 A5 n5 c5 nm _ _ s5' hfn).mono ?_
    rintro e w2 ⟨rfl, hb2⟩
    rw [HRF.out]
    have hbz := hbx.trans (hb2.mono hbx.size)
    have hoz := Lib.hid (hown'.out.below hb2)
    clear hown' hbx
    generalize hgv : refsK nm s k = xs at *
    have HGV := Lib.hid hgv
    clear hgv
    go_wp2_with (at_builtin; refine wpList_append_own _ rfl _ _ 40 rfl w.heap.size 2 i0 (.int .i64 0) 1 8 Tryz.underlying40 H1.out H2.out H3.out H4.out rfl (by decide) _ _ _ rfl (World.ownsRow.alloc hoz.out _) ⟨w2.heap.size, 0, none⟩ 1 1 [.int .i64 k] rfl rfl ?c1 ?c2 ?c3 ?c4 ?c5 ?_)
    case c1 => exact cell_one_new _ _ _
    case c2 => intro u hu; simp at hu; subst hu; rfl
    case c3 => have := HLEN.out; unfold maxLen; omega
    case c4 => have := HLEN.out; omega
    case c5 => have := hbz.size; simp; omega
    intro v' w3 hown3 hgrow _
    have R := Lib.hid (OwnI.app hoz.out hbz.size hown3 hgrow)
    clear hown3 hgrow hoz
    go_wp2_with fail
    go_roundw
    case rel => exact ⟨k + 1, by omega, by go_num, Lib.hid (by rw [HRK.out]; exact R.out.1), hbz.trans R.out.2⟩
    case measure => simp [intOf]; omega
  ·obtain rfl : k = s.length := by omega
   obtain ⟨AO, cO, rfl, hcO, hcm, hsl⟩ := hown.out.sl
   clear hown
   go_wp2_with fail
   go_ret
   exact ⟨AO, cO, by rw [HR.out]; rfl, by rw [HR.out]; exact hcO, by rw [HR.out]; exact hsl, hb⟩
end Go.Proofs.YtjhhamlnlalkoaaGreat
namespace Go.Proofs.YtjhhamlnlalkoaaGreat
open Go.RowKit
theorem idsGo_mem {cols : List Cl} : ∀ {l : List Rw} {last : Int}, idsGo cols last l = true → ∀ r ∈ l, kindsB cols r.vals = true
 | [], _, _, r, h => by cases h
 | x :: xs, last, h, r, hr => by
  simp only [idsGo, Bool.and_eq_true] at h
  rcases List.mem_cons.1 hr with rfl | hr
  ·exact h.2.2.1
  ·exact idsGo_mem h.2.2.2 r hr
theorem dbB_row {s : List Tb} {db : List Dt} (h : dbB s db = true) {m : Nat} (h1 : m < s.length) (h2 : m < db.length) : ∀ r ∈ db[m].rows, r.vals.length = s[m].cols.length := fun r hr => by
 simp only [dbB, Bool.and_eq_true, decide_eq_true_eq] at h
 have h3 := List.all_eq_true.1 h.2.2 (s[m], db[m]) (by rw [List.mem_iff_getElem]; exact ⟨m, by rw [List.length_zip]; omega, by simp⟩)
 simp only [dbV, dataB, Bool.and_eq_true] at h3
 have h4 := idsGo_mem h3.2 r hr
 simp only [kindsB, Bool.and_eq_true, decide_eq_true_eq] at h4
 exact h4.1
theorem dbB_len {s : List Tb} {db : List Dt} (h : dbB s db = true) : db.length = s.length := by
 simp only [dbB, Bool.and_eq_true, decide_eq_true_eq] at h
 exact h.2.1
theorem all_inV {cols : List Int} {vals : List Vl} {n : Nat} (h : colsInB cols n = true) (hv : vals.length = n) : cols.all (inV vals) = true := by
 rw [List.all_eq_true]
 intro c hc
 have := (colsInB_len h).2 c hc
 simp only [inV, Bool.and_eq_true, decide_eq_true_eq]
 omega
theorem rows_le {db : List Dt} {m : Nat} (h : szL Dt.sz db ≤ m) : ∀ d ∈ db, ∀ r ∈ d.rows, r.vals.length ≤ m := fun d hd r hr => by
 have h1 : d.sz ≤ m := by
  obtain ⟨i, hi, rfl⟩ := List.mem_iff_getElem.1 hd
  have := sum_mem_le Dt.sz db i hi
  unfold szL at h
  omega
 have h2 : r.sz ≤ m := by
  obtain ⟨i, hi, rfl⟩ := List.mem_iff_getElem.1 hr
  have := sum_mem_le Rw.sz d.rows i hi
  unfold Dt.sz szL at h1
  omega
 unfold Rw.sz szL at h2
 omega
theorem implDbOk' (AS AD : Option Addr) (nS cS nD cD : Nat) (s : List Tb) (db : List Dt) (ok ok' : Nat → Prop) (w : World) (hs : Sl TbR 6 ok w AS nS s) (hd : Sl DtR 1 ok' w AD nD db) (hsz : szL Tb.sz s ≤ 1048576) (hdz : szL Dt.sz db ≤ 1048576) :
  Calls Tryz.prog 27 #[.slice AS nS cS, .slice AD nD cD] w fun e w' => e = .returned (.bool (dbB s db)) ∧ Below w.heap.size w w' :=
 implDbOk AS AD nS cS nD cD s db (fun _ => True) w (hs.stays TbR.stays (fun _ _ => trivial) (fun _ _ _ h => h)) (hd.stays DtR.stays (fun _ _ => trivial) (fun _ _ _ h => h)) hsz hdz (rows_le hdz)
end Go.Proofs.YtjhhamlnlalkoaaGreat
namespace Go.Proofs.YtjhhamlnlalkoaaGreat
open Go.RowKit Go.Maps
set_option maxRecDepth 100000 in
set_option maxHeartbeats 2000000 in
theorem specKinds (A1 AR : Option Addr) (n1 c1 nR cR : Nat) (v0 v2 v3 v4 v5 : Value) (cols : List Cl) (row : List Vl) (ok : Nat → Prop) (w : World)
  (h : Sl ClR 6 ok w A1 n1 cols) (hv : Vals w AR nR row) (hn1 : n1 ≤ 1048576) (hn2 : nR ≤ 1048576) :
  Calls Tryz.prog 56 #[.agg #[v0, .slice A1 n1 c1, v2, v3, v4, v5], .slice AR nR cR] w fun e w' => e = .returned (.bool (kindsB cols row)) ∧ Below w.heap.size w w' := by
 obtain rfl : cols.length = n1 := h.1
 obtain rfl : row.length = nR := hv.len
 have hb0 := (Below.refl w.heap.size w).alloc (Nat.le_refl _) (.cells #[v0, .slice A1 cols.length c1, v2, v3, v4, v5] 45)
 have r0 := Row.new w 45 #[v0, .slice A1 cols.length c1, v2, v3, v4, v5]
 cases hl : (row.length == cols.length)
 ·have hl' : ¬ ((row.length : Int) = cols.length) := by have := beq_eq_false_iff_ne.1 hl; omega
  have HF := Lib.hid (show kindsB cols row = false by unfold kindsB; rw [decide_eq_false (beq_eq_false_iff_ne.1 hl)]; rfl)
  clear hl
  go_enter Tryz.func56, Tryz.ntmps56
  go_wp2
  go_ret
  exact ⟨retB HF.out.symm, hb0⟩
 have hlen : row.length = cols.length := by simpa using hl
 have hl' : (row.length : Int) = cols.length := by omega
 have hz : (cols.zip row).length = cols.length := by simp [hlen]
 have HZ := Lib.hid hz
 have HL := Lib.hid hlen
 have HE := Lib.hid (show kindsB cols row = fitAll cols row by unfold kindsB; rw [decide_eq_true hlen]; rfl)
 clear hl hz hlen
 go_enter Tryz.func56, Tryz.ntmps56
 go_wp2_with fail
 generalize w.alloc (.cells #[v0, .slice A1 cols.length c1, v2, v3, v4, v5] 45) = x0 at *
 go_loopw [5] (fun i wr => ∃ k : Nat, k ≤ cols.length ∧ i = .int .i64 k ∧ Hid (((cols.zip row).take k).all fitV = true) ∧ Row wr w.heap.size 45 #[v0, .slice A1 cols.length c1, v2, v3, v4, v5] ∧ Below w.heap.size w wr) (fun i _ => cols.length - (intOf i).toNat)
 case atStart => exact ⟨0, by omega, rfl, Lib.hid (by simp), r0, hb0⟩
 case round =>
  obtain ⟨k, hk, rfl, hall, hr, hb⟩ := hrel
  by_cases hlt : k < cols.length
  ·have hlt2 : k < row.length := by have := HL.out; omega
   obtain ⟨⟨d0, d1, d2, d3, d4, d5⟩, -⟩ := hr.all6
   obtain ⟨b2, off2, rfl, p0, p1, p2⟩ := (hv.below hb).at_ hlt2
   obtain ⟨b, off, -, rfl, q0, q1, q2, q3, q4, q5⟩ := ClR.at_ (h.below ClR.stays hb) hlt
   have hsn := all_take fitV (cols.zip row) k (by rw [HZ.out]; exact hlt)
   have hno := fun hf => all_no fitV (cols.zip row) k (by rw [HZ.out]; exact hlt) hf
   have eg : fitV ((cols.zip row)[k]'(by rw [HZ.out]; exact hlt)) = fitsB cols[k].kind row[k] := by rw [List.getElem_zip]; rfl
   rw [hall.out, Bool.true_and, eg] at hsn
   rw [eg] at hno
   have hsn := fun hf : fitsB cols[k].kind row[k] = true => hsn.trans hf
   have hno := fun hf : fitsB cols[k].kind row[k] = false => show kindsB cols row = false by rw [HE.out]; exact hno hf
   have i0 : (0 : Int) ≤ k := by omega
   have i1 : (k : Int) < cols.length := by omega
   have i2 : (k : Int) < row.length := by have := HL.out; omega
   clear eg
   cases hv1 : valOkB row[k].k row[k].n row[k].s
   ·skip
    have HV := Lib.hid hv1
    have HF := Lib.hid (hno (by unfold fitsB; rw [hv1]; rfl))
    clear hsn hno hall hv1
    go_wp2_with fail
    refine wp_region_noPanic ?_
    refine wp_region_held_drew (S := fun w' => w'.cell? ⟨b2, off2 + k * 3, none⟩ = some (.int .i64 row[k].k) ∧ w'.cell? ⟨b2, off2 + k * 3 + 1, none⟩ = some (.int .i64 row[k].n) ∧ w'.cell? ⟨b2, off2 + k * 3 + 2, none⟩ = some (.string row[k].s) ∧ w'.cell? ⟨w.heap.size, 1, none⟩ = some (.slice (some ⟨b, off, none⟩) cols.length c1) ∧ w'.cell? ⟨b, off + k * 6 + 1, none⟩ = some (.int .i64 cols[k].kind)) (by kernel_rfl) ⟨p0, p1, p2, d1, q1⟩ (fun hHeld => ?_)
    refine tk 0 ?_
    refine tk 1 ?_
    refine tk 2 ?_
    refine tk 3 ?_
    refine wpAnyH_ready (rs := [4]) (by kernel_rfl) (by simp) ?_
    refine AllReadyH.cons rfl (fun K hK => ?_) AllReadyH.nil
    go_simp
    refine (specValOk _ _ _ _).mono ?_
    rintro e wd ⟨rfl, hqd⟩
    rw [HV.out]
    go_wp2_with fail
    refine hK.out _ _ (keepF hHeld hqd) (fun hHeld => ?_)
    clear hK K
    (try simp only [Act.put, pz0, pz1, pz2, pz3, pz4, pz5])
    refine tk 5 ?_
    refine tk 6 ?_
    refine tu 7 ?_
    refine tu 8 ?_
    refine tu 9 ?_
    refine tu 10 ?_
    refine tu 11 ?_
    refine tu 12 ?_
    refine tu 13 ?_
    refine tu 14 ?_
    refine tu 15 ?_
    refine tu 16 ?_
    refine tu 17 ?_
    refine tu 18 ?_
    refine tu 19 ?_
    refine tu 20 ?_
    refine tu 21 ?_
    refine tu 22 ?_
    refine tu 23 ?_
    refine tu 24 ?_
    refine tu 25 ?_
    refine tu 26 ?_
    refine tk 27 ?_
    refine wpAnyH_done (by kernel_rfl) ?_ _
    refine NoPanic.normal ?_
    have hz := hb.drew.trans (hqd.mono hb.drew.size)
    have rz := hr.drew.below hqd
    clear hHeld p0 p1 p2 d1 q1
    go_wp2_with fail
    go_ret
    exact ⟨retB HF.out.symm, hz⟩
   by_cases h0 : row[k].k = 0
   ·skip
    have HV := Lib.hid hv1
    have HA := Lib.hid (hsn (by unfold fitsB; rw [hv1, h0]; rfl))
    have e0 : (row[k].k == 0) = true := by simpa using h0
    have e1 : (row[k].k != 0) = false := by simpa using h0
    clear hsn hno hall hv1 h0
    go_wp2_with fail
    refine wp_region_noPanic ?_
    refine wp_region_held_drew (S := fun w' => w'.cell? ⟨b2, off2 + k * 3, none⟩ = some (.int .i64 row[k].k) ∧ w'.cell? ⟨b2, off2 + k * 3 + 1, none⟩ = some (.int .i64 row[k].n) ∧ w'.cell? ⟨b2, off2 + k * 3 + 2, none⟩ = some (.string row[k].s) ∧ w'.cell? ⟨w.heap.size, 1, none⟩ = some (.slice (some ⟨b, off, none⟩) cols.length c1) ∧ w'.cell? ⟨b, off + k * 6 + 1, none⟩ = some (.int .i64 cols[k].kind)) (by kernel_rfl) ⟨p0, p1, p2, d1, q1⟩ (fun hHeld => ?_)
    refine tk 0 ?_
    refine tk 1 ?_
    refine tk 2 ?_
    refine tk 3 ?_
    refine wpAnyH_ready (rs := [4]) (by kernel_rfl) (by simp) ?_
    refine AllReadyH.cons rfl (fun K hK => ?_) AllReadyH.nil
    go_simp
    refine (specValOk _ _ _ _).mono ?_
    rintro e wd ⟨rfl, hqd⟩
    rw [HV.out]
    go_wp2_with fail
    refine hK.out _ _ (keepF hHeld hqd) (fun hHeld => ?_)
    clear hK K
    (try simp only [Act.put, pz0, pz1, pz2, pz3, pz4, pz5])
    refine tk 5 ?_
    refine tk 6 ?_
    refine tk 7 ?_
    refine tk 8 ?_
    refine tk 9 ?_
    refine tk 10 ?_
    refine tk 11 ?_
    refine tk 12 ?_
    refine tk 13 ?_
    refine tu 14 ?_
    refine tu 15 ?_
    refine tu 16 ?_
    refine tu 17 ?_
    refine tu 18 ?_
    refine tu 19 ?_
    refine tu 20 ?_
    refine tu 21 ?_
    refine tu 22 ?_
    refine tu 23 ?_
    refine tu 24 ?_
    refine tu 25 ?_
    refine tk 26 ?_
    refine tk 27 ?_
    refine wpAnyH_done (by kernel_rfl) ?_ _
    refine NoPanic.normal ?_
    have hz := hb.drew.trans (hqd.mono hb.drew.size)
    have rz := hr.drew.below hqd
    clear hHeld p0 p1 p2 d1 q1
    go_wp2_with fail
    go_roundw
    case rel => exact ⟨k + 1, by omega, by go_num, Lib.hid HA.out, rz, hz⟩
    case measure => simp [intOf]; omega
   have e0 : (row[k].k == 0) = false := by simpa using h0
   have e1 : (row[k].k != 0) = true := by simpa using h0
   by_cases hk2 : row[k].k = cols[k].kind
   ·skip
    have HV := Lib.hid hv1
    have HA := Lib.hid (hsn (by unfold fitsB; rw [hv1, hk2]; simp))
    have e2 : (row[k].k == cols[k].kind) = true := by simpa using hk2
    have e3 : (row[k].k != cols[k].kind) = false := by simpa using hk2
    clear hsn hno hall hv1 h0 hk2
    go_wp2_with fail
    refine wp_region_noPanic ?_
    refine wp_region_held_drew (S := fun w' => w'.cell? ⟨b2, off2 + k * 3, none⟩ = some (.int .i64 row[k].k) ∧ w'.cell? ⟨b2, off2 + k * 3 + 1, none⟩ = some (.int .i64 row[k].n) ∧ w'.cell? ⟨b2, off2 + k * 3 + 2, none⟩ = some (.string row[k].s) ∧ w'.cell? ⟨w.heap.size, 1, none⟩ = some (.slice (some ⟨b, off, none⟩) cols.length c1) ∧ w'.cell? ⟨b, off + k * 6 + 1, none⟩ = some (.int .i64 cols[k].kind)) (by kernel_rfl) ⟨p0, p1, p2, d1, q1⟩ (fun hHeld => ?_)
    refine tk 0 ?_
    refine tk 1 ?_
    refine tk 2 ?_
    refine tk 3 ?_
    refine wpAnyH_ready (rs := [4]) (by kernel_rfl) (by simp) ?_
    refine AllReadyH.cons rfl (fun K hK => ?_) AllReadyH.nil
    go_simp
    refine (specValOk _ _ _ _).mono ?_
    rintro e wd ⟨rfl, hqd⟩
    rw [HV.out]
    go_wp2_with fail
    refine hK.out _ _ (keepF hHeld hqd) (fun hHeld => ?_)
    clear hK K
    (try simp only [Act.put, pz0, pz1, pz2, pz3, pz4, pz5])
    refine tk 5 ?_
    refine tk 6 ?_
    refine tk 7 ?_
    refine tk 8 ?_
    refine tk 9 ?_
    refine tk 10 ?_
    refine tk 11 ?_
    refine tk 12 ?_
    refine tk 13 ?_
    refine tk 14 ?_
    refine tk 15 ?_
    refine tk 16 ?_
    refine tk 17 ?_
    refine tk 18 ?_
    refine tk 19 ?_
    refine tk 20 ?_
    refine tk 21 ?_
    refine tk 22 ?_
    refine tk 23 ?_
    refine tk 24 ?_
    refine tk 25 ?_
    refine tk 26 ?_
    refine tk 27 ?_
    refine wpAnyH_done (by kernel_rfl) ?_ _
    refine NoPanic.normal ?_
    have hz := hb.drew.trans (hqd.mono hb.drew.size)
    have rz := hr.drew.below hqd
    clear hHeld p0 p1 p2 d1 q1
    go_wp2_with fail
    go_roundw
    case rel => exact ⟨k + 1, by omega, by go_num, Lib.hid HA.out, rz, hz⟩
    case measure => simp [intOf]; omega
   ·skip
    have HV := Lib.hid hv1
    have HF := Lib.hid (hno (by unfold fitsB; rw [e0, show (row[k].k == cols[k].kind) = false by simpa using hk2]; simp))
    have e2 : (row[k].k == cols[k].kind) = false := by simpa using hk2
    have e3 : (row[k].k != cols[k].kind) = true := by simpa using hk2
    clear hsn hno hall hv1 h0 hk2
    go_wp2_with fail
    refine wp_region_noPanic ?_
    refine wp_region_held_drew (S := fun w' => w'.cell? ⟨b2, off2 + k * 3, none⟩ = some (.int .i64 row[k].k) ∧ w'.cell? ⟨b2, off2 + k * 3 + 1, none⟩ = some (.int .i64 row[k].n) ∧ w'.cell? ⟨b2, off2 + k * 3 + 2, none⟩ = some (.string row[k].s) ∧ w'.cell? ⟨w.heap.size, 1, none⟩ = some (.slice (some ⟨b, off, none⟩) cols.length c1) ∧ w'.cell? ⟨b, off + k * 6 + 1, none⟩ = some (.int .i64 cols[k].kind)) (by kernel_rfl) ⟨p0, p1, p2, d1, q1⟩ (fun hHeld => ?_)
    refine tk 0 ?_
    refine tk 1 ?_
    refine tk 2 ?_
    refine tk 3 ?_
    refine wpAnyH_ready (rs := [4]) (by kernel_rfl) (by simp) ?_
    refine AllReadyH.cons rfl (fun K hK => ?_) AllReadyH.nil
    go_simp
    refine (specValOk _ _ _ _).mono ?_
    rintro e wd ⟨rfl, hqd⟩
    rw [HV.out]
    go_wp2_with fail
    refine hK.out _ _ (keepF hHeld hqd) (fun hHeld => ?_)
    clear hK K
    (try simp only [Act.put, pz0, pz1, pz2, pz3, pz4, pz5])
    refine tk 5 ?_
    refine tk 6 ?_
    refine tk 7 ?_
    refine tk 8 ?_
    refine tk 9 ?_
    refine tk 10 ?_
    refine tk 11 ?_
    refine tk 12 ?_
    refine tk 13 ?_
    refine tk 14 ?_
    refine tk 15 ?_
    refine tk 16 ?_
    refine tk 17 ?_
    refine tk 18 ?_
    refine tk 19 ?_
    refine tk 20 ?_
    refine tk 21 ?_
    refine tk 22 ?_
    refine tk 23 ?_
    refine tk 24 ?_
    refine tk 25 ?_
    refine tk 26 ?_
    refine tk 27 ?_
    refine wpAnyH_done (by kernel_rfl) ?_ _
    refine NoPanic.normal ?_
    have hz := hb.drew.trans (hqd.mono hb.drew.size)
    have rz := hr.drew.below hqd
    clear hHeld p0 p1 p2 d1 q1
    go_wp2_with fail
    go_ret
    exact ⟨retB HF.out.symm, hz⟩
  ·have e : (cols.zip row).take k = cols.zip row := List.take_of_length_le (by rw [HZ.out]; omega)
   have h1 := hall.out
   rw [e] at h1
   have HF := Lib.hid (show kindsB cols row = true by rw [HE.out]; exact h1)
   have i3 : ¬ (k : Int) < row.length := by have := HL.out; omega
   clear e h1 hall
   go_wp2
   go_ret
   exact ⟨retB HF.out.symm, hb⟩
end Go.Proofs.YtjhhamlnlalkoaaGreat
namespace Go.Proofs.YtjhhamlnlalkoaaGreat
open Go.RowKit
theorem run_app {P : Program} (w : World) (base : Nat) (t ty e : TypeId) (i : TypeInfo) (z : Value) (size bytes : Nat) (ht : P.underlying t = some (.slice e)) (hi : P.info? e = some i) (hz : i.zero = some z)
  (hsize : i.size = size) (hby : i.bytes = bytes) (hzs : z.cells.size = size) (hsz : 0 < size)
  (b : Addr) (n cp : Nat) (xs : List Value) (hown : w.ownsRow base e size (.slice (some b) n cp) n xs)
  (a : Addr) (m c : Nat) (news : List Value) (hl : news.length = m * size) (hnews : ∀ j u, news[j]? = some u → w.cell? (a.add j) = some u) (h1 : ∀ u ∈ news, u.oneCell' = true)
  (h63 : n + m ≤ maxLen) (hbytes : (n + m) * bytes ≤ 140737488355328) (hbase : base ≤ w.heap.size) :
  ∃ g cap w', (Builtin.append_ #[t, t] ty #[.slice (some b) n cp, .slice (some a) m c]).run P w = .ok (.slice (some ⟨g, 0, none⟩) (n + m) cap) w' ∧ w'.ownsRow base e size (.slice (some ⟨g, 0, none⟩) (n + m) cap) (n + m) (xs ++ news) ∧ w.grownBy w' (some b.block) ∧ base ≤ g := by
 obtain ⟨v', w', hrun, ho, hg, hnil, _⟩ := run_append_own_at (P := P) w base t ty e i z size bytes ht hi hz hsize hby hzs hsz _ n xs hown a m c news hl hnews h1 h63 hbytes hbase
 rcases ho.2 with ⟨rfl, _⟩ | ⟨g, cap, cur, rfl, hbg, _⟩
 ·have := (hnil.1 rfl).1
  cases this
 ·exact ⟨g, cap, w', hrun, ho, hg, hbg⟩
theorem step_app {P : Program} {w : World} {ops : Array Oper} {o : Oper} {a : Act} {K : Act → World → Prop} {Q : Exit → Act → World → Prop} {E : Prop} (hgd : o.guard = none) (s x : Operand) (t : TypeId)
  (ho : o.op = .call { callee := .builtin .append, args := #[s, x], argTypes := #[t, t] })
  (base : Nat) (e : TypeId) (i : TypeInfo) (z : Value) (size bytes : Nat) (ht : P.underlying t = some (.slice e)) (hi : P.info? e = some i) (hz : i.zero = some z)
  (hsize : i.size = size) (hby : i.bytes = bytes) (hzs : z.cells.size = size) (hsz : 0 < size)
  (b : Addr) (n cp : Nat) (xs : List Value) (hs : a.eval s = .slice (some b) n cp) (hown : w.ownsRow base e size (.slice (some b) n cp) n xs)
  (ad : Addr) (m c : Nat) (news : List Value) (hx : a.eval x = .slice (some ad) m c) (hl : news.length = m * size) (hnews : ∀ j u, news[j]? = some u → w.cell? (ad.add j) = some u) (h1 : ∀ u ∈ news, u.oneCell' = true)
  (h63 : n + m ≤ maxLen) (hbytes : (n + m) * bytes ≤ 140737488355328) (hbase : base ≤ w.heap.size)
  (h : ∀ g cap w', w'.ownsRow base e size (.slice (some ⟨g, 0, none⟩) (n + m) cap) (n + m) (xs ++ news) → w.grownBy w' (some b.block) → base ≤ g → K (a.put o.dst (.slice (some ⟨g, 0, none⟩) (n + m) cap)) w') :
  if Region.wanted o (yielded ops a.tmps) = true then Oper.wp P o a w K Q else E := by
 have hw : Region.wanted o (yielded ops a.tmps) = true := by simp [Region.wanted, hgd]
 rw [if_pos hw]
 obtain ⟨g, cap, w', hrun, h2, h3, h4⟩ := run_app (P := P) w base t o.type e i z size bytes ht hi hz hsize hby hzs hsz b n cp xs hown ad m c news hl hnews h1 h63 hbytes hbase
 unfold Oper.wp execOp
 simp only [ho, resolve, invoke, builtin, Sem.run_bind, Sem.run_pure, Result.andThen_ok, List.map_toArray, List.map_cons, List.map_nil, hs, hx, hrun]
 exact h g cap w' h2 h3 h4
theorem cellz_of_owns {w : World} {base : Nat} {e : TypeId} {sz n cap g : Nat} {xs : List Value} {xss : List (List Value)} (h : w.ownsRow base e sz (.slice (some ⟨g, 0, none⟩) n cap) n xs) (hx : xs = xss.flatten) (hn : xss.length = n) (hz : ∀ c ∈ xss, c.length = sz) :
  Cellz w sz (some ⟨g, 0, none⟩) n xss ∧ n ≤ cap ∧ cap ≤ maxLen := by
 rcases h.2 with ⟨e', _⟩ | ⟨g', cap', cur, e', _, hh, h1, h2, h3, h4⟩
 ·cases e'
 ·cases e'
  refine ⟨⟨hn, hz, fun _ => ⟨g, 0, rfl, fun i hi j hj => ?_⟩⟩, h1, h2⟩
  rw [Nat.zero_add, cell_of_row _ _ _ _ _ _ hh]
  have hflat : ∀ (l : List (List Value)) (i j : Nat) (hi : i < l.length) (hj : j < (l[i]).length), (∀ c ∈ l, c.length = sz) → l.flatten[i * sz + j]? = some (l[i])[j] := by
   intro l
   induction l with
   | nil => intro i j hi; simp at hi
   | cons c cs ih =>
    intro i j hi hj hz'
    have hc := hz' c (by simp)
    cases i with
    | zero => simp only [List.getElem_cons_zero] at hj ⊢; simp [List.getElem?_append_left hj, hj]
    | succ i =>
     simp only [List.getElem_cons_succ] at hj ⊢
     rw [List.flatten_cons, List.getElem?_append_right (by rw [hc, Nat.add_mul]; omega), hc, show (i + 1) * sz + j - sz = i * sz + j by rw [Nat.add_mul]; omega]
     exact ih i j (by simpa using hi) hj fun d hd => hz' d (by simp [hd])
  have hf := hflat xss i j hi hj hz
  rw [← hx, ← h4] at hf
  rw [← Array.getElem?_toList]
  rw [List.getElem?_take] at hf
  split at hf
  ·exact hf
  ·cases hf
def OwnVals (w : World) (base g n cp : Nat) (vs : List Vl) : Prop := w.ownsRow base 53 3 (.slice (some ⟨g, 0, none⟩) n cp) n ((vs.map Vl.cells).flatten)
theorem flat3_length (vs : List Vl) : ((vs.map Vl.cells).flatten).length = vs.length * 3 := by
 induction vs with
 | nil => rfl
 | cons v vs ih => simp only [List.map_cons, List.flatten_cons, List.length_append, ih, List.length_cons, Vl.cells, List.length_nil]; omega
theorem own0 {w : World} {base g : Nat} (h : Row w g 53 #[]) (hb : base ≤ g) : OwnVals w base g 0 0 [] :=
 ⟨rfl, .inr ⟨g, 0, #[], rfl, hb, h, Nat.le_refl _, by simp [maxLen], rfl, rfl⟩⟩
theorem OwnVals.vals {w : World} {base g n cp : Nat} {vs : List Vl} (h : OwnVals w base g n cp vs) (hn : vs.length = n) : Vals w (some ⟨g, 0, none⟩) n vs ∧ n ≤ cp ∧ cp ≤ maxLen :=
 cellz_of_owns h rfl (by simpa using hn) (fun c hc => by obtain ⟨v, _, rfl⟩ := List.mem_map.1 hc; rfl)
theorem OwnVals.alloc {w : World} {base g n cp : Nat} {vs : List Vl} (h : OwnVals w base g n cp vs) (o : Obj) : OwnVals (w.alloc o) base g n cp vs := World.ownsRow.alloc h o
theorem vals_one {w : World} {g : Nat} {v : Vl} (h : Row w g 53 #[.int .i64 v.k, .int .i64 v.n, .string v.s]) : Vals w (some ⟨g, 0, none⟩) 1 [v] := by
 obtain ⟨⟨c0, c1, c2⟩, -⟩ := h.three
 refine ⟨rfl, by simp [Vl.cells], fun _ => ⟨g, 0, rfl, fun i hi j hj => ?_⟩⟩
 have hi0 : i = 0 := by simp at hi; omega
 subst hi0
 have hj3 : j < 3 := by simpa [Vl.cells] using hj
 have : j = 0 ∨ j = 1 ∨ j = 2 := by omega
 rcases this with rfl | rfl | rfl <;> simpa [Vl.cells]
theorem Vals.take {w : World} {A : Option Addr} {n m : Nat} {vs : List Vl} (h : Vals w A n vs) (hm : m ≤ n) : Vals w A m (vs.take m) := by
 have hl := h.len
 refine ⟨by simp; omega, fun c hc => by obtain ⟨v, _, rfl⟩ := List.mem_map.1 hc; rfl, fun hn => ?_⟩
 obtain ⟨b, off, e, hc⟩ := h.2.2 (by omega)
 refine ⟨b, off, e, fun i hi j hj => ?_⟩
 simp only [List.length_map, List.length_take] at hi
 have := hc i (by simp; omega) j (by simpa using hj)
 simpa using this
theorem Vals.news {w : World} {ad : Addr} {m : Nat} {us : List Vl} (h : Vals w (some ad) m us) (hs : ad.spot = none) : ∀ j u, ((us.map Vl.cells).flatten)[j]? = some u → w.cell? (ad.add j) = some u := by
 intro j u hu
 obtain ⟨b, off, sp⟩ := ad
 simp only at hs
 subst hs
 have hl := h.len
 have hj : j < us.length * 3 := by rw [← flat3_length]; exact (List.getElem?_eq_some_iff.1 hu).1
 have h0 : 0 < m := by omega
 obtain ⟨b', off', e, hc⟩ := h.2.2 h0
 cases e
 rw [addr_add]
 have hflat : ∀ (l : List Vl) (i k : Nat), k < 3 → i < l.length → ((l.map Vl.cells).flatten)[i * 3 + k]? = (l[i]?.bind fun v => v.cells[k]?) := by
  intro l
  induction l with
  | nil => intro i k _ hi; simp at hi
  | cons v l ih =>
   intro i k hk hi
   cases i with
   | zero => simp only [List.map_cons, List.flatten_cons, Nat.zero_mul, Nat.zero_add, List.getElem?_cons_zero, Option.bind_some]; rw [List.getElem?_append_left (by simpa [Vl.cells] using hk)]
   | succ i =>
    simp only [List.map_cons, List.flatten_cons, List.getElem?_cons_succ]
    rw [List.getElem?_append_right (by simp [Vl.cells]; omega), show (i + 1) * 3 + k - v.cells.length = i * 3 + k by simp [Vl.cells]; omega]
    exact ih i k hk (by simpa using hi)
 have hd : j / 3 < us.length := by omega
 have he : j = j / 3 * 3 + j % 3 := by omega
 have hm3 : j % 3 < 3 := by omega
 rw [he, hflat us _ _ hm3 hd, List.getElem?_eq_getElem hd] at hu
 simp only [Option.bind_some] at hu
 obtain ⟨hk, hv⟩ := List.getElem?_eq_some_iff.1 hu
 have := hc (j / 3) (by simpa using hd) (j % 3) (by simpa using hk)
 rw [he, this]
 simp [← hv]
theorem infoVl : ∃ (i : TypeInfo) (z : Value), Tryz.prog.info? 53 = some i ∧ i.zero = some z ∧ i.size = 3 ∧ i.bytes = 32 ∧ z.cells.size = 3 := by
 obtain ⟨i, h1, h2, h3, h4⟩ := info_parts infoVal
 exact ⟨i, _, h1, h2, h3, h4, rfl⟩
theorem step_app_vals {w : World} {ops : Array Oper} {o : Oper} {a : Act} {K : Act → World → Prop} {Q : Exit → Act → World → Prop} {E : Prop} (hgd : o.guard = none) (s x : Operand)
  (ho : o.op = .call { callee := .builtin .append, args := #[s, x], argTypes := #[34, 34] })
  (base g n cp : Nat) (vs : List Vl) (hs : a.eval s = .slice (some ⟨g, 0, none⟩) n cp) (hown : OwnVals w base g n cp vs)
  (ad : Addr) (m c : Nat) (us : List Vl) (hx : a.eval x = .slice (some ad) m c) (hsp : ad.spot = none) (hu : Vals w (some ad) m us) (hsm : n + m ≤ 1000000) (hbase : base ≤ w.heap.size)
  (h : ∀ g' cap w', OwnVals w' base g' (n + m) cap (vs ++ us) → w.grownBy w' (some g) → base ≤ g' → K (a.put o.dst (.slice (some ⟨g', 0, none⟩) (n + m) cap)) w') :
  if Region.wanted o (yielded ops a.tmps) = true then Oper.wp Tryz.prog o a w K Q else E := by
 obtain ⟨i, z, h1, h2, h3, h4, h5⟩ := infoVl
 refine step_app hgd s x 34 ho base 53 i z 3 32 Tryz.underlying34 h1 h2 h3 h4 h5 (by omega) ⟨g, 0, none⟩ n cp _ hs hown ad m c _ hx ?_ (Vals.news hu hsp) ?_ (by unfold maxLen; omega) (by omega) hbase ?_
 ·rw [flat3_length, hu.len]
 ·intro u hu'
  rw [List.mem_flatten] at hu'
  obtain ⟨c, hc, hu'⟩ := hu'
  obtain ⟨v, _, rfl⟩ := List.mem_map.1 hc
  simp only [Vl.cells, List.mem_cons, List.not_mem_nil, or_false] at hu'
  rcases hu' with rfl | rfl | rfl <;> rfl
 ·intro g' cap w' ho' hg' hb'
  refine h g' cap w' ?_ hg' hb'
  unfold OwnVals
  rw [List.map_append, List.flatten_append]
  exact ho'
theorem step_app_vals0 {w : World} {ops : Array Oper} {o : Oper} {a : Act} {K : Act → World → Prop} {Q : Exit → Act → World → Prop} {E : Prop} (hgd : o.guard = none) (s x : Operand)
  (ho : o.op = .call { callee := .builtin .append, args := #[s, x], argTypes := #[34, 34] })
  (base g : Nat) (hs : a.eval s = .slice (some ⟨g, 0, none⟩) 0 0) (hrow : Row w g 53 #[]) (hbg : base ≤ g)
  (ad : Addr) (m c : Nat) (us : List Vl) (hx : a.eval x = .slice (some ad) m c) (hsp : ad.spot = none) (hu : Vals w (some ad) m us) (hsm : m ≤ 1000000) (hbase : base ≤ w.heap.size)
  (h : ∀ g' cap w', OwnVals w' base g' m cap us → w.grownBy w' (some g) → base ≤ g' → K (a.put o.dst (.slice (some ⟨g', 0, none⟩) m cap)) w') :
  if Region.wanted o (yielded ops a.tmps) = true then Oper.wp Tryz.prog o a w K Q else E := by
 refine step_app_vals hgd s x ho base g 0 0 [] hs (own0 hrow hbg) ad m c us hx hsp hu (by omega) hbase ?_
 intro g' cap w' h1 h2 h3
 rw [Nat.zero_add] at h1 ⊢
 exact h g' cap w' h1 h2 h3
theorem grown_below {base g : Nat} {w w' : World} (h : w.grownBy w' (some g)) (hg : base ≤ g) (hw : base ≤ w.heap.size) : Below base w w' :=
 ⟨h.os, h.tape, h.output, h.size, fun k hk => h.block k (by omega) (by intro e; cases e; omega)⟩
theorem grown_row {w w' : World} {g b : Nat} {T : TypeId} {cs : Array Value} (h : w.grownBy w' (some g)) (hr : Row w b T cs) (hne : b ≠ g) : Row w' b T cs :=
 (h.block b (lt_of_block hr) (by intro e; cases e; exact hne rfl)).trans hr
theorem keep3g {w w' : World} {g : Nat} {a0 a1 a2 : Addr} {v0 v1 v2 : Value} (h : w.cell? a0 = some v0 ∧ w.cell? a1 = some v1 ∧ w.cell? a2 = some v2) (hg : w.grownBy w' (some g)) (n0 : a0.block ≠ g) (n1 : a1.block ≠ g) (n2 : a2.block ≠ g) : w'.cell? a0 = some v0 ∧ w'.cell? a1 = some v1 ∧ w'.cell? a2 = some v2 :=
 ⟨hg.cell h.1 (by intro e; cases e; exact n0 rfl), hg.cell h.2.1 (by intro e; cases e; exact n1 rfl), hg.cell h.2.2 (by intro e; cases e; exact n2 rfl)⟩
end Go.Proofs.YtjhhamlnlalkoaaGreat
