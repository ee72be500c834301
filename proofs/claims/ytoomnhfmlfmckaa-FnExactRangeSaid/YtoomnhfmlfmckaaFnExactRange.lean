/-
  Range answers as the model at every list of entries and two values, in memory of its own (law FnExactRange, for every input).
-/
import Derived.Test.YtoomnhfmlfmckaaBase
import Derived.Test.YtoomnhfmlfmckaaRange
import Derived.Test.YtoomnhfmlfmckaaRangeKeep
import Derived.Test.YtoomnhfmlfmckaaMarkX
import Derived.Test.YtoomnhfmlfmckaaEq
import Derived.Test.YtoomnhfmlfmckaaTrod
import Derived.Test.YtoomnhfmlfmckaaSz
namespace Go.Proofs.Ytoomnhfmlfmckaa.fnExactRange
open Go.ChangeShapes Go.WideShapes Go.ChangeAt Go.RowKit Go.Joins
open Go.ChangeMaps (open_string shut_string)
set_option linter.unusedVariables false

set_option maxRecDepth 100000 in
set_option maxHeartbeats 4000000 in
theorem walk (a0 : Option Addr) (len0 cap0 : Nat) (x0 : List En) (k1 n1 : Int) (s1 : ByteArray) (k2 n2 : Int) (s2 : ByteArray) (w : World) (w0 : Sl EnR 2 (fun _ => True) w a0 len0 x0 ∧ (x0.length ≤ maxLen ∧ ∀ y ∈ x0, y.wf)) (w1 : IsVal k1 n1 s1) (w2 : IsVal k2 n2 s2) :
    Calls Try.prog 3 #[.slice a0 len0 cap0, .agg #[.int .i64 k1, .int .i64 n1, .string s1], .agg #[.int .i64 k2, .int .i64 n2, .string s2]] w fun e w' => e = .returned (.bool true) ∧ Below w.heap.size w w' := by
  obtain ⟨h0, wf0⟩ := w0
  obtain rfl : x0.length = len0 := h0.1
  have WF0 := Lib.hid wf0
  clear wf0
  obtain ⟨-, -, hs1⟩ := w1
  obtain ⟨-, -, hs2⟩ := w2
  have hb0 := chain2 w (.cells #[.int .i64 k1, .int .i64 n1, .string s1] 24) (.cells #[.int .i64 k2, .int .i64 n2, .string s2] 24)
  have rbb := two_rows w 24 #[.int .i64 k1, .int .i64 n1, .string s1] #[.int .i64 k2, .int .i64 n2, .string s2]
  have rb1 := rbb.1
  have rb2 := rbb.2
  clear rbb
  go_enter Try.func3, Try.ntmps3
  go_wp2_with fail
  generalize ((w.alloc (.cells #[.int .i64 k1, .int .i64 n1, .string s1] 24)).alloc (.cells #[.int .i64 k2, .int .i64 n2, .string s2] 24)) = z0 at *
  obtain ⟨⟨krb1_0, krb1_1, krb1_2⟩, -⟩ := rb1.three
  obtain ⟨⟨krb2_0, krb2_1, krb2_2⟩, -⟩ := rb2.three
  refine (lawsSzEntryL a0 x0.length cap0 x0 1048576 _ _ (h0.below EnR.stays hb0) WF0.out (by omega) (by omega)).mono ?_
  rintro e y1 ⟨rfl, hq1⟩
  have hbb1 := (hb0).trans (hq1.mono (hb0).size)
  have rb1 := rb1.below hq1
  have rb2 := rb2.below hq1
  clear krb1_0 krb1_1 krb1_2 krb2_0 krb2_1 krb2_2
  obtain ⟨⟨krb1_0, krb1_1, krb1_2⟩, -⟩ := rb1.three
  obtain ⟨⟨krb2_0, krb2_1, krb2_2⟩, -⟩ := rb2.three
  rcases szR_cases 1048576 (szL En.sz x0) (by omega) with ⟨hno1, hv1⟩ | ⟨l1, hv1, -, h01, h11, hle1⟩
  · rw [hv1.out]
    go_wp2
    go_ret
    exact ⟨rfl, hbb1⟩
  rw [hv1.out]
  have S0 := Lib.hid (show szL En.sz x0 ≤ 1048576 by omega)
  clear hle1
  go_wp2_with fail
  refine (lawsSzValR ⟨k1, n1, s1⟩ l1 _ hs1 (by omega) (by omega)).mono ?_
  rintro e y2 ⟨rfl, hq2⟩
  have hbb2 := (hbb1).trans (hq2.mono (hbb1).size)
  have rb1 := rb1.below hq2
  have rb2 := rb2.below hq2
  clear krb1_0 krb1_1 krb1_2 krb2_0 krb2_1 krb2_2
  obtain ⟨⟨krb1_0, krb1_1, krb1_2⟩, -⟩ := rb1.three
  obtain ⟨⟨krb2_0, krb2_1, krb2_2⟩, -⟩ := rb2.three
  rcases szR_cases l1 (s1.size) (by omega) with ⟨hno2, hv2⟩ | ⟨l2, hv2, -, h02, h12, hle2⟩
  · rw [hv2.out]
    go_wp2
    go_ret
    exact ⟨rfl, hbb2⟩
  rw [hv2.out]
  have S1 := Lib.hid (show s1.size ≤ 1048576 by omega)
  clear hle2
  go_wp2_with fail
  refine (lawsSzValR ⟨k2, n2, s2⟩ l2 _ hs2 (by omega) (by omega)).mono ?_
  rintro e y3 ⟨rfl, hq3⟩
  have hbb3 := (hbb2).trans (hq3.mono (hbb2).size)
  have rb1 := rb1.below hq3
  have rb2 := rb2.below hq3
  clear krb1_0 krb1_1 krb1_2 krb2_0 krb2_1 krb2_2
  obtain ⟨⟨krb1_0, krb1_1, krb1_2⟩, -⟩ := rb1.three
  obtain ⟨⟨krb2_0, krb2_1, krb2_2⟩, -⟩ := rb2.three
  rcases szR_cases l2 (s2.size) (by omega) with ⟨hno3, hv3⟩ | ⟨l3, hv3, -, h03, h13, hle3⟩
  · rw [hv3.out]
    go_wp2
    go_ret
    exact ⟨rfl, hbb3⟩
  rw [hv3.out]
  have S2 := Lib.hid (show s2.size ≤ 1048576 by omega)
  clear hle3
  go_wp2_with fail
  have HLN := Lib.hid (show (rangeB x0 ⟨k1, n1, s1⟩ ⟨k2, n2, s2⟩).length ≤ 1048576 by have h1 := rangeB_len x0 ⟨k1, n1, s1⟩ ⟨k2, n2, s2⟩; have h2 := S0.out; unfold szL at h2; omega)
  have HKN := Lib.hid (show ∀ e ∈ x0, e.key.length ≤ 1048576 from fun e he => by have h1 := szL_mem En.sz x0 e he; have h2 := S0.out; have h3 : e.key.length ≤ e.sz := (by unfold En.sz szL; omega); omega)
  have HXN := Lib.hid (show x0.length ≤ 1048576 by have h2 := S0.out; unfold szL at h2; omega)
  have rb1 := rb1.drew
  have rb2 := rb2.drew
  have hds := (hbb3).drew
  go_region_held3 (fun w' => w'.cell? ⟨w.heap.size, 0, none⟩ = some (.int .i64 k1) ∧ w'.cell? ⟨w.heap.size, 1, none⟩ = some (.int .i64 n1) ∧ w'.cell? ⟨w.heap.size, 2, none⟩ = some (.string s1) ∧ w'.cell? ⟨w.heap.size + 1, 0, none⟩ = some (.int .i64 k2) ∧ w'.cell? ⟨w.heap.size + 1, 1, none⟩ = some (.int .i64 n2) ∧ w'.cell? ⟨w.heap.size + 1, 2, none⟩ = some (.string s2))
    (first | go_keep | exact keep6 (by assumption) hq7 | exact keep6 (by assumption) hq6 | exact keep6 (by assumption) hq5 | exact keep6 (by assumption) hq4)
    (first | (go_at_call 9; refine (lawsToEntryL a0 x0.length cap0 x0 _ _ (h0.below EnR.stays hds) S0.out).mono ?_; rintro e y4 ⟨Bs, ds, rfl, hcps, ts, hq4⟩) | (go_at_call_of 10 (Value.agg #[.int .i64 k1, .int .i64 n1, .string s1]); refine (lawsToVal k1 n1 s1 _).mono ?_; rintro e y5 ⟨rfl, hq5⟩) | (go_at_call_of 10 (Value.agg #[.int .i64 k2, .int .i64 n2, .string s2]); refine (lawsToVal k2 n2 s2 _).mono ?_; rintro e y6 ⟨rfl, hq6⟩) | (go_at_call 8; refine (specRange Bs x0.length ds x0 ⟨k1, n1, s1⟩ ⟨k2, n2, s2⟩ _ _ (((ts).below EnR.stays hq5).below EnR.stays hq6) HXN.out HKN.out).mono ?_; rintro e y7 ⟨Aw, cw, rfl, hcw, tw, hq7⟩))
  have hbb4 := (hds).trans (hq4.mono (hds).size)
  have hbb5 := (hbb4).trans (hq5.mono (hbb4).size)
  have hbb6 := (hbb5).trans (hq6.mono (hbb5).size)
  have hbb7 := (hbb6).trans (hq7.mono (hbb6).size)
  have rb1 := ((((rb1.below hq4).below hq5).below hq6).below hq7)
  have rb2 := ((((rb2.below hq4).below hq5).below hq6).below hq7)
  clear krb1_0 krb1_1 krb1_2 krb2_0 krb2_1 krb2_2
  obtain ⟨⟨krb1_0, krb1_1, krb1_2⟩, -⟩ := rb1.three
  obtain ⟨⟨krb2_0, krb2_1, krb2_2⟩, -⟩ := rb2.three
  clear ts
  have HBZ := Lib.hid (show w.heap.size + 2 ≤ y7.heap.size from lt_of_block rb2)
  have hBG : w.heap.size ≤ y7.heap.size := (hbb7).size
  have HBG := Lib.hid hBG
  clear hBG
  go_wp2_with fail
  refine (lawsToEntryL a0 x0.length cap0 x0 _ _ (h0.below EnR.stays hbb7) S0.out).mono ?_
  rintro e y8 ⟨Bx, dx, rfl, hcpx, tx, hq8⟩
  have hbb8 := (hbb7).trans (hq8.mono (hbb7).size)
  have rb1 := rb1.below hq8
  have rb2 := rb2.below hq8
  have tw := tw.below IntR.stays hq8
  clear krb1_0 krb1_1 krb1_2 krb2_0 krb2_1 krb2_2
  obtain ⟨⟨krb1_0, krb1_1, krb1_2⟩, -⟩ := rb1.three
  obtain ⟨⟨krb2_0, krb2_1, krb2_2⟩, -⟩ := rb2.three
  have M0 : mayMark y7.heap.size y8.heap.size y8 (okF _ y8) := fun b hb => ⟨Nat.le_trans (Nat.le_refl _) hb.1, hb.2.1, hb.2.1, hb.2.2⟩
  have hmx : y7.heap.size ≤ y8.heap.size := (hq8).size
  go_wp2_with fail
  have M0 : mayMark y7.heap.size y8.heap.size y8 _ := fun b hb => ⟨(M0 b hb).1, (M0 b hb).2.2.1, (M0 b hb).2.2⟩
  have HMX := Lib.hid hmx
  clear hmx
  have rb1 := rb1.drew
  have rb2 := rb2.drew
  have tw := tw.drew IntR.stays
  have tx := tx.drew EnR.stays
  have M0 := M0.below (Below.refl _ _).drew
  have hdg := (hbb8).drew
  go_region_held3 (fun w' => w'.cell? ⟨w.heap.size, 0, none⟩ = some (.int .i64 k1) ∧ w'.cell? ⟨w.heap.size, 1, none⟩ = some (.int .i64 n1) ∧ w'.cell? ⟨w.heap.size, 2, none⟩ = some (.string s1) ∧ w'.cell? ⟨w.heap.size + 1, 0, none⟩ = some (.int .i64 k2) ∧ w'.cell? ⟨w.heap.size + 1, 1, none⟩ = some (.int .i64 n2) ∧ w'.cell? ⟨w.heap.size + 1, 2, none⟩ = some (.string s2))
    (first | go_keep | exact keep6 (by assumption) hq11 | exact keep6 (by assumption) hq10 | exact keep6 (by assumption) hq9)
    (first | (go_at_call_of 10 (Value.agg #[.int .i64 k1, .int .i64 n1, .string s1]); refine (lawsToVal k1 n1 s1 _).mono ?_; rintro e y9 ⟨rfl, hq9⟩) | (go_at_call_of 10 (Value.agg #[.int .i64 k2, .int .i64 n2, .string s2]); refine (lawsToVal k2 n2 s2 _).mono ?_; rintro e y10 ⟨rfl, hq10⟩) | (go_at_call 11; refine (implRange Bx x0.length dx x0 ⟨k1, n1, s1⟩ ⟨k2, n2, s2⟩ _ _ (((tx).below EnR.stays hq9).below EnR.stays hq10) HXN.out HKN.out).mono ?_; rintro e y11 ⟨Ag, cg, rfl, hcg, tg, hq11⟩))
  have hbb9 := (hdg).trans (hq9.mono (hdg).size)
  have hbb10 := (hbb9).trans (hq10.mono (hbb9).size)
  have hbb11 := (hbb10).trans (hq11.mono (hbb10).size)
  have rb1 := (((rb1.below hq9).below hq10).below hq11)
  have rb2 := (((rb2.below hq9).below hq10).below hq11)
  have tw := (((tw.below IntR.stays hq9).below IntR.stays hq10).below IntR.stays hq11)
  have tx := (((tx.below EnR.stays hq9).below EnR.stays hq10).below EnR.stays hq11)
  have M0 := (((M0.below hq9).below hq10).below hq11)
  clear krb1_0 krb1_1 krb1_2 krb2_0 krb2_1 krb2_2
  obtain ⟨⟨krb1_0, krb1_1, krb1_2⟩, -⟩ := rb1.three
  obtain ⟨⟨krb2_0, krb2_1, krb2_2⟩, -⟩ := rb2.three
  have HGE := Lib.hid (show y8.heap.size ≤ y10.heap.size from Nat.le_trans hq9.size hq10.size)
  have Mg := mayMark_okF (G := y10.heap.size) (Nat.le_refl y11.heap.size)
  go_wp2_with fail
  refine (lawsEqIntL _ _ _ _ _ (rangeB x0 ⟨k1, n1, s1⟩ ⟨k2, n2, s2⟩) _ _ _ tg tw (HLN.out)).mono ?_
  rintro e y12 ⟨rfl, hq12⟩
  have M0 := M0.below hq12
  have Mg := Mg.below hq12
  have hbb12 := (hbb11).trans (hq12.mono (hbb11).size)
  have rb1 := rb1.below hq12
  have rb2 := rb2.below hq12
  have tw := tw.below IntR.stays hq12
  have tx := tx.below EnR.stays hq12
  have tg := tg.below IntR.stays hq12
  clear krb1_0 krb1_1 krb1_2 krb2_0 krb2_1 krb2_2
  obtain ⟨⟨krb1_0, krb1_1, krb1_2⟩, -⟩ := rb1.three
  obtain ⟨⟨krb2_0, krb2_1, krb2_2⟩, -⟩ := rb2.three
  go_wp2_with fail
  refine (lawsToEntryL a0 x0.length cap0 x0 _ _ (h0.below EnR.stays hbb12) S0.out).mono ?_
  rintro e y13 ⟨Be0, de0, rfl, -, te0, hq13⟩
  have M0 := M0.below hq13
  have Mg := Mg.below hq13
  have hbb13 := (hbb12).trans (hq13.mono (hbb12).size)
  have rb1 := rb1.below hq13
  have rb2 := rb2.below hq13
  have tw := tw.below IntR.stays hq13
  have tx := tx.below EnR.stays hq13
  have tg := tg.below IntR.stays hq13
  clear krb1_0 krb1_1 krb1_2 krb2_0 krb2_1 krb2_2
  obtain ⟨⟨krb1_0, krb1_1, krb1_2⟩, -⟩ := rb1.three
  obtain ⟨⟨krb2_0, krb2_1, krb2_2⟩, -⟩ := rb2.three
  go_wp2_with fail
  refine (lawsEqEntryL _ _ _ _ _ x0 _ _ _ tx te0 S0.out).mono ?_
  rintro e y14 ⟨rfl, hq14⟩
  have M0 := M0.below hq14
  have Mg := Mg.below hq14
  have hbb14 := (hbb13).trans (hq14.mono (hbb13).size)
  have rb1 := rb1.below hq14
  have rb2 := rb2.below hq14
  have tw := tw.below IntR.stays hq14
  have tx := tx.below EnR.stays hq14
  have tg := tg.below IntR.stays hq14
  clear krb1_0 krb1_1 krb1_2 krb2_0 krb2_1 krb2_2
  obtain ⟨⟨krb1_0, krb1_1, krb1_2⟩, -⟩ := rb1.three
  obtain ⟨⟨krb2_0, krb2_1, krb2_2⟩, -⟩ := rb2.three
  clear te0
  go_wp2_with fail
  have hbd0 : (x0.map En.cnt).sum ≤ 6291456 := by have h1 := sum_le_of (f := En.cnt) (g := En.sz) 6 En.cnt_le x0; have h2 := S0.out; omega
  generalize hsm0 : (x0.map En.cnt).sum = sm0 at hbd0
  have HSM0 := Lib.hid hsm0
  clear hsm0
  have sh0 := tx.toSh En.toSh (fun y hy => by have h1 := szL_mem En.sz x0 y hy; have h2 := S0.out; omega)
  clear tx
  have HBG0 := Lib.hid (show w.heap.size + 2 ≤ y7.heap.size from HBZ.out)
  refine (marksEntryL _ _ _ _ _ y7.heap.size y8.heap.size (1) _ sh0 M0 (by rw [HSM0.out]; omega) (by have h2 := S0.out; unfold szL at h2; omega) (by first | rfl | omega)).mono ?_
  rintro e y15 ⟨rfl, hq15⟩
  have hbb15 := Kept.toBelow (hbb14) hq15 HBG.out (hbb14).size
  have M0 := M0.kept hq15
  have Mg := Mg.kept hq15
  have tw := tw.kept IntR.stays hq15 (fun b hb => Or.inl hb.2.1)
  have tg := tg.kept IntR.stays hq15 (fun b hb => Or.inr (Nat.le_trans HGE.out hb.1))
  have rb1 := rb1.keptE hq15 (by have h1 := HBG0.out; omega)
  have rb2 := rb2.keptE hq15 (by have h1 := HBG0.out; omega)
  clear krb1_0 krb1_1 krb1_2 krb2_0 krb2_1 krb2_2
  obtain ⟨⟨krb1_0, krb1_1, krb1_2⟩, -⟩ := rb1.three
  obtain ⟨⟨krb2_0, krb2_1, krb2_2⟩, -⟩ := rb2.three
  rw [HSM0.out]
  clear sh0
  generalize hkk : 1 + sm0 = kk
  have hk1 : 1 ≤ kk := by omega
  have hk2 : (0 : Int) ≤ (kk : Int) := by omega
  have hk3 : decide ((kk : Int) < 0) = false := by rw [decide_eq_false_iff_not]; omega
  clear hkk
  go_wp2_with fail
  refine (lawsEqIntL _ _ _ _ _ (rangeB x0 ⟨k1, n1, s1⟩ ⟨k2, n2, s2⟩) _ _ _ tg tw (HLN.out)).mono ?_
  rintro e y16 ⟨rfl, hq16⟩
  have M0 := M0.below hq16
  have Mg := Mg.below hq16
  have hbb16 := (hbb15).trans (hq16.mono (hbb15).size)
  have rb1 := rb1.below hq16
  have rb2 := rb2.below hq16
  have tw := tw.below IntR.stays hq16
  have tg := tg.below IntR.stays hq16
  clear krb1_0 krb1_1 krb1_2 krb2_0 krb2_1 krb2_2
  obtain ⟨⟨krb1_0, krb1_1, krb1_2⟩, -⟩ := rb1.three
  obtain ⟨⟨krb2_0, krb2_1, krb2_2⟩, -⟩ := rb2.three
  go_wp2_with fail
  have shg := tg.toSh Int.toSh (fun _ _ => trivial)
  clear tg
  have HBX := Lib.hid (Nat.le_trans HBG.out (Nat.le_trans HMX.out HGE.out))
  have HBY := Lib.hid (Nat.le_trans HBG0.out (Nat.le_trans HMX.out HGE.out))
  clear HBG HBG0
  have HBG := HBX
  have HBG0 := HBY
  refine (marksXIntL _ _ _ _ _ y10.heap.size _ 1 _ shg Mg (by have := HLN.out; omega) (by have := HLN.out; omega) (by first | rfl | omega)).mono ?_
  rintro e y17 ⟨rfl, hq17, mg⟩
  have hbb17 := Kept.toBelow (hbb16) hq17 HBG.out (hbb16).size
  have M0 := M0.kept hq17
  have Mg := Mg.kept hq17
  have tw := tw.kept IntR.stays hq17 (fun b hb => Or.inl (Nat.lt_of_lt_of_le hb.2.1 (Nat.le_trans HMX.out HGE.out)))
  have rb1 := rb1.keptE hq17 (by have h1 := HBG0.out; omega)
  have rb2 := rb2.keptE hq17 (by have h1 := HBG0.out; omega)
  clear krb1_0 krb1_1 krb1_2 krb2_0 krb2_1 krb2_2
  obtain ⟨⟨krb1_0, krb1_1, krb1_2⟩, -⟩ := rb1.three
  obtain ⟨⟨krb2_0, krb2_1, krb2_2⟩, -⟩ := rb2.three
  clear shg
  go_wp2_with fail
  refine (heldXIntL _ _ _ 1 _ mg (by have := HLN.out; omega) (by have := HLN.out; omega) (by first | rfl | omega)).mono ?_
  rintro e y18 ⟨rfl, hq18⟩
  have M0 := M0.below hq18
  have Mg := Mg.below hq18
  have hbb18 := (hbb17).trans (hq18.mono (hbb17).size)
  have rb1 := rb1.below hq18
  have rb2 := rb2.below hq18
  have tw := tw.below IntR.stays hq18
  clear krb1_0 krb1_1 krb1_2 krb2_0 krb2_1 krb2_2
  obtain ⟨⟨krb1_0, krb1_1, krb1_2⟩, -⟩ := rb1.three
  obtain ⟨⟨krb2_0, krb2_1, krb2_2⟩, -⟩ := rb2.three
  have mg := mg.below hq18
  have hp : decide (((1 + (rangeB x0 ⟨k1, n1, s1⟩ ⟨k2, n2, s2⟩).length * 1 : Nat) : Int) < 0) = false := by rw [decide_eq_false_iff_not]; omega
  go_wp2_with fail
  clear hp
  clear M0 Mg
  have mg := mg.below (Below.refl _ _).drew
  have rb1 := rb1.drew
  have rb2 := rb2.drew
  have tw := tw.drew IntR.stays
  have hdh := (hbb18).drew
  go_region_held3 (fun w' => w'.cell? ⟨w.heap.size, 0, none⟩ = some (.int .i64 k1) ∧ w'.cell? ⟨w.heap.size, 1, none⟩ = some (.int .i64 n1) ∧ w'.cell? ⟨w.heap.size, 2, none⟩ = some (.string s1) ∧ w'.cell? ⟨w.heap.size + 1, 0, none⟩ = some (.int .i64 k2) ∧ w'.cell? ⟨w.heap.size + 1, 1, none⟩ = some (.int .i64 n2) ∧ w'.cell? ⟨w.heap.size + 1, 2, none⟩ = some (.string s2))
    (first | go_keep | exact keep6 (by assumption) hq22 | exact keep6 (by assumption) hq21 | exact keep6 (by assumption) hq20 | exact keep6 (by assumption) hq19)
    (first | (go_at_call 9; refine (lawsToEntryL a0 x0.length cap0 x0 _ _ (h0.below EnR.stays hdh) S0.out).mono ?_; rintro e y19 ⟨Bh, dh, rfl, hcph, th, hq19⟩) | (go_at_call_of 10 (Value.agg #[.int .i64 k1, .int .i64 n1, .string s1]); refine (lawsToVal k1 n1 s1 _).mono ?_; rintro e y20 ⟨rfl, hq20⟩) | (go_at_call_of 10 (Value.agg #[.int .i64 k2, .int .i64 n2, .string s2]); refine (lawsToVal k2 n2 s2 _).mono ?_; rintro e y21 ⟨rfl, hq21⟩) | (go_at_call 11; refine (implRange Bh x0.length dh x0 ⟨k1, n1, s1⟩ ⟨k2, n2, s2⟩ _ _ (((th).below EnR.stays hq20).below EnR.stays hq21) HXN.out HKN.out).mono ?_; rintro e y22 ⟨Ah, ch, rfl, hch, thh, hq22⟩))
  have hbb19 := (hdh).trans (hq19.mono (hdh).size)
  have hbb20 := (hbb19).trans (hq20.mono (hbb19).size)
  have hbb21 := (hbb20).trans (hq21.mono (hbb20).size)
  have hbb22 := (hbb21).trans (hq22.mono (hbb21).size)
  have rb1 := ((((rb1.below hq19).below hq20).below hq21).below hq22)
  have rb2 := ((((rb2.below hq19).below hq20).below hq21).below hq22)
  have tw := ((((tw.below IntR.stays hq19).below IntR.stays hq20).below IntR.stays hq21).below IntR.stays hq22)
  clear krb1_0 krb1_1 krb1_2 krb2_0 krb2_1 krb2_2
  obtain ⟨⟨krb1_0, krb1_1, krb1_2⟩, -⟩ := rb1.three
  obtain ⟨⟨krb2_0, krb2_1, krb2_2⟩, -⟩ := rb2.three
  have mg := ((((mg.below hq19).below hq20).below hq21).below hq22)
  clear th
  go_wp2_with fail
  refine (lawsEqIntL _ _ _ _ _ (rangeB x0 ⟨k1, n1, s1⟩ ⟨k2, n2, s2⟩) _ _ _ thh tw (HLN.out)).mono ?_
  rintro e y23 ⟨rfl, hq23⟩
  have hbb23 := (hbb22).trans (hq23.mono (hbb22).size)
  have rb1 := rb1.below hq23
  have rb2 := rb2.below hq23
  have tw := tw.below IntR.stays hq23
  have thh := thh.below IntR.stays hq23
  clear krb1_0 krb1_1 krb1_2 krb2_0 krb2_1 krb2_2
  obtain ⟨⟨krb1_0, krb1_1, krb1_2⟩, -⟩ := rb1.three
  obtain ⟨⟨krb2_0, krb2_1, krb2_2⟩, -⟩ := rb2.three
  have mg := mg.below hq23
  go_wp2_with fail
  refine (heldXIntL _ _ _ 1 _ mg (by have := HLN.out; omega) (by have := HLN.out; omega) (by first | rfl | omega)).mono ?_
  rintro e y24 ⟨rfl, hq24⟩
  have hbb24 := (hbb23).trans (hq24.mono (hbb23).size)
  have rb1 := rb1.below hq24
  have rb2 := rb2.below hq24
  have tw := tw.below IntR.stays hq24
  have thh := thh.below IntR.stays hq24
  clear krb1_0 krb1_1 krb1_2 krb2_0 krb2_1 krb2_2
  obtain ⟨⟨krb1_0, krb1_1, krb1_2⟩, -⟩ := rb1.three
  obtain ⟨⟨krb2_0, krb2_1, krb2_2⟩, -⟩ := rb2.three
  have mg := mg.below hq24
  have hp : decide (((1 + (rangeB x0 ⟨k1, n1, s1⟩ ⟨k2, n2, s2⟩).length * 1 : Nat) : Int) < 0) = false := by rw [decide_eq_false_iff_not]; omega
  go_wp2_with fail
  clear hp
  go_ret
  exact ⟨rfl, hbb24⟩

set_option maxRecDepth 100000 in
theorem lifted (os : Os) (started : os.Started) (H : Type) (enc : TypeId × Value → H) :
    ReturnsInHanded {} Try.checked os 3 .any (Rows.fnExactRangeSpec.pre6 enc Try.prog Try.f3 Rows.fnExactRangeRow.domain false) (Rows.fnExactRangeSpec.post enc Try.prog Try.f3 false true false false) := by
  refine returnsInHanded_of_change (C := Try.checked) own started (by kernel_rfl) Try.func3
    (ChangeSpec.witness6 (enc := enc) (C := Try.checked) false ⟨#[], #[.slice none 0 0, .agg #[.int .i64 0, .int .i64 0, .string ⟨#[]⟩], .agg #[.int .i64 0, .int .i64 0, .string ⟨#[]⟩]], []⟩ 8 (by kernel_rfl) (by kernel_rfl) (by kernel_rfl) (by kernel_rfl)) ?_
  intro W base args ds gs before hval0 hW hcnd _
  have hval : ∀ (j : Nat) t v, Try.f3.params[j]? = some t → args[j]? = some v → Value.okWide Try.prog W .any base t v := hval0
  have hW' := hW
  obtain ⟨p, q, hA0, hV, rfl, hfz, hnd⟩ := hW
  have hA : DataW.TrodAll enc Try.prog W 0 (fun _ => true) true Try.f3.params.toList args.toList ds p := hA0
  rw [Try.params3] at hA hval
  obtain ⟨v0, vs0, d0, ds0, p0, q0, hargs, rfl, rfl, h0, r0⟩ := trodAll_cons hA
  obtain ⟨v1, vs1, d1, ds1, p1, q1, rfl, rfl, rfl, h1, r1⟩ := trodAll_cons r0
  obtain ⟨v2, vs2, d2, ds2, p2, q2, rfl, rfl, rfl, h2, r2⟩ := trodAll_cons r1
  obtain ⟨rfl, rfl, rfl⟩ := trodAll_nil r2
  obtain rfl : args = #[v0, v1, v2] := by cases args; simp_all
  obtain ⟨rfl, rfl⟩ := trodVars_none hV
  have k0' := h0
  have lt0 : ∀ x ∈ p0, x.block < W.heap.size := by obtain ⟨m, hm⟩ := k0'; exact DataW.trod_lt m _ _ _ hm
  have k1' := h1
  have lt1 : ∀ x ∈ p1, x.block < W.heap.size := by obtain ⟨m, hm⟩ := k1'; exact DataW.trod_lt m _ _ _ hm
  have k2' := h2
  have lt2 : ∀ x ∈ p2, x.block < W.heap.size := by obtain ⟨m, hm⟩ := k2'; exact DataW.trod_lt m _ _ _ hm
  obtain ⟨a0, len0, cap0, rfl⟩ := okWide_slice Try.underlying22 (hval 0 22 v0 rfl rfl)
  obtain ⟨x0, w0⟩ := (by obtain ⟨m, hm⟩ := h0; exact EntryL_of_trod (by simpa [Value.cells] using hm) : ∃ ds : List En, Sl EnR 2 (fun _ => True) W a0 len0 ds ∧ (ds.length ≤ maxLen ∧ ∀ y ∈ ds, y.wf))
  obtain ⟨k1, n1, s1, rfl, w1⟩ := isVal_of_trod Try.underlying24 (by kernel_rfl) (by kernel_rfl) Try.underlying2 Try.underlying2 Try.underlying9 (hval 1 24 v1 rfl rfl) h1
  obtain ⟨k2, n2, s2, rfl, w2⟩ := isVal_of_trod Try.underlying24 (by kernel_rfl) (by kernel_rfl) Try.underlying2 Try.underlying2 Try.underlying9 (hval 2 24 v2 rfl rfl) h2
  clear hA0 hval0
  refine (walk a0 len0 cap0 x0 k1 n1 s1 k2 n2 s2 W w0 w1 w2).mono fun e W' ⟨he, bel⟩ => ?_
  subst he
  exact ⟨_, rfl, _, _, _, [], _, [], hW', trodAll_mk1 (shut_bool Try.underlying4 _), (trodAll_cons_mk (Below.trod laidOut (by kernel_rfl) (of_decide_eq_true (by kernel_rfl)) k0' bel lt0) (trodAll_cons_mk (Below.trod laidOut (by kernel_rfl) (of_decide_eq_true (by kernel_rfl)) k1' bel lt1) (trodAll_cons_mk (Below.trod laidOut (by kernel_rfl) (of_decide_eq_true (by kernel_rfl)) k2' bel lt2) trodAll_mk0))), rfl, bel.frame _, fun h => by cases h⟩

set_option maxRecDepth 100000 in
set_option maxHeartbeats 16000000 in
theorem facts : joinedFacts Try.checked.prog 3 Try.f3 Rows.fnExactRangeSpec Rows.fnExactRangeRow = true := by
  unfold joinedFacts
  repeat' (with_reducible refine Bool.and_eq_true_iff.2 ⟨?_, ?_⟩)
  all_goals (as_aux_lemma => kernel_rfl)

theorem over : Rows.fnExactRangeRow.holds Try.pinned (OpenSpec.ofChange Rows.fnExactRangeSpec) :=
  OpenClaim.holds_of_wide 3 Try.f3 rfl rfl rfl rfl rfl rfl rfl ⟨rfl, rfl, rfl, rfl, rfl⟩ rfl rfl rfl rfl rfl (by kernel_rfl) Try.func3 facts
    (of_decide_eq_true (by as_aux_lemma => kernel_rfl)) (by unfold Func.isWrapper; first | (rw [if_pos (by decide +kernel)]; kernel_rfl) | (rw [if_neg (by decide +kernel)]; exact ⟨rfl, rfl⟩))
    (fun os started H enc _ => lifted os started H enc)

theorem proved : Rows.FnExactRangeSaid := over
#print axioms proved
end Go.Proofs.Ytoomnhfmlfmckaa.fnExactRange
