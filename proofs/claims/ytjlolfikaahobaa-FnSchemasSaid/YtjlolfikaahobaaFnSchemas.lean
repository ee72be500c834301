/-
  Each table, and each column, is found by its name where it first stands; who refers to a table is told once (law FnSchemas, for every code).
-/
import Derived.Test.YtjlolfikaahobaaBase
import Derived.Test.YtjlolfikaahobaaSchLaw
namespace Go.Proofs.Ytjlolfikaahobaa.fnSchemas
open Go.ChangeShapes Go.WideShapes Go.ChangeAt Go.RowKit Go.Joins
open Go.ChangeMaps (open_string shut_string)
set_option linter.unusedVariables false

set_option maxRecDepth 100000 in
set_option maxHeartbeats 4000000 in
theorem walk (a0 : Option Addr) (len0 cap0 : Nat) (z0 : List Int) (w : World) (w0 : IsRow .u8 w a0 len0 cap0 z0) :
    Calls Try.prog 3 #[.slice a0 len0 cap0] w fun e w' => e = .returned (.bool true) ∧ Below w.heap.size w w' := by
  by_cases hbig : (1048576 : Int) < len0
  · have hbig : decide ((1048576 : Int) < len0) = true := by simpa using hbig
    go_enter Try.func3, Try.ntmps3
    go_wp2_with fail
    refine (lawsBig a0 len0 cap0 w).mono ?_
    rintro e w' ⟨rfl, rfl⟩
    go_wp2
    go_ret
    exact ⟨rfl, Below.refl _ _⟩
  have hbig : decide ((1048576 : Int) < len0) = false := by simpa using hbig
  go_enter Try.func3, Try.ntmps3
  go_wp2_with fail
  refine (lawsBig a0 len0 cap0 w).mono ?_
  rintro e w' ⟨rfl, rfl⟩
  clear hbig
  have HR := Lib.hid w0
  go_wp2_with fail
  refine (drawTableAt a0 len0 cap0 z0 _ HR.out).mono ?_
  rintro e w1 ⟨v, rfl, ⟨x, y, rfl, ⟨ok1, A1, n1, c1, ts1, rfl, hc1, hs1, hz1⟩, ⟨nm1, rfl, hn1⟩⟩, hb1⟩
  obtain rfl : ts1.length = n1 := hs1.1
  have HS1 := Lib.hid hs1
  have hl1 : ts1.length ≤ 1000 := Nat.le_trans (szL_len Tb.sz ts1) hz1
  replace HR := Lib.hid (HR.out.below hb1)
  clear hs1
  obtain ⟨t1, ht1⟩ : ∃ t, atN (ts1.map Tb.name) nm1 = t := ⟨_, rfl⟩
  have HT1 := Lib.hid ht1
  clear ht1
  go_wp2_with fail
  refine (implTableAt A1 ts1.length c1 ts1 nm1 ok1 _ HS1.out (by omega) (by unfold maxLen; omega)).mono ?_
  rintro e w2 ⟨rfl, hq⟩
  rw [HT1.out]
  replace HS1 := Lib.hid (HS1.out.below TbR.stays hq)
  replace HR := Lib.hid (HR.out.below hq)
  have hb2 := hb1.trans (hq.mono hb1.size)
  clear hq
  go_wp2_with fail
  refine (drawColAt a0 len0 cap0 z0 _ HR.out).mono ?_
  rintro e w3 ⟨v, rfl, ⟨x, y, rfl, ⟨ok2, cs2, t2, rfl, hs2, hz2⟩, ⟨nm2, rfl, hn2⟩⟩, hq⟩
  obtain ⟨B1, m1, d1, B2, m2, d2, B3, m3, d3, B4, m4, d4, B5, m5, d5, rfl, h21, -, -, -, -, -⟩ := hs2
  obtain rfl : t2.cols.length = m1 := h21.1
  have H21 := Lib.hid h21
  clear h21
  replace HS1 := Lib.hid (HS1.out.below TbR.stays hq)
  replace HR := Lib.hid (HR.out.below hq)
  have hb3 := hb2.trans (hq.mono hb2.size)
  clear hq
  have BX2 := Lib.hid (Blo.new w3 [.string t2.name, .slice B1 t2.cols.length d1, .slice B2 m2 d2, .slice B3 m3 d3, .slice B4 m4 d4, .slice B5 m5 d5] 34)
  have hq := (Below.refl w3.heap.size w3).alloc (Nat.le_refl _) (.cells #[.string t2.name, .slice B1 t2.cols.length d1, .slice B2 m2 d2, .slice B3 m3 d3, .slice B4 m4 d4, .slice B5 m5 d5] 34)
  have hl2 : t2.cols.length ≤ 1000 := by
    have := szL_len Cl.sz t2.cols
    unfold Tb.sz at hz2; omega
  have hz2' : szL Cl.sz t2.cols ≤ 1048576 := by unfold Tb.sz at hz2; omega
  obtain ⟨t5, ht5⟩ : ∃ t, atN (t2.cols.map Cl.name) nm2 = t := ⟨_, rfl⟩
  have HT5 := Lib.hid ht5
  clear ht5 hz2'
  have hz2' : szL Cl.sz t2.cols ≤ 1048576 := by unfold Tb.sz at hz2; omega
  obtain ⟨⟨e20, e21, e22, e23, e24, e25⟩, -⟩ := BX2.out.six
  replace HS1 := Lib.hid (HS1.out.below TbR.stays hq)
  replace HR := Lib.hid (HR.out.below hq)
  replace H21 := Lib.hid (H21.out.below ClR.stays hq)
  have hb3' := hb3.trans (hq.mono hb3.size)
  clear hq
  go_wp2_with fail
  generalize w3.alloc (.cells #[.string t2.name, .slice B1 t2.cols.length d1, .slice B2 m2 d2, .slice B3 m3 d3, .slice B4 m4 d4, .slice B5 m5 d5] 34) = w3' at *
  generalize w3.heap.size = g2 at *
  refine (implColAt B1 t2.cols.length d1 _ _ _ _ _ t2.cols nm2 ok2 _ H21.out hz2' (by unfold maxLen; omega)).mono ?_
  rintro e w4 ⟨rfl, hq⟩
  rw [HT5.out]
  clear e20 e21 e22 e23 e24 e25
  replace HS1 := Lib.hid (HS1.out.below TbR.stays hq)
  replace HR := Lib.hid (HR.out.below hq)
  replace H21 := Lib.hid (H21.out.below ClR.stays hq)
  replace BX2 := Lib.hid (BX2.out.below hq)
  have hb4 := hb3'.trans (hq.mono hb3'.size)
  clear hq
  go_wp2_with fail
  refine (drawTableOk a0 len0 cap0 z0 _ HR.out).mono ?_
  rintro e w5 ⟨v, rfl, ⟨ok3, cs3, t3, rfl, hs3, hz3⟩, hq⟩
  obtain ⟨C1, l1, f1, C2, l2, f2, C3, l3, f3, C4, l4, f4, C5, l5, f5, rfl, h31, h32, h33, h34, h35, hcp3⟩ := hs3
  have H31 := Lib.hid h31
  have H32 := Lib.hid h32
  have H33 := Lib.hid h33
  have H34 := Lib.hid h34
  have H35 := Lib.hid h35
  have HCP3 := Lib.hid hcp3
  clear h31 h32 h33 h34 h35 hcp3
  replace HS1 := Lib.hid (HS1.out.below TbR.stays hq)
  replace HR := Lib.hid (HR.out.below hq)
  replace H21 := Lib.hid (H21.out.below ClR.stays hq)
  replace BX2 := Lib.hid (BX2.out.below hq)
  have hb5 := hb4.trans (hq.mono hb4.size)
  clear hq
  have BX3 := Lib.hid (Blo.new w5 [.string t3.name, .slice C1 l1 f1, .slice C2 l2 f2, .slice C3 l3 f3, .slice C4 l4 f4, .slice C5 l5 f5] 34)
  have hq := (Below.refl w5.heap.size w5).alloc (Nat.le_refl _) (.cells #[.string t3.name, .slice C1 l1 f1, .slice C2 l2 f2, .slice C3 l3 f3, .slice C4 l4 f4, .slice C5 l5 f5] 34)
  replace HS1 := Lib.hid (HS1.out.below TbR.stays hq)
  replace HR := Lib.hid (HR.out.below hq)
  replace H21 := Lib.hid (H21.out.below ClR.stays hq)
  replace BX2 := Lib.hid (BX2.out.below hq)
  replace H31 := Lib.hid (H31.out.below ClR.stays hq)
  replace H32 := Lib.hid (H32.out.below IntR.stays hq)
  replace H33 := Lib.hid (H33.out.below UqR.stays hq)
  replace H34 := Lib.hid (H34.out.below CkR.stays hq)
  replace H35 := Lib.hid (H35.out.below FkR.stays hq)
  have hb5' := hb5.trans (hq.mono hb5.size)
  clear hq
  go_wp2_with fail
  generalize w5.alloc (.cells #[.string t3.name, .slice C1 l1 f1, .slice C2 l2 f2, .slice C3 l3 f3, .slice C4 l4 f4, .slice C5 l5 f5] 34) = w5' at *
  generalize w5.heap.size = g3 at *
  refine (drawSchemaOk a0 len0 cap0 z0 _ HR.out).mono ?_
  rintro e w6 ⟨v, rfl, ⟨ok4, A4, n4, c4, ts4, rfl, hc4, hs4, hz4⟩, hq⟩
  have HS4 := Lib.hid hs4
  clear hs4
  replace HS1 := Lib.hid (HS1.out.below TbR.stays hq)
  replace HR := Lib.hid (HR.out.below hq)
  replace H21 := Lib.hid (H21.out.below ClR.stays hq)
  replace BX2 := Lib.hid (BX2.out.below hq)
  replace H31 := Lib.hid (H31.out.below ClR.stays hq)
  replace H32 := Lib.hid (H32.out.below IntR.stays hq)
  replace H33 := Lib.hid (H33.out.below UqR.stays hq)
  replace H34 := Lib.hid (H34.out.below CkR.stays hq)
  replace H35 := Lib.hid (H35.out.below FkR.stays hq)
  replace BX3 := Lib.hid (BX3.out.below hq)
  have hb6 := hb5'.trans (hq.mono hb5'.size)
  clear hq
  go_wp2_with fail
  refine (drawRefers a0 len0 cap0 z0 _ HR.out).mono ?_
  rintro e w7 ⟨v, rfl, ⟨x, y, rfl, ⟨ok6, A6, n6, c6, ts6, rfl, hc6, hs6, hz6⟩, ⟨nm6, rfl, hn6⟩⟩, hq⟩
  obtain rfl : ts6.length = n6 := hs6.1
  have hl6 : ts6.length ≤ 1000 := Nat.le_trans (szL_len Tb.sz ts6) hz6
  have HS6 := Lib.hid hs6
  clear hs6
  replace HS1 := Lib.hid (HS1.out.below TbR.stays hq)
  replace HR := Lib.hid (HR.out.below hq)
  replace H21 := Lib.hid (H21.out.below ClR.stays hq)
  replace BX2 := Lib.hid (BX2.out.below hq)
  replace H31 := Lib.hid (H31.out.below ClR.stays hq)
  replace H32 := Lib.hid (H32.out.below IntR.stays hq)
  replace H33 := Lib.hid (H33.out.below UqR.stays hq)
  replace H34 := Lib.hid (H34.out.below CkR.stays hq)
  replace H35 := Lib.hid (H35.out.below FkR.stays hq)
  replace BX3 := Lib.hid (BX3.out.below hq)
  replace HS4 := Lib.hid (HS4.out.below TbR.stays hq)
  have hb7 := hb6.trans (hq.mono hb6.size)
  clear hq
  have hrl : (refsB nm6 ts6).length ≤ 1048576 := Nat.le_trans (refsB_len nm6 ts6) (by omega)
  clear HR
  have DD : Hid ((w7.cell? ⟨g2, 0, none⟩ = some (.string t2.name) ∧ w7.cell? ⟨g2, 1, none⟩ = some (.slice B1 t2.cols.length d1) ∧ w7.cell? ⟨g2, 2, none⟩ = some (.slice B2 m2 d2) ∧ w7.cell? ⟨g2, 3, none⟩ = some (.slice B3 m3 d3) ∧ w7.cell? ⟨g2, 4, none⟩ = some (.slice B4 m4 d4) ∧ w7.cell? ⟨g2, 5, none⟩ = some (.slice B5 m5 d5)) ∧
      (w7.cell? ⟨g3, 0, none⟩ = some (.string t3.name) ∧ w7.cell? ⟨g3, 1, none⟩ = some (.slice C1 l1 f1) ∧ w7.cell? ⟨g3, 2, none⟩ = some (.slice C2 l2 f2) ∧ w7.cell? ⟨g3, 3, none⟩ = some (.slice C3 l3 f3) ∧ w7.cell? ⟨g3, 4, none⟩ = some (.slice C4 l4 f4) ∧ w7.cell? ⟨g3, 5, none⟩ = some (.slice C5 l5 f5))) := Lib.hid ⟨BX2.out.six.1, BX3.out.six.1⟩
  go_wp2_with fail
  refine wp_region_noPanic ?_
  refine wp_region_held_drew (S := fun w' => (w'.cell? ⟨g2, 0, none⟩ = some (.string t2.name) ∧ w'.cell? ⟨g2, 1, none⟩ = some (.slice B1 t2.cols.length d1) ∧ w'.cell? ⟨g2, 2, none⟩ = some (.slice B2 m2 d2) ∧ w'.cell? ⟨g2, 3, none⟩ = some (.slice B3 m3 d3) ∧ w'.cell? ⟨g2, 4, none⟩ = some (.slice B4 m4 d4) ∧ w'.cell? ⟨g2, 5, none⟩ = some (.slice B5 m5 d5)) ∧ (w'.cell? ⟨g3, 0, none⟩ = some (.string t3.name) ∧ w'.cell? ⟨g3, 1, none⟩ = some (.slice C1 l1 f1) ∧ w'.cell? ⟨g3, 2, none⟩ = some (.slice C2 l2 f2) ∧ w'.cell? ⟨g3, 3, none⟩ = some (.slice C3 l3 f3) ∧ w'.cell? ⟨g3, 4, none⟩ = some (.slice C4 l4 f4) ∧ w'.cell? ⟨g3, 5, none⟩ = some (.slice C5 l5 f5))) (by kernel_rfl) DD.out (fun hHeld => ?_)
  have hdq := (Below.refl w7.heap.size w7).drew
  replace HS1 := Lib.hid (HS1.out.below TbR.stays hdq)
  replace H21 := Lib.hid (H21.out.below ClR.stays hdq)
  replace BX2 := Lib.hid (BX2.out.below hdq)
  replace H31 := Lib.hid (H31.out.below ClR.stays hdq)
  replace H32 := Lib.hid (H32.out.below IntR.stays hdq)
  replace H33 := Lib.hid (H33.out.below UqR.stays hdq)
  replace H34 := Lib.hid (H34.out.below CkR.stays hdq)
  replace H35 := Lib.hid (H35.out.below FkR.stays hdq)
  replace BX3 := Lib.hid (BX3.out.below hdq)
  replace HS4 := Lib.hid (HS4.out.below TbR.stays hdq)
  replace HS6 := Lib.hid (HS6.out.below TbR.stays hdq)
  have hb7d := hb7.trans (hdq.mono hb7.size)
  clear hdq
  generalize w7.drew = w7d at *
  refine wpAnyH_take (i := 0) (v := ?v1) rfl (by kernel_rfl) (by kernel_rfl) (by kernel_rfl) (fun _ _ _ h => h) (Or.inl ⟨by rfl, ?hy1⟩) hHeld ?rest1
  case hy1 => (intro w' hSw; (try dsimp only at hSw); first | (go_simp; done) | (go_simp; with_reducible rfl))
  simp only [Act.put, List.getElem_toArray, List.getElem_cons_zero, List.getElem_cons_succ, List.setIfInBounds_toArray, List.set_cons_zero, List.set_cons_succ]
  refine wpAnyH_take (i := 1) (v := ?v2) rfl (by kernel_rfl) (by kernel_rfl) (by kernel_rfl) (fun _ _ _ h => h) (Or.inl ⟨by rfl, ?hy2⟩) hHeld ?rest2
  case hy2 => (intro w' hSw; (try dsimp only at hSw); first | (go_simp; done) | (go_simp; with_reducible rfl))
  simp only [Act.put, List.getElem_toArray, List.getElem_cons_zero, List.getElem_cons_succ, List.setIfInBounds_toArray, List.set_cons_zero, List.set_cons_succ]
  refine wpAnyH_take (i := 2) (v := ?v3) rfl (by kernel_rfl) (by kernel_rfl) (by kernel_rfl) (fun _ _ _ h => h) (Or.inl ⟨by rfl, ?hy3⟩) hHeld ?rest3
  case hy3 => (intro w' hSw; (try dsimp only at hSw); first | (go_simp; done) | (go_simp; with_reducible rfl))
  simp only [Act.put, List.getElem_toArray, List.getElem_cons_zero, List.getElem_cons_succ, List.setIfInBounds_toArray, List.set_cons_zero, List.set_cons_succ]
  refine wpAnyH_ready (rs := [3]) (by kernel_rfl) (by simp) ?_
  refine AllReadyH.cons rfl (fun K hK => ?_) AllReadyH.nil
  go_simp
  go_at_call 13
  refine (specTableAt A1 ts1.length c1 ts1 nm1 ok1 _ HS1.out (by omega)).mono ?_
  rintro e w8 ⟨rfl, hq⟩
  rw [HT1.out]
  replace HS1 := Lib.hid (HS1.out.below TbR.stays hq)
  replace H21 := Lib.hid (H21.out.below ClR.stays hq)
  replace BX2 := Lib.hid (BX2.out.below hq)
  replace H31 := Lib.hid (H31.out.below ClR.stays hq)
  replace H32 := Lib.hid (H32.out.below IntR.stays hq)
  replace H33 := Lib.hid (H33.out.below UqR.stays hq)
  replace H34 := Lib.hid (H34.out.below CkR.stays hq)
  replace H35 := Lib.hid (H35.out.below FkR.stays hq)
  replace BX3 := Lib.hid (BX3.out.below hq)
  replace HS4 := Lib.hid (HS4.out.below TbR.stays hq)
  replace HS6 := Lib.hid (HS6.out.below TbR.stays hq)
  have hb8 := hb7d.trans (hq.mono hb7d.size)
  clear hq
  replace DD := Lib.hid (show (_ ∧ _ ∧ _ ∧ _ ∧ _ ∧ _) ∧ (_ ∧ _ ∧ _ ∧ _ ∧ _ ∧ _) from ⟨BX2.out.six.1, BX3.out.six.1⟩)
  refine hK.out _ _ DD.out (fun hHeld => ?_)
  clear hK K
  (try simp only [Act.put, List.getElem_toArray, List.getElem_cons_zero, List.getElem_cons_succ, List.setIfInBounds_toArray, List.set_cons_zero, List.set_cons_succ])
  refine wpAnyH_take (i := 4) (v := ?v4) rfl (by kernel_rfl) (by kernel_rfl) (by kernel_rfl) (fun _ _ _ h => h) (Or.inl ⟨by rfl, ?hy4⟩) hHeld ?rest4
  case hy4 => (intro w' hSw; (try dsimp only at hSw); first | (go_simp; done) | (go_simp; with_reducible rfl))
  simp only [Act.put, List.getElem_toArray, List.getElem_cons_zero, List.getElem_cons_succ, List.setIfInBounds_toArray, List.set_cons_zero, List.set_cons_succ]
  refine wpAnyH_take (i := 5) (v := ?v5) rfl (by kernel_rfl) (by kernel_rfl) (by kernel_rfl) (fun _ _ _ h => h) (Or.inl ⟨by rfl, ?hy5⟩) hHeld ?rest5
  case hy5 => (intro w' hSw; (try dsimp only at hSw); first | (go_simp; done) | (go_simp; with_reducible rfl))
  simp only [Act.put, List.getElem_toArray, List.getElem_cons_zero, List.getElem_cons_succ, List.setIfInBounds_toArray, List.set_cons_zero, List.set_cons_succ]
  refine wpAnyH_take (i := 6) (v := ?v6) rfl (by kernel_rfl) (by kernel_rfl) (by kernel_rfl) (fun _ _ _ h => h) (Or.inl ⟨by rfl, ?hy6⟩) hHeld ?rest6
  case hy6 => (intro w' hSw; (try dsimp only at hSw); first | (go_simp; done) | (go_simp; with_reducible rfl))
  simp only [Act.put, List.getElem_toArray, List.getElem_cons_zero, List.getElem_cons_succ, List.setIfInBounds_toArray, List.set_cons_zero, List.set_cons_succ]
  refine wpAnyH_take (i := 7) (v := ?v7) rfl (by kernel_rfl) (by kernel_rfl) (by kernel_rfl) (fun _ _ _ h => h) (Or.inl ⟨by rfl, ?hy7⟩) hHeld ?rest7
  case hy7 => (intro w' hSw; (try dsimp only at hSw); first | (go_simp; done) | (go_simp; with_reducible rfl))
  simp only [Act.put, List.getElem_toArray, List.getElem_cons_zero, List.getElem_cons_succ, List.setIfInBounds_toArray, List.set_cons_zero, List.set_cons_succ]
  refine wpAnyH_take (i := 8) (v := ?v8) rfl (by kernel_rfl) (by kernel_rfl) (by kernel_rfl) (fun _ _ _ h => h) (Or.inl ⟨by rfl, ?hy8⟩) hHeld ?rest8
  case hy8 => (intro w' hSw; (try dsimp only at hSw); first | (go_simp; done) | (go_simp; with_reducible rfl))
  simp only [Act.put, List.getElem_toArray, List.getElem_cons_zero, List.getElem_cons_succ, List.setIfInBounds_toArray, List.set_cons_zero, List.set_cons_succ]
  refine wpAnyH_ready (rs := [9]) (by kernel_rfl) (by simp) ?_
  refine AllReadyH.cons rfl (fun K hK => ?_) AllReadyH.nil
  go_simp
  go_at_call 14
  refine (specColAt B1 t2.cols.length d1 _ _ _ _ _ t2.cols nm2 ok2 _ H21.out (by omega)).mono ?_
  rintro e w9 ⟨rfl, hq⟩
  rw [HT5.out]
  replace HS1 := Lib.hid (HS1.out.below TbR.stays hq)
  replace H21 := Lib.hid (H21.out.below ClR.stays hq)
  replace BX2 := Lib.hid (BX2.out.below hq)
  replace H31 := Lib.hid (H31.out.below ClR.stays hq)
  replace H32 := Lib.hid (H32.out.below IntR.stays hq)
  replace H33 := Lib.hid (H33.out.below UqR.stays hq)
  replace H34 := Lib.hid (H34.out.below CkR.stays hq)
  replace H35 := Lib.hid (H35.out.below FkR.stays hq)
  replace BX3 := Lib.hid (BX3.out.below hq)
  replace HS4 := Lib.hid (HS4.out.below TbR.stays hq)
  replace HS6 := Lib.hid (HS6.out.below TbR.stays hq)
  have hb9 := hb8.trans (hq.mono hb8.size)
  clear hq
  replace DD := Lib.hid (show (_ ∧ _ ∧ _ ∧ _ ∧ _ ∧ _) ∧ (_ ∧ _ ∧ _ ∧ _ ∧ _ ∧ _) from ⟨BX2.out.six.1, BX3.out.six.1⟩)
  refine hK.out _ _ DD.out (fun hHeld => ?_)
  clear hK K
  (try simp only [Act.put, List.getElem_toArray, List.getElem_cons_zero, List.getElem_cons_succ, List.setIfInBounds_toArray, List.set_cons_zero, List.set_cons_succ])
  refine wpAnyH_take (i := 10) (v := ?v9) rfl (by kernel_rfl) (by kernel_rfl) (by kernel_rfl) (fun _ _ _ h => h) (Or.inl ⟨by rfl, ?hy9⟩) hHeld ?rest9
  case hy9 => (intro w' hSw; (try dsimp only at hSw); first | (go_simp; done) | (go_simp; with_reducible rfl))
  simp only [Act.put, List.getElem_toArray, List.getElem_cons_zero, List.getElem_cons_succ, List.setIfInBounds_toArray, List.set_cons_zero, List.set_cons_succ]
  refine wpAnyH_take (i := 11) (v := ?v10) rfl (by kernel_rfl) (by kernel_rfl) (by kernel_rfl) (fun _ _ _ h => h) (Or.inl ⟨by rfl, ?hy10⟩) hHeld ?rest10
  case hy10 => (intro w' hSw; (try dsimp only at hSw); first | (go_simp; done) | (go_simp; with_reducible rfl))
  simp only [Act.put, List.getElem_toArray, List.getElem_cons_zero, List.getElem_cons_succ, List.setIfInBounds_toArray, List.set_cons_zero, List.set_cons_succ]
  refine wpAnyH_take (i := 12) (v := ?v11) rfl (by kernel_rfl) (by kernel_rfl) (by kernel_rfl) (fun _ _ _ h => h) (Or.inl ⟨by rfl, ?hy11⟩) hHeld ?rest11
  case hy11 => (intro w' hSw; (try dsimp only at hSw); first | (go_simp; done) | (go_simp; with_reducible rfl))
  simp only [Act.put, List.getElem_toArray, List.getElem_cons_zero, List.getElem_cons_succ, List.setIfInBounds_toArray, List.set_cons_zero, List.set_cons_succ]
  refine wpAnyH_take (i := 13) (v := ?v12) rfl (by kernel_rfl) (by kernel_rfl) (by kernel_rfl) (fun _ _ _ h => h) (Or.inl ⟨by rfl, ?hy12⟩) hHeld ?rest12
  case hy12 => (intro w' hSw; (try dsimp only at hSw); first | (go_simp; done) | (go_simp; with_reducible rfl))
  simp only [Act.put, List.getElem_toArray, List.getElem_cons_zero, List.getElem_cons_succ, List.setIfInBounds_toArray, List.set_cons_zero, List.set_cons_succ]
  refine wpAnyH_take (i := 15) (v := ?v13) rfl (by kernel_rfl) (by kernel_rfl) (by kernel_rfl) (fun _ _ _ h => h) (Or.inl ⟨by rfl, ?hy13⟩) hHeld ?rest13
  case hy13 => (intro w' hSw; (try dsimp only at hSw); first | (go_simp; done) | (go_simp; with_reducible rfl))
  simp only [Act.put, List.getElem_toArray, List.getElem_cons_zero, List.getElem_cons_succ, List.setIfInBounds_toArray, List.set_cons_zero, List.set_cons_succ]
  refine wpAnyH_ready (rs := [14]) (by kernel_rfl) (by simp) ?_
  refine AllReadyH.cons rfl (fun K hK => ?_) AllReadyH.nil
  go_simp
  go_at_call 15
  refine (implTableOk t3 C1 l1 f1 C2 l2 f2 C3 l3 f3 C4 l4 f4 C5 l5 f5 ok3 _ H31.out H32.out H33.out H34.out H35.out (by omega)).mono ?_
  rintro e w10 ⟨rfl, hq⟩
  replace HS1 := Lib.hid (HS1.out.below TbR.stays hq)
  replace H21 := Lib.hid (H21.out.below ClR.stays hq)
  replace BX2 := Lib.hid (BX2.out.below hq)
  replace H31 := Lib.hid (H31.out.below ClR.stays hq)
  replace H32 := Lib.hid (H32.out.below IntR.stays hq)
  replace H33 := Lib.hid (H33.out.below UqR.stays hq)
  replace H34 := Lib.hid (H34.out.below CkR.stays hq)
  replace H35 := Lib.hid (H35.out.below FkR.stays hq)
  replace BX3 := Lib.hid (BX3.out.below hq)
  replace HS4 := Lib.hid (HS4.out.below TbR.stays hq)
  replace HS6 := Lib.hid (HS6.out.below TbR.stays hq)
  have hb10 := hb9.trans (hq.mono hb9.size)
  clear hq
  replace DD := Lib.hid (show (_ ∧ _ ∧ _ ∧ _ ∧ _ ∧ _) ∧ (_ ∧ _ ∧ _ ∧ _ ∧ _ ∧ _) from ⟨BX2.out.six.1, BX3.out.six.1⟩)
  refine hK.out _ _ DD.out (fun hHeld => ?_)
  clear hK K
  (try simp only [Act.put, List.getElem_toArray, List.getElem_cons_zero, List.getElem_cons_succ, List.setIfInBounds_toArray, List.set_cons_zero, List.set_cons_succ])
  refine wpAnyH_ready (rs := [16]) (by kernel_rfl) (by simp) ?_
  refine AllReadyH.cons rfl (fun K hK => ?_) AllReadyH.nil
  go_simp
  go_at_call 16
  refine (specTableOk t3 C1 l1 f1 C2 l2 f2 C3 l3 f3 C4 l4 f4 C5 l5 f5 ok3 _ H31.out H32.out H33.out H34.out H35.out HCP3.out (by omega)).mono ?_
  rintro e w11 ⟨rfl, hq⟩
  replace HS1 := Lib.hid (HS1.out.below TbR.stays hq)
  replace H21 := Lib.hid (H21.out.below ClR.stays hq)
  replace BX2 := Lib.hid (BX2.out.below hq)
  replace H31 := Lib.hid (H31.out.below ClR.stays hq)
  replace H32 := Lib.hid (H32.out.below IntR.stays hq)
  replace H33 := Lib.hid (H33.out.below UqR.stays hq)
  replace H34 := Lib.hid (H34.out.below CkR.stays hq)
  replace H35 := Lib.hid (H35.out.below FkR.stays hq)
  replace BX3 := Lib.hid (BX3.out.below hq)
  replace HS4 := Lib.hid (HS4.out.below TbR.stays hq)
  replace HS6 := Lib.hid (HS6.out.below TbR.stays hq)
  have hb11 := hb10.trans (hq.mono hb10.size)
  clear hq
  replace DD := Lib.hid (show (_ ∧ _ ∧ _ ∧ _ ∧ _ ∧ _) ∧ (_ ∧ _ ∧ _ ∧ _ ∧ _ ∧ _) from ⟨BX2.out.six.1, BX3.out.six.1⟩)
  refine hK.out _ _ DD.out (fun hHeld => ?_)
  clear hK K
  (try simp only [Act.put, List.getElem_toArray, List.getElem_cons_zero, List.getElem_cons_succ, List.setIfInBounds_toArray, List.set_cons_zero, List.set_cons_succ])
  refine wpAnyH_take (i := 17) (v := ?v14) rfl (by kernel_rfl) (by kernel_rfl) (by kernel_rfl) (fun _ _ _ h => h) (Or.inl ⟨by rfl, ?hy14⟩) hHeld ?rest14
  case hy14 => (intro w' hSw; (try dsimp only at hSw); first | (go_simp; done) | (go_simp; with_reducible rfl))
  simp only [Act.put, List.getElem_toArray, List.getElem_cons_zero, List.getElem_cons_succ, List.setIfInBounds_toArray, List.set_cons_zero, List.set_cons_succ]
  refine wpAnyH_take (i := 18) (v := ?v15) rfl (by kernel_rfl) (by kernel_rfl) (by kernel_rfl) (fun _ _ _ h => h) (Or.inl ⟨by rfl, ?hy15⟩) hHeld ?rest15
  case hy15 => (intro w' hSw; (try dsimp only at hSw); first | (go_simp; done) | (go_simp; with_reducible rfl))
  simp only [Act.put, List.getElem_toArray, List.getElem_cons_zero, List.getElem_cons_succ, List.setIfInBounds_toArray, List.set_cons_zero, List.set_cons_succ]
  refine wpAnyH_take (i := 19) (v := ?v16) rfl (by kernel_rfl) (by kernel_rfl) (by kernel_rfl) (fun _ _ _ h => h) (Or.inl ⟨by rfl, ?hy16⟩) hHeld ?rest16
  case hy16 => (intro w' hSw; (try dsimp only at hSw); first | (go_simp; done) | (go_simp; with_reducible rfl))
  simp only [Act.put, List.getElem_toArray, List.getElem_cons_zero, List.getElem_cons_succ, List.setIfInBounds_toArray, List.set_cons_zero, List.set_cons_succ]
  refine wpAnyH_take (i := 20) (v := ?v17) rfl (by kernel_rfl) (by kernel_rfl) (by kernel_rfl) (fun _ _ _ h => h) (Or.inl ⟨by rfl, ?hy17⟩) hHeld ?rest17
  case hy17 => (intro w' hSw; (try dsimp only at hSw); first | (go_simp; done) | (go_simp; with_reducible rfl))
  simp only [Act.put, List.getElem_toArray, List.getElem_cons_zero, List.getElem_cons_succ, List.setIfInBounds_toArray, List.set_cons_zero, List.set_cons_succ]
  refine wpAnyH_take (i := 22) (v := ?v18) rfl (by kernel_rfl) (by kernel_rfl) (by kernel_rfl) (fun _ _ _ h => h) (Or.inl ⟨by rfl, ?hy18⟩) hHeld ?rest18
  case hy18 => (intro w' hSw; (try dsimp only at hSw); first | (go_simp; done) | (go_simp; with_reducible rfl))
  simp only [Act.put, List.getElem_toArray, List.getElem_cons_zero, List.getElem_cons_succ, List.setIfInBounds_toArray, List.set_cons_zero, List.set_cons_succ]
  refine wpAnyH_ready (rs := [21]) (by kernel_rfl) (by simp) ?_
  refine AllReadyH.cons rfl (fun K hK => ?_) AllReadyH.nil
  go_simp
  go_at_call 17
  refine (implSchemaOk A4 n4 c4 ts4 ok4 _ HS4.out (by omega)).mono ?_
  rintro e w12 ⟨rfl, hq⟩
  replace HS1 := Lib.hid (HS1.out.below TbR.stays hq)
  replace H21 := Lib.hid (H21.out.below ClR.stays hq)
  replace BX2 := Lib.hid (BX2.out.below hq)
  replace H31 := Lib.hid (H31.out.below ClR.stays hq)
  replace H32 := Lib.hid (H32.out.below IntR.stays hq)
  replace H33 := Lib.hid (H33.out.below UqR.stays hq)
  replace H34 := Lib.hid (H34.out.below CkR.stays hq)
  replace H35 := Lib.hid (H35.out.below FkR.stays hq)
  replace BX3 := Lib.hid (BX3.out.below hq)
  replace HS4 := Lib.hid (HS4.out.below TbR.stays hq)
  replace HS6 := Lib.hid (HS6.out.below TbR.stays hq)
  have hb12 := hb11.trans (hq.mono hb11.size)
  clear hq
  replace DD := Lib.hid (show (_ ∧ _ ∧ _ ∧ _ ∧ _ ∧ _) ∧ (_ ∧ _ ∧ _ ∧ _ ∧ _ ∧ _) from ⟨BX2.out.six.1, BX3.out.six.1⟩)
  refine hK.out _ _ DD.out (fun hHeld => ?_)
  clear hK K
  (try simp only [Act.put, List.getElem_toArray, List.getElem_cons_zero, List.getElem_cons_succ, List.setIfInBounds_toArray, List.set_cons_zero, List.set_cons_succ])
  refine wpAnyH_ready (rs := [23]) (by kernel_rfl) (by simp) ?_
  refine AllReadyH.cons rfl (fun K hK => ?_) AllReadyH.nil
  go_simp
  go_at_call 18
  refine (specSchemaOk A4 n4 c4 ts4 ok4 _ HS4.out hc4 (by omega)).mono ?_
  rintro e w13 ⟨rfl, hq⟩
  replace HS1 := Lib.hid (HS1.out.below TbR.stays hq)
  replace H21 := Lib.hid (H21.out.below ClR.stays hq)
  replace BX2 := Lib.hid (BX2.out.below hq)
  replace H31 := Lib.hid (H31.out.below ClR.stays hq)
  replace H32 := Lib.hid (H32.out.below IntR.stays hq)
  replace H33 := Lib.hid (H33.out.below UqR.stays hq)
  replace H34 := Lib.hid (H34.out.below CkR.stays hq)
  replace H35 := Lib.hid (H35.out.below FkR.stays hq)
  replace BX3 := Lib.hid (BX3.out.below hq)
  replace HS4 := Lib.hid (HS4.out.below TbR.stays hq)
  replace HS6 := Lib.hid (HS6.out.below TbR.stays hq)
  have hb13 := hb12.trans (hq.mono hb12.size)
  clear hq
  replace DD := Lib.hid (show (_ ∧ _ ∧ _ ∧ _ ∧ _ ∧ _) ∧ (_ ∧ _ ∧ _ ∧ _ ∧ _ ∧ _) from ⟨BX2.out.six.1, BX3.out.six.1⟩)
  refine hK.out _ _ DD.out (fun hHeld => ?_)
  clear hK K
  (try simp only [Act.put, List.getElem_toArray, List.getElem_cons_zero, List.getElem_cons_succ, List.setIfInBounds_toArray, List.set_cons_zero, List.set_cons_succ])
  refine wpAnyH_take (i := 24) (v := ?v19) rfl (by kernel_rfl) (by kernel_rfl) (by kernel_rfl) (fun _ _ _ h => h) (Or.inl ⟨by rfl, ?hy19⟩) hHeld ?rest19
  case hy19 => (intro w' hSw; (try dsimp only at hSw); first | (go_simp; done) | (go_simp; with_reducible rfl))
  simp only [Act.put, List.getElem_toArray, List.getElem_cons_zero, List.getElem_cons_succ, List.setIfInBounds_toArray, List.set_cons_zero, List.set_cons_succ]
  refine wpAnyH_take (i := 25) (v := ?v20) rfl (by kernel_rfl) (by kernel_rfl) (by kernel_rfl) (fun _ _ _ h => h) (Or.inl ⟨by rfl, ?hy20⟩) hHeld ?rest20
  case hy20 => (intro w' hSw; (try dsimp only at hSw); first | (go_simp; done) | (go_simp; with_reducible rfl))
  simp only [Act.put, List.getElem_toArray, List.getElem_cons_zero, List.getElem_cons_succ, List.setIfInBounds_toArray, List.set_cons_zero, List.set_cons_succ]
  refine wpAnyH_take (i := 26) (v := ?v21) rfl (by kernel_rfl) (by kernel_rfl) (by kernel_rfl) (fun _ _ _ h => h) (Or.inl ⟨by rfl, ?hy21⟩) hHeld ?rest21
  case hy21 => (intro w' hSw; (try dsimp only at hSw); first | (go_simp; done) | (go_simp; with_reducible rfl))
  simp only [Act.put, List.getElem_toArray, List.getElem_cons_zero, List.getElem_cons_succ, List.setIfInBounds_toArray, List.set_cons_zero, List.set_cons_succ]
  refine wpAnyH_take (i := 27) (v := ?v22) rfl (by kernel_rfl) (by kernel_rfl) (by kernel_rfl) (fun _ _ _ h => h) (Or.inl ⟨by rfl, ?hy22⟩) hHeld ?rest22
  case hy22 => (intro w' hSw; (try dsimp only at hSw); first | (go_simp; done) | (go_simp; with_reducible rfl))
  simp only [Act.put, List.getElem_toArray, List.getElem_cons_zero, List.getElem_cons_succ, List.setIfInBounds_toArray, List.set_cons_zero, List.set_cons_succ]
  refine wpAnyH_take (i := 28) (v := ?v23) rfl (by kernel_rfl) (by kernel_rfl) (by kernel_rfl) (fun _ _ _ h => h) (Or.inl ⟨by rfl, ?hy23⟩) hHeld ?rest23
  case hy23 => (intro w' hSw; (try dsimp only at hSw); first | (go_simp; done) | (go_simp; with_reducible rfl))
  simp only [Act.put, List.getElem_toArray, List.getElem_cons_zero, List.getElem_cons_succ, List.setIfInBounds_toArray, List.set_cons_zero, List.set_cons_succ]
  refine wpAnyH_take (i := 30) (v := ?v24) rfl (by kernel_rfl) (by kernel_rfl) (by kernel_rfl) (fun _ _ _ h => h) (Or.inl ⟨by rfl, ?hy24⟩) hHeld ?rest24
  case hy24 => (intro w' hSw; (try dsimp only at hSw); first | (go_simp; done) | (go_simp; with_reducible rfl))
  simp only [Act.put, List.getElem_toArray, List.getElem_cons_zero, List.getElem_cons_succ, List.setIfInBounds_toArray, List.set_cons_zero, List.set_cons_succ]
  refine wpAnyH_take (i := 31) (v := ?v25) rfl (by kernel_rfl) (by kernel_rfl) (by kernel_rfl) (fun _ _ _ h => h) (Or.inl ⟨by rfl, ?hy25⟩) hHeld ?rest25
  case hy25 => (intro w' hSw; (try dsimp only at hSw); first | (go_simp; done) | (go_simp; with_reducible rfl))
  simp only [Act.put, List.getElem_toArray, List.getElem_cons_zero, List.getElem_cons_succ, List.setIfInBounds_toArray, List.set_cons_zero, List.set_cons_succ]
  refine wpAnyH_ready (rs := [29]) (by kernel_rfl) (by simp) ?_
  refine AllReadyH.cons rfl (fun K hK => ?_) AllReadyH.nil
  go_simp
  go_at_call 20
  refine (implRefers A6 ts6.length c6 ts6 nm6 ok6 _ HS6.out (by omega)).mono ?_
  rintro e w14 ⟨B7, e7, rfl, hcp7, hs7, hq⟩
  replace HS1 := Lib.hid (HS1.out.below TbR.stays hq)
  replace H21 := Lib.hid (H21.out.below ClR.stays hq)
  replace BX2 := Lib.hid (BX2.out.below hq)
  replace H31 := Lib.hid (H31.out.below ClR.stays hq)
  replace H32 := Lib.hid (H32.out.below IntR.stays hq)
  replace H33 := Lib.hid (H33.out.below UqR.stays hq)
  replace H34 := Lib.hid (H34.out.below CkR.stays hq)
  replace H35 := Lib.hid (H35.out.below FkR.stays hq)
  replace BX3 := Lib.hid (BX3.out.below hq)
  replace HS4 := Lib.hid (HS4.out.below TbR.stays hq)
  replace HS6 := Lib.hid (HS6.out.below TbR.stays hq)
  have hb14 := hb13.trans (hq.mono hb13.size)
  clear hq
  replace DD := Lib.hid (show (_ ∧ _ ∧ _ ∧ _ ∧ _ ∧ _) ∧ (_ ∧ _ ∧ _ ∧ _ ∧ _ ∧ _) from ⟨BX2.out.six.1, BX3.out.six.1⟩)
  have HS7 := Lib.hid hs7
  clear hs7
  refine hK.out _ _ DD.out (fun hHeld => ?_)
  clear hK K
  (try simp only [Act.put, List.getElem_toArray, List.getElem_cons_zero, List.getElem_cons_succ, List.setIfInBounds_toArray, List.set_cons_zero, List.set_cons_succ])
  refine wpAnyH_ready (rs := [32]) (by kernel_rfl) (by simp) ?_
  refine AllReadyH.cons rfl (fun K hK => ?_) AllReadyH.nil
  go_simp
  go_at_call 21
  refine (specRefers A6 ts6.length c6 ts6 nm6 ok6 _ HS6.out hc6 (by omega)).mono ?_
  rintro e w15 ⟨B8, e8, rfl, hcp8, hs8, hq⟩
  replace HS1 := Lib.hid (HS1.out.below TbR.stays hq)
  replace H21 := Lib.hid (H21.out.below ClR.stays hq)
  replace BX2 := Lib.hid (BX2.out.below hq)
  replace H31 := Lib.hid (H31.out.below ClR.stays hq)
  replace H32 := Lib.hid (H32.out.below IntR.stays hq)
  replace H33 := Lib.hid (H33.out.below UqR.stays hq)
  replace H34 := Lib.hid (H34.out.below CkR.stays hq)
  replace H35 := Lib.hid (H35.out.below FkR.stays hq)
  replace BX3 := Lib.hid (BX3.out.below hq)
  replace HS4 := Lib.hid (HS4.out.below TbR.stays hq)
  replace HS6 := Lib.hid (HS6.out.below TbR.stays hq)
  replace HS7 := Lib.hid (HS7.out.below IntR.stays hq)
  have hb15 := hb14.trans (hq.mono hb14.size)
  clear hq
  replace DD := Lib.hid (show (_ ∧ _ ∧ _ ∧ _ ∧ _ ∧ _) ∧ (_ ∧ _ ∧ _ ∧ _ ∧ _ ∧ _) from ⟨BX2.out.six.1, BX3.out.six.1⟩)
  have HS8 := Lib.hid hs8
  clear hs8
  refine hK.out _ _ DD.out (fun hHeld => ?_)
  clear hK K
  (try simp only [Act.put, List.getElem_toArray, List.getElem_cons_zero, List.getElem_cons_succ, List.setIfInBounds_toArray, List.set_cons_zero, List.set_cons_succ])
  refine wpAnyH_ready (rs := [33]) (by kernel_rfl) (by simp) ?_
  refine AllReadyH.cons rfl (fun K hK => ?_) AllReadyH.nil
  go_simp
  go_at_call 19
  refine (lawsSameInts B7 B8 (refsB nm6 ts6).length e7 e8 (refsB nm6 ts6) _ _ _ HS7.out HS8.out hrl).mono ?_
  rintro e w16 ⟨rfl, hq⟩
  replace HS1 := Lib.hid (HS1.out.below TbR.stays hq)
  replace H21 := Lib.hid (H21.out.below ClR.stays hq)
  replace BX2 := Lib.hid (BX2.out.below hq)
  replace H31 := Lib.hid (H31.out.below ClR.stays hq)
  replace H32 := Lib.hid (H32.out.below IntR.stays hq)
  replace H33 := Lib.hid (H33.out.below UqR.stays hq)
  replace H34 := Lib.hid (H34.out.below CkR.stays hq)
  replace H35 := Lib.hid (H35.out.below FkR.stays hq)
  replace BX3 := Lib.hid (BX3.out.below hq)
  replace HS4 := Lib.hid (HS4.out.below TbR.stays hq)
  replace HS6 := Lib.hid (HS6.out.below TbR.stays hq)
  replace HS7 := Lib.hid (HS7.out.below IntR.stays hq)
  replace HS8 := Lib.hid (HS8.out.below IntR.stays hq)
  have hb16 := hb15.trans (hq.mono hb15.size)
  clear hq
  replace DD := Lib.hid (show (_ ∧ _ ∧ _ ∧ _ ∧ _ ∧ _) ∧ (_ ∧ _ ∧ _ ∧ _ ∧ _ ∧ _) from ⟨BX2.out.six.1, BX3.out.six.1⟩)
  refine hK.out _ _ DD.out (fun hHeld => ?_)
  clear hK K
  (try simp only [Act.put, List.getElem_toArray, List.getElem_cons_zero, List.getElem_cons_succ, List.setIfInBounds_toArray, List.set_cons_zero, List.set_cons_succ])
  refine wpAnyH_take (i := 34) (v := ?v26) rfl (by kernel_rfl) (by kernel_rfl) (by kernel_rfl) (fun _ _ _ h => h) (Or.inl ⟨by rfl, ?hy26⟩) hHeld ?rest26
  case hy26 => (intro w' hSw; (try dsimp only at hSw); first | (go_simp; done) | (go_simp; with_reducible rfl))
  simp only [Act.put, List.getElem_toArray, List.getElem_cons_zero, List.getElem_cons_succ, List.setIfInBounds_toArray, List.set_cons_zero, List.set_cons_succ]
  refine wpAnyH_take (i := 35) (v := ?v27) rfl (by kernel_rfl) (by kernel_rfl) (by kernel_rfl) (fun _ _ _ h => h) (Or.inl ⟨by rfl, ?hy27⟩) hHeld ?rest27
  case hy27 => (intro w' hSw; (try dsimp only at hSw); first | (go_simp; done) | (go_simp; with_reducible rfl))
  simp only [Act.put, List.getElem_toArray, List.getElem_cons_zero, List.getElem_cons_succ, List.setIfInBounds_toArray, List.set_cons_zero, List.set_cons_succ]
  refine wpAnyH_done (by kernel_rfl) ?_ _
  refine NoPanic.normal ?_
  clear hHeld
  have HBW := Lib.hid hb16
  clear HS4 H31 H32 H33 H34 H35 HS7 HS8 BX3 DD hb1 hb2 hb3 hb3' hb4 hb5 hb5' hb6 hb7 hb7d hb8 hb9 hb10 hb11 hb12 hb13 hb14 hb15
  have hx1 : (t1 = -1 ∧ ¬ (0 ≤ t1)) ∨ ∃ i : Nat, t1 = (i : Int) ∧ ∃ hi : i < ts1.length, ts1[i].name = nm1 := by
    rcases atN_rng (ts1.map Tb.name) nm1 with h | ⟨h, h'⟩
    · left; rw [HT1.out] at h; omega
    · right
      rw [HT1.out] at h
      obtain ⟨i, rfl⟩ : ∃ i : Nat, t1 = (i : Int) := ⟨t1.toNat, by omega⟩
      obtain ⟨h3, h4⟩ := atN_at HT1.out
      exact ⟨i, rfl, by simpa using h3, by simpa using h4⟩
  have hx5 : (t5 = -1 ∧ ¬ (0 ≤ t5)) ∨ ∃ i : Nat, t5 = (i : Int) ∧ ∃ hi : i < t2.cols.length, t2.cols[i].name = nm2 := by
    rcases atN_rng (t2.cols.map Cl.name) nm2 with h | ⟨h, h'⟩
    · left; rw [HT5.out] at h; omega
    · right
      rw [HT5.out] at h
      obtain ⟨i, rfl⟩ : ∃ i : Nat, t5 = (i : Int) := ⟨t5.toNat, by omega⟩
      obtain ⟨h3, h4⟩ := atN_at HT5.out
      exact ⟨i, rfl, by simpa using h3, by simpa using h4⟩
  obtain ⟨⟨e20, e21, -, -, -, -⟩, -⟩ := BX2.out.six
  clear HT1 HT5
  rcases hx1 with ⟨rfl, -⟩ | ⟨i1, rfl, hi1, hnm1⟩ <;> rcases hx5 with ⟨rfl, -⟩ | ⟨i5, rfl, hi5, hnm5⟩
  case' inr.inl | inr.inr =>
    obtain ⟨b1, o1, P1, _, _, P2, _, _, P3, _, _, P4, _, _, P5, _, _, -, rfl, q10, -, -, -, -, -, -⟩ := TbR.at_ HS1.out hi1
    rw [hnm1] at q10
    have j10 : (0 : Int) ≤ (i1 : Nat) := by omega
    have j11 : (i1 : Int) < (ts1.length : Nat) := by omega
  case' inl.inr | inr.inr =>
    obtain ⟨b5, o5, -, rfl, q50, -, -, -, -, -⟩ := ClR.at_ H21.out hi5
    rw [hnm5] at q50
    have j50 : (0 : Int) ≤ (i5 : Nat) := by omega
    have j51 : (i5 : Int) < (t2.cols.length : Nat) := by omega
  all_goals
    go_wp2_with fail
    refine (implRefers A6 ts6.length c6 ts6 nm6 ok6 _ HS6.out (by omega)).mono ?_
    rintro e w17 ⟨B9, e9, rfl, hcp9, hs9, hq⟩
    have HL9 := Lib.hid hs9
    have HS9 := Lib.hid (HS6.out.below TbR.stays hq)
    have hbz := HBW.out.trans (hq.mono HBW.out.size)
    clear hs9 hq e20 e21
    try clear q10
    try clear q50
    go_wp2_with fail
    go_loopw [14] (fun i wr => ∃ k : Nat, k ≤ ts6.length ∧ i = .int .i64 k ∧ Below w17.heap.size w17 wr) (fun i _ => ts6.length - (intOf i).toNat)
    case atStart => exact ⟨0, by omega, rfl, Below.refl _ _⟩
    case round =>
      obtain ⟨k, hk, rfl, hb⟩ := hrel
      by_cases hlt : k < ts6.length
      · have HSR := Lib.hid (HS9.out.below TbR.stays hb)
        go_wp2_with fail
        refine (specSchemaOk A6 ts6.length c6 ts6 ok6 _ HSR.out hc6 (by omega)).mono ?_
        rintro e v1 ⟨rfl, hq⟩
        have hb2 := hb.trans (hq.mono hb.size)
        clear hq
        cases hsc : schemaB ts6
        · go_wp2_with fail
          go_ret
          exact ⟨rfl, hbz.trans (hb2.mono hbz.size)⟩
        · have HSC := Lib.hid hsc
          clear hsc
          have HSR := Lib.hid (HS9.out.below TbR.stays hb2)
          obtain ⟨b, off, K1, _, _, K2, _, _, K3, _, _, K4, _, _, K5, nk5, ck5, -, rfl, q0, q1, q2, q3, q4, q5, -, -, -, -, s5, hcp⟩ := TbR.at_ HSR.out hlt
          obtain rfl : ts6[k].fks.length = nk5 := s5.1
          have HS5 := Lib.hid s5
          have i0 : (0 : Int) ≤ (k : Nat) := by omega
          have i1 : (k : Int) < (ts6.length : Nat) := by omega
          have hm5 : ts6[k].fks.length ≤ 1000 := by
            have h1 := szL_len Fk.sz ts6[k].fks
            have h2 := sum_mem_le Tb.sz ts6 k hlt
            have h3 : szL Fk.sz ts6[k].fks ≤ Tb.sz ts6[k] := by unfold Tb.sz; omega
            have h4 : (ts6.map Tb.sz).sum ≤ szL Tb.sz ts6 := by unfold szL; omega
            omega
          clear s5 q0 q1 q2 q3 q4
          go_wp2_with fail
          go_loopw [15, 16] (fun r i wr => ∃ m : Nat, m ≤ ts6[k].fks.length ∧ i = .int .i64 m ∧ r = .bool ((ts6[k].fks.take m).any fun f => f.table.toList == nm6.toList) ∧ Below v1.heap.size v1 wr) (fun _ i _ => ts6[k].fks.length - (intOf i).toNat)
          case atStart => exact ⟨0, by omega, rfl, rfl, Below.refl _ _⟩
          case round =>
            obtain ⟨m, hm, rfl, rfl, hbm⟩ := hrel
            have q5' := (hbm.cell (cell_lt q5)).trans q5
            by_cases hltm : m < ts6[k].fks.length
            · obtain ⟨bf, of, F1, _, _, -, rfl, r0, r1, r2, r3, r4, -, -⟩ := FkR.at_ (HS5.out.below FkR.stays hbm) hltm
              have m0 : (0 : Int) ≤ (m : Nat) := by omega
              have m1 : (m : Int) < (ts6[k].fks.length : Nat) := by omega
              have hst := refB_take (nm := nm6) hltm
              clear r0 r2 r3 r4
              generalize ((ts6[k].fks.take m).any fun f => f.table.toList == nm6.toList) = bb at *
              generalize ts6[k].fks[m].table = tn at *
              have HST := Lib.hid hst
              clear hst
              cases bb
              · go_wp2_with fail
                go_roundw
                case rel => exact ⟨m + 1, by omega, by go_num, by rw [HST.out]; simp, hbm⟩
                case measure => simp [intOf]; omega
              · go_wp2_with fail
                go_roundw
                case rel => exact ⟨m + 1, by omega, by go_num, by rw [HST.out]; simp, hbm⟩
                case measure => simp [intOf]; omega
            · obtain rfl : m = ts6[k].fks.length := by omega
              have hal := refB_all (nm := nm6) (t := ts6[k])
              have hrh := refsB_has (nm := nm6) HSC.out hlt
              generalize ((ts6[k].fks.take ts6[k].fks.length).any fun f => f.table.toList == nm6.toList) = bb at *
              subst hal
              rw [← hrh]
              clear hrh
              go_wp2_with fail
              refine (lawsHas B9 (refsB nm6 ts6).length e9 (refsB nm6 ts6) k _ _ ((HL9.out.below IntR.stays hb2).below IntR.stays hbm) hrl).mono ?_
              rintro e v2 ⟨rfl, hq⟩
              have hb3 := (hb2.trans (hbm.mono hb2.size))
              have hb4 := hb3.trans (hq.mono hb3.size)
              clear hq hb3
              go_wp2_with fail
              go_roundw
              case rel => exact ⟨k + 1, by omega, by go_num, hb4⟩
              case measure => simp [intOf]; omega
      · go_wp2_with fail
        go_ret
        exact ⟨rfl, hbz.trans (hb.mono hbz.size)⟩

set_option maxRecDepth 100000 in
theorem lifted (os : Os) (started : os.Started) (H : Type) (enc : TypeId × Value → H) :
    ReturnsInHanded {} Try.checked os 3 .any (Rows.fnSchemasSpec.pre6 enc Try.prog Try.f3 Rows.fnSchemasRow.domain false) (Rows.fnSchemasSpec.post enc Try.prog Try.f3 false true false false) := by
  refine returnsInHanded_of_change (C := Try.checked) own started (by kernel_rfl) Try.func3
    (ChangeSpec.witness6 (enc := enc) (C := Try.checked) false ⟨#[], #[.slice none 0 0], []⟩ 8 (by kernel_rfl) (by kernel_rfl) (by kernel_rfl) (by kernel_rfl)) ?_
  intro W base args ds gs before hval0 hW hcnd _
  have hval : ∀ (j : Nat) t v, Try.f3.params[j]? = some t → args[j]? = some v → Value.okWide Try.prog W .any base t v := hval0
  have hW' := hW
  obtain ⟨p, q, hA0, hV, rfl, hfz, hnd⟩ := hW
  have hA : DataW.TrodAll enc Try.prog W 0 (fun _ => true) true Try.f3.params.toList args.toList ds p := hA0
  rw [Try.params3] at hA hval
  obtain ⟨v0, vs0, d0, ds0, p0, q0, hargs, rfl, rfl, h0, r0⟩ := trodAll_cons hA
  obtain ⟨rfl, rfl, rfl⟩ := trodAll_nil r0
  obtain rfl : args = #[v0] := by cases args; simp_all
  obtain ⟨rfl, rfl⟩ := trodVars_none hV
  have k0' := h0
  have lt0 : ∀ x ∈ p0, x.block < W.heap.size := by obtain ⟨m, hm⟩ := k0'; exact DataW.trod_lt m _ _ _ hm
  obtain ⟨a0, len0, cap0, rfl⟩ := okWide_slice Try.underlying22 (hval 0 22 v0 rfl rfl)
  obtain ⟨z0, w0⟩ := isRow_of_trod Try.underlying22 Try.underlying5 (by kernel_rfl) h0
  clear hA0 hval0
  refine (walk a0 len0 cap0 z0 W w0).mono fun e W' ⟨he, bel⟩ => ?_
  subst he
  exact ⟨_, rfl, _, _, _, [], _, [], hW', trodAll_mk1 (shut_bool Try.underlying4 _), (trodAll_cons_mk (Below.trod laidOut (by kernel_rfl) (of_decide_eq_true (by kernel_rfl)) k0' bel lt0) trodAll_mk0), rfl, bel.frame _, fun h => by cases h⟩

set_option maxRecDepth 100000 in
set_option maxHeartbeats 16000000 in
theorem facts : joinedFacts Try.checked.prog 3 Try.f3 Rows.fnSchemasSpec Rows.fnSchemasRow = true := by
  unfold joinedFacts
  repeat' (with_reducible refine Bool.and_eq_true_iff.2 ⟨?_, ?_⟩)
  all_goals (as_aux_lemma => kernel_rfl)

theorem over : Rows.fnSchemasRow.holds Try.pinned (OpenSpec.ofChange Rows.fnSchemasSpec) :=
  OpenClaim.holds_of_wide 3 Try.f3 rfl rfl rfl rfl rfl rfl rfl ⟨rfl, rfl, rfl, rfl, rfl⟩ rfl rfl rfl rfl rfl (by kernel_rfl) Try.func3 facts
    (of_decide_eq_true (by as_aux_lemma => kernel_rfl)) (by unfold Func.isWrapper; first | (rw [if_pos (by decide +kernel)]; kernel_rfl) | (rw [if_neg (by decide +kernel)]; exact ⟨rfl, rfl⟩))
    (fun os started H enc _ => lifted os started H enc)

theorem proved : Rows.FnSchemasSaid := over
#print axioms proved
end Go.Proofs.Ytjlolfikaahobaa.fnSchemas
