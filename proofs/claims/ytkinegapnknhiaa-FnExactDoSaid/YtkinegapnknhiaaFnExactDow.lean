/-
  Do answers as the model at every disk and op, in memory of its own (law FnExactDo, for every input).
-/
import Derived.Test.YtkinegapnknhiaaBase
import Derived.Test.YtkinegapnknhiaaDa
import Derived.Deep.Cut
import Derived.Deep.CutRange
import Derived.Test.YtkinegapnknhiaaEq
import Derived.Test.YtkinegapnknhiaaTrod
import Derived.Test.YtkinegapnknhiaaSz
namespace Go.Proofs.Ytkinegapnknhiaa.fnExactDo
open Go.ChangeShapes Go.WideShapes Go.ChangeAt Go.RowKit Go.Joins
open Go.ChangeMaps (open_string shut_string)
set_option linter.unusedSimpArgs false
set_option linter.unusedVariables false

set_option maxRecDepth 100000 in
set_option maxHeartbeats 8000000 in
theorem walk (x0 : Dz) (A0_0 : Option Addr) (n0_0 c0_0 : Nat) (A0_1 : Option Addr) (n0_1 c0_1 : Nat) (A0_2 : Option Addr) (n0_2 c0_2 : Nat) (x1 : Oz)  (w : World) (w0 : (Sl FzR 2 (fun _ => True) w A0_0 n0_0 x0.live ∧ Sl FzR 2 (fun _ => True) w A0_1 n0_1 x0.safe ∧ Sl OzR 4 (fun _ => True) w A0_2 n0_2 x0.ops) ∧ x0.wf) (w1 : x1.wf) :
    Calls Try.prog 7 #[.agg #[.slice A0_0 n0_0 c0_0, .slice A0_1 n0_1 c0_1, .slice A0_2 n0_2 c0_2], .agg #[.int .i64 x1.kind, .string x1.name, .string x1.to, .string x1.data]] w fun e w' => e = .returned (.bool true) ∧ Below w.heap.size w w' := by
  obtain ⟨⟨h0_0, h0_1, h0_2⟩, wf0⟩ := w0
  have WF0 := Lib.hid wf0
  have WF1 := Lib.hid w1
  clear wf0 w1
  have rb0 := (Row.new w 50 #[.slice A0_0 n0_0 c0_0, .slice A0_1 n0_1 c0_1, .slice A0_2 n0_2 c0_2]).alloc (.cells #[.int .i64 x1.kind, .string x1.name, .string x1.to, .string x1.data] 55)
  have rb1 := Row.newAt (w.alloc (.cells #[.slice A0_0 n0_0 c0_0, .slice A0_1 n0_1 c0_1, .slice A0_2 n0_2 c0_2] 50)) 55 #[.int .i64 x1.kind, .string x1.name, .string x1.to, .string x1.data] (w.heap.size + 1) (by simp)
  have hb := ((Below.refl w.heap.size w).alloc (Nat.le_refl _) (.cells #[.slice A0_0 n0_0 c0_0, .slice A0_1 n0_1 c0_1, .slice A0_2 n0_2 c0_2] 50)).alloc (by simp) (.cells #[.int .i64 x1.kind, .string x1.name, .string x1.to, .string x1.data] 55)
  have hs_rb0 := Lib.hid (show w.heap.size + 1 < ((w.alloc (.cells #[.slice A0_0 n0_0 c0_0, .slice A0_1 n0_1 c0_1, .slice A0_2 n0_2 c0_2] 50)).alloc (.cells #[.int .i64 x1.kind, .string x1.name, .string x1.to, .string x1.data] 55)).heap.size by simp)
  go_enter Try.func7, Try.ntmps7
  go_wp2_with fail
  generalize (w.alloc (.cells #[.slice A0_0 n0_0 c0_0, .slice A0_1 n0_1 c0_1, .slice A0_2 n0_2 c0_2] 50)).alloc (.cells #[.int .i64 x1.kind, .string x1.name, .string x1.to, .string x1.data] 55) = z0 at *
  refine (lawsSzDisk x0 A0_0 n0_0 c0_0 A0_1 n0_1 c0_1 A0_2 n0_2 c0_2 1048576 _ _ (h0_0.below FzR.stays hb) (h0_1.below FzR.stays hb) (h0_2.below OzR.stays hb) WF0.out (by omega) (by omega)).mono ?_
  rintro e y1 ⟨rfl, hq1⟩
  have rb0 := rb0.below hq1
  have rb1 := rb1.below hq1
  have hb := hb.trans (hq1.mono hb.size)
  obtain ⟨⟨krb1_0, krb1_1, krb1_2, krb1_3⟩, -⟩ := rb1.all4
  rcases szR_cases 1048576 (x0.sz) (by omega) with ⟨hno, hv⟩ | ⟨l1, hv, hl1, h01, h11, hle1⟩
  · rw [hv.out]
    go_wp2
    go_ret
    exact ⟨rfl, hb⟩
  rw [hv.out]
  have S0 := Lib.hid (show x0.sz ≤ 1048576 by omega)
  clear hle1
  go_wp2_with fail
  refine (lawsSzDOp x1 l1 (fun _ => True) _ WF1.out (by omega) (by omega)).mono ?_
  rintro e y2 ⟨rfl, hq2⟩
  have rb0 := rb0.below hq2
  have rb1 := rb1.below hq2
  have hb := hb.trans (hq2.mono hb.size)
  clear krb1_0 krb1_1 krb1_2 krb1_3
  obtain ⟨⟨krb0_0, krb0_1, krb0_2⟩, -⟩ := rb0.three
  obtain ⟨⟨krb1_0, krb1_1, krb1_2, krb1_3⟩, -⟩ := rb1.all4
  rcases szR_cases l1 (x1.sz) (by omega) with ⟨hno2, hv2⟩ | ⟨l2, hv2, hl2, h02, h12, hle2⟩
  · rw [hv2.out]
    go_wp2
    go_ret
    exact ⟨rfl, hb⟩
  rw [hv2.out]
  have S1 := Lib.hid (show x1.sz ≤ 1048576 by omega)
  clear hle2
  have HDS := Lib.hid (show x1.data.size ≤ 1048576 by have h := S1.out; unfold Oz.sz at h; omega)
  have FIT := Lib.hid (show Dz.fits (actDo x0 x1) from actDo_fits S0.out S1.out)
  obtain ⟨aw, haw⟩ : ∃ g, g = actDo x0 x1 := ⟨_, rfl⟩
  rw [← haw] at FIT
  have HAW := Lib.hid haw
  obtain ⟨kc, hkc⟩ : ∃ g, g = codeDo x0 x1 := ⟨_, rfl⟩
  have HKC := Lib.hid hkc
  clear haw hkc
  have HLT := Lib.hid (show w.heap.size + 1 < y2.heap.size from Nat.lt_of_lt_of_le hs_rb0.out (Nat.le_trans hq1.size hq2.size))
  go_upto_region 8 with fail
  have hy0 : w.heap.size + 1 < y2.heap.size := HLT.out
  go_cut [6, 7] from 26 to 33 (fun s0 s1 wx => Below y2.heap.size y2 wx ∧ DzBox wx y2.heap.size s0 aw ∧ s1 = .int .i64 kc)
  case first =>
    clear krb0_0 krb0_1 krb0_2 krb1_0 krb1_1 krb1_2 krb1_3
    obtain ⟨⟨krb0_0, krb0_1, krb0_2⟩, -⟩ := rb0.three
    obtain ⟨⟨krb1_0, krb1_1, krb1_2, krb1_3⟩, -⟩ := rb1.all4
    have hc0 : Below y2.heap.size y2 y2.drew := (Below.refl _ y2).drew
    refine wp_region_noPanic ?_
    refine wp_region_held_drew (S := (fun w' => w'.cell? ⟨w.heap.size, 0, none⟩ = some (.slice A0_0 n0_0 c0_0) ∧ w'.cell? ⟨w.heap.size, 1, none⟩ = some (.slice A0_1 n0_1 c0_1) ∧ w'.cell? ⟨w.heap.size, 2, none⟩ = some (.slice A0_2 n0_2 c0_2) ∧ w'.cell? ⟨(w.heap.size + 1), 0, none⟩ = some (.int .i64 x1.kind) ∧ w'.cell? ⟨(w.heap.size + 1), 1, none⟩ = some (.string x1.name) ∧ w'.cell? ⟨(w.heap.size + 1), 2, none⟩ = some (.string x1.to) ∧ w'.cell? ⟨(w.heap.size + 1), 3, none⟩ = some (.string x1.data))) (by kernel_rfl) ⟨krb0_0, krb0_1, krb0_2, krb1_0, krb1_1, krb1_2, krb1_3⟩ (fun hHeld => ?_)
    generalize y2.drew = u0 at *
    refine wpAnyH_take (i := 0) (v := ?v1) rfl (by kernel_rfl) (by kernel_rfl) (by kernel_rfl) (fun _ _ _ h => h) (Or.inl ⟨by rfl, ?hy1⟩) hHeld ?rest1
    case hy1 => (intro w' hSw; (try dsimp only at hSw); first | (go_simp; done) | (go_simp; with_reducible rfl))
    simp only [Act.put, List.getElem_toArray, List.getElem_cons_zero, List.getElem_cons_succ, List.setIfInBounds_toArray, List.set_cons_zero, List.set_cons_succ]
    refine wpAnyH_take (i := 2) (v := ?v2) rfl (by kernel_rfl) (by kernel_rfl) (by kernel_rfl) (fun _ _ _ h => h) (Or.inl ⟨by rfl, ?hy2⟩) hHeld ?rest2
    case hy2 => (intro w' hSw; (try dsimp only at hSw); first | (go_simp; done) | (go_simp; with_reducible rfl))
    simp only [Act.put, List.getElem_toArray, List.getElem_cons_zero, List.getElem_cons_succ, List.setIfInBounds_toArray, List.set_cons_zero, List.set_cons_succ]
    refine wpAnyH_ready (rs := [1, 8]) (by kernel_rfl) (by simp) ?_
    refine AllReadyH.cons rfl (fun K hK => ?_) ?_
    · go_simp
      go_at_call 27
      refine (lawsToDisk x0 A0_0 n0_0 c0_0 A0_1 n0_1 c0_1 A0_2 n0_2 c0_2 _ _ (h0_0.below FzR.stays (hb.trans (hc0.mono hb.size))) (h0_1.below FzR.stays (hb.trans (hc0.mono hb.size))) (h0_2.below OzR.stays (hb.trans (hc0.mono hb.size))) S0.out).mono ?_
      rintro e u1 ⟨cs, rfl, hR, hq⟩
      obtain ⟨As0, ns0, cs0, As1, ns1, cs1, As2, ns2, cs2, rfl, ts0, ts1, ts2, -⟩ := hR
      have hc1 := hc0.trans (hq.mono hc0.size)
      clear hq
      refine hK.out _ _ ⟨below_keep hc1 _ _ krb0_0, below_keep hc1 _ _ krb0_1, below_keep hc1 _ _ krb0_2, below_keep hc1 _ _ krb1_0, below_keep hc1 _ _ krb1_1, below_keep hc1 _ _ krb1_2, below_keep hc1 _ _ krb1_3⟩ (fun hHeld => ?_)
      clear hK K
      (try simp only [Act.put, List.getElem_toArray, List.getElem_cons_zero, List.getElem_cons_succ, List.setIfInBounds_toArray, List.set_cons_zero, List.set_cons_succ])
      refine wpAnyH_ready (rs := [3, 8]) (by kernel_rfl) (by simp) ?_
      refine AllReadyH.cons rfl (fun K hK => ?_) ?_
      · go_simp
        go_at_call 30
        refine (lawsToDOp x1 (fun _ => True) _ S1.out).mono ?_
        rintro e u2 ⟨rfl, hq⟩
        have ts0 := ts0.below FzR.stays hq
        have ts1 := ts1.below FzR.stays hq
        have ts2 := ts2.below OzR.stays hq
        have hc2 := hc1.trans (hq.mono hc1.size)
        clear hq
        refine hK.out _ _ ⟨below_keep hc2 _ _ krb0_0, below_keep hc2 _ _ krb0_1, below_keep hc2 _ _ krb0_2, below_keep hc2 _ _ krb1_0, below_keep hc2 _ _ krb1_1, below_keep hc2 _ _ krb1_2, below_keep hc2 _ _ krb1_3⟩ (fun hHeld => ?_)
        clear hK K
        (try simp only [Act.put, List.getElem_toArray, List.getElem_cons_zero, List.getElem_cons_succ, List.setIfInBounds_toArray, List.set_cons_zero, List.set_cons_succ])
        refine wpAnyH_ready (rs := [4, 8]) (by kernel_rfl) (by simp) ?_
        refine AllReadyH.cons rfl (fun K hK => ?_) ?_
        · go_simp
          go_at_call 21
          refine (specDo x0 x1 As0 ns0 cs0 As1 ns1 cs1 As2 ns2 cs2 _ _ ts0 ts1 ts2 S0.out (by have := HDS.out; omega)).mono ?_
          rintro e u3 ⟨⟨v, rfl, hD⟩, hq⟩
          have ts0 := ts0.below FzR.stays hq
          have ts1 := ts1.below FzR.stays hq
          have ts2 := ts2.below OzR.stays hq
          have hD := hD.mono hc2.size
          rw [← HAW.out] at hD
          rw [← HKC.out]
          have hc3 := hc2.trans (hq.mono hc2.size)
          clear hq
          obtain ⟨v0, v1, v2, rfl, k0, k1, k2, -⟩ := id hD
          obtain ⟨B0, m0, d0, rfl⟩ := k0.len
          obtain ⟨B1, m1, d1, rfl⟩ := k1.len
          obtain ⟨B2, m2, d2, rfl⟩ := k2.len
          clear k0 k1 k2
          refine hK.out _ _ ⟨below_keep hc3 _ _ krb0_0, below_keep hc3 _ _ krb0_1, below_keep hc3 _ _ krb0_2, below_keep hc3 _ _ krb1_0, below_keep hc3 _ _ krb1_1, below_keep hc3 _ _ krb1_2, below_keep hc3 _ _ krb1_3⟩ (fun hHeld => ?_)
          clear hK K
          (try simp only [Act.put, List.getElem_toArray, List.getElem_cons_zero, List.getElem_cons_succ, List.setIfInBounds_toArray, List.set_cons_zero, List.set_cons_succ])
          refine wpAnyH_take (i := 5) (v := ?v3) rfl (by kernel_rfl) (by kernel_rfl) (by kernel_rfl) (fun _ _ _ h => h) (Or.inl ⟨by rfl, ?hy3⟩) hHeld ?rest3
          case hy3 => (intro w' hSw; (try dsimp only at hSw); first | (go_simp; done) | (go_simp; with_reducible rfl))
          simp only [Act.put, List.getElem_toArray, List.getElem_cons_zero, List.getElem_cons_succ, List.setIfInBounds_toArray, List.set_cons_zero, List.set_cons_succ]
          refine wpAnyH_take (i := 6) (v := ?v4) rfl (by kernel_rfl) (by kernel_rfl) (by kernel_rfl) (fun _ _ _ h => h) (Or.inl ⟨by rfl, ?hy4⟩) hHeld ?rest4
          case hy4 => (intro w' hSw; (try dsimp only at hSw); first | (go_simp; done) | (go_simp; with_reducible rfl))
          simp only [Act.put, List.getElem_toArray, List.getElem_cons_zero, List.getElem_cons_succ, List.setIfInBounds_toArray, List.set_cons_zero, List.set_cons_succ]
          refine wpAnyH_take (i := 7) (v := ?v5) rfl (by kernel_rfl) (by kernel_rfl) (by kernel_rfl) (fun _ _ _ h => h) (Or.inl ⟨by rfl, ?hy5⟩) hHeld ?rest5
          case hy5 => (intro w' hSw; (try dsimp only at hSw); first | (go_simp; done) | (go_simp; with_reducible rfl))
          simp only [Act.put, List.getElem_toArray, List.getElem_cons_zero, List.getElem_cons_succ, List.setIfInBounds_toArray, List.set_cons_zero, List.set_cons_succ]
          refine wpAnyH_ready (rs := [8]) (by kernel_rfl) (by simp) ?_
          refine AllReadyH.cons rfl (fun K hK => ?_) AllReadyH.nil
          go_simp
          have hal : Below (u3).heap.size u3 (u3.alloc (.cells #[.slice none 0 0, .slice none 0 0, .slice none 0 0] 27)) := (Below.refl _ _).alloc (Nat.le_refl _) _
          have ts0 := ts0.below FzR.stays hal
          have ts1 := ts1.below FzR.stays hal
          have ts2 := ts2.below OzR.stays hal
          have hD := hD.below hal
          have rg := Row.new u3 27 #[.slice none 0 0, .slice none 0 0, .slice none 0 0]
          have hg : y2.heap.size ≤ u3.heap.size := hc3.size
          have hc4 := hc3.alloc hc3.size (.cells #[.slice none 0 0, .slice none 0 0, .slice none 0 0] 27)
          clear hal
          generalize u3.alloc (.cells #[.slice none 0 0, .slice none 0 0, .slice none 0 0] 27) = u4 at *
          generalize u3.heap.size = g at *
          obtain ⟨⟨r0, r1, r2⟩, ⟨f0, f1, f2⟩⟩ := rg.three
          refine hK.out _ _ ⟨below_keep hc4 _ _ krb0_0, below_keep hc4 _ _ krb0_1, below_keep hc4 _ _ krb0_2, below_keep hc4 _ _ krb1_0, below_keep hc4 _ _ krb1_1, below_keep hc4 _ _ krb1_2, below_keep hc4 _ _ krb1_3⟩ (fun hHeld => ?_)
          clear hK K
          (try simp only [Act.put, List.getElem_toArray, List.getElem_cons_zero, List.getElem_cons_succ, List.setIfInBounds_toArray, List.set_cons_zero, List.set_cons_succ])
          refine wpAnyH_ready (rs := [9]) (by kernel_rfl) (by simp) ?_
          refine AllReadyH.cons rfl (fun K hK => ?_) AllReadyH.nil
          go_simp
          refine hK.out _ _ ⟨cellOff (cellOff (cellOff (below_keep hc4 _ _ krb0_0) (show g ≠ w.heap.size by omega)) (show g ≠ w.heap.size by omega)) (show g ≠ w.heap.size by omega), cellOff (cellOff (cellOff (below_keep hc4 _ _ krb0_1) (show g ≠ w.heap.size by omega)) (show g ≠ w.heap.size by omega)) (show g ≠ w.heap.size by omega), cellOff (cellOff (cellOff (below_keep hc4 _ _ krb0_2) (show g ≠ w.heap.size by omega)) (show g ≠ w.heap.size by omega)) (show g ≠ w.heap.size by omega), cellOff (cellOff (cellOff (below_keep hc4 _ _ krb1_0) (show g ≠ (w.heap.size + 1) by omega)) (show g ≠ (w.heap.size + 1) by omega)) (show g ≠ (w.heap.size + 1) by omega), cellOff (cellOff (cellOff (below_keep hc4 _ _ krb1_1) (show g ≠ (w.heap.size + 1) by omega)) (show g ≠ (w.heap.size + 1) by omega)) (show g ≠ (w.heap.size + 1) by omega), cellOff (cellOff (cellOff (below_keep hc4 _ _ krb1_2) (show g ≠ (w.heap.size + 1) by omega)) (show g ≠ (w.heap.size + 1) by omega)) (show g ≠ (w.heap.size + 1) by omega), cellOff (cellOff (cellOff (below_keep hc4 _ _ krb1_3) (show g ≠ (w.heap.size + 1) by omega)) (show g ≠ (w.heap.size + 1) by omega)) (show g ≠ (w.heap.size + 1) by omega)⟩ (fun hHeld => ?_)
          clear hK K
          (try simp only [Act.put, List.getElem_toArray, List.getElem_cons_zero, List.getElem_cons_succ, List.setIfInBounds_toArray, List.set_cons_zero, List.set_cons_succ])
          refine wpAnyH_take (i := 10) (v := ?v6) rfl (by kernel_rfl) (by kernel_rfl) (by kernel_rfl) (fun _ _ _ h => h) (Or.inl ⟨by rfl, ?hy6⟩) hHeld ?rest6
          case hy6 => (intro w' hSw; (try dsimp only at hSw); first | (go_simp; done) | (go_simp; with_reducible rfl))
          simp only [Act.put, List.getElem_toArray, List.getElem_cons_zero, List.getElem_cons_succ, List.setIfInBounds_toArray, List.set_cons_zero, List.set_cons_succ]
          refine wpAnyH_done (by kernel_rfl) ?_ _
          refine NoPanic.normal ?_
          clear hHeld
          go_wp2_with fail
          go_meet
          case rel => exact ⟨Below.set3 hc4 hg _ _ _, DzBox.store hD rg hg, rfl⟩
        refine AllReadyH.cons rfl (fun K hK => ?_) AllReadyH.nil
        go_simp
        have hal : Below (u2).heap.size u2 (u2.alloc (.cells #[.slice none 0 0, .slice none 0 0, .slice none 0 0] 27)) := (Below.refl _ _).alloc (Nat.le_refl _) _
        have ts0 := ts0.below FzR.stays hal
        have ts1 := ts1.below FzR.stays hal
        have ts2 := ts2.below OzR.stays hal
        have rg := Row.new u2 27 #[.slice none 0 0, .slice none 0 0, .slice none 0 0]
        have hg : y2.heap.size ≤ u2.heap.size := hc2.size
        have hc3 := hc2.alloc hc2.size (.cells #[.slice none 0 0, .slice none 0 0, .slice none 0 0] 27)
        clear hal
        generalize u2.alloc (.cells #[.slice none 0 0, .slice none 0 0, .slice none 0 0] 27) = u3 at *
        generalize u2.heap.size = g at *
        refine hK.out _ _ ⟨below_keep hc3 _ _ krb0_0, below_keep hc3 _ _ krb0_1, below_keep hc3 _ _ krb0_2, below_keep hc3 _ _ krb1_0, below_keep hc3 _ _ krb1_1, below_keep hc3 _ _ krb1_2, below_keep hc3 _ _ krb1_3⟩ (fun hHeld => ?_)
        clear hK K
        (try simp only [Act.put, List.getElem_toArray, List.getElem_cons_zero, List.getElem_cons_succ, List.setIfInBounds_toArray, List.set_cons_zero, List.set_cons_succ])
        refine wpAnyH_ready (rs := [4]) (by kernel_rfl) (by simp) ?_
        refine AllReadyH.cons rfl (fun K hK => ?_) AllReadyH.nil
        go_simp
        go_at_call 21
        refine (specDo x0 x1 As0 ns0 cs0 As1 ns1 cs1 As2 ns2 cs2 _ _ ts0 ts1 ts2 S0.out (by have := HDS.out; omega)).mono ?_
        rintro e u4 ⟨⟨v, rfl, hD⟩, hq⟩
        have ts0 := ts0.below FzR.stays hq
        have ts1 := ts1.below FzR.stays hq
        have ts2 := ts2.below OzR.stays hq
        have rg := rg.below hq
        have hD := hD.mono hc3.size
        rw [← HAW.out] at hD
        rw [← HKC.out]
        have hc4 := hc3.trans (hq.mono hc3.size)
        clear hq
        obtain ⟨v0, v1, v2, rfl, k0, k1, k2, -⟩ := id hD
        obtain ⟨B0, m0, d0, rfl⟩ := k0.len
        obtain ⟨B1, m1, d1, rfl⟩ := k1.len
        obtain ⟨B2, m2, d2, rfl⟩ := k2.len
        clear k0 k1 k2
        obtain ⟨⟨r0, r1, r2⟩, ⟨f0, f1, f2⟩⟩ := rg.three
        refine hK.out _ _ ⟨below_keep hc4 _ _ krb0_0, below_keep hc4 _ _ krb0_1, below_keep hc4 _ _ krb0_2, below_keep hc4 _ _ krb1_0, below_keep hc4 _ _ krb1_1, below_keep hc4 _ _ krb1_2, below_keep hc4 _ _ krb1_3⟩ (fun hHeld => ?_)
        clear hK K
        (try simp only [Act.put, List.getElem_toArray, List.getElem_cons_zero, List.getElem_cons_succ, List.setIfInBounds_toArray, List.set_cons_zero, List.set_cons_succ])
        refine wpAnyH_take (i := 5) (v := ?v7) rfl (by kernel_rfl) (by kernel_rfl) (by kernel_rfl) (fun _ _ _ h => h) (Or.inl ⟨by rfl, ?hy7⟩) hHeld ?rest7
        case hy7 => (intro w' hSw; (try dsimp only at hSw); first | (go_simp; done) | (go_simp; with_reducible rfl))
        simp only [Act.put, List.getElem_toArray, List.getElem_cons_zero, List.getElem_cons_succ, List.setIfInBounds_toArray, List.set_cons_zero, List.set_cons_succ]
        refine wpAnyH_take (i := 6) (v := ?v8) rfl (by kernel_rfl) (by kernel_rfl) (by kernel_rfl) (fun _ _ _ h => h) (Or.inl ⟨by rfl, ?hy8⟩) hHeld ?rest8
        case hy8 => (intro w' hSw; (try dsimp only at hSw); first | (go_simp; done) | (go_simp; with_reducible rfl))
        simp only [Act.put, List.getElem_toArray, List.getElem_cons_zero, List.getElem_cons_succ, List.setIfInBounds_toArray, List.set_cons_zero, List.set_cons_succ]
        refine wpAnyH_take (i := 7) (v := ?v9) rfl (by kernel_rfl) (by kernel_rfl) (by kernel_rfl) (fun _ _ _ h => h) (Or.inl ⟨by rfl, ?hy9⟩) hHeld ?rest9
        case hy9 => (intro w' hSw; (try dsimp only at hSw); first | (go_simp; done) | (go_simp; with_reducible rfl))
        simp only [Act.put, List.getElem_toArray, List.getElem_cons_zero, List.getElem_cons_succ, List.setIfInBounds_toArray, List.set_cons_zero, List.set_cons_succ]
        refine wpAnyH_ready (rs := [9]) (by kernel_rfl) (by simp) ?_
        refine AllReadyH.cons rfl (fun K hK => ?_) AllReadyH.nil
        go_simp
        refine hK.out _ _ ⟨cellOff (cellOff (cellOff (below_keep hc4 _ _ krb0_0) (show g ≠ w.heap.size by omega)) (show g ≠ w.heap.size by omega)) (show g ≠ w.heap.size by omega), cellOff (cellOff (cellOff (below_keep hc4 _ _ krb0_1) (show g ≠ w.heap.size by omega)) (show g ≠ w.heap.size by omega)) (show g ≠ w.heap.size by omega), cellOff (cellOff (cellOff (below_keep hc4 _ _ krb0_2) (show g ≠ w.heap.size by omega)) (show g ≠ w.heap.size by omega)) (show g ≠ w.heap.size by omega), cellOff (cellOff (cellOff (below_keep hc4 _ _ krb1_0) (show g ≠ (w.heap.size + 1) by omega)) (show g ≠ (w.heap.size + 1) by omega)) (show g ≠ (w.heap.size + 1) by omega), cellOff (cellOff (cellOff (below_keep hc4 _ _ krb1_1) (show g ≠ (w.heap.size + 1) by omega)) (show g ≠ (w.heap.size + 1) by omega)) (show g ≠ (w.heap.size + 1) by omega), cellOff (cellOff (cellOff (below_keep hc4 _ _ krb1_2) (show g ≠ (w.heap.size + 1) by omega)) (show g ≠ (w.heap.size + 1) by omega)) (show g ≠ (w.heap.size + 1) by omega), cellOff (cellOff (cellOff (below_keep hc4 _ _ krb1_3) (show g ≠ (w.heap.size + 1) by omega)) (show g ≠ (w.heap.size + 1) by omega)) (show g ≠ (w.heap.size + 1) by omega)⟩ (fun hHeld => ?_)
        clear hK K
        (try simp only [Act.put, List.getElem_toArray, List.getElem_cons_zero, List.getElem_cons_succ, List.setIfInBounds_toArray, List.set_cons_zero, List.set_cons_succ])
        refine wpAnyH_take (i := 10) (v := ?v10) rfl (by kernel_rfl) (by kernel_rfl) (by kernel_rfl) (fun _ _ _ h => h) (Or.inl ⟨by rfl, ?hy10⟩) hHeld ?rest10
        case hy10 => (intro w' hSw; (try dsimp only at hSw); first | (go_simp; done) | (go_simp; with_reducible rfl))
        simp only [Act.put, List.getElem_toArray, List.getElem_cons_zero, List.getElem_cons_succ, List.setIfInBounds_toArray, List.set_cons_zero, List.set_cons_succ]
        refine wpAnyH_done (by kernel_rfl) ?_ _
        refine NoPanic.normal ?_
        clear hHeld
        go_wp2_with fail
        go_meet
        case rel => exact ⟨Below.set3 hc4 hg _ _ _, DzBox.store hD rg hg, rfl⟩
      refine AllReadyH.cons rfl (fun K hK => ?_) AllReadyH.nil
      go_simp
      have hal : Below (u1).heap.size u1 (u1.alloc (.cells #[.slice none 0 0, .slice none 0 0, .slice none 0 0] 27)) := (Below.refl _ _).alloc (Nat.le_refl _) _
      have ts0 := ts0.below FzR.stays hal
      have ts1 := ts1.below FzR.stays hal
      have ts2 := ts2.below OzR.stays hal
      have rg := Row.new u1 27 #[.slice none 0 0, .slice none 0 0, .slice none 0 0]
      have hg : y2.heap.size ≤ u1.heap.size := hc1.size
      have hc2 := hc1.alloc hc1.size (.cells #[.slice none 0 0, .slice none 0 0, .slice none 0 0] 27)
      clear hal
      generalize u1.alloc (.cells #[.slice none 0 0, .slice none 0 0, .slice none 0 0] 27) = u2 at *
      generalize u1.heap.size = g at *
      refine hK.out _ _ ⟨below_keep hc2 _ _ krb0_0, below_keep hc2 _ _ krb0_1, below_keep hc2 _ _ krb0_2, below_keep hc2 _ _ krb1_0, below_keep hc2 _ _ krb1_1, below_keep hc2 _ _ krb1_2, below_keep hc2 _ _ krb1_3⟩ (fun hHeld => ?_)
      clear hK K
      (try simp only [Act.put, List.getElem_toArray, List.getElem_cons_zero, List.getElem_cons_succ, List.setIfInBounds_toArray, List.set_cons_zero, List.set_cons_succ])
      refine wpAnyH_ready (rs := [3]) (by kernel_rfl) (by simp) ?_
      refine AllReadyH.cons rfl (fun K hK => ?_) AllReadyH.nil
      go_simp
      go_at_call 30
      refine (lawsToDOp x1 (fun _ => True) _ S1.out).mono ?_
      rintro e u3 ⟨rfl, hq⟩
      have ts0 := ts0.below FzR.stays hq
      have ts1 := ts1.below FzR.stays hq
      have ts2 := ts2.below OzR.stays hq
      have rg := rg.below hq
      have hc3 := hc2.trans (hq.mono hc2.size)
      clear hq
      refine hK.out _ _ ⟨below_keep hc3 _ _ krb0_0, below_keep hc3 _ _ krb0_1, below_keep hc3 _ _ krb0_2, below_keep hc3 _ _ krb1_0, below_keep hc3 _ _ krb1_1, below_keep hc3 _ _ krb1_2, below_keep hc3 _ _ krb1_3⟩ (fun hHeld => ?_)
      clear hK K
      (try simp only [Act.put, List.getElem_toArray, List.getElem_cons_zero, List.getElem_cons_succ, List.setIfInBounds_toArray, List.set_cons_zero, List.set_cons_succ])
      refine wpAnyH_ready (rs := [4]) (by kernel_rfl) (by simp) ?_
      refine AllReadyH.cons rfl (fun K hK => ?_) AllReadyH.nil
      go_simp
      go_at_call 21
      refine (specDo x0 x1 As0 ns0 cs0 As1 ns1 cs1 As2 ns2 cs2 _ _ ts0 ts1 ts2 S0.out (by have := HDS.out; omega)).mono ?_
      rintro e u4 ⟨⟨v, rfl, hD⟩, hq⟩
      have ts0 := ts0.below FzR.stays hq
      have ts1 := ts1.below FzR.stays hq
      have ts2 := ts2.below OzR.stays hq
      have rg := rg.below hq
      have hD := hD.mono hc3.size
      rw [← HAW.out] at hD
      rw [← HKC.out]
      have hc4 := hc3.trans (hq.mono hc3.size)
      clear hq
      obtain ⟨v0, v1, v2, rfl, k0, k1, k2, -⟩ := id hD
      obtain ⟨B0, m0, d0, rfl⟩ := k0.len
      obtain ⟨B1, m1, d1, rfl⟩ := k1.len
      obtain ⟨B2, m2, d2, rfl⟩ := k2.len
      clear k0 k1 k2
      obtain ⟨⟨r0, r1, r2⟩, ⟨f0, f1, f2⟩⟩ := rg.three
      refine hK.out _ _ ⟨below_keep hc4 _ _ krb0_0, below_keep hc4 _ _ krb0_1, below_keep hc4 _ _ krb0_2, below_keep hc4 _ _ krb1_0, below_keep hc4 _ _ krb1_1, below_keep hc4 _ _ krb1_2, below_keep hc4 _ _ krb1_3⟩ (fun hHeld => ?_)
      clear hK K
      (try simp only [Act.put, List.getElem_toArray, List.getElem_cons_zero, List.getElem_cons_succ, List.setIfInBounds_toArray, List.set_cons_zero, List.set_cons_succ])
      refine wpAnyH_take (i := 5) (v := ?v11) rfl (by kernel_rfl) (by kernel_rfl) (by kernel_rfl) (fun _ _ _ h => h) (Or.inl ⟨by rfl, ?hy11⟩) hHeld ?rest11
      case hy11 => (intro w' hSw; (try dsimp only at hSw); first | (go_simp; done) | (go_simp; with_reducible rfl))
      simp only [Act.put, List.getElem_toArray, List.getElem_cons_zero, List.getElem_cons_succ, List.setIfInBounds_toArray, List.set_cons_zero, List.set_cons_succ]
      refine wpAnyH_take (i := 6) (v := ?v12) rfl (by kernel_rfl) (by kernel_rfl) (by kernel_rfl) (fun _ _ _ h => h) (Or.inl ⟨by rfl, ?hy12⟩) hHeld ?rest12
      case hy12 => (intro w' hSw; (try dsimp only at hSw); first | (go_simp; done) | (go_simp; with_reducible rfl))
      simp only [Act.put, List.getElem_toArray, List.getElem_cons_zero, List.getElem_cons_succ, List.setIfInBounds_toArray, List.set_cons_zero, List.set_cons_succ]
      refine wpAnyH_take (i := 7) (v := ?v13) rfl (by kernel_rfl) (by kernel_rfl) (by kernel_rfl) (fun _ _ _ h => h) (Or.inl ⟨by rfl, ?hy13⟩) hHeld ?rest13
      case hy13 => (intro w' hSw; (try dsimp only at hSw); first | (go_simp; done) | (go_simp; with_reducible rfl))
      simp only [Act.put, List.getElem_toArray, List.getElem_cons_zero, List.getElem_cons_succ, List.setIfInBounds_toArray, List.set_cons_zero, List.set_cons_succ]
      refine wpAnyH_ready (rs := [9]) (by kernel_rfl) (by simp) ?_
      refine AllReadyH.cons rfl (fun K hK => ?_) AllReadyH.nil
      go_simp
      refine hK.out _ _ ⟨cellOff (cellOff (cellOff (below_keep hc4 _ _ krb0_0) (show g ≠ w.heap.size by omega)) (show g ≠ w.heap.size by omega)) (show g ≠ w.heap.size by omega), cellOff (cellOff (cellOff (below_keep hc4 _ _ krb0_1) (show g ≠ w.heap.size by omega)) (show g ≠ w.heap.size by omega)) (show g ≠ w.heap.size by omega), cellOff (cellOff (cellOff (below_keep hc4 _ _ krb0_2) (show g ≠ w.heap.size by omega)) (show g ≠ w.heap.size by omega)) (show g ≠ w.heap.size by omega), cellOff (cellOff (cellOff (below_keep hc4 _ _ krb1_0) (show g ≠ (w.heap.size + 1) by omega)) (show g ≠ (w.heap.size + 1) by omega)) (show g ≠ (w.heap.size + 1) by omega), cellOff (cellOff (cellOff (below_keep hc4 _ _ krb1_1) (show g ≠ (w.heap.size + 1) by omega)) (show g ≠ (w.heap.size + 1) by omega)) (show g ≠ (w.heap.size + 1) by omega), cellOff (cellOff (cellOff (below_keep hc4 _ _ krb1_2) (show g ≠ (w.heap.size + 1) by omega)) (show g ≠ (w.heap.size + 1) by omega)) (show g ≠ (w.heap.size + 1) by omega), cellOff (cellOff (cellOff (below_keep hc4 _ _ krb1_3) (show g ≠ (w.heap.size + 1) by omega)) (show g ≠ (w.heap.size + 1) by omega)) (show g ≠ (w.heap.size + 1) by omega)⟩ (fun hHeld => ?_)
      clear hK K
      (try simp only [Act.put, List.getElem_toArray, List.getElem_cons_zero, List.getElem_cons_succ, List.setIfInBounds_toArray, List.set_cons_zero, List.set_cons_succ])
      refine wpAnyH_take (i := 10) (v := ?v14) rfl (by kernel_rfl) (by kernel_rfl) (by kernel_rfl) (fun _ _ _ h => h) (Or.inl ⟨by rfl, ?hy14⟩) hHeld ?rest14
      case hy14 => (intro w' hSw; (try dsimp only at hSw); first | (go_simp; done) | (go_simp; with_reducible rfl))
      simp only [Act.put, List.getElem_toArray, List.getElem_cons_zero, List.getElem_cons_succ, List.setIfInBounds_toArray, List.set_cons_zero, List.set_cons_succ]
      refine wpAnyH_done (by kernel_rfl) ?_ _
      refine NoPanic.normal ?_
      clear hHeld
      go_wp2_with fail
      go_meet
      case rel => exact ⟨Below.set3 hc4 hg _ _ _, DzBox.store hD rg hg, rfl⟩
    refine AllReadyH.cons rfl (fun K hK => ?_) AllReadyH.nil
    go_simp
    have hal : Below (u0).heap.size u0 (u0.alloc (.cells #[.slice none 0 0, .slice none 0 0, .slice none 0 0] 27)) := (Below.refl _ _).alloc (Nat.le_refl _) _
    have rg := Row.new u0 27 #[.slice none 0 0, .slice none 0 0, .slice none 0 0]
    have hg : y2.heap.size ≤ u0.heap.size := hc0.size
    have hc1 := hc0.alloc hc0.size (.cells #[.slice none 0 0, .slice none 0 0, .slice none 0 0] 27)
    clear hal
    generalize u0.alloc (.cells #[.slice none 0 0, .slice none 0 0, .slice none 0 0] 27) = u1 at *
    generalize u0.heap.size = g at *
    refine hK.out _ _ ⟨below_keep hc1 _ _ krb0_0, below_keep hc1 _ _ krb0_1, below_keep hc1 _ _ krb0_2, below_keep hc1 _ _ krb1_0, below_keep hc1 _ _ krb1_1, below_keep hc1 _ _ krb1_2, below_keep hc1 _ _ krb1_3⟩ (fun hHeld => ?_)
    clear hK K
    (try simp only [Act.put, List.getElem_toArray, List.getElem_cons_zero, List.getElem_cons_succ, List.setIfInBounds_toArray, List.set_cons_zero, List.set_cons_succ])
    refine wpAnyH_ready (rs := [1]) (by kernel_rfl) (by simp) ?_
    refine AllReadyH.cons rfl (fun K hK => ?_) AllReadyH.nil
    go_simp
    go_at_call 27
    refine (lawsToDisk x0 A0_0 n0_0 c0_0 A0_1 n0_1 c0_1 A0_2 n0_2 c0_2 _ _ (h0_0.below FzR.stays (hb.trans (hc1.mono hb.size))) (h0_1.below FzR.stays (hb.trans (hc1.mono hb.size))) (h0_2.below OzR.stays (hb.trans (hc1.mono hb.size))) S0.out).mono ?_
    rintro e u2 ⟨cs, rfl, hR, hq⟩
    obtain ⟨As0, ns0, cs0, As1, ns1, cs1, As2, ns2, cs2, rfl, ts0, ts1, ts2, -⟩ := hR
    have rg := rg.below hq
    have hc2 := hc1.trans (hq.mono hc1.size)
    clear hq
    refine hK.out _ _ ⟨below_keep hc2 _ _ krb0_0, below_keep hc2 _ _ krb0_1, below_keep hc2 _ _ krb0_2, below_keep hc2 _ _ krb1_0, below_keep hc2 _ _ krb1_1, below_keep hc2 _ _ krb1_2, below_keep hc2 _ _ krb1_3⟩ (fun hHeld => ?_)
    clear hK K
    (try simp only [Act.put, List.getElem_toArray, List.getElem_cons_zero, List.getElem_cons_succ, List.setIfInBounds_toArray, List.set_cons_zero, List.set_cons_succ])
    refine wpAnyH_ready (rs := [3]) (by kernel_rfl) (by simp) ?_
    refine AllReadyH.cons rfl (fun K hK => ?_) AllReadyH.nil
    go_simp
    go_at_call 30
    refine (lawsToDOp x1 (fun _ => True) _ S1.out).mono ?_
    rintro e u3 ⟨rfl, hq⟩
    have ts0 := ts0.below FzR.stays hq
    have ts1 := ts1.below FzR.stays hq
    have ts2 := ts2.below OzR.stays hq
    have rg := rg.below hq
    have hc3 := hc2.trans (hq.mono hc2.size)
    clear hq
    refine hK.out _ _ ⟨below_keep hc3 _ _ krb0_0, below_keep hc3 _ _ krb0_1, below_keep hc3 _ _ krb0_2, below_keep hc3 _ _ krb1_0, below_keep hc3 _ _ krb1_1, below_keep hc3 _ _ krb1_2, below_keep hc3 _ _ krb1_3⟩ (fun hHeld => ?_)
    clear hK K
    (try simp only [Act.put, List.getElem_toArray, List.getElem_cons_zero, List.getElem_cons_succ, List.setIfInBounds_toArray, List.set_cons_zero, List.set_cons_succ])
    refine wpAnyH_ready (rs := [4]) (by kernel_rfl) (by simp) ?_
    refine AllReadyH.cons rfl (fun K hK => ?_) AllReadyH.nil
    go_simp
    go_at_call 21
    refine (specDo x0 x1 As0 ns0 cs0 As1 ns1 cs1 As2 ns2 cs2 _ _ ts0 ts1 ts2 S0.out (by have := HDS.out; omega)).mono ?_
    rintro e u4 ⟨⟨v, rfl, hD⟩, hq⟩
    have ts0 := ts0.below FzR.stays hq
    have ts1 := ts1.below FzR.stays hq
    have ts2 := ts2.below OzR.stays hq
    have rg := rg.below hq
    have hD := hD.mono hc3.size
    rw [← HAW.out] at hD
    rw [← HKC.out]
    have hc4 := hc3.trans (hq.mono hc3.size)
    clear hq
    obtain ⟨v0, v1, v2, rfl, k0, k1, k2, -⟩ := id hD
    obtain ⟨B0, m0, d0, rfl⟩ := k0.len
    obtain ⟨B1, m1, d1, rfl⟩ := k1.len
    obtain ⟨B2, m2, d2, rfl⟩ := k2.len
    clear k0 k1 k2
    obtain ⟨⟨r0, r1, r2⟩, ⟨f0, f1, f2⟩⟩ := rg.three
    refine hK.out _ _ ⟨below_keep hc4 _ _ krb0_0, below_keep hc4 _ _ krb0_1, below_keep hc4 _ _ krb0_2, below_keep hc4 _ _ krb1_0, below_keep hc4 _ _ krb1_1, below_keep hc4 _ _ krb1_2, below_keep hc4 _ _ krb1_3⟩ (fun hHeld => ?_)
    clear hK K
    (try simp only [Act.put, List.getElem_toArray, List.getElem_cons_zero, List.getElem_cons_succ, List.setIfInBounds_toArray, List.set_cons_zero, List.set_cons_succ])
    refine wpAnyH_take (i := 5) (v := ?v15) rfl (by kernel_rfl) (by kernel_rfl) (by kernel_rfl) (fun _ _ _ h => h) (Or.inl ⟨by rfl, ?hy15⟩) hHeld ?rest15
    case hy15 => (intro w' hSw; (try dsimp only at hSw); first | (go_simp; done) | (go_simp; with_reducible rfl))
    simp only [Act.put, List.getElem_toArray, List.getElem_cons_zero, List.getElem_cons_succ, List.setIfInBounds_toArray, List.set_cons_zero, List.set_cons_succ]
    refine wpAnyH_take (i := 6) (v := ?v16) rfl (by kernel_rfl) (by kernel_rfl) (by kernel_rfl) (fun _ _ _ h => h) (Or.inl ⟨by rfl, ?hy16⟩) hHeld ?rest16
    case hy16 => (intro w' hSw; (try dsimp only at hSw); first | (go_simp; done) | (go_simp; with_reducible rfl))
    simp only [Act.put, List.getElem_toArray, List.getElem_cons_zero, List.getElem_cons_succ, List.setIfInBounds_toArray, List.set_cons_zero, List.set_cons_succ]
    refine wpAnyH_take (i := 7) (v := ?v17) rfl (by kernel_rfl) (by kernel_rfl) (by kernel_rfl) (fun _ _ _ h => h) (Or.inl ⟨by rfl, ?hy17⟩) hHeld ?rest17
    case hy17 => (intro w' hSw; (try dsimp only at hSw); first | (go_simp; done) | (go_simp; with_reducible rfl))
    simp only [Act.put, List.getElem_toArray, List.getElem_cons_zero, List.getElem_cons_succ, List.setIfInBounds_toArray, List.set_cons_zero, List.set_cons_succ]
    refine wpAnyH_ready (rs := [9]) (by kernel_rfl) (by simp) ?_
    refine AllReadyH.cons rfl (fun K hK => ?_) AllReadyH.nil
    go_simp
    refine hK.out _ _ ⟨cellOff (cellOff (cellOff (below_keep hc4 _ _ krb0_0) (show g ≠ w.heap.size by omega)) (show g ≠ w.heap.size by omega)) (show g ≠ w.heap.size by omega), cellOff (cellOff (cellOff (below_keep hc4 _ _ krb0_1) (show g ≠ w.heap.size by omega)) (show g ≠ w.heap.size by omega)) (show g ≠ w.heap.size by omega), cellOff (cellOff (cellOff (below_keep hc4 _ _ krb0_2) (show g ≠ w.heap.size by omega)) (show g ≠ w.heap.size by omega)) (show g ≠ w.heap.size by omega), cellOff (cellOff (cellOff (below_keep hc4 _ _ krb1_0) (show g ≠ (w.heap.size + 1) by omega)) (show g ≠ (w.heap.size + 1) by omega)) (show g ≠ (w.heap.size + 1) by omega), cellOff (cellOff (cellOff (below_keep hc4 _ _ krb1_1) (show g ≠ (w.heap.size + 1) by omega)) (show g ≠ (w.heap.size + 1) by omega)) (show g ≠ (w.heap.size + 1) by omega), cellOff (cellOff (cellOff (below_keep hc4 _ _ krb1_2) (show g ≠ (w.heap.size + 1) by omega)) (show g ≠ (w.heap.size + 1) by omega)) (show g ≠ (w.heap.size + 1) by omega), cellOff (cellOff (cellOff (below_keep hc4 _ _ krb1_3) (show g ≠ (w.heap.size + 1) by omega)) (show g ≠ (w.heap.size + 1) by omega)) (show g ≠ (w.heap.size + 1) by omega)⟩ (fun hHeld => ?_)
    clear hK K
    (try simp only [Act.put, List.getElem_toArray, List.getElem_cons_zero, List.getElem_cons_succ, List.setIfInBounds_toArray, List.set_cons_zero, List.set_cons_succ])
    refine wpAnyH_take (i := 10) (v := ?v18) rfl (by kernel_rfl) (by kernel_rfl) (by kernel_rfl) (fun _ _ _ h => h) (Or.inl ⟨by rfl, ?hy18⟩) hHeld ?rest18
    case hy18 => (intro w' hSw; (try dsimp only at hSw); first | (go_simp; done) | (go_simp; with_reducible rfl))
    simp only [Act.put, List.getElem_toArray, List.getElem_cons_zero, List.getElem_cons_succ, List.setIfInBounds_toArray, List.set_cons_zero, List.set_cons_succ]
    refine wpAnyH_done (by kernel_rfl) ?_ _
    refine NoPanic.normal ?_
    clear hHeld
    go_wp2_with fail
    go_meet
    case rel => exact ⟨Below.set3 hc4 hg _ _ _, DzBox.store hD rg hg, rfl⟩
  case rest =>
    obtain ⟨hbc, hbx, rfl⟩ := hcut
    obtain ⟨gw, v0, v1, v2, rfl, hgw, rw_, hD⟩ := hbx
    have rb0 := rb0.below hbc
    have rb1 := rb1.below hbc
    have hb := hb.trans (hbc.mono hb.size)
    have HLT := Lib.hid (show w.heap.size + 1 < wc.heap.size from Nat.lt_of_lt_of_le HLT.out hbc.size)
    have HSC := Lib.hid hbc.size
    obtain ⟨Aw0, cw0, Aw1, cw1, Aw2, cw2, bw0, bw1, bw2, ev, tw0, tw1, tw2, fw0, fw1, fw2, ndw, ltw, nrw⟩ := hD.openT FIT.out
    injection ev with ev
    obtain ⟨rfl, rfl, rfl⟩ : v0 = _ ∧ v1 = _ ∧ v2 = _ := by injection ev with ev; injection ev with e0 ev; injection ev with e1 ev; injection ev with e2 ev; exact ⟨e0, e1, e2⟩
    clear hD hbc
    have hglw := Lib.hid (lt_of_block rw_)
    have hgbw := Lib.hid hgw
    clear hgw
    generalize hwc : wc = y3 at *
    clear hwc wc
    clear fw0
    clear fw1
    clear fw2
    have LTW := Lib.hid ltw
    clear ndw nrw ltw
    have HSW := Lib.hid HSC.out
    have HGB := Lib.hid (show w.heap.size + 1 < y3.heap.size from HLT.out)
    obtain ⟨⟨krb0_0, krb0_1, krb0_2⟩, -⟩ := rb0.three
    go_wp2_with fail
    refine (lawsToDisk x0 A0_0 n0_0 c0_0 A0_1 n0_1 c0_1 A0_2 n0_2 c0_2 _ _ (h0_0.below FzR.stays hb) (h0_1.below FzR.stays hb) (h0_2.below OzR.stays hb) S0.out).mono ?_
    rintro e y4 ⟨csx, rfl, hRx, hq4⟩
    obtain ⟨Ax0, nx0, cx0, Ax1, nx1, cx1, Ax2, nx2, cx2, rfl, tx0, tx1, tx2, -⟩ := hRx
    have tw0 := tw0.below FzR.stays hq4
    have tw1 := tw1.below FzR.stays hq4
    have tw2 := tw2.below OzR.stays hq4
    have rb0 := rb0.below hq4
    have rb1 := rb1.below hq4
    have rw_ := rw_.below hq4
    have hb := hb.trans (hq4.mono hb.size)
    clear krb0_0 krb0_1 krb0_2
    obtain ⟨⟨krb0_0, krb0_1, krb0_2⟩, -⟩ := rb0.three
    have HBE := Lib.hid hq4.size
    have M := mayMark_okF (G := y3.heap.size) (Nat.le_refl y4.heap.size)
    have nx := Lib.hid (show nx0 ≤ 1048576 ∧ nx1 ≤ 1048576 ∧ nx2 ≤ 1048576 from ⟨by rw [← tx0.1]; exact (sz_lens S0.out).1, by rw [← tx1.1]; exact (sz_lens S0.out).2.1, by rw [← tx2.1]; exact (sz_lens S0.out).2.2⟩)
    have hal := (Below.refl y4.heap.size y4).alloc (Nat.le_refl _) (.cells #[.slice Ax0 nx0 cx0, .slice Ax1 nx1 cx1, .slice Ax2 nx2 cx2] 27)
    have tw0 := tw0.below FzR.stays hal
    have tw1 := tw1.below FzR.stays hal
    have tw2 := tw2.below OzR.stays hal
    have tx0 := tx0.below FzR.stays hal
    have tx1 := tx1.below FzR.stays hal
    have tx2 := tx2.below OzR.stays hal
    have M := M.below hal
    have rb0 := rb0.below hal
    have rb1 := rb1.below hal
    have rw_ := rw_.below hal
    have rx_ := Row.new y4 27 #[.slice Ax0 nx0 cx0, .slice Ax1 nx1 cx1, .slice Ax2 nx2 cx2]
    have hb := hb.alloc hb.size (.cells #[.slice Ax0 nx0 cx0, .slice Ax1 nx1 cx1, .slice Ax2 nx2 cx2] 27)
    have hs_rx_ := Lib.hid (show y4.heap.size < (y4.alloc (.cells #[.slice Ax0 nx0 cx0, .slice Ax1 nx1 cx1, .slice Ax2 nx2 cx2] 27)).heap.size by simp)
    go_upto_region 10 with fail
    generalize y4.alloc (.cells #[.slice Ax0 nx0 cx0, .slice Ax1 nx1 cx1, .slice Ax2 nx2 cx2] 27) = z5 at *
    clear hal
    have HLT := Lib.hid (show w.heap.size + 1 < z5.heap.size from Nat.lt_trans (Nat.lt_of_lt_of_le HGB.out HBE.out) hs_rx_.out)
    generalize y4.heap.size = gx at *
    go_upto_region 10 with fail
    have hy0 : w.heap.size + 1 < z5.heap.size := HLT.out
    have hy1 := hs_rx_.out
    go_cut [9, 10] from 36 to 42 (fun s0 s1 wx => Below z5.heap.size z5 wx ∧ DzBox wx z5.heap.size s0 aw ∧ s1 = .int .i64 kc)
    case first =>
      obtain ⟨⟨krx__0, krx__1, krx__2⟩, -⟩ := rx_.three
      obtain ⟨⟨krb1_0, krb1_1, krb1_2, krb1_3⟩, -⟩ := rb1.all4
      have hc0 : Below z5.heap.size z5 z5.drew := (Below.refl _ z5).drew
      refine wp_region_noPanic ?_
      refine wp_region_held_drew (S := (fun w' => w'.cell? ⟨gx, 0, none⟩ = some (.slice Ax0 nx0 cx0) ∧ w'.cell? ⟨gx, 1, none⟩ = some (.slice Ax1 nx1 cx1) ∧ w'.cell? ⟨gx, 2, none⟩ = some (.slice Ax2 nx2 cx2) ∧ w'.cell? ⟨(w.heap.size + 1), 0, none⟩ = some (.int .i64 x1.kind) ∧ w'.cell? ⟨(w.heap.size + 1), 1, none⟩ = some (.string x1.name) ∧ w'.cell? ⟨(w.heap.size + 1), 2, none⟩ = some (.string x1.to) ∧ w'.cell? ⟨(w.heap.size + 1), 3, none⟩ = some (.string x1.data))) (by kernel_rfl) ⟨krx__0, krx__1, krx__2, krb1_0, krb1_1, krb1_2, krb1_3⟩ (fun hHeld => ?_)
      generalize z5.drew = u0 at *
      refine wpAnyH_take (i := 0) (v := ?v19) rfl (by kernel_rfl) (by kernel_rfl) (by kernel_rfl) (fun _ _ _ h => h) (Or.inl ⟨by rfl, ?hy19⟩) hHeld ?rest19
      case hy19 => (intro w' hSw; (try dsimp only at hSw); first | (go_simp; done) | (go_simp; with_reducible rfl))
      simp only [Act.put, List.getElem_toArray, List.getElem_cons_zero, List.getElem_cons_succ, List.setIfInBounds_toArray, List.set_cons_zero, List.set_cons_succ]
      refine wpAnyH_take (i := 1) (v := ?v20) rfl (by kernel_rfl) (by kernel_rfl) (by kernel_rfl) (fun _ _ _ h => h) (Or.inl ⟨by rfl, ?hy20⟩) hHeld ?rest20
      case hy20 => (intro w' hSw; (try dsimp only at hSw); first | (go_simp; done) | (go_simp; with_reducible rfl))
      simp only [Act.put, List.getElem_toArray, List.getElem_cons_zero, List.getElem_cons_succ, List.setIfInBounds_toArray, List.set_cons_zero, List.set_cons_succ]
      refine wpAnyH_ready (rs := [2, 7]) (by kernel_rfl) (by simp) ?_
      refine AllReadyH.cons rfl (fun K hK => ?_) ?_
      · go_simp
        go_at_call 30
        refine (lawsToDOp x1 (fun _ => True) _ S1.out).mono ?_
        rintro e u1 ⟨rfl, hq⟩
        have hc1 := hc0.trans (hq.mono hc0.size)
        clear hq
        refine hK.out _ _ ⟨below_keep hc1 _ _ krx__0, below_keep hc1 _ _ krx__1, below_keep hc1 _ _ krx__2, below_keep hc1 _ _ krb1_0, below_keep hc1 _ _ krb1_1, below_keep hc1 _ _ krb1_2, below_keep hc1 _ _ krb1_3⟩ (fun hHeld => ?_)
        clear hK K
        (try simp only [Act.put, List.getElem_toArray, List.getElem_cons_zero, List.getElem_cons_succ, List.setIfInBounds_toArray, List.set_cons_zero, List.set_cons_succ])
        refine wpAnyH_ready (rs := [3, 7]) (by kernel_rfl) (by simp) ?_
        refine AllReadyH.cons rfl (fun K hK => ?_) ?_
        · go_simp
          go_at_call 20
          refine (implDo x0 x1 Ax0 nx0 cx0 Ax1 nx1 cx1 Ax2 nx2 cx2 _ _ (tx0.below FzR.stays (hc1.mono (Nat.le_refl _))) (tx1.below FzR.stays (hc1.mono (Nat.le_refl _))) (tx2.below OzR.stays (hc1.mono (Nat.le_refl _))) S0.out (by have := HDS.out; omega)).mono ?_
          rintro e u2 ⟨⟨v, rfl, hD⟩, hq⟩
          have hD := hD.mono hc1.size
          rw [← HAW.out] at hD
          rw [← HKC.out]
          have hc2 := hc1.trans (hq.mono hc1.size)
          clear hq
          obtain ⟨v0, v1, v2, rfl, k0, k1, k2, -⟩ := id hD
          obtain ⟨B0, m0, d0, rfl⟩ := k0.len
          obtain ⟨B1, m1, d1, rfl⟩ := k1.len
          obtain ⟨B2, m2, d2, rfl⟩ := k2.len
          clear k0 k1 k2
          refine hK.out _ _ ⟨below_keep hc2 _ _ krx__0, below_keep hc2 _ _ krx__1, below_keep hc2 _ _ krx__2, below_keep hc2 _ _ krb1_0, below_keep hc2 _ _ krb1_1, below_keep hc2 _ _ krb1_2, below_keep hc2 _ _ krb1_3⟩ (fun hHeld => ?_)
          clear hK K
          (try simp only [Act.put, List.getElem_toArray, List.getElem_cons_zero, List.getElem_cons_succ, List.setIfInBounds_toArray, List.set_cons_zero, List.set_cons_succ])
          refine wpAnyH_take (i := 4) (v := ?v21) rfl (by kernel_rfl) (by kernel_rfl) (by kernel_rfl) (fun _ _ _ h => h) (Or.inl ⟨by rfl, ?hy21⟩) hHeld ?rest21
          case hy21 => (intro w' hSw; (try dsimp only at hSw); first | (go_simp; done) | (go_simp; with_reducible rfl))
          simp only [Act.put, List.getElem_toArray, List.getElem_cons_zero, List.getElem_cons_succ, List.setIfInBounds_toArray, List.set_cons_zero, List.set_cons_succ]
          refine wpAnyH_take (i := 5) (v := ?v22) rfl (by kernel_rfl) (by kernel_rfl) (by kernel_rfl) (fun _ _ _ h => h) (Or.inl ⟨by rfl, ?hy22⟩) hHeld ?rest22
          case hy22 => (intro w' hSw; (try dsimp only at hSw); first | (go_simp; done) | (go_simp; with_reducible rfl))
          simp only [Act.put, List.getElem_toArray, List.getElem_cons_zero, List.getElem_cons_succ, List.setIfInBounds_toArray, List.set_cons_zero, List.set_cons_succ]
          refine wpAnyH_take (i := 6) (v := ?v23) rfl (by kernel_rfl) (by kernel_rfl) (by kernel_rfl) (fun _ _ _ h => h) (Or.inl ⟨by rfl, ?hy23⟩) hHeld ?rest23
          case hy23 => (intro w' hSw; (try dsimp only at hSw); first | (go_simp; done) | (go_simp; with_reducible rfl))
          simp only [Act.put, List.getElem_toArray, List.getElem_cons_zero, List.getElem_cons_succ, List.setIfInBounds_toArray, List.set_cons_zero, List.set_cons_succ]
          refine wpAnyH_ready (rs := [7]) (by kernel_rfl) (by simp) ?_
          refine AllReadyH.cons rfl (fun K hK => ?_) AllReadyH.nil
          go_simp
          have hal : Below (u2).heap.size u2 (u2.alloc (.cells #[.slice none 0 0, .slice none 0 0, .slice none 0 0] 27)) := (Below.refl _ _).alloc (Nat.le_refl _) _
          have hD := hD.below hal
          have rg := Row.new u2 27 #[.slice none 0 0, .slice none 0 0, .slice none 0 0]
          have hg : z5.heap.size ≤ u2.heap.size := hc2.size
          have hc3 := hc2.alloc hc2.size (.cells #[.slice none 0 0, .slice none 0 0, .slice none 0 0] 27)
          clear hal
          generalize u2.alloc (.cells #[.slice none 0 0, .slice none 0 0, .slice none 0 0] 27) = u3 at *
          generalize u2.heap.size = g at *
          obtain ⟨⟨r0, r1, r2⟩, ⟨f0, f1, f2⟩⟩ := rg.three
          refine hK.out _ _ ⟨below_keep hc3 _ _ krx__0, below_keep hc3 _ _ krx__1, below_keep hc3 _ _ krx__2, below_keep hc3 _ _ krb1_0, below_keep hc3 _ _ krb1_1, below_keep hc3 _ _ krb1_2, below_keep hc3 _ _ krb1_3⟩ (fun hHeld => ?_)
          clear hK K
          (try simp only [Act.put, List.getElem_toArray, List.getElem_cons_zero, List.getElem_cons_succ, List.setIfInBounds_toArray, List.set_cons_zero, List.set_cons_succ])
          refine wpAnyH_ready (rs := [8]) (by kernel_rfl) (by simp) ?_
          refine AllReadyH.cons rfl (fun K hK => ?_) AllReadyH.nil
          go_simp
          refine hK.out _ _ ⟨cellOff (cellOff (cellOff (below_keep hc3 _ _ krx__0) (show g ≠ gx by omega)) (show g ≠ gx by omega)) (show g ≠ gx by omega), cellOff (cellOff (cellOff (below_keep hc3 _ _ krx__1) (show g ≠ gx by omega)) (show g ≠ gx by omega)) (show g ≠ gx by omega), cellOff (cellOff (cellOff (below_keep hc3 _ _ krx__2) (show g ≠ gx by omega)) (show g ≠ gx by omega)) (show g ≠ gx by omega), cellOff (cellOff (cellOff (below_keep hc3 _ _ krb1_0) (show g ≠ (w.heap.size + 1) by omega)) (show g ≠ (w.heap.size + 1) by omega)) (show g ≠ (w.heap.size + 1) by omega), cellOff (cellOff (cellOff (below_keep hc3 _ _ krb1_1) (show g ≠ (w.heap.size + 1) by omega)) (show g ≠ (w.heap.size + 1) by omega)) (show g ≠ (w.heap.size + 1) by omega), cellOff (cellOff (cellOff (below_keep hc3 _ _ krb1_2) (show g ≠ (w.heap.size + 1) by omega)) (show g ≠ (w.heap.size + 1) by omega)) (show g ≠ (w.heap.size + 1) by omega), cellOff (cellOff (cellOff (below_keep hc3 _ _ krb1_3) (show g ≠ (w.heap.size + 1) by omega)) (show g ≠ (w.heap.size + 1) by omega)) (show g ≠ (w.heap.size + 1) by omega)⟩ (fun hHeld => ?_)
          clear hK K
          (try simp only [Act.put, List.getElem_toArray, List.getElem_cons_zero, List.getElem_cons_succ, List.setIfInBounds_toArray, List.set_cons_zero, List.set_cons_succ])
          refine wpAnyH_take (i := 9) (v := ?v24) rfl (by kernel_rfl) (by kernel_rfl) (by kernel_rfl) (fun _ _ _ h => h) (Or.inl ⟨by rfl, ?hy24⟩) hHeld ?rest24
          case hy24 => (intro w' hSw; (try dsimp only at hSw); first | (go_simp; done) | (go_simp; with_reducible rfl))
          simp only [Act.put, List.getElem_toArray, List.getElem_cons_zero, List.getElem_cons_succ, List.setIfInBounds_toArray, List.set_cons_zero, List.set_cons_succ]
          refine wpAnyH_done (by kernel_rfl) ?_ _
          refine NoPanic.normal ?_
          clear hHeld
          go_wp2_with fail
          go_meet
          case rel => exact ⟨Below.set3 hc3 hg _ _ _, DzBox.store hD rg hg, rfl⟩
        refine AllReadyH.cons rfl (fun K hK => ?_) AllReadyH.nil
        go_simp
        have hal : Below (u1).heap.size u1 (u1.alloc (.cells #[.slice none 0 0, .slice none 0 0, .slice none 0 0] 27)) := (Below.refl _ _).alloc (Nat.le_refl _) _
        have rg := Row.new u1 27 #[.slice none 0 0, .slice none 0 0, .slice none 0 0]
        have hg : z5.heap.size ≤ u1.heap.size := hc1.size
        have hc2 := hc1.alloc hc1.size (.cells #[.slice none 0 0, .slice none 0 0, .slice none 0 0] 27)
        clear hal
        generalize u1.alloc (.cells #[.slice none 0 0, .slice none 0 0, .slice none 0 0] 27) = u2 at *
        generalize u1.heap.size = g at *
        refine hK.out _ _ ⟨below_keep hc2 _ _ krx__0, below_keep hc2 _ _ krx__1, below_keep hc2 _ _ krx__2, below_keep hc2 _ _ krb1_0, below_keep hc2 _ _ krb1_1, below_keep hc2 _ _ krb1_2, below_keep hc2 _ _ krb1_3⟩ (fun hHeld => ?_)
        clear hK K
        (try simp only [Act.put, List.getElem_toArray, List.getElem_cons_zero, List.getElem_cons_succ, List.setIfInBounds_toArray, List.set_cons_zero, List.set_cons_succ])
        refine wpAnyH_ready (rs := [3]) (by kernel_rfl) (by simp) ?_
        refine AllReadyH.cons rfl (fun K hK => ?_) AllReadyH.nil
        go_simp
        go_at_call 20
        refine (implDo x0 x1 Ax0 nx0 cx0 Ax1 nx1 cx1 Ax2 nx2 cx2 _ _ (tx0.below FzR.stays (hc2.mono (Nat.le_refl _))) (tx1.below FzR.stays (hc2.mono (Nat.le_refl _))) (tx2.below OzR.stays (hc2.mono (Nat.le_refl _))) S0.out (by have := HDS.out; omega)).mono ?_
        rintro e u3 ⟨⟨v, rfl, hD⟩, hq⟩
        have rg := rg.below hq
        have hD := hD.mono hc2.size
        rw [← HAW.out] at hD
        rw [← HKC.out]
        have hc3 := hc2.trans (hq.mono hc2.size)
        clear hq
        obtain ⟨v0, v1, v2, rfl, k0, k1, k2, -⟩ := id hD
        obtain ⟨B0, m0, d0, rfl⟩ := k0.len
        obtain ⟨B1, m1, d1, rfl⟩ := k1.len
        obtain ⟨B2, m2, d2, rfl⟩ := k2.len
        clear k0 k1 k2
        obtain ⟨⟨r0, r1, r2⟩, ⟨f0, f1, f2⟩⟩ := rg.three
        refine hK.out _ _ ⟨below_keep hc3 _ _ krx__0, below_keep hc3 _ _ krx__1, below_keep hc3 _ _ krx__2, below_keep hc3 _ _ krb1_0, below_keep hc3 _ _ krb1_1, below_keep hc3 _ _ krb1_2, below_keep hc3 _ _ krb1_3⟩ (fun hHeld => ?_)
        clear hK K
        (try simp only [Act.put, List.getElem_toArray, List.getElem_cons_zero, List.getElem_cons_succ, List.setIfInBounds_toArray, List.set_cons_zero, List.set_cons_succ])
        refine wpAnyH_take (i := 4) (v := ?v25) rfl (by kernel_rfl) (by kernel_rfl) (by kernel_rfl) (fun _ _ _ h => h) (Or.inl ⟨by rfl, ?hy25⟩) hHeld ?rest25
        case hy25 => (intro w' hSw; (try dsimp only at hSw); first | (go_simp; done) | (go_simp; with_reducible rfl))
        simp only [Act.put, List.getElem_toArray, List.getElem_cons_zero, List.getElem_cons_succ, List.setIfInBounds_toArray, List.set_cons_zero, List.set_cons_succ]
        refine wpAnyH_take (i := 5) (v := ?v26) rfl (by kernel_rfl) (by kernel_rfl) (by kernel_rfl) (fun _ _ _ h => h) (Or.inl ⟨by rfl, ?hy26⟩) hHeld ?rest26
        case hy26 => (intro w' hSw; (try dsimp only at hSw); first | (go_simp; done) | (go_simp; with_reducible rfl))
        simp only [Act.put, List.getElem_toArray, List.getElem_cons_zero, List.getElem_cons_succ, List.setIfInBounds_toArray, List.set_cons_zero, List.set_cons_succ]
        refine wpAnyH_take (i := 6) (v := ?v27) rfl (by kernel_rfl) (by kernel_rfl) (by kernel_rfl) (fun _ _ _ h => h) (Or.inl ⟨by rfl, ?hy27⟩) hHeld ?rest27
        case hy27 => (intro w' hSw; (try dsimp only at hSw); first | (go_simp; done) | (go_simp; with_reducible rfl))
        simp only [Act.put, List.getElem_toArray, List.getElem_cons_zero, List.getElem_cons_succ, List.setIfInBounds_toArray, List.set_cons_zero, List.set_cons_succ]
        refine wpAnyH_ready (rs := [8]) (by kernel_rfl) (by simp) ?_
        refine AllReadyH.cons rfl (fun K hK => ?_) AllReadyH.nil
        go_simp
        refine hK.out _ _ ⟨cellOff (cellOff (cellOff (below_keep hc3 _ _ krx__0) (show g ≠ gx by omega)) (show g ≠ gx by omega)) (show g ≠ gx by omega), cellOff (cellOff (cellOff (below_keep hc3 _ _ krx__1) (show g ≠ gx by omega)) (show g ≠ gx by omega)) (show g ≠ gx by omega), cellOff (cellOff (cellOff (below_keep hc3 _ _ krx__2) (show g ≠ gx by omega)) (show g ≠ gx by omega)) (show g ≠ gx by omega), cellOff (cellOff (cellOff (below_keep hc3 _ _ krb1_0) (show g ≠ (w.heap.size + 1) by omega)) (show g ≠ (w.heap.size + 1) by omega)) (show g ≠ (w.heap.size + 1) by omega), cellOff (cellOff (cellOff (below_keep hc3 _ _ krb1_1) (show g ≠ (w.heap.size + 1) by omega)) (show g ≠ (w.heap.size + 1) by omega)) (show g ≠ (w.heap.size + 1) by omega), cellOff (cellOff (cellOff (below_keep hc3 _ _ krb1_2) (show g ≠ (w.heap.size + 1) by omega)) (show g ≠ (w.heap.size + 1) by omega)) (show g ≠ (w.heap.size + 1) by omega), cellOff (cellOff (cellOff (below_keep hc3 _ _ krb1_3) (show g ≠ (w.heap.size + 1) by omega)) (show g ≠ (w.heap.size + 1) by omega)) (show g ≠ (w.heap.size + 1) by omega)⟩ (fun hHeld => ?_)
        clear hK K
        (try simp only [Act.put, List.getElem_toArray, List.getElem_cons_zero, List.getElem_cons_succ, List.setIfInBounds_toArray, List.set_cons_zero, List.set_cons_succ])
        refine wpAnyH_take (i := 9) (v := ?v28) rfl (by kernel_rfl) (by kernel_rfl) (by kernel_rfl) (fun _ _ _ h => h) (Or.inl ⟨by rfl, ?hy28⟩) hHeld ?rest28
        case hy28 => (intro w' hSw; (try dsimp only at hSw); first | (go_simp; done) | (go_simp; with_reducible rfl))
        simp only [Act.put, List.getElem_toArray, List.getElem_cons_zero, List.getElem_cons_succ, List.setIfInBounds_toArray, List.set_cons_zero, List.set_cons_succ]
        refine wpAnyH_done (by kernel_rfl) ?_ _
        refine NoPanic.normal ?_
        clear hHeld
        go_wp2_with fail
        go_meet
        case rel => exact ⟨Below.set3 hc3 hg _ _ _, DzBox.store hD rg hg, rfl⟩
      refine AllReadyH.cons rfl (fun K hK => ?_) AllReadyH.nil
      go_simp
      have hal : Below (u0).heap.size u0 (u0.alloc (.cells #[.slice none 0 0, .slice none 0 0, .slice none 0 0] 27)) := (Below.refl _ _).alloc (Nat.le_refl _) _
      have rg := Row.new u0 27 #[.slice none 0 0, .slice none 0 0, .slice none 0 0]
      have hg : z5.heap.size ≤ u0.heap.size := hc0.size
      have hc1 := hc0.alloc hc0.size (.cells #[.slice none 0 0, .slice none 0 0, .slice none 0 0] 27)
      clear hal
      generalize u0.alloc (.cells #[.slice none 0 0, .slice none 0 0, .slice none 0 0] 27) = u1 at *
      generalize u0.heap.size = g at *
      refine hK.out _ _ ⟨below_keep hc1 _ _ krx__0, below_keep hc1 _ _ krx__1, below_keep hc1 _ _ krx__2, below_keep hc1 _ _ krb1_0, below_keep hc1 _ _ krb1_1, below_keep hc1 _ _ krb1_2, below_keep hc1 _ _ krb1_3⟩ (fun hHeld => ?_)
      clear hK K
      (try simp only [Act.put, List.getElem_toArray, List.getElem_cons_zero, List.getElem_cons_succ, List.setIfInBounds_toArray, List.set_cons_zero, List.set_cons_succ])
      refine wpAnyH_ready (rs := [2]) (by kernel_rfl) (by simp) ?_
      refine AllReadyH.cons rfl (fun K hK => ?_) AllReadyH.nil
      go_simp
      go_at_call 30
      refine (lawsToDOp x1 (fun _ => True) _ S1.out).mono ?_
      rintro e u2 ⟨rfl, hq⟩
      have rg := rg.below hq
      have hc2 := hc1.trans (hq.mono hc1.size)
      clear hq
      refine hK.out _ _ ⟨below_keep hc2 _ _ krx__0, below_keep hc2 _ _ krx__1, below_keep hc2 _ _ krx__2, below_keep hc2 _ _ krb1_0, below_keep hc2 _ _ krb1_1, below_keep hc2 _ _ krb1_2, below_keep hc2 _ _ krb1_3⟩ (fun hHeld => ?_)
      clear hK K
      (try simp only [Act.put, List.getElem_toArray, List.getElem_cons_zero, List.getElem_cons_succ, List.setIfInBounds_toArray, List.set_cons_zero, List.set_cons_succ])
      refine wpAnyH_ready (rs := [3]) (by kernel_rfl) (by simp) ?_
      refine AllReadyH.cons rfl (fun K hK => ?_) AllReadyH.nil
      go_simp
      go_at_call 20
      refine (implDo x0 x1 Ax0 nx0 cx0 Ax1 nx1 cx1 Ax2 nx2 cx2 _ _ (tx0.below FzR.stays (hc2.mono (Nat.le_refl _))) (tx1.below FzR.stays (hc2.mono (Nat.le_refl _))) (tx2.below OzR.stays (hc2.mono (Nat.le_refl _))) S0.out (by have := HDS.out; omega)).mono ?_
      rintro e u3 ⟨⟨v, rfl, hD⟩, hq⟩
      have rg := rg.below hq
      have hD := hD.mono hc2.size
      rw [← HAW.out] at hD
      rw [← HKC.out]
      have hc3 := hc2.trans (hq.mono hc2.size)
      clear hq
      obtain ⟨v0, v1, v2, rfl, k0, k1, k2, -⟩ := id hD
      obtain ⟨B0, m0, d0, rfl⟩ := k0.len
      obtain ⟨B1, m1, d1, rfl⟩ := k1.len
      obtain ⟨B2, m2, d2, rfl⟩ := k2.len
      clear k0 k1 k2
      obtain ⟨⟨r0, r1, r2⟩, ⟨f0, f1, f2⟩⟩ := rg.three
      refine hK.out _ _ ⟨below_keep hc3 _ _ krx__0, below_keep hc3 _ _ krx__1, below_keep hc3 _ _ krx__2, below_keep hc3 _ _ krb1_0, below_keep hc3 _ _ krb1_1, below_keep hc3 _ _ krb1_2, below_keep hc3 _ _ krb1_3⟩ (fun hHeld => ?_)
      clear hK K
      (try simp only [Act.put, List.getElem_toArray, List.getElem_cons_zero, List.getElem_cons_succ, List.setIfInBounds_toArray, List.set_cons_zero, List.set_cons_succ])
      refine wpAnyH_take (i := 4) (v := ?v29) rfl (by kernel_rfl) (by kernel_rfl) (by kernel_rfl) (fun _ _ _ h => h) (Or.inl ⟨by rfl, ?hy29⟩) hHeld ?rest29
      case hy29 => (intro w' hSw; (try dsimp only at hSw); first | (go_simp; done) | (go_simp; with_reducible rfl))
      simp only [Act.put, List.getElem_toArray, List.getElem_cons_zero, List.getElem_cons_succ, List.setIfInBounds_toArray, List.set_cons_zero, List.set_cons_succ]
      refine wpAnyH_take (i := 5) (v := ?v30) rfl (by kernel_rfl) (by kernel_rfl) (by kernel_rfl) (fun _ _ _ h => h) (Or.inl ⟨by rfl, ?hy30⟩) hHeld ?rest30
      case hy30 => (intro w' hSw; (try dsimp only at hSw); first | (go_simp; done) | (go_simp; with_reducible rfl))
      simp only [Act.put, List.getElem_toArray, List.getElem_cons_zero, List.getElem_cons_succ, List.setIfInBounds_toArray, List.set_cons_zero, List.set_cons_succ]
      refine wpAnyH_take (i := 6) (v := ?v31) rfl (by kernel_rfl) (by kernel_rfl) (by kernel_rfl) (fun _ _ _ h => h) (Or.inl ⟨by rfl, ?hy31⟩) hHeld ?rest31
      case hy31 => (intro w' hSw; (try dsimp only at hSw); first | (go_simp; done) | (go_simp; with_reducible rfl))
      simp only [Act.put, List.getElem_toArray, List.getElem_cons_zero, List.getElem_cons_succ, List.setIfInBounds_toArray, List.set_cons_zero, List.set_cons_succ]
      refine wpAnyH_ready (rs := [8]) (by kernel_rfl) (by simp) ?_
      refine AllReadyH.cons rfl (fun K hK => ?_) AllReadyH.nil
      go_simp
      refine hK.out _ _ ⟨cellOff (cellOff (cellOff (below_keep hc3 _ _ krx__0) (show g ≠ gx by omega)) (show g ≠ gx by omega)) (show g ≠ gx by omega), cellOff (cellOff (cellOff (below_keep hc3 _ _ krx__1) (show g ≠ gx by omega)) (show g ≠ gx by omega)) (show g ≠ gx by omega), cellOff (cellOff (cellOff (below_keep hc3 _ _ krx__2) (show g ≠ gx by omega)) (show g ≠ gx by omega)) (show g ≠ gx by omega), cellOff (cellOff (cellOff (below_keep hc3 _ _ krb1_0) (show g ≠ (w.heap.size + 1) by omega)) (show g ≠ (w.heap.size + 1) by omega)) (show g ≠ (w.heap.size + 1) by omega), cellOff (cellOff (cellOff (below_keep hc3 _ _ krb1_1) (show g ≠ (w.heap.size + 1) by omega)) (show g ≠ (w.heap.size + 1) by omega)) (show g ≠ (w.heap.size + 1) by omega), cellOff (cellOff (cellOff (below_keep hc3 _ _ krb1_2) (show g ≠ (w.heap.size + 1) by omega)) (show g ≠ (w.heap.size + 1) by omega)) (show g ≠ (w.heap.size + 1) by omega), cellOff (cellOff (cellOff (below_keep hc3 _ _ krb1_3) (show g ≠ (w.heap.size + 1) by omega)) (show g ≠ (w.heap.size + 1) by omega)) (show g ≠ (w.heap.size + 1) by omega)⟩ (fun hHeld => ?_)
      clear hK K
      (try simp only [Act.put, List.getElem_toArray, List.getElem_cons_zero, List.getElem_cons_succ, List.setIfInBounds_toArray, List.set_cons_zero, List.set_cons_succ])
      refine wpAnyH_take (i := 9) (v := ?v32) rfl (by kernel_rfl) (by kernel_rfl) (by kernel_rfl) (fun _ _ _ h => h) (Or.inl ⟨by rfl, ?hy32⟩) hHeld ?rest32
      case hy32 => (intro w' hSw; (try dsimp only at hSw); first | (go_simp; done) | (go_simp; with_reducible rfl))
      simp only [Act.put, List.getElem_toArray, List.getElem_cons_zero, List.getElem_cons_succ, List.setIfInBounds_toArray, List.set_cons_zero, List.set_cons_succ]
      refine wpAnyH_done (by kernel_rfl) ?_ _
      refine NoPanic.normal ?_
      clear hHeld
      go_wp2_with fail
      go_meet
      case rel => exact ⟨Below.set3 hc3 hg _ _ _, DzBox.store hD rg hg, rfl⟩
    case rest =>
      obtain ⟨hbc, hbx, rfl⟩ := hcut
      obtain ⟨gg, v0, v1, v2, rfl, hgg, rg_, hD⟩ := hbx
      have tw0 := tw0.below FzR.stays hbc
      have tw1 := tw1.below FzR.stays hbc
      have tw2 := tw2.below OzR.stays hbc
      have tx0 := tx0.below FzR.stays hbc
      have tx1 := tx1.below FzR.stays hbc
      have tx2 := tx2.below OzR.stays hbc
      have M := M.below hbc
      have rb0 := rb0.below hbc
      have rb1 := rb1.below hbc
      have rw_ := rw_.below hbc
      have rx_ := rx_.below hbc
      have hb := hb.trans (hbc.mono hb.size)
      have HLT := Lib.hid (show w.heap.size + 1 < wc.heap.size from Nat.lt_of_lt_of_le HLT.out hbc.size)
      have HSC := Lib.hid hbc.size
      obtain ⟨Ag0, cg0, Ag1, cg1, Ag2, cg2, bg0, bg1, bg2, ev, tg0, tg1, tg2, fg0, fg1, fg2, ndg, ltg, nrg⟩ := hD.openT FIT.out
      injection ev with ev
      obtain ⟨rfl, rfl, rfl⟩ : v0 = _ ∧ v1 = _ ∧ v2 = _ := by injection ev with ev; injection ev with e0 ev; injection ev with e1 ev; injection ev with e2 ev; exact ⟨e0, e1, e2⟩
      clear hD hbc
      have hglg := Lib.hid (lt_of_block rg_)
      have hgbg := Lib.hid hgg
      clear hgg
      generalize hwc : wc = y6 at *
      clear hwc wc
      have LTG := Lib.hid ltg
      have NRG := Lib.hid nrg
      have HDF := Lib.hid HSC.out
      clear ltg nrg
      have HRG := Lib.hid rg_
      obtain ⟨⟨krg__0, krg__1, krg__2⟩, -⟩ := rg_.three
      obtain ⟨⟨krw__0, krw__1, krw__2⟩, -⟩ := rw_.three
      go_wp2_with fail
      refine (lawsEqDiskM aw Ag0 Aw0 _ cg0 cw0 Ag1 Aw1 _ cg1 cw1 Ag2 Aw2 _ cg2 cw2 _ _ _ tg0 tg1 tg2 tw0 tw1 tw2 FIT.out).mono ?_
      rintro e y7 ⟨rfl, hq7⟩
      have tw0 := tw0.below FzR.stays hq7
      have tw1 := tw1.below FzR.stays hq7
      have tw2 := tw2.below OzR.stays hq7
      have tx0 := tx0.below FzR.stays hq7
      have tx1 := tx1.below FzR.stays hq7
      have tx2 := tx2.below OzR.stays hq7
      have M := M.below hq7
      have tg0 := tg0.below FzR.stays hq7
      have tg1 := tg1.below FzR.stays hq7
      have tg2 := tg2.below OzR.stays hq7
      have fg0 := fg0.stay (KeptL.below (bs := []) hq7) (fun _ _ => List.not_mem_nil)
      have fg1 := fg1.stay (KeptL.below (bs := []) hq7) (fun _ _ => List.not_mem_nil)
      have fg2 := fg2.stay (KeptL.below (bs := []) hq7) (fun _ _ => List.not_mem_nil)
      have rb0 := rb0.below hq7
      have rb1 := rb1.below hq7
      have rw_ := rw_.below hq7
      have rx_ := rx_.below hq7
      have rg_ := rg_.below hq7
      have hb := hb.trans (hq7.mono hb.size)
      clear krg__0 krg__1 krg__2 krw__0 krw__1 krw__2
      obtain ⟨⟨krx__0, krx__1, krx__2⟩, -⟩ := rx_.three
      obtain ⟨⟨krb0_0, krb0_1, krb0_2⟩, -⟩ := rb0.three
      go_wp2_with fail
      have tw0 := tw0.below FzR.stays ((Below.refl _ _).drew)
      have tw1 := tw1.below FzR.stays ((Below.refl _ _).drew)
      have tw2 := tw2.below OzR.stays ((Below.refl _ _).drew)
      have tx0 := tx0.below FzR.stays ((Below.refl _ _).drew)
      have tx1 := tx1.below FzR.stays ((Below.refl _ _).drew)
      have tx2 := tx2.below OzR.stays ((Below.refl _ _).drew)
      have M := M.below ((Below.refl _ _).drew)
      have tg0 := tg0.below FzR.stays ((Below.refl _ _).drew)
      have tg1 := tg1.below FzR.stays ((Below.refl _ _).drew)
      have tg2 := tg2.below OzR.stays ((Below.refl _ _).drew)
      have fg0 := fg0.stay (KeptL.below (bs := []) ((Below.refl _ _).drew)) (fun _ _ => List.not_mem_nil)
      have fg1 := fg1.stay (KeptL.below (bs := []) ((Below.refl _ _).drew)) (fun _ _ => List.not_mem_nil)
      have fg2 := fg2.stay (KeptL.below (bs := []) ((Below.refl _ _).drew)) (fun _ _ => List.not_mem_nil)
      have rb0 := rb0.below ((Below.refl _ _).drew)
      have rb1 := rb1.below ((Below.refl _ _).drew)
      have rw_ := rw_.below ((Below.refl _ _).drew)
      have rx_ := rx_.below ((Below.refl _ _).drew)
      have rg_ := rg_.below ((Below.refl _ _).drew)
      have hb := hb.drew
      go_region_held3 (fun w' => w'.cell? ⟨gx, 0, none⟩ = some (.slice Ax0 nx0 cx0) ∧ w'.cell? ⟨gx, 1, none⟩ = some (.slice Ax1 nx1 cx1) ∧ w'.cell? ⟨gx, 2, none⟩ = some (.slice Ax2 nx2 cx2) ∧ w'.cell? ⟨w.heap.size, 0, none⟩ = some (.slice A0_0 n0_0 c0_0) ∧ w'.cell? ⟨w.heap.size, 1, none⟩ = some (.slice A0_1 n0_1 c0_1) ∧ w'.cell? ⟨w.heap.size, 2, none⟩ = some (.slice A0_2 n0_2 c0_2))
        (first | go_keep | (with_reducible exact keepE6 (by assumption) hqB) | (with_reducible exact keepE6 (by assumption) hqA))
        (first | (go_at_call 27; refine (lawsToDisk x0 A0_0 n0_0 c0_0 A0_1 n0_1 c0_1 A0_2 n0_2 c0_2 _ _ (h0_0.below FzR.stays hb) (h0_1.below FzR.stays hb) (h0_2.below OzR.stays hb) S0.out).mono ?_; rintro e yA ⟨cse, rfl, hRe, hqA⟩; obtain ⟨Ae0, ne0, ce0, Ae1, ne1, ce1, Ae2, ne2, ce2, rfl, te0, te1, te2, -⟩ := hRe; obtain ⟨rfl, rfl, rfl⟩ : nx0 = ne0 ∧ nx1 = ne1 ∧ nx2 = ne2 := ⟨tx0.1.symm.trans te0.1, tx1.1.symm.trans te1.1, tx2.1.symm.trans te2.1⟩) | (go_at_call 28; refine (lawsEqDisk x0 Ax0 Ae0 nx0 cx0 ce0 Ax1 Ae1 nx1 cx1 ce1 Ax2 Ae2 nx2 cx2 ce2 _ _ _ (tx0.below FzR.stays hqA) (tx1.below FzR.stays hqA) (tx2.below OzR.stays hqA) te0 te1 te2 S0.out).mono ?_; rintro e yB ⟨rfl, hqB⟩))
      have tw0 := tw0.below FzR.stays hqA
      have tw1 := tw1.below FzR.stays hqA
      have tw2 := tw2.below OzR.stays hqA
      have tx0 := tx0.below FzR.stays hqA
      have tx1 := tx1.below FzR.stays hqA
      have tx2 := tx2.below OzR.stays hqA
      have M := M.below hqA
      have tg0 := tg0.below FzR.stays hqA
      have tg1 := tg1.below FzR.stays hqA
      have tg2 := tg2.below OzR.stays hqA
      have fg0 := fg0.stay (KeptL.below (bs := []) hqA) (fun _ _ => List.not_mem_nil)
      have fg1 := fg1.stay (KeptL.below (bs := []) hqA) (fun _ _ => List.not_mem_nil)
      have fg2 := fg2.stay (KeptL.below (bs := []) hqA) (fun _ _ => List.not_mem_nil)
      have rb0 := rb0.below hqA
      have rb1 := rb1.below hqA
      have rw_ := rw_.below hqA
      have rx_ := rx_.below hqA
      have rg_ := rg_.below hqA
      have tw0 := tw0.below FzR.stays hqB
      have tw1 := tw1.below FzR.stays hqB
      have tw2 := tw2.below OzR.stays hqB
      have tx0 := tx0.below FzR.stays hqB
      have tx1 := tx1.below FzR.stays hqB
      have tx2 := tx2.below OzR.stays hqB
      have M := M.below hqB
      have tg0 := tg0.below FzR.stays hqB
      have tg1 := tg1.below FzR.stays hqB
      have tg2 := tg2.below OzR.stays hqB
      have fg0 := fg0.stay (KeptL.below (bs := []) hqB) (fun _ _ => List.not_mem_nil)
      have fg1 := fg1.stay (KeptL.below (bs := []) hqB) (fun _ _ => List.not_mem_nil)
      have fg2 := fg2.stay (KeptL.below (bs := []) hqB) (fun _ _ => List.not_mem_nil)
      have rb0 := rb0.below hqB
      have rb1 := rb1.below hqB
      have rw_ := rw_.below hqB
      have rx_ := rx_.below hqB
      have rg_ := rg_.below hqB
      have hb := (hb.trans (hqA.mono hb.size))
      have hb := (hb.trans (hqB.mono hb.size))
      clear krx__0 krx__1 krx__2 krb0_0 krb0_1 krb0_2
      obtain ⟨⟨krx__0, krx__1, krx__2⟩, -⟩ := rx_.three
      go_wp2_with fail
      obtain ⟨m0, hm0⟩ : ∃ m, m = x0.live.map (fun _ : Fz => 2) := ⟨_, rfl⟩
      obtain ⟨m1, hm1⟩ : ∃ m, m = x0.safe.map (fun _ : Fz => 2) := ⟨_, rfl⟩
      obtain ⟨m2, hm2⟩ : ∃ m, m = x0.ops.map (fun _ : Oz => 4) := ⟨_, rfl⟩
      have hbd : m0.sum ≤ 6291456 ∧ m1.sum ≤ 6291456 ∧ m2.sum ≤ 6291456 := by
        have h1 := sum_le_of (f := fun _ : Fz => 2) (g := Fz.sz) 6 (fun _ => by omega) x0.live
        have h2 := sum_le_of (f := fun _ : Fz => 2) (g := Fz.sz) 6 (fun _ => by omega) x0.safe
        have h3 := sum_le_of (f := fun _ : Oz => 4) (g := Oz.sz) 6 (fun _ => by omega) x0.ops
        have h4 := S0.out
        unfold Dz.sz at h4
        rw [hm0, hm1, hm2]
        omega
      have sx0 := tx0.toSh Fz.toSh (fun _ _ => trivial)
      rw [← hm0] at sx0
      have sx1 := tx1.toSh Fz.toSh (fun _ _ => trivial)
      rw [← hm1] at sx1
      have sx2 := tx2.toSh Oz.toSh (fun _ _ => trivial)
      rw [← hm2] at sx2
      clear hm0 hm1 hm2
      clear tx0
      clear tx1
      clear tx2
      refine (marksDisk Ax0 nx0 cx0 Ax1 nx1 cx1 Ax2 nx2 cx2 m0 m1 m2 _ y3.heap.size gx 1 _ sx0 sx1 sx2 M (by omega) nx.out rfl).mono ?_
      rintro e y8 ⟨rfl, hq8⟩
      have hb := Kept.toBelow hb hq8 (by have := HGB.out; omega) hb.size
      clear sx0 sx1 sx2
      clear M
      have tw0 := tw0.kept FzR.stays hq8 (fun b hb => Or.inl hb.2.1)
      have tw1 := tw1.kept FzR.stays hq8 (fun b hb => Or.inl hb.2.1)
      have tw2 := tw2.kept OzR.stays hq8 (fun b hb => Or.inl hb.2.1)
      have tg0 := tg0.kept FzR.stays hq8 (fun b hb => Or.inr (Nat.le_trans (Nat.le_of_lt hs_rx_.out) hb.1))
      have tg1 := tg1.kept FzR.stays hq8 (fun b hb => Or.inr (Nat.le_trans (Nat.le_of_lt hs_rx_.out) hb.1))
      have tg2 := tg2.kept OzR.stays hq8 (fun b hb => Or.inr (Nat.le_trans (Nat.le_of_lt hs_rx_.out) hb.1))
      have fg0 := fg0.stay (KeptL.range hq8) (not_range (fun b hb => Nat.le_trans (Nat.le_of_lt hs_rx_.out) (LTG.out b (by simp [hb])).1))
      have fg1 := fg1.stay (KeptL.range hq8) (not_range (fun b hb => Nat.le_trans (Nat.le_of_lt hs_rx_.out) (LTG.out b (by simp [hb])).1))
      have fg2 := fg2.stay (KeptL.range hq8) (not_range (fun b hb => Nat.le_trans (Nat.le_of_lt hs_rx_.out) (LTG.out b (by simp [hb])).1))
      have rb0 := Row.keptB rb0 hq8 (Or.inl (by have := HGB.out; omega))
      have rb1 := Row.keptB rb1 hq8 (Or.inl HGB.out)
      have rw_ := Row.keptB rw_ hq8 (Or.inl hglw.out)
      have rx_ := Row.keptB rx_ hq8 (Or.inr (Nat.le_refl _))
      have rg_ := Row.keptB rg_ hq8 (Or.inr (Nat.le_trans (Nat.le_of_lt hs_rx_.out) hgbg.out))
      clear rx_
      clear krx__0 krx__1 krx__2
      obtain ⟨⟨krg__0, krg__1, krg__2⟩, -⟩ := rg_.three
      obtain ⟨⟨krw__0, krw__1, krw__2⟩, -⟩ := rw_.three
      generalize hkk : 1 + m0.sum + m1.sum + m2.sum = kk
      have hk1 : 1 ≤ kk := by omega
      have hk2 : (0 : Int) ≤ (kk : Int) := by omega
      have hk3 : decide ((kk : Int) < 0) = false := by rw [decide_eq_false_iff_not]; omega
      clear hkk hbd
      go_wp2_with fail
      refine (lawsEqDiskM aw Ag0 Aw0 _ cg0 cw0 Ag1 Aw1 _ cg1 cw1 Ag2 Aw2 _ cg2 cw2 _ _ _ tg0 tg1 tg2 tw0 tw1 tw2 FIT.out).mono ?_
      rintro e y9 ⟨rfl, hq9⟩
      have tw0 := tw0.below FzR.stays hq9
      have tw1 := tw1.below FzR.stays hq9
      have tw2 := tw2.below OzR.stays hq9
      have tg0 := tg0.below FzR.stays hq9
      have tg1 := tg1.below FzR.stays hq9
      have tg2 := tg2.below OzR.stays hq9
      have fg0 := fg0.stay (KeptL.below (bs := []) hq9) (fun _ _ => List.not_mem_nil)
      have fg1 := fg1.stay (KeptL.below (bs := []) hq9) (fun _ _ => List.not_mem_nil)
      have fg2 := fg2.stay (KeptL.below (bs := []) hq9) (fun _ _ => List.not_mem_nil)
      have rb0 := rb0.below hq9
      have rb1 := rb1.below hq9
      have rw_ := rw_.below hq9
      have rg_ := rg_.below hq9
      have hb := hb.trans (hq9.mono hb.size)
      clear krg__0 krg__1 krg__2 krw__0 krw__1 krw__2
      obtain ⟨⟨krg__0, krg__1, krg__2⟩, -⟩ := rg_.three
      clear hk1 hk2 hk3
      clear tg0
      clear tg1
      clear tg2
      go_wp2_with fail
      have HSG := Lib.hid (show ∀ b ∈ bg0 ++ bg1 ++ bg2, w.heap.size ≤ b from fun b hh => by have h2 := LTG.out _ hh; have h3 := hs_rx_.out; have h4 := HBE.out; have h5 := hglw.out; have h6 := HGB.out; omega)
      refine (marksXDisk Ag0 _ cg0 Ag1 _ cg1 Ag2 _ cg2 bg0 bg1 bg2 1 _ fg0 fg1 fg2 ndg (by omega) rfl).mono ?_
      rintro e y10 ⟨rfl, hq10, mg0, mg1, mg2⟩
      have hb := KeptL.toBelow hb hq10 HSG.out hb.size
      clear fg0
      clear fg1
      clear fg2
      have tw0 := tw0.keptL FzR.stays hq10 (fun b hb hh => by have h1 := hb.2.1; have h2 := LTG.out _ hh; have h3 := hs_rx_.out; have h4 := HBE.out; have h5 := hglw.out; have h6 := HGB.out; omega)
      have tw1 := tw1.keptL FzR.stays hq10 (fun b hb hh => by have h1 := hb.2.1; have h2 := LTG.out _ hh; have h3 := hs_rx_.out; have h4 := HBE.out; have h5 := hglw.out; have h6 := HGB.out; omega)
      have tw2 := tw2.keptL OzR.stays hq10 (fun b hb hh => by have h1 := hb.2.1; have h2 := LTG.out _ hh; have h3 := hs_rx_.out; have h4 := HBE.out; have h5 := hglw.out; have h6 := HGB.out; omega)
      have rb0 := Row.keptL rb0 hq10 (fun hh => by have h2 := LTG.out _ hh; have h3 := hs_rx_.out; have h4 := HBE.out; have h5 := hglw.out; have h6 := HGB.out; omega)
      have rb1 := Row.keptL rb1 hq10 (fun hh => by have h2 := LTG.out _ hh; have h3 := hs_rx_.out; have h4 := HBE.out; have h5 := hglw.out; have h6 := HGB.out; omega)
      have rw_ := Row.keptL rw_ hq10 (fun hh => by have h2 := LTG.out _ hh; have h3 := hs_rx_.out; have h4 := HBE.out; have h5 := hglw.out; have h6 := HGB.out; omega)
      have rg_ := Row.keptL rg_ hq10 (fun hh => NRG.out _ hh _ HRG.out)
      clear krg__0 krg__1 krg__2
      obtain ⟨⟨krg__0, krg__1, krg__2⟩, -⟩ := rg_.three
      generalize hmm : 1 + aw.live.length * 2 + aw.safe.length * 2 + aw.ops.length * 4 = mm
      have HMM := Lib.hid hmm
      have hp1 : decide ((mm : Int) < 0) = false := by rw [decide_eq_false_iff_not]; omega
      clear hmm
      go_wp2_with fail
      refine (heldXDisk Ag0 _ cg0 Ag1 _ cg1 Ag2 _ cg2 bg0 bg1 bg2 1 _ mg0 mg1 mg2 (by omega) rfl).mono ?_
      rintro e y11 ⟨rfl, hq11⟩
      rw [HMM.out]
      have hb := hb.trans (hq11.mono hb.size)
      have tw0 := tw0.below FzR.stays hq11
      have tw1 := tw1.below FzR.stays hq11
      have tw2 := tw2.below OzR.stays hq11
      have mg0 := mg0.stay (KeptL.below (bs := []) hq11) (fun _ _ => List.not_mem_nil)
      have mg1 := mg1.stay (KeptL.below (bs := []) hq11) (fun _ _ => List.not_mem_nil)
      have mg2 := mg2.stay (KeptL.below (bs := []) hq11) (fun _ _ => List.not_mem_nil)
      have rb0 := rb0.below hq11
      have rb1 := rb1.below hq11
      have rw_ := rw_.below hq11
      have rg_ := rg_.below hq11
      clear krg__0 krg__1 krg__2
      have HLT := Lib.hid (show w.heap.size + 1 < y11.heap.size from lt_of_block rb1)
      go_upto_region 27 with fail
      have hy0 : w.heap.size + 1 < y11.heap.size := HLT.out
      go_cut [14, 15] from 84 to 91 (fun s0 s1 wx => Below y11.heap.size y11 wx ∧ DzBox wx y11.heap.size s0 aw ∧ s1 = .int .i64 kc)
      case first =>
        obtain ⟨⟨krb0_0, krb0_1, krb0_2⟩, -⟩ := rb0.three
        obtain ⟨⟨krb1_0, krb1_1, krb1_2, krb1_3⟩, -⟩ := rb1.all4
        have hc0 : Below y11.heap.size y11 y11.drew := (Below.refl _ y11).drew
        refine wp_region_noPanic ?_
        refine wp_region_held_drew (S := (fun w' => w'.cell? ⟨w.heap.size, 0, none⟩ = some (.slice A0_0 n0_0 c0_0) ∧ w'.cell? ⟨w.heap.size, 1, none⟩ = some (.slice A0_1 n0_1 c0_1) ∧ w'.cell? ⟨w.heap.size, 2, none⟩ = some (.slice A0_2 n0_2 c0_2) ∧ w'.cell? ⟨(w.heap.size + 1), 0, none⟩ = some (.int .i64 x1.kind) ∧ w'.cell? ⟨(w.heap.size + 1), 1, none⟩ = some (.string x1.name) ∧ w'.cell? ⟨(w.heap.size + 1), 2, none⟩ = some (.string x1.to) ∧ w'.cell? ⟨(w.heap.size + 1), 3, none⟩ = some (.string x1.data))) (by kernel_rfl) ⟨krb0_0, krb0_1, krb0_2, krb1_0, krb1_1, krb1_2, krb1_3⟩ (fun hHeld => ?_)
        generalize y11.drew = u0 at *
        refine wpAnyH_take (i := 0) (v := ?v33) rfl (by kernel_rfl) (by kernel_rfl) (by kernel_rfl) (fun _ _ _ h => h) (Or.inl ⟨by rfl, ?hy33⟩) hHeld ?rest33
        case hy33 => (intro w' hSw; (try dsimp only at hSw); first | (go_simp; done) | (go_simp; with_reducible rfl))
        simp only [Act.put, List.getElem_toArray, List.getElem_cons_zero, List.getElem_cons_succ, List.setIfInBounds_toArray, List.set_cons_zero, List.set_cons_succ]
        refine wpAnyH_take (i := 2) (v := ?v34) rfl (by kernel_rfl) (by kernel_rfl) (by kernel_rfl) (fun _ _ _ h => h) (Or.inl ⟨by rfl, ?hy34⟩) hHeld ?rest34
        case hy34 => (intro w' hSw; (try dsimp only at hSw); first | (go_simp; done) | (go_simp; with_reducible rfl))
        simp only [Act.put, List.getElem_toArray, List.getElem_cons_zero, List.getElem_cons_succ, List.setIfInBounds_toArray, List.set_cons_zero, List.set_cons_succ]
        refine wpAnyH_ready (rs := [1, 8]) (by kernel_rfl) (by simp) ?_
        refine AllReadyH.cons rfl (fun K hK => ?_) ?_
        · go_simp
          go_at_call 27
          refine (lawsToDisk x0 A0_0 n0_0 c0_0 A0_1 n0_1 c0_1 A0_2 n0_2 c0_2 _ _ (h0_0.below FzR.stays (hb.trans (hc0.mono hb.size))) (h0_1.below FzR.stays (hb.trans (hc0.mono hb.size))) (h0_2.below OzR.stays (hb.trans (hc0.mono hb.size))) S0.out).mono ?_
          rintro e u1 ⟨cs, rfl, hR, hq⟩
          obtain ⟨Ah0, nh0, ch0, Ah1, nh1, ch1, Ah2, nh2, ch2, rfl, th0, th1, th2, -⟩ := hR
          have hc1 := hc0.trans (hq.mono hc0.size)
          clear hq
          refine hK.out _ _ ⟨below_keep hc1 _ _ krb0_0, below_keep hc1 _ _ krb0_1, below_keep hc1 _ _ krb0_2, below_keep hc1 _ _ krb1_0, below_keep hc1 _ _ krb1_1, below_keep hc1 _ _ krb1_2, below_keep hc1 _ _ krb1_3⟩ (fun hHeld => ?_)
          clear hK K
          (try simp only [Act.put, List.getElem_toArray, List.getElem_cons_zero, List.getElem_cons_succ, List.setIfInBounds_toArray, List.set_cons_zero, List.set_cons_succ])
          refine wpAnyH_ready (rs := [3, 8]) (by kernel_rfl) (by simp) ?_
          refine AllReadyH.cons rfl (fun K hK => ?_) ?_
          · go_simp
            go_at_call 30
            refine (lawsToDOp x1 (fun _ => True) _ S1.out).mono ?_
            rintro e u2 ⟨rfl, hq⟩
            have th0 := th0.below FzR.stays hq
            have th1 := th1.below FzR.stays hq
            have th2 := th2.below OzR.stays hq
            have hc2 := hc1.trans (hq.mono hc1.size)
            clear hq
            refine hK.out _ _ ⟨below_keep hc2 _ _ krb0_0, below_keep hc2 _ _ krb0_1, below_keep hc2 _ _ krb0_2, below_keep hc2 _ _ krb1_0, below_keep hc2 _ _ krb1_1, below_keep hc2 _ _ krb1_2, below_keep hc2 _ _ krb1_3⟩ (fun hHeld => ?_)
            clear hK K
            (try simp only [Act.put, List.getElem_toArray, List.getElem_cons_zero, List.getElem_cons_succ, List.setIfInBounds_toArray, List.set_cons_zero, List.set_cons_succ])
            refine wpAnyH_ready (rs := [4, 8]) (by kernel_rfl) (by simp) ?_
            refine AllReadyH.cons rfl (fun K hK => ?_) ?_
            · go_simp
              go_at_call 20
              refine (implDo x0 x1 Ah0 nh0 ch0 Ah1 nh1 ch1 Ah2 nh2 ch2 _ _ th0 th1 th2 S0.out (by have := HDS.out; omega)).mono ?_
              rintro e u3 ⟨⟨v, rfl, hD⟩, hq⟩
              have th0 := th0.below FzR.stays hq
              have th1 := th1.below FzR.stays hq
              have th2 := th2.below OzR.stays hq
              have hD := hD.mono hc2.size
              rw [← HAW.out] at hD
              rw [← HKC.out]
              have hc3 := hc2.trans (hq.mono hc2.size)
              clear hq
              obtain ⟨v0, v1, v2, rfl, k0, k1, k2, -⟩ := id hD
              obtain ⟨B0, m0, d0, rfl⟩ := k0.len
              obtain ⟨B1, m1, d1, rfl⟩ := k1.len
              obtain ⟨B2, m2, d2, rfl⟩ := k2.len
              clear k0 k1 k2
              refine hK.out _ _ ⟨below_keep hc3 _ _ krb0_0, below_keep hc3 _ _ krb0_1, below_keep hc3 _ _ krb0_2, below_keep hc3 _ _ krb1_0, below_keep hc3 _ _ krb1_1, below_keep hc3 _ _ krb1_2, below_keep hc3 _ _ krb1_3⟩ (fun hHeld => ?_)
              clear hK K
              (try simp only [Act.put, List.getElem_toArray, List.getElem_cons_zero, List.getElem_cons_succ, List.setIfInBounds_toArray, List.set_cons_zero, List.set_cons_succ])
              refine wpAnyH_take (i := 5) (v := ?v35) rfl (by kernel_rfl) (by kernel_rfl) (by kernel_rfl) (fun _ _ _ h => h) (Or.inl ⟨by rfl, ?hy35⟩) hHeld ?rest35
              case hy35 => (intro w' hSw; (try dsimp only at hSw); first | (go_simp; done) | (go_simp; with_reducible rfl))
              simp only [Act.put, List.getElem_toArray, List.getElem_cons_zero, List.getElem_cons_succ, List.setIfInBounds_toArray, List.set_cons_zero, List.set_cons_succ]
              refine wpAnyH_take (i := 6) (v := ?v36) rfl (by kernel_rfl) (by kernel_rfl) (by kernel_rfl) (fun _ _ _ h => h) (Or.inl ⟨by rfl, ?hy36⟩) hHeld ?rest36
              case hy36 => (intro w' hSw; (try dsimp only at hSw); first | (go_simp; done) | (go_simp; with_reducible rfl))
              simp only [Act.put, List.getElem_toArray, List.getElem_cons_zero, List.getElem_cons_succ, List.setIfInBounds_toArray, List.set_cons_zero, List.set_cons_succ]
              refine wpAnyH_take (i := 7) (v := ?v37) rfl (by kernel_rfl) (by kernel_rfl) (by kernel_rfl) (fun _ _ _ h => h) (Or.inl ⟨by rfl, ?hy37⟩) hHeld ?rest37
              case hy37 => (intro w' hSw; (try dsimp only at hSw); first | (go_simp; done) | (go_simp; with_reducible rfl))
              simp only [Act.put, List.getElem_toArray, List.getElem_cons_zero, List.getElem_cons_succ, List.setIfInBounds_toArray, List.set_cons_zero, List.set_cons_succ]
              refine wpAnyH_ready (rs := [8]) (by kernel_rfl) (by simp) ?_
              refine AllReadyH.cons rfl (fun K hK => ?_) AllReadyH.nil
              go_simp
              have hal : Below (u3).heap.size u3 (u3.alloc (.cells #[.slice none 0 0, .slice none 0 0, .slice none 0 0] 27)) := (Below.refl _ _).alloc (Nat.le_refl _) _
              have th0 := th0.below FzR.stays hal
              have th1 := th1.below FzR.stays hal
              have th2 := th2.below OzR.stays hal
              have hD := hD.below hal
              have rg := Row.new u3 27 #[.slice none 0 0, .slice none 0 0, .slice none 0 0]
              have hg : y11.heap.size ≤ u3.heap.size := hc3.size
              have hc4 := hc3.alloc hc3.size (.cells #[.slice none 0 0, .slice none 0 0, .slice none 0 0] 27)
              clear hal
              generalize u3.alloc (.cells #[.slice none 0 0, .slice none 0 0, .slice none 0 0] 27) = u4 at *
              generalize u3.heap.size = g at *
              obtain ⟨⟨r0, r1, r2⟩, ⟨f0, f1, f2⟩⟩ := rg.three
              refine hK.out _ _ ⟨below_keep hc4 _ _ krb0_0, below_keep hc4 _ _ krb0_1, below_keep hc4 _ _ krb0_2, below_keep hc4 _ _ krb1_0, below_keep hc4 _ _ krb1_1, below_keep hc4 _ _ krb1_2, below_keep hc4 _ _ krb1_3⟩ (fun hHeld => ?_)
              clear hK K
              (try simp only [Act.put, List.getElem_toArray, List.getElem_cons_zero, List.getElem_cons_succ, List.setIfInBounds_toArray, List.set_cons_zero, List.set_cons_succ])
              refine wpAnyH_ready (rs := [9]) (by kernel_rfl) (by simp) ?_
              refine AllReadyH.cons rfl (fun K hK => ?_) AllReadyH.nil
              go_simp
              refine hK.out _ _ ⟨cellOff (cellOff (cellOff (below_keep hc4 _ _ krb0_0) (show g ≠ w.heap.size by omega)) (show g ≠ w.heap.size by omega)) (show g ≠ w.heap.size by omega), cellOff (cellOff (cellOff (below_keep hc4 _ _ krb0_1) (show g ≠ w.heap.size by omega)) (show g ≠ w.heap.size by omega)) (show g ≠ w.heap.size by omega), cellOff (cellOff (cellOff (below_keep hc4 _ _ krb0_2) (show g ≠ w.heap.size by omega)) (show g ≠ w.heap.size by omega)) (show g ≠ w.heap.size by omega), cellOff (cellOff (cellOff (below_keep hc4 _ _ krb1_0) (show g ≠ (w.heap.size + 1) by omega)) (show g ≠ (w.heap.size + 1) by omega)) (show g ≠ (w.heap.size + 1) by omega), cellOff (cellOff (cellOff (below_keep hc4 _ _ krb1_1) (show g ≠ (w.heap.size + 1) by omega)) (show g ≠ (w.heap.size + 1) by omega)) (show g ≠ (w.heap.size + 1) by omega), cellOff (cellOff (cellOff (below_keep hc4 _ _ krb1_2) (show g ≠ (w.heap.size + 1) by omega)) (show g ≠ (w.heap.size + 1) by omega)) (show g ≠ (w.heap.size + 1) by omega), cellOff (cellOff (cellOff (below_keep hc4 _ _ krb1_3) (show g ≠ (w.heap.size + 1) by omega)) (show g ≠ (w.heap.size + 1) by omega)) (show g ≠ (w.heap.size + 1) by omega)⟩ (fun hHeld => ?_)
              clear hK K
              (try simp only [Act.put, List.getElem_toArray, List.getElem_cons_zero, List.getElem_cons_succ, List.setIfInBounds_toArray, List.set_cons_zero, List.set_cons_succ])
              refine wpAnyH_take (i := 10) (v := ?v38) rfl (by kernel_rfl) (by kernel_rfl) (by kernel_rfl) (fun _ _ _ h => h) (Or.inl ⟨by rfl, ?hy38⟩) hHeld ?rest38
              case hy38 => (intro w' hSw; (try dsimp only at hSw); first | (go_simp; done) | (go_simp; with_reducible rfl))
              simp only [Act.put, List.getElem_toArray, List.getElem_cons_zero, List.getElem_cons_succ, List.setIfInBounds_toArray, List.set_cons_zero, List.set_cons_succ]
              refine wpAnyH_done (by kernel_rfl) ?_ _
              refine NoPanic.normal ?_
              clear hHeld
              go_wp2_with fail
              go_meet
              case rel => exact ⟨Below.set3 hc4 hg _ _ _, DzBox.store hD rg hg, rfl⟩
            refine AllReadyH.cons rfl (fun K hK => ?_) AllReadyH.nil
            go_simp
            have hal : Below (u2).heap.size u2 (u2.alloc (.cells #[.slice none 0 0, .slice none 0 0, .slice none 0 0] 27)) := (Below.refl _ _).alloc (Nat.le_refl _) _
            have th0 := th0.below FzR.stays hal
            have th1 := th1.below FzR.stays hal
            have th2 := th2.below OzR.stays hal
            have rg := Row.new u2 27 #[.slice none 0 0, .slice none 0 0, .slice none 0 0]
            have hg : y11.heap.size ≤ u2.heap.size := hc2.size
            have hc3 := hc2.alloc hc2.size (.cells #[.slice none 0 0, .slice none 0 0, .slice none 0 0] 27)
            clear hal
            generalize u2.alloc (.cells #[.slice none 0 0, .slice none 0 0, .slice none 0 0] 27) = u3 at *
            generalize u2.heap.size = g at *
            refine hK.out _ _ ⟨below_keep hc3 _ _ krb0_0, below_keep hc3 _ _ krb0_1, below_keep hc3 _ _ krb0_2, below_keep hc3 _ _ krb1_0, below_keep hc3 _ _ krb1_1, below_keep hc3 _ _ krb1_2, below_keep hc3 _ _ krb1_3⟩ (fun hHeld => ?_)
            clear hK K
            (try simp only [Act.put, List.getElem_toArray, List.getElem_cons_zero, List.getElem_cons_succ, List.setIfInBounds_toArray, List.set_cons_zero, List.set_cons_succ])
            refine wpAnyH_ready (rs := [4]) (by kernel_rfl) (by simp) ?_
            refine AllReadyH.cons rfl (fun K hK => ?_) AllReadyH.nil
            go_simp
            go_at_call 20
            refine (implDo x0 x1 Ah0 nh0 ch0 Ah1 nh1 ch1 Ah2 nh2 ch2 _ _ th0 th1 th2 S0.out (by have := HDS.out; omega)).mono ?_
            rintro e u4 ⟨⟨v, rfl, hD⟩, hq⟩
            have th0 := th0.below FzR.stays hq
            have th1 := th1.below FzR.stays hq
            have th2 := th2.below OzR.stays hq
            have rg := rg.below hq
            have hD := hD.mono hc3.size
            rw [← HAW.out] at hD
            rw [← HKC.out]
            have hc4 := hc3.trans (hq.mono hc3.size)
            clear hq
            obtain ⟨v0, v1, v2, rfl, k0, k1, k2, -⟩ := id hD
            obtain ⟨B0, m0, d0, rfl⟩ := k0.len
            obtain ⟨B1, m1, d1, rfl⟩ := k1.len
            obtain ⟨B2, m2, d2, rfl⟩ := k2.len
            clear k0 k1 k2
            obtain ⟨⟨r0, r1, r2⟩, ⟨f0, f1, f2⟩⟩ := rg.three
            refine hK.out _ _ ⟨below_keep hc4 _ _ krb0_0, below_keep hc4 _ _ krb0_1, below_keep hc4 _ _ krb0_2, below_keep hc4 _ _ krb1_0, below_keep hc4 _ _ krb1_1, below_keep hc4 _ _ krb1_2, below_keep hc4 _ _ krb1_3⟩ (fun hHeld => ?_)
            clear hK K
            (try simp only [Act.put, List.getElem_toArray, List.getElem_cons_zero, List.getElem_cons_succ, List.setIfInBounds_toArray, List.set_cons_zero, List.set_cons_succ])
            refine wpAnyH_take (i := 5) (v := ?v39) rfl (by kernel_rfl) (by kernel_rfl) (by kernel_rfl) (fun _ _ _ h => h) (Or.inl ⟨by rfl, ?hy39⟩) hHeld ?rest39
            case hy39 => (intro w' hSw; (try dsimp only at hSw); first | (go_simp; done) | (go_simp; with_reducible rfl))
            simp only [Act.put, List.getElem_toArray, List.getElem_cons_zero, List.getElem_cons_succ, List.setIfInBounds_toArray, List.set_cons_zero, List.set_cons_succ]
            refine wpAnyH_take (i := 6) (v := ?v40) rfl (by kernel_rfl) (by kernel_rfl) (by kernel_rfl) (fun _ _ _ h => h) (Or.inl ⟨by rfl, ?hy40⟩) hHeld ?rest40
            case hy40 => (intro w' hSw; (try dsimp only at hSw); first | (go_simp; done) | (go_simp; with_reducible rfl))
            simp only [Act.put, List.getElem_toArray, List.getElem_cons_zero, List.getElem_cons_succ, List.setIfInBounds_toArray, List.set_cons_zero, List.set_cons_succ]
            refine wpAnyH_take (i := 7) (v := ?v41) rfl (by kernel_rfl) (by kernel_rfl) (by kernel_rfl) (fun _ _ _ h => h) (Or.inl ⟨by rfl, ?hy41⟩) hHeld ?rest41
            case hy41 => (intro w' hSw; (try dsimp only at hSw); first | (go_simp; done) | (go_simp; with_reducible rfl))
            simp only [Act.put, List.getElem_toArray, List.getElem_cons_zero, List.getElem_cons_succ, List.setIfInBounds_toArray, List.set_cons_zero, List.set_cons_succ]
            refine wpAnyH_ready (rs := [9]) (by kernel_rfl) (by simp) ?_
            refine AllReadyH.cons rfl (fun K hK => ?_) AllReadyH.nil
            go_simp
            refine hK.out _ _ ⟨cellOff (cellOff (cellOff (below_keep hc4 _ _ krb0_0) (show g ≠ w.heap.size by omega)) (show g ≠ w.heap.size by omega)) (show g ≠ w.heap.size by omega), cellOff (cellOff (cellOff (below_keep hc4 _ _ krb0_1) (show g ≠ w.heap.size by omega)) (show g ≠ w.heap.size by omega)) (show g ≠ w.heap.size by omega), cellOff (cellOff (cellOff (below_keep hc4 _ _ krb0_2) (show g ≠ w.heap.size by omega)) (show g ≠ w.heap.size by omega)) (show g ≠ w.heap.size by omega), cellOff (cellOff (cellOff (below_keep hc4 _ _ krb1_0) (show g ≠ (w.heap.size + 1) by omega)) (show g ≠ (w.heap.size + 1) by omega)) (show g ≠ (w.heap.size + 1) by omega), cellOff (cellOff (cellOff (below_keep hc4 _ _ krb1_1) (show g ≠ (w.heap.size + 1) by omega)) (show g ≠ (w.heap.size + 1) by omega)) (show g ≠ (w.heap.size + 1) by omega), cellOff (cellOff (cellOff (below_keep hc4 _ _ krb1_2) (show g ≠ (w.heap.size + 1) by omega)) (show g ≠ (w.heap.size + 1) by omega)) (show g ≠ (w.heap.size + 1) by omega), cellOff (cellOff (cellOff (below_keep hc4 _ _ krb1_3) (show g ≠ (w.heap.size + 1) by omega)) (show g ≠ (w.heap.size + 1) by omega)) (show g ≠ (w.heap.size + 1) by omega)⟩ (fun hHeld => ?_)
            clear hK K
            (try simp only [Act.put, List.getElem_toArray, List.getElem_cons_zero, List.getElem_cons_succ, List.setIfInBounds_toArray, List.set_cons_zero, List.set_cons_succ])
            refine wpAnyH_take (i := 10) (v := ?v42) rfl (by kernel_rfl) (by kernel_rfl) (by kernel_rfl) (fun _ _ _ h => h) (Or.inl ⟨by rfl, ?hy42⟩) hHeld ?rest42
            case hy42 => (intro w' hSw; (try dsimp only at hSw); first | (go_simp; done) | (go_simp; with_reducible rfl))
            simp only [Act.put, List.getElem_toArray, List.getElem_cons_zero, List.getElem_cons_succ, List.setIfInBounds_toArray, List.set_cons_zero, List.set_cons_succ]
            refine wpAnyH_done (by kernel_rfl) ?_ _
            refine NoPanic.normal ?_
            clear hHeld
            go_wp2_with fail
            go_meet
            case rel => exact ⟨Below.set3 hc4 hg _ _ _, DzBox.store hD rg hg, rfl⟩
          refine AllReadyH.cons rfl (fun K hK => ?_) AllReadyH.nil
          go_simp
          have hal : Below (u1).heap.size u1 (u1.alloc (.cells #[.slice none 0 0, .slice none 0 0, .slice none 0 0] 27)) := (Below.refl _ _).alloc (Nat.le_refl _) _
          have th0 := th0.below FzR.stays hal
          have th1 := th1.below FzR.stays hal
          have th2 := th2.below OzR.stays hal
          have rg := Row.new u1 27 #[.slice none 0 0, .slice none 0 0, .slice none 0 0]
          have hg : y11.heap.size ≤ u1.heap.size := hc1.size
          have hc2 := hc1.alloc hc1.size (.cells #[.slice none 0 0, .slice none 0 0, .slice none 0 0] 27)
          clear hal
          generalize u1.alloc (.cells #[.slice none 0 0, .slice none 0 0, .slice none 0 0] 27) = u2 at *
          generalize u1.heap.size = g at *
          refine hK.out _ _ ⟨below_keep hc2 _ _ krb0_0, below_keep hc2 _ _ krb0_1, below_keep hc2 _ _ krb0_2, below_keep hc2 _ _ krb1_0, below_keep hc2 _ _ krb1_1, below_keep hc2 _ _ krb1_2, below_keep hc2 _ _ krb1_3⟩ (fun hHeld => ?_)
          clear hK K
          (try simp only [Act.put, List.getElem_toArray, List.getElem_cons_zero, List.getElem_cons_succ, List.setIfInBounds_toArray, List.set_cons_zero, List.set_cons_succ])
          refine wpAnyH_ready (rs := [3]) (by kernel_rfl) (by simp) ?_
          refine AllReadyH.cons rfl (fun K hK => ?_) AllReadyH.nil
          go_simp
          go_at_call 30
          refine (lawsToDOp x1 (fun _ => True) _ S1.out).mono ?_
          rintro e u3 ⟨rfl, hq⟩
          have th0 := th0.below FzR.stays hq
          have th1 := th1.below FzR.stays hq
          have th2 := th2.below OzR.stays hq
          have rg := rg.below hq
          have hc3 := hc2.trans (hq.mono hc2.size)
          clear hq
          refine hK.out _ _ ⟨below_keep hc3 _ _ krb0_0, below_keep hc3 _ _ krb0_1, below_keep hc3 _ _ krb0_2, below_keep hc3 _ _ krb1_0, below_keep hc3 _ _ krb1_1, below_keep hc3 _ _ krb1_2, below_keep hc3 _ _ krb1_3⟩ (fun hHeld => ?_)
          clear hK K
          (try simp only [Act.put, List.getElem_toArray, List.getElem_cons_zero, List.getElem_cons_succ, List.setIfInBounds_toArray, List.set_cons_zero, List.set_cons_succ])
          refine wpAnyH_ready (rs := [4]) (by kernel_rfl) (by simp) ?_
          refine AllReadyH.cons rfl (fun K hK => ?_) AllReadyH.nil
          go_simp
          go_at_call 20
          refine (implDo x0 x1 Ah0 nh0 ch0 Ah1 nh1 ch1 Ah2 nh2 ch2 _ _ th0 th1 th2 S0.out (by have := HDS.out; omega)).mono ?_
          rintro e u4 ⟨⟨v, rfl, hD⟩, hq⟩
          have th0 := th0.below FzR.stays hq
          have th1 := th1.below FzR.stays hq
          have th2 := th2.below OzR.stays hq
          have rg := rg.below hq
          have hD := hD.mono hc3.size
          rw [← HAW.out] at hD
          rw [← HKC.out]
          have hc4 := hc3.trans (hq.mono hc3.size)
          clear hq
          obtain ⟨v0, v1, v2, rfl, k0, k1, k2, -⟩ := id hD
          obtain ⟨B0, m0, d0, rfl⟩ := k0.len
          obtain ⟨B1, m1, d1, rfl⟩ := k1.len
          obtain ⟨B2, m2, d2, rfl⟩ := k2.len
          clear k0 k1 k2
          obtain ⟨⟨r0, r1, r2⟩, ⟨f0, f1, f2⟩⟩ := rg.three
          refine hK.out _ _ ⟨below_keep hc4 _ _ krb0_0, below_keep hc4 _ _ krb0_1, below_keep hc4 _ _ krb0_2, below_keep hc4 _ _ krb1_0, below_keep hc4 _ _ krb1_1, below_keep hc4 _ _ krb1_2, below_keep hc4 _ _ krb1_3⟩ (fun hHeld => ?_)
          clear hK K
          (try simp only [Act.put, List.getElem_toArray, List.getElem_cons_zero, List.getElem_cons_succ, List.setIfInBounds_toArray, List.set_cons_zero, List.set_cons_succ])
          refine wpAnyH_take (i := 5) (v := ?v43) rfl (by kernel_rfl) (by kernel_rfl) (by kernel_rfl) (fun _ _ _ h => h) (Or.inl ⟨by rfl, ?hy43⟩) hHeld ?rest43
          case hy43 => (intro w' hSw; (try dsimp only at hSw); first | (go_simp; done) | (go_simp; with_reducible rfl))
          simp only [Act.put, List.getElem_toArray, List.getElem_cons_zero, List.getElem_cons_succ, List.setIfInBounds_toArray, List.set_cons_zero, List.set_cons_succ]
          refine wpAnyH_take (i := 6) (v := ?v44) rfl (by kernel_rfl) (by kernel_rfl) (by kernel_rfl) (fun _ _ _ h => h) (Or.inl ⟨by rfl, ?hy44⟩) hHeld ?rest44
          case hy44 => (intro w' hSw; (try dsimp only at hSw); first | (go_simp; done) | (go_simp; with_reducible rfl))
          simp only [Act.put, List.getElem_toArray, List.getElem_cons_zero, List.getElem_cons_succ, List.setIfInBounds_toArray, List.set_cons_zero, List.set_cons_succ]
          refine wpAnyH_take (i := 7) (v := ?v45) rfl (by kernel_rfl) (by kernel_rfl) (by kernel_rfl) (fun _ _ _ h => h) (Or.inl ⟨by rfl, ?hy45⟩) hHeld ?rest45
          case hy45 => (intro w' hSw; (try dsimp only at hSw); first | (go_simp; done) | (go_simp; with_reducible rfl))
          simp only [Act.put, List.getElem_toArray, List.getElem_cons_zero, List.getElem_cons_succ, List.setIfInBounds_toArray, List.set_cons_zero, List.set_cons_succ]
          refine wpAnyH_ready (rs := [9]) (by kernel_rfl) (by simp) ?_
          refine AllReadyH.cons rfl (fun K hK => ?_) AllReadyH.nil
          go_simp
          refine hK.out _ _ ⟨cellOff (cellOff (cellOff (below_keep hc4 _ _ krb0_0) (show g ≠ w.heap.size by omega)) (show g ≠ w.heap.size by omega)) (show g ≠ w.heap.size by omega), cellOff (cellOff (cellOff (below_keep hc4 _ _ krb0_1) (show g ≠ w.heap.size by omega)) (show g ≠ w.heap.size by omega)) (show g ≠ w.heap.size by omega), cellOff (cellOff (cellOff (below_keep hc4 _ _ krb0_2) (show g ≠ w.heap.size by omega)) (show g ≠ w.heap.size by omega)) (show g ≠ w.heap.size by omega), cellOff (cellOff (cellOff (below_keep hc4 _ _ krb1_0) (show g ≠ (w.heap.size + 1) by omega)) (show g ≠ (w.heap.size + 1) by omega)) (show g ≠ (w.heap.size + 1) by omega), cellOff (cellOff (cellOff (below_keep hc4 _ _ krb1_1) (show g ≠ (w.heap.size + 1) by omega)) (show g ≠ (w.heap.size + 1) by omega)) (show g ≠ (w.heap.size + 1) by omega), cellOff (cellOff (cellOff (below_keep hc4 _ _ krb1_2) (show g ≠ (w.heap.size + 1) by omega)) (show g ≠ (w.heap.size + 1) by omega)) (show g ≠ (w.heap.size + 1) by omega), cellOff (cellOff (cellOff (below_keep hc4 _ _ krb1_3) (show g ≠ (w.heap.size + 1) by omega)) (show g ≠ (w.heap.size + 1) by omega)) (show g ≠ (w.heap.size + 1) by omega)⟩ (fun hHeld => ?_)
          clear hK K
          (try simp only [Act.put, List.getElem_toArray, List.getElem_cons_zero, List.getElem_cons_succ, List.setIfInBounds_toArray, List.set_cons_zero, List.set_cons_succ])
          refine wpAnyH_take (i := 10) (v := ?v46) rfl (by kernel_rfl) (by kernel_rfl) (by kernel_rfl) (fun _ _ _ h => h) (Or.inl ⟨by rfl, ?hy46⟩) hHeld ?rest46
          case hy46 => (intro w' hSw; (try dsimp only at hSw); first | (go_simp; done) | (go_simp; with_reducible rfl))
          simp only [Act.put, List.getElem_toArray, List.getElem_cons_zero, List.getElem_cons_succ, List.setIfInBounds_toArray, List.set_cons_zero, List.set_cons_succ]
          refine wpAnyH_done (by kernel_rfl) ?_ _
          refine NoPanic.normal ?_
          clear hHeld
          go_wp2_with fail
          go_meet
          case rel => exact ⟨Below.set3 hc4 hg _ _ _, DzBox.store hD rg hg, rfl⟩
        refine AllReadyH.cons rfl (fun K hK => ?_) AllReadyH.nil
        go_simp
        have hal : Below (u0).heap.size u0 (u0.alloc (.cells #[.slice none 0 0, .slice none 0 0, .slice none 0 0] 27)) := (Below.refl _ _).alloc (Nat.le_refl _) _
        have rg := Row.new u0 27 #[.slice none 0 0, .slice none 0 0, .slice none 0 0]
        have hg : y11.heap.size ≤ u0.heap.size := hc0.size
        have hc1 := hc0.alloc hc0.size (.cells #[.slice none 0 0, .slice none 0 0, .slice none 0 0] 27)
        clear hal
        generalize u0.alloc (.cells #[.slice none 0 0, .slice none 0 0, .slice none 0 0] 27) = u1 at *
        generalize u0.heap.size = g at *
        refine hK.out _ _ ⟨below_keep hc1 _ _ krb0_0, below_keep hc1 _ _ krb0_1, below_keep hc1 _ _ krb0_2, below_keep hc1 _ _ krb1_0, below_keep hc1 _ _ krb1_1, below_keep hc1 _ _ krb1_2, below_keep hc1 _ _ krb1_3⟩ (fun hHeld => ?_)
        clear hK K
        (try simp only [Act.put, List.getElem_toArray, List.getElem_cons_zero, List.getElem_cons_succ, List.setIfInBounds_toArray, List.set_cons_zero, List.set_cons_succ])
        refine wpAnyH_ready (rs := [1]) (by kernel_rfl) (by simp) ?_
        refine AllReadyH.cons rfl (fun K hK => ?_) AllReadyH.nil
        go_simp
        go_at_call 27
        refine (lawsToDisk x0 A0_0 n0_0 c0_0 A0_1 n0_1 c0_1 A0_2 n0_2 c0_2 _ _ (h0_0.below FzR.stays (hb.trans (hc1.mono hb.size))) (h0_1.below FzR.stays (hb.trans (hc1.mono hb.size))) (h0_2.below OzR.stays (hb.trans (hc1.mono hb.size))) S0.out).mono ?_
        rintro e u2 ⟨cs, rfl, hR, hq⟩
        obtain ⟨Ah0, nh0, ch0, Ah1, nh1, ch1, Ah2, nh2, ch2, rfl, th0, th1, th2, -⟩ := hR
        have rg := rg.below hq
        have hc2 := hc1.trans (hq.mono hc1.size)
        clear hq
        refine hK.out _ _ ⟨below_keep hc2 _ _ krb0_0, below_keep hc2 _ _ krb0_1, below_keep hc2 _ _ krb0_2, below_keep hc2 _ _ krb1_0, below_keep hc2 _ _ krb1_1, below_keep hc2 _ _ krb1_2, below_keep hc2 _ _ krb1_3⟩ (fun hHeld => ?_)
        clear hK K
        (try simp only [Act.put, List.getElem_toArray, List.getElem_cons_zero, List.getElem_cons_succ, List.setIfInBounds_toArray, List.set_cons_zero, List.set_cons_succ])
        refine wpAnyH_ready (rs := [3]) (by kernel_rfl) (by simp) ?_
        refine AllReadyH.cons rfl (fun K hK => ?_) AllReadyH.nil
        go_simp
        go_at_call 30
        refine (lawsToDOp x1 (fun _ => True) _ S1.out).mono ?_
        rintro e u3 ⟨rfl, hq⟩
        have th0 := th0.below FzR.stays hq
        have th1 := th1.below FzR.stays hq
        have th2 := th2.below OzR.stays hq
        have rg := rg.below hq
        have hc3 := hc2.trans (hq.mono hc2.size)
        clear hq
        refine hK.out _ _ ⟨below_keep hc3 _ _ krb0_0, below_keep hc3 _ _ krb0_1, below_keep hc3 _ _ krb0_2, below_keep hc3 _ _ krb1_0, below_keep hc3 _ _ krb1_1, below_keep hc3 _ _ krb1_2, below_keep hc3 _ _ krb1_3⟩ (fun hHeld => ?_)
        clear hK K
        (try simp only [Act.put, List.getElem_toArray, List.getElem_cons_zero, List.getElem_cons_succ, List.setIfInBounds_toArray, List.set_cons_zero, List.set_cons_succ])
        refine wpAnyH_ready (rs := [4]) (by kernel_rfl) (by simp) ?_
        refine AllReadyH.cons rfl (fun K hK => ?_) AllReadyH.nil
        go_simp
        go_at_call 20
        refine (implDo x0 x1 Ah0 nh0 ch0 Ah1 nh1 ch1 Ah2 nh2 ch2 _ _ th0 th1 th2 S0.out (by have := HDS.out; omega)).mono ?_
        rintro e u4 ⟨⟨v, rfl, hD⟩, hq⟩
        have th0 := th0.below FzR.stays hq
        have th1 := th1.below FzR.stays hq
        have th2 := th2.below OzR.stays hq
        have rg := rg.below hq
        have hD := hD.mono hc3.size
        rw [← HAW.out] at hD
        rw [← HKC.out]
        have hc4 := hc3.trans (hq.mono hc3.size)
        clear hq
        obtain ⟨v0, v1, v2, rfl, k0, k1, k2, -⟩ := id hD
        obtain ⟨B0, m0, d0, rfl⟩ := k0.len
        obtain ⟨B1, m1, d1, rfl⟩ := k1.len
        obtain ⟨B2, m2, d2, rfl⟩ := k2.len
        clear k0 k1 k2
        obtain ⟨⟨r0, r1, r2⟩, ⟨f0, f1, f2⟩⟩ := rg.three
        refine hK.out _ _ ⟨below_keep hc4 _ _ krb0_0, below_keep hc4 _ _ krb0_1, below_keep hc4 _ _ krb0_2, below_keep hc4 _ _ krb1_0, below_keep hc4 _ _ krb1_1, below_keep hc4 _ _ krb1_2, below_keep hc4 _ _ krb1_3⟩ (fun hHeld => ?_)
        clear hK K
        (try simp only [Act.put, List.getElem_toArray, List.getElem_cons_zero, List.getElem_cons_succ, List.setIfInBounds_toArray, List.set_cons_zero, List.set_cons_succ])
        refine wpAnyH_take (i := 5) (v := ?v47) rfl (by kernel_rfl) (by kernel_rfl) (by kernel_rfl) (fun _ _ _ h => h) (Or.inl ⟨by rfl, ?hy47⟩) hHeld ?rest47
        case hy47 => (intro w' hSw; (try dsimp only at hSw); first | (go_simp; done) | (go_simp; with_reducible rfl))
        simp only [Act.put, List.getElem_toArray, List.getElem_cons_zero, List.getElem_cons_succ, List.setIfInBounds_toArray, List.set_cons_zero, List.set_cons_succ]
        refine wpAnyH_take (i := 6) (v := ?v48) rfl (by kernel_rfl) (by kernel_rfl) (by kernel_rfl) (fun _ _ _ h => h) (Or.inl ⟨by rfl, ?hy48⟩) hHeld ?rest48
        case hy48 => (intro w' hSw; (try dsimp only at hSw); first | (go_simp; done) | (go_simp; with_reducible rfl))
        simp only [Act.put, List.getElem_toArray, List.getElem_cons_zero, List.getElem_cons_succ, List.setIfInBounds_toArray, List.set_cons_zero, List.set_cons_succ]
        refine wpAnyH_take (i := 7) (v := ?v49) rfl (by kernel_rfl) (by kernel_rfl) (by kernel_rfl) (fun _ _ _ h => h) (Or.inl ⟨by rfl, ?hy49⟩) hHeld ?rest49
        case hy49 => (intro w' hSw; (try dsimp only at hSw); first | (go_simp; done) | (go_simp; with_reducible rfl))
        simp only [Act.put, List.getElem_toArray, List.getElem_cons_zero, List.getElem_cons_succ, List.setIfInBounds_toArray, List.set_cons_zero, List.set_cons_succ]
        refine wpAnyH_ready (rs := [9]) (by kernel_rfl) (by simp) ?_
        refine AllReadyH.cons rfl (fun K hK => ?_) AllReadyH.nil
        go_simp
        refine hK.out _ _ ⟨cellOff (cellOff (cellOff (below_keep hc4 _ _ krb0_0) (show g ≠ w.heap.size by omega)) (show g ≠ w.heap.size by omega)) (show g ≠ w.heap.size by omega), cellOff (cellOff (cellOff (below_keep hc4 _ _ krb0_1) (show g ≠ w.heap.size by omega)) (show g ≠ w.heap.size by omega)) (show g ≠ w.heap.size by omega), cellOff (cellOff (cellOff (below_keep hc4 _ _ krb0_2) (show g ≠ w.heap.size by omega)) (show g ≠ w.heap.size by omega)) (show g ≠ w.heap.size by omega), cellOff (cellOff (cellOff (below_keep hc4 _ _ krb1_0) (show g ≠ (w.heap.size + 1) by omega)) (show g ≠ (w.heap.size + 1) by omega)) (show g ≠ (w.heap.size + 1) by omega), cellOff (cellOff (cellOff (below_keep hc4 _ _ krb1_1) (show g ≠ (w.heap.size + 1) by omega)) (show g ≠ (w.heap.size + 1) by omega)) (show g ≠ (w.heap.size + 1) by omega), cellOff (cellOff (cellOff (below_keep hc4 _ _ krb1_2) (show g ≠ (w.heap.size + 1) by omega)) (show g ≠ (w.heap.size + 1) by omega)) (show g ≠ (w.heap.size + 1) by omega), cellOff (cellOff (cellOff (below_keep hc4 _ _ krb1_3) (show g ≠ (w.heap.size + 1) by omega)) (show g ≠ (w.heap.size + 1) by omega)) (show g ≠ (w.heap.size + 1) by omega)⟩ (fun hHeld => ?_)
        clear hK K
        (try simp only [Act.put, List.getElem_toArray, List.getElem_cons_zero, List.getElem_cons_succ, List.setIfInBounds_toArray, List.set_cons_zero, List.set_cons_succ])
        refine wpAnyH_take (i := 10) (v := ?v50) rfl (by kernel_rfl) (by kernel_rfl) (by kernel_rfl) (fun _ _ _ h => h) (Or.inl ⟨by rfl, ?hy50⟩) hHeld ?rest50
        case hy50 => (intro w' hSw; (try dsimp only at hSw); first | (go_simp; done) | (go_simp; with_reducible rfl))
        simp only [Act.put, List.getElem_toArray, List.getElem_cons_zero, List.getElem_cons_succ, List.setIfInBounds_toArray, List.set_cons_zero, List.set_cons_succ]
        refine wpAnyH_done (by kernel_rfl) ?_ _
        refine NoPanic.normal ?_
        clear hHeld
        go_wp2_with fail
        go_meet
        case rel => exact ⟨Below.set3 hc4 hg _ _ _, DzBox.store hD rg hg, rfl⟩
      case rest =>
        obtain ⟨hbc, hbx, rfl⟩ := hcut
        obtain ⟨gi, v0, v1, v2, rfl, hgi, ri_, hD⟩ := hbx
        have tw0 := tw0.below FzR.stays hbc
        have tw1 := tw1.below FzR.stays hbc
        have tw2 := tw2.below OzR.stays hbc
        have mg0 := mg0.stay (KeptL.below (bs := []) hbc) (fun _ _ => List.not_mem_nil)
        have mg1 := mg1.stay (KeptL.below (bs := []) hbc) (fun _ _ => List.not_mem_nil)
        have mg2 := mg2.stay (KeptL.below (bs := []) hbc) (fun _ _ => List.not_mem_nil)
        have rb0 := rb0.below hbc
        have rb1 := rb1.below hbc
        have rw_ := rw_.below hbc
        have rg_ := rg_.below hbc
        have hb := hb.trans (hbc.mono hb.size)
        have HLT := Lib.hid (show w.heap.size + 1 < wc.heap.size from Nat.lt_of_lt_of_le HLT.out hbc.size)
        have HSC := Lib.hid hbc.size
        obtain ⟨Ai0, ci0, Ai1, ci1, Ai2, ci2, bi0, bi1, bi2, ev, ti0, ti1, ti2, fi0, fi1, fi2, ndi, lti, nri⟩ := hD.openT FIT.out
        injection ev with ev
        obtain ⟨rfl, rfl, rfl⟩ : v0 = _ ∧ v1 = _ ∧ v2 = _ := by injection ev with ev; injection ev with e0 ev; injection ev with e1 ev; injection ev with e2 ev; exact ⟨e0, e1, e2⟩
        clear hD hbc
        have hgli := Lib.hid (lt_of_block ri_)
        have hgbi := Lib.hid hgi
        clear hgi
        generalize hwc : wc = y12 at *
        clear hwc wc
        clear fi0
        clear fi1
        clear fi2
        clear ndi lti nri
        obtain ⟨⟨kri__0, kri__1, kri__2⟩, -⟩ := ri_.three
        obtain ⟨⟨krw__0, krw__1, krw__2⟩, -⟩ := rw_.three
        go_wp2_with fail
        refine (lawsEqDiskM aw Ai0 Aw0 _ ci0 cw0 Ai1 Aw1 _ ci1 cw1 Ai2 Aw2 _ ci2 cw2 _ _ _ ti0 ti1 ti2 tw0 tw1 tw2 FIT.out).mono ?_
        rintro e y13 ⟨rfl, hq13⟩
        have tw0 := tw0.below FzR.stays hq13
        have tw1 := tw1.below FzR.stays hq13
        have tw2 := tw2.below OzR.stays hq13
        have mg0 := mg0.stay (KeptL.below (bs := []) hq13) (fun _ _ => List.not_mem_nil)
        have mg1 := mg1.stay (KeptL.below (bs := []) hq13) (fun _ _ => List.not_mem_nil)
        have mg2 := mg2.stay (KeptL.below (bs := []) hq13) (fun _ _ => List.not_mem_nil)
        have ti0 := ti0.below FzR.stays hq13
        have ti1 := ti1.below FzR.stays hq13
        have ti2 := ti2.below OzR.stays hq13
        have rb0 := rb0.below hq13
        have rb1 := rb1.below hq13
        have rw_ := rw_.below hq13
        have rg_ := rg_.below hq13
        have ri_ := ri_.below hq13
        have hb := hb.trans (hq13.mono hb.size)
        clear kri__0 kri__1 kri__2 krw__0 krw__1 krw__2
        obtain ⟨⟨krg__0, krg__1, krg__2⟩, -⟩ := rg_.three
        go_wp2_with fail
        refine (heldXDisk Ag0 _ cg0 Ag1 _ cg1 Ag2 _ cg2 bg0 bg1 bg2 1 _ mg0 mg1 mg2 (by omega) rfl).mono ?_
        rintro e y14 ⟨rfl, hq14⟩
        rw [HMM.out]
        have hb := hb.trans (hq14.mono hb.size)
        have tw0 := tw0.below FzR.stays hq14
        have tw1 := tw1.below FzR.stays hq14
        have tw2 := tw2.below OzR.stays hq14
        have mg0 := mg0.stay (KeptL.below (bs := []) hq14) (fun _ _ => List.not_mem_nil)
        have mg1 := mg1.stay (KeptL.below (bs := []) hq14) (fun _ _ => List.not_mem_nil)
        have mg2 := mg2.stay (KeptL.below (bs := []) hq14) (fun _ _ => List.not_mem_nil)
        have ti0 := ti0.below FzR.stays hq14
        have ti1 := ti1.below FzR.stays hq14
        have ti2 := ti2.below OzR.stays hq14
        have rb0 := rb0.below hq14
        have rb1 := rb1.below hq14
        have rw_ := rw_.below hq14
        have rg_ := rg_.below hq14
        have ri_ := ri_.below hq14
        clear krg__0 krg__1 krg__2
        go_wp2_with fail
        go_ret
        exact ⟨rfl, hb⟩

set_option maxRecDepth 100000 in
theorem lifted (os : Os) (started : os.Started) (H : Type) (enc : TypeId × Value → H) :
    ReturnsInHanded {} Try.checked os 7 .any (Rows.fnExactDoSpec.pre6 enc Try.prog Try.f7 Rows.fnExactDoRow.domain false) (Rows.fnExactDoSpec.post enc Try.prog Try.f7 false true false false) := by
  refine returnsInHanded_of_change (C := Try.checked) own started (by kernel_rfl) Try.func7
    (ChangeSpec.witness6 (enc := enc) (C := Try.checked) false ⟨#[], #[.agg #[.slice none 0 0, .slice none 0 0, .slice none 0 0], .agg #[.int .i64 0, .string ⟨#[]⟩, .string ⟨#[]⟩, .string ⟨#[]⟩]], []⟩ 8 (by kernel_rfl) (by kernel_rfl) (by kernel_rfl) (by kernel_rfl)) ?_
  intro W base args ds gs before hval0 hW hcnd _
  have hval : ∀ (j : Nat) t v, Try.f7.params[j]? = some t → args[j]? = some v → Value.okWide Try.prog W .any base t v := hval0
  have hW' := hW
  obtain ⟨p, q, hA0, hV, rfl, hfz, hnd⟩ := hW
  have hA : DataW.TrodAll enc Try.prog W 0 (fun _ => true) true Try.f7.params.toList args.toList ds p := hA0
  rw [Try.params7] at hA hval
  obtain ⟨v0, vs0, d0, ds0, p0, q0, hargs, rfl, rfl, h0, r0⟩ := trodAll_cons hA
  obtain ⟨v1, vs1, d1, ds1, p1, q1, rfl, rfl, rfl, h1, r1⟩ := trodAll_cons r0
  obtain ⟨rfl, rfl, rfl⟩ := trodAll_nil r1
  obtain rfl : args = #[v0, v1] := by cases args; simp_all
  obtain ⟨rfl, rfl⟩ := trodVars_none hV
  have k0' := h0
  have lt0 : ∀ x ∈ p0, x.block < W.heap.size := by obtain ⟨m, hm⟩ := k0'; exact DataW.trod_lt m _ _ _ hm
  have k1' := h1
  have lt1 : ∀ x ∈ p1, x.block < W.heap.size := by obtain ⟨m, hm⟩ := k1'; exact DataW.trod_lt m _ _ _ hm
  obtain ⟨cs0, rfl, hsz0⟩ := okWide_struct Try.underlying50 (hval 0 50 v0 rfl rfl)
  obtain ⟨x0, hx0, wf0⟩ := (by obtain ⟨m, hm⟩ := h0; exact Disk_of_trod (by simpa [Value.cells] using hm) : ∃ d, DzR (fun _ => True) W cs0.toList d ∧ d.wf)
  obtain ⟨A0_0, n0_0, c0_0, A0_1, n0_1, c0_1, A0_2, n0_2, c0_2, ecs0, s0_0, s0_1, s0_2, -⟩ := hx0
  obtain rfl : cs0 = #[.slice A0_0 n0_0 c0_0, .slice A0_1 n0_1 c0_1, .slice A0_2 n0_2 c0_2] := by cases cs0; simp_all
  obtain ⟨cs1, rfl, hsz1⟩ := okWide_struct Try.underlying55 (hval 1 55 v1 rfl rfl)
  obtain ⟨x1, hx1, wf1⟩ := (by obtain ⟨m, hm⟩ := h1; exact DOp_of_trod (by simpa [Value.cells] using hm) : ∃ d, OzR (fun _ => True) W cs1.toList d ∧ d.wf)
  have ecs1 : cs1.toList = Oz.cells x1 := hx1
  obtain rfl : cs1 = #[.int .i64 x1.kind, .string x1.name, .string x1.to, .string x1.data] := by cases cs1; simp_all [Oz.cells]
  clear hA0 hval0
  refine (walk x0 A0_0 n0_0 c0_0 A0_1 n0_1 c0_1 A0_2 n0_2 c0_2 x1  W ⟨⟨s0_0, s0_1, s0_2⟩, wf0⟩ wf1).mono fun e W' ⟨he, bel⟩ => ?_
  subst he
  exact ⟨_, rfl, _, _, _, [], _, [], hW', trodAll_mk1 (shut_bool Try.underlying4 _), (trodAll_cons_mk (Below.trod laidOut (by kernel_rfl) (of_decide_eq_true (by kernel_rfl)) k0' bel lt0) (trodAll_cons_mk (Below.trod laidOut (by kernel_rfl) (of_decide_eq_true (by kernel_rfl)) k1' bel lt1) trodAll_mk0)), rfl, bel.frame _, fun h => by cases h⟩

set_option maxRecDepth 100000 in
set_option maxHeartbeats 16000000 in
theorem facts : joinedFacts Try.checked.prog 7 Try.f7 Rows.fnExactDoSpec Rows.fnExactDoRow = true := by
  unfold joinedFacts
  repeat' (with_reducible refine Bool.and_eq_true_iff.2 ⟨?_, ?_⟩)
  all_goals (as_aux_lemma => kernel_rfl)

theorem over : Rows.fnExactDoRow.holds Try.pinned (OpenSpec.ofChange Rows.fnExactDoSpec) :=
  OpenClaim.holds_of_wide 7 Try.f7 rfl rfl rfl rfl rfl rfl rfl ⟨rfl, rfl, rfl, rfl, rfl⟩ rfl rfl rfl rfl rfl (by kernel_rfl) Try.func7 facts
    (of_decide_eq_true (by as_aux_lemma => kernel_rfl)) (by unfold Func.isWrapper; first | (rw [if_pos (by decide +kernel)]; kernel_rfl) | (rw [if_neg (by decide +kernel)]; exact ⟨rfl, rfl⟩))
    (fun os started H enc _ => lifted os started H enc)

theorem proved : Rows.FnExactDoSaid := over
#print axioms proved
end Go.Proofs.Ytkinegapnknhiaa.fnExactDo
