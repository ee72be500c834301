/-
  Whole copies of disks, in the model and in the program.
-/
import Derived.Test.YtkinegapnknhiaaDiskSync
namespace Go.Proofs.Ytkinegapnknhiaa
open Go.RowKit
set_option linter.unusedVariables false
set_option linter.unusedSimpArgs false

set_option maxRecDepth 100000 in
set_option maxHeartbeats 1000000 in
theorem specCopy (x : Dz) (A0 : Option Addr) (n0 c0 : Nat) (A1 : Option Addr) (n1 c1 : Nat) (A2 : Option Addr) (n2 c2 : Nat) (ok : Nat → Prop) (w : World) (h0 : Sl FzR 2 ok w A0 n0 x.live) (h1 : Sl FzR 2 ok w A1 n1 x.safe) (h2 : Sl OzR 4 ok w A2 n2 x.ops) (hl : n0 ≤ 1048576 ∧ n1 ≤ 1048576 ∧ n2 ≤ 1048576) :
    Calls Try.prog 65 #[.agg #[.slice A0 n0 c0, .slice A1 n1 c1, .slice A2 n2 c2]] w fun e w' => (∃ v, e = .returned v ∧ DzA w' w.heap.size v (x)) ∧ Below w.heap.size w w' := by
  obtain ⟨hx, hwz⟩ := box2 w (.cells #[.slice A0 n0 c0, .slice A1 n1 c1, .slice A2 n2 c2] 27) (.cells #[.slice none 0 0, .slice none 0 0, .slice none 0 0] 27)
  have ra := (Row.new w 27 #[.slice A0 n0 c0, .slice A1 n1 c1, .slice A2 n2 c2]).alloc (.cells #[.slice none 0 0, .slice none 0 0, .slice none 0 0] 27)
  have rb := Row.newAt (w.alloc (.cells #[.slice A0 n0 c0, .slice A1 n1 c1, .slice A2 n2 c2] 27)) 27 #[.slice none 0 0, .slice none 0 0, .slice none 0 0] (w.heap.size + 1) (by simp)
  have HI := Lib.hid infoDisk
  obtain ⟨i0, hi, hz0, hz1, hz2⟩ := info_parts infoFileT
  have H1 := Lib.hid hi
  have H2 := Lib.hid hz0
  have H3 := Lib.hid hz1
  have H4 := Lib.hid hz2
  clear hi hz0 hz1 hz2
  obtain ⟨j0, hi, hz0, hz1, hz2⟩ := info_parts infoDOpT
  have J1 := Lib.hid hi
  have J2 := Lib.hid hz0
  have J3 := Lib.hid hz1
  have J4 := Lib.hid hz2
  clear hi hz0 hz1 hz2
  go_enter Try.func65, Try.ntmps65
  go_wp2_with fail
  generalize (w.alloc (.cells #[.slice A0 n0 c0, .slice A1 n1 c1, .slice A2 n2 c2] 27)).alloc (.cells #[.slice none 0 0, .slice none 0 0, .slice none 0 0] 27) = z at *
  have hln0 := hl.1
  have hln1 := hl.2.1
  have hln2 := hl.2.2
  clear hl
  obtain ⟨⟨p0, p1, p2⟩, -⟩ := ra.three
  obtain ⟨⟨r0, r1, r2⟩, ⟨f0, f1, f2⟩⟩ := rb.three
  clear r0 r1 r2 f0 f1 f2
  have hb0 : Below z.heap.size z z.drew := (Below.refl _ z).drew
  refine wp_region_noPanic ?_
  refine wp_region_held_drew (S := (fun w' => w'.cell? ⟨w.heap.size, 0, none⟩ = some (.slice A0 n0 c0) ∧ w'.cell? ⟨w.heap.size, 1, none⟩ = some (.slice A1 n1 c1) ∧ w'.cell? ⟨w.heap.size, 2, none⟩ = some (.slice A2 n2 c2))) (by kernel_rfl) ⟨p0, p1, p2⟩ (fun hHeld => ?_)
  generalize z.drew = u0 at *
  refine wpAnyH_take (i := 1) (v := ?v1) rfl (by kernel_rfl) (by kernel_rfl) (by kernel_rfl) (fun _ _ _ h => h) (Or.inl ⟨by rfl, ?hy1⟩) hHeld ?rest1
  case hy1 => (intro w' hSw; (try dsimp only at hSw); first | (go_simp; done) | (go_simp; with_reducible rfl))
  simp only [Act.put, List.getElem_toArray, List.getElem_cons_zero, List.getElem_cons_succ, List.setIfInBounds_toArray, List.set_cons_zero, List.set_cons_succ]
  refine wpAnyH_take (i := 2) (v := ?v2) rfl (by kernel_rfl) (by kernel_rfl) (by kernel_rfl) (fun _ _ _ h => h) (Or.inl ⟨by rfl, ?hy2⟩) hHeld ?rest2
  case hy2 => (intro w' hSw; (try dsimp only at hSw); first | (go_simp; done) | (go_simp; with_reducible rfl))
  simp only [Act.put, List.getElem_toArray, List.getElem_cons_zero, List.getElem_cons_succ, List.setIfInBounds_toArray, List.set_cons_zero, List.set_cons_succ]
  refine wpAnyH_take (i := 5) (v := ?v3) rfl (by kernel_rfl) (by kernel_rfl) (by kernel_rfl) (fun _ _ _ h => h) (Or.inl ⟨by rfl, ?hy3⟩) hHeld ?rest3
  case hy3 => (intro w' hSw; (try dsimp only at hSw); first | (go_simp; done) | (go_simp; with_reducible rfl))
  simp only [Act.put, List.getElem_toArray, List.getElem_cons_zero, List.getElem_cons_succ, List.setIfInBounds_toArray, List.set_cons_zero, List.set_cons_succ]
  refine wpAnyH_take (i := 6) (v := ?v4) rfl (by kernel_rfl) (by kernel_rfl) (by kernel_rfl) (fun _ _ _ h => h) (Or.inl ⟨by rfl, ?hy4⟩) hHeld ?rest4
  case hy4 => (intro w' hSw; (try dsimp only at hSw); first | (go_simp; done) | (go_simp; with_reducible rfl))
  simp only [Act.put, List.getElem_toArray, List.getElem_cons_zero, List.getElem_cons_succ, List.setIfInBounds_toArray, List.set_cons_zero, List.set_cons_succ]
  refine wpAnyH_take (i := 9) (v := ?v5) rfl (by kernel_rfl) (by kernel_rfl) (by kernel_rfl) (fun _ _ _ h => h) (Or.inl ⟨by rfl, ?hy5⟩) hHeld ?rest5
  case hy5 => (intro w' hSw; (try dsimp only at hSw); first | (go_simp; done) | (go_simp; with_reducible rfl))
  simp only [Act.put, List.getElem_toArray, List.getElem_cons_zero, List.getElem_cons_succ, List.setIfInBounds_toArray, List.set_cons_zero, List.set_cons_succ]
  refine wpAnyH_take (i := 10) (v := ?v6) rfl (by kernel_rfl) (by kernel_rfl) (by kernel_rfl) (fun _ _ _ h => h) (Or.inl ⟨by rfl, ?hy6⟩) hHeld ?rest6
  case hy6 => (intro w' hSw; (try dsimp only at hSw); first | (go_simp; done) | (go_simp; with_reducible rfl))
  simp only [Act.put, List.getElem_toArray, List.getElem_cons_zero, List.getElem_cons_succ, List.setIfInBounds_toArray, List.set_cons_zero, List.set_cons_succ]
  refine wpAnyH_ready (rs := [0, 4, 8]) (by kernel_rfl) (by simp) ?_
  refine AllReadyH.cons rfl (fun K hK => ?_) ?_
  · go_simp
    have hal : Below (u0).heap.size u0 ((u0).alloc (.cells #[] 75)) := (Below.refl _ _).alloc (Nat.le_refl _) _
    have O0_1 := Lib.hid (OwnG.lit (T := 75) (sz := 2) (f := Fz.cells) (u0) (base := z.heap.size) hb0.size)
    have hb1 := hb0.alloc hb0.size (.cells #[] 75)
    clear hal
    generalize (u0).alloc (.cells #[] 75) = u1 at *
    refine hK.out _ _ ⟨below_keep hb1 _ _ p0, below_keep hb1 _ _ p1, below_keep hb1 _ _ p2⟩ (fun hHeld => ?_)
    clear hK K
    (try simp only [Act.put, List.getElem_toArray, List.getElem_cons_zero, List.getElem_cons_succ, List.setIfInBounds_toArray, List.set_cons_zero, List.set_cons_succ])
    refine wpAnyH_ready (rs := [3, 4, 8]) (by kernel_rfl) (by simp) ?_
    refine AllReadyH.cons rfl (fun K hK => ?_) ?_
    · obtain ⟨v0, u2, hr0, o0, hg0, hl0⟩ := run_app_all fz_cells fz_one (by omega) Try.underlying24 H1.out H2.out H3.out H4.out rfl (u1) 24 O0_1.out hb1.size (c := c0) (h0.below FzR.stays (hx.trans (hb1.mono hx.size))) hln0 (by omega)
      refine step_append_run rfl (.tmp 3) (.tmp 5) 24 24 rfl rfl rfl hr0 ?_
      have hb2 := hb1.grown hg0 hb1.size (fun k hk => (OwnG.block_lt O0_1.out k hk).1)
      have O0_2 := Lib.hid o0
      obtain ⟨B0, d0, e0, -, -, -⟩ := (show OwnZ u2 z.heap.size v0 _ from o0).sl
      subst e0
      clear o0 hr0 hg0 hl0
      refine hK.out _ _ ⟨below_keep hb2 _ _ p0, below_keep hb2 _ _ p1, below_keep hb2 _ _ p2⟩ (fun hHeld => ?_)
      clear hK K
      (try simp only [Act.put, List.getElem_toArray, List.getElem_cons_zero, List.getElem_cons_succ, List.setIfInBounds_toArray, List.set_cons_zero, List.set_cons_succ])
      refine wpAnyH_ready (rs := [4, 8]) (by kernel_rfl) (by simp) ?_
      refine AllReadyH.cons rfl (fun K hK => ?_) ?_
      · go_simp
        have hal : Below (u2).heap.size u2 ((u2).alloc (.cells #[] 75)) := (Below.refl _ _).alloc (Nat.le_refl _) _
        have O1_3 := Lib.hid (OwnG.lit (T := 75) (sz := 2) (f := Fz.cells) (u2) (base := z.heap.size) hb2.size)
        have D1_0_3 := Lib.hid (Dis.fresh O0_2.out 0 0)
        have O0_3 := Lib.hid (OwnG.below O0_2.out hal)
        have hb3 := hb2.alloc hb2.size (.cells #[] 75)
        clear hal
        generalize (u2).alloc (.cells #[] 75) = u3 at *
        refine hK.out _ _ ⟨below_keep hb3 _ _ p0, below_keep hb3 _ _ p1, below_keep hb3 _ _ p2⟩ (fun hHeld => ?_)
        clear hK K
        (try simp only [Act.put, List.getElem_toArray, List.getElem_cons_zero, List.getElem_cons_succ, List.setIfInBounds_toArray, List.set_cons_zero, List.set_cons_succ])
        refine wpAnyH_ready (rs := [7, 8]) (by kernel_rfl) (by simp) ?_
        refine AllReadyH.cons rfl (fun K hK => ?_) ?_
        · obtain ⟨v1, u4, hr1, o1, hg1, hl1⟩ := run_app_all fz_cells fz_one (by omega) Try.underlying24 H1.out H2.out H3.out H4.out rfl (u3) 24 O1_3.out hb3.size (c := c1) (h1.below FzR.stays (hx.trans (hb3.mono hx.size))) hln1 (by omega)
          refine step_append_run rfl (.tmp 7) (.tmp 9) 24 24 rfl rfl rfl hr1 ?_
          have hb4 := hb3.grown hg1 hb3.size (fun k hk => (OwnG.block_lt O1_3.out k hk).1)
          have D1_0_4 := Lib.hid (Dis.app O0_3.out (D1_0_3.out) hl1)
          have O0_4 := Lib.hid (OwnG.keptD O0_3.out hg1 (D1_0_3.out))
          have O1_4 := Lib.hid o1
          obtain ⟨B1, d1, e1, -, -, -⟩ := (show OwnZ u4 z.heap.size v1 _ from o1).sl
          subst e1
          clear o1 hr1 hg1 hl1
          refine hK.out _ _ ⟨below_keep hb4 _ _ p0, below_keep hb4 _ _ p1, below_keep hb4 _ _ p2⟩ (fun hHeld => ?_)
          clear hK K
          (try simp only [Act.put, List.getElem_toArray, List.getElem_cons_zero, List.getElem_cons_succ, List.setIfInBounds_toArray, List.set_cons_zero, List.set_cons_succ])
          refine wpAnyH_ready (rs := [8]) (by kernel_rfl) (by simp) ?_
          refine AllReadyH.cons rfl (fun K hK => ?_) AllReadyH.nil
          go_simp
          have hal : Below (u4).heap.size u4 ((u4).alloc (.cells #[] 36)) := (Below.refl _ _).alloc (Nat.le_refl _) _
          have O2_5 := Lib.hid (OwnG.lit (T := 36) (sz := 4) (f := Oz.cells) (u4) (base := z.heap.size) hb4.size)
          have D2_0_5 := Lib.hid (Dis.fresh O0_4.out 0 0)
          have O0_5 := Lib.hid (OwnG.below O0_4.out hal)
          have D2_1_5 := Lib.hid (Dis.fresh O1_4.out 0 0)
          have O1_5 := Lib.hid (OwnG.below O1_4.out hal)
          have hb5 := hb4.alloc hb4.size (.cells #[] 36)
          clear hal
          generalize (u4).alloc (.cells #[] 36) = u5 at *
          refine hK.out _ _ ⟨below_keep hb5 _ _ p0, below_keep hb5 _ _ p1, below_keep hb5 _ _ p2⟩ (fun hHeld => ?_)
          clear hK K
          (try simp only [Act.put, List.getElem_toArray, List.getElem_cons_zero, List.getElem_cons_succ, List.setIfInBounds_toArray, List.set_cons_zero, List.set_cons_succ])
          refine wpAnyH_ready (rs := [11]) (by kernel_rfl) (by simp) ?_
          refine AllReadyH.cons rfl (fun K hK => ?_) AllReadyH.nil
          obtain ⟨v2, u6, hr2, o2, hg2, hl2⟩ := run_app_all oz_cells oz_one (by omega) Try.underlying25 J1.out J2.out J3.out J4.out rfl (u5) 25 O2_5.out hb5.size (c := c2) (h2.below OzR.stays (hx.trans (hb5.mono hx.size))) hln2 (by omega)
          refine step_append_run rfl (.tmp 11) (.tmp 13) 25 25 rfl rfl rfl hr2 ?_
          have hb6 := hb5.grown hg2 hb5.size (fun k hk => (OwnG.block_lt O2_5.out k hk).1)
          have D2_0_6 := Lib.hid (Dis.app O0_5.out (D2_0_5.out) hl2)
          have O0_6 := Lib.hid (OwnG.keptD O0_5.out hg2 (D2_0_5.out))
          have D2_1_6 := Lib.hid (Dis.app O1_5.out (D2_1_5.out) hl2)
          have O1_6 := Lib.hid (OwnG.keptD O1_5.out hg2 (D2_1_5.out))
          have O2_6 := Lib.hid o2
          obtain ⟨B2, d2, e2, -, -, -⟩ := (show OwnO u6 z.heap.size v2 _ from o2).sl
          subst e2
          clear o2 hr2 hg2 hl2
          have rr := rb.below hb6
          obtain ⟨⟨r0, r1, r2⟩, ⟨f0, f1, f2⟩⟩ := rr.three
          have RR := Lib.hid rr
          clear rr
          refine hK.out _ _ ⟨below_keep hb6 _ _ p0, below_keep hb6 _ _ p1, below_keep hb6 _ _ p2⟩ (fun hHeld => ?_)
          clear hK K
          (try simp only [Act.put, List.getElem_toArray, List.getElem_cons_zero, List.getElem_cons_succ, List.setIfInBounds_toArray, List.set_cons_zero, List.set_cons_succ])
          refine wpAnyH_take (i := 12) (v := ?v7) rfl (by kernel_rfl) (by kernel_rfl) (by kernel_rfl) (fun _ _ _ h => h) (Or.inl ⟨by rfl, ?hy7⟩) hHeld ?rest7
          case hy7 => (intro w' hSw; (try dsimp only at hSw); first | (go_simp; done) | (go_simp; with_reducible rfl))
          simp only [Act.put, List.getElem_toArray, List.getElem_cons_zero, List.getElem_cons_succ, List.setIfInBounds_toArray, List.set_cons_zero, List.set_cons_succ]
          refine wpAnyH_ready (rs := [13]) (by kernel_rfl) (by simp) ?_
          refine AllReadyH.cons rfl (fun K hK => ?_) AllReadyH.nil
          go_simp
          refine hK.out _ _ ⟨cellOff (cellOff (cellOff (below_keep hb6 _ _ p0) (by simp)) (by simp)) (by simp), cellOff (cellOff (cellOff (below_keep hb6 _ _ p1) (by simp)) (by simp)) (by simp), cellOff (cellOff (cellOff (below_keep hb6 _ _ p2) (by simp)) (by simp)) (by simp)⟩ (fun hHeld => ?_)
          clear hK K
          (try simp only [Act.put, List.getElem_toArray, List.getElem_cons_zero, List.getElem_cons_succ, List.setIfInBounds_toArray, List.set_cons_zero, List.set_cons_succ])
          refine wpAnyH_done (by kernel_rfl) ?_ _
          refine NoPanic.normal ?_
          clear hHeld
          have hbn : Below w.heap.size w u6 := hx.trans (hb6.mono hx.size)
          clear r0 r1 r2 f0 f1 f2
          go_wp2_with fail
          have hr9 := (((RR.out).set 0 (.slice B0 x.live.length d0)).set 1 (.slice B1 x.safe.length d1)).set 2 (.slice B2 x.ops.length d2)
          refine bodyPost_ret (results_cell_row (p := 2) (ty := 27) rfl _ _ (w.heap.size + 1) 27 #[.slice B0 x.live.length d0, .slice B1 x.safe.length d1, .slice B2 x.ops.length d2] (0, 0) _ rfl hr9 Try.underlying27 rfl HI.out) rfl ⟨⟨_, rfl, ?_⟩, ?_⟩
          · refine DzA.mono (base := z.heap.size) ?_ (by omega)
            refine DzA.set (DzA.set (DzA.set (show DzA _ z.heap.size _ x from ⟨_, _, _, rfl, O0_6.out, O1_6.out, O2_6.out, D1_0_4.out.symm⟩) ?_ _) ?_ _) ?_ _ <;> (show w.heap.size + 1 < z.heap.size; omega)
          · exact ((hbn.setCell (Nat.le_succ _) _).setCell (Nat.le_succ _) _).setCell (Nat.le_succ _) _
        refine AllReadyH.cons rfl (fun K hK => ?_) AllReadyH.nil
        go_simp
        have hal : Below (u3).heap.size u3 ((u3).alloc (.cells #[] 36)) := (Below.refl _ _).alloc (Nat.le_refl _) _
        have O2_4 := Lib.hid (OwnG.lit (T := 36) (sz := 4) (f := Oz.cells) (u3) (base := z.heap.size) hb3.size)
        have D2_0_4 := Lib.hid (Dis.fresh O0_3.out 0 0)
        have O0_4 := Lib.hid (OwnG.below O0_3.out hal)
        have D2_1_4 := Lib.hid (Dis.fresh O1_3.out 0 0)
        have O1_4 := Lib.hid (OwnG.below O1_3.out hal)
        have hb4 := hb3.alloc hb3.size (.cells #[] 36)
        clear hal
        generalize (u3).alloc (.cells #[] 36) = u4 at *
        refine hK.out _ _ ⟨below_keep hb4 _ _ p0, below_keep hb4 _ _ p1, below_keep hb4 _ _ p2⟩ (fun hHeld => ?_)
        clear hK K
        (try simp only [Act.put, List.getElem_toArray, List.getElem_cons_zero, List.getElem_cons_succ, List.setIfInBounds_toArray, List.set_cons_zero, List.set_cons_succ])
        refine wpAnyH_ready (rs := [7]) (by kernel_rfl) (by simp) ?_
        refine AllReadyH.cons rfl (fun K hK => ?_) AllReadyH.nil
        obtain ⟨v1, u5, hr1, o1, hg1, hl1⟩ := run_app_all fz_cells fz_one (by omega) Try.underlying24 H1.out H2.out H3.out H4.out rfl (u4) 24 O1_4.out hb4.size (c := c1) (h1.below FzR.stays (hx.trans (hb4.mono hx.size))) hln1 (by omega)
        refine step_append_run rfl (.tmp 7) (.tmp 9) 24 24 rfl rfl rfl hr1 ?_
        have hb5 := hb4.grown hg1 hb4.size (fun k hk => (OwnG.block_lt O1_4.out k hk).1)
        have D1_0_5 := Lib.hid (Dis.app O0_4.out (D1_0_3.out) hl1)
        have O0_5 := Lib.hid (OwnG.keptD O0_4.out hg1 (D1_0_3.out))
        have D1_2_5 := Lib.hid (Dis.app O2_4.out (D2_1_4.out.symm) hl1)
        have O2_5 := Lib.hid (OwnG.keptD O2_4.out hg1 (D2_1_4.out.symm))
        have O1_5 := Lib.hid o1
        obtain ⟨B1, d1, e1, -, -, -⟩ := (show OwnZ u5 z.heap.size v1 _ from o1).sl
        subst e1
        clear o1 hr1 hg1 hl1
        refine hK.out _ _ ⟨below_keep hb5 _ _ p0, below_keep hb5 _ _ p1, below_keep hb5 _ _ p2⟩ (fun hHeld => ?_)
        clear hK K
        (try simp only [Act.put, List.getElem_toArray, List.getElem_cons_zero, List.getElem_cons_succ, List.setIfInBounds_toArray, List.set_cons_zero, List.set_cons_succ])
        refine wpAnyH_ready (rs := [11]) (by kernel_rfl) (by simp) ?_
        refine AllReadyH.cons rfl (fun K hK => ?_) AllReadyH.nil
        obtain ⟨v2, u6, hr2, o2, hg2, hl2⟩ := run_app_all oz_cells oz_one (by omega) Try.underlying25 J1.out J2.out J3.out J4.out rfl (u5) 25 O2_5.out hb5.size (c := c2) (h2.below OzR.stays (hx.trans (hb5.mono hx.size))) hln2 (by omega)
        refine step_append_run rfl (.tmp 11) (.tmp 13) 25 25 rfl rfl rfl hr2 ?_
        have hb6 := hb5.grown hg2 hb5.size (fun k hk => (OwnG.block_lt O2_5.out k hk).1)
        have D2_0_6 := Lib.hid (Dis.app O0_5.out (D2_0_4.out) hl2)
        have O0_6 := Lib.hid (OwnG.keptD O0_5.out hg2 (D2_0_4.out))
        have D2_1_6 := Lib.hid (Dis.app O1_5.out (D1_2_5.out.symm) hl2)
        have O1_6 := Lib.hid (OwnG.keptD O1_5.out hg2 (D1_2_5.out.symm))
        have O2_6 := Lib.hid o2
        obtain ⟨B2, d2, e2, -, -, -⟩ := (show OwnO u6 z.heap.size v2 _ from o2).sl
        subst e2
        clear o2 hr2 hg2 hl2
        have rr := rb.below hb6
        obtain ⟨⟨r0, r1, r2⟩, ⟨f0, f1, f2⟩⟩ := rr.three
        have RR := Lib.hid rr
        clear rr
        refine hK.out _ _ ⟨below_keep hb6 _ _ p0, below_keep hb6 _ _ p1, below_keep hb6 _ _ p2⟩ (fun hHeld => ?_)
        clear hK K
        (try simp only [Act.put, List.getElem_toArray, List.getElem_cons_zero, List.getElem_cons_succ, List.setIfInBounds_toArray, List.set_cons_zero, List.set_cons_succ])
        refine wpAnyH_take (i := 12) (v := ?v8) rfl (by kernel_rfl) (by kernel_rfl) (by kernel_rfl) (fun _ _ _ h => h) (Or.inl ⟨by rfl, ?hy8⟩) hHeld ?rest8
        case hy8 => (intro w' hSw; (try dsimp only at hSw); first | (go_simp; done) | (go_simp; with_reducible rfl))
        simp only [Act.put, List.getElem_toArray, List.getElem_cons_zero, List.getElem_cons_succ, List.setIfInBounds_toArray, List.set_cons_zero, List.set_cons_succ]
        refine wpAnyH_ready (rs := [13]) (by kernel_rfl) (by simp) ?_
        refine AllReadyH.cons rfl (fun K hK => ?_) AllReadyH.nil
        go_simp
        refine hK.out _ _ ⟨cellOff (cellOff (cellOff (below_keep hb6 _ _ p0) (by simp)) (by simp)) (by simp), cellOff (cellOff (cellOff (below_keep hb6 _ _ p1) (by simp)) (by simp)) (by simp), cellOff (cellOff (cellOff (below_keep hb6 _ _ p2) (by simp)) (by simp)) (by simp)⟩ (fun hHeld => ?_)
        clear hK K
        (try simp only [Act.put, List.getElem_toArray, List.getElem_cons_zero, List.getElem_cons_succ, List.setIfInBounds_toArray, List.set_cons_zero, List.set_cons_succ])
        refine wpAnyH_done (by kernel_rfl) ?_ _
        refine NoPanic.normal ?_
        clear hHeld
        have hbn : Below w.heap.size w u6 := hx.trans (hb6.mono hx.size)
        clear r0 r1 r2 f0 f1 f2
        go_wp2_with fail
        have hr9 := (((RR.out).set 0 (.slice B0 x.live.length d0)).set 1 (.slice B1 x.safe.length d1)).set 2 (.slice B2 x.ops.length d2)
        refine bodyPost_ret (results_cell_row (p := 2) (ty := 27) rfl _ _ (w.heap.size + 1) 27 #[.slice B0 x.live.length d0, .slice B1 x.safe.length d1, .slice B2 x.ops.length d2] (0, 0) _ rfl hr9 Try.underlying27 rfl HI.out) rfl ⟨⟨_, rfl, ?_⟩, ?_⟩
        · refine DzA.mono (base := z.heap.size) ?_ (by omega)
          refine DzA.set (DzA.set (DzA.set (show DzA _ z.heap.size _ x from ⟨_, _, _, rfl, O0_6.out, O1_6.out, O2_6.out, D1_0_5.out.symm⟩) ?_ _) ?_ _) ?_ _ <;> (show w.heap.size + 1 < z.heap.size; omega)
        · exact ((hbn.setCell (Nat.le_succ _) _).setCell (Nat.le_succ _) _).setCell (Nat.le_succ _) _
      refine AllReadyH.cons rfl (fun K hK => ?_) AllReadyH.nil
      go_simp
      have hal : Below (u2).heap.size u2 ((u2).alloc (.cells #[] 36)) := (Below.refl _ _).alloc (Nat.le_refl _) _
      have O2_3 := Lib.hid (OwnG.lit (T := 36) (sz := 4) (f := Oz.cells) (u2) (base := z.heap.size) hb2.size)
      have D2_0_3 := Lib.hid (Dis.fresh O0_2.out 0 0)
      have O0_3 := Lib.hid (OwnG.below O0_2.out hal)
      have hb3 := hb2.alloc hb2.size (.cells #[] 36)
      clear hal
      generalize (u2).alloc (.cells #[] 36) = u3 at *
      refine hK.out _ _ ⟨below_keep hb3 _ _ p0, below_keep hb3 _ _ p1, below_keep hb3 _ _ p2⟩ (fun hHeld => ?_)
      clear hK K
      (try simp only [Act.put, List.getElem_toArray, List.getElem_cons_zero, List.getElem_cons_succ, List.setIfInBounds_toArray, List.set_cons_zero, List.set_cons_succ])
      refine wpAnyH_ready (rs := [4]) (by kernel_rfl) (by simp) ?_
      refine AllReadyH.cons rfl (fun K hK => ?_) AllReadyH.nil
      go_simp
      have hal : Below (u3).heap.size u3 ((u3).alloc (.cells #[] 75)) := (Below.refl _ _).alloc (Nat.le_refl _) _
      have O1_4 := Lib.hid (OwnG.lit (T := 75) (sz := 2) (f := Fz.cells) (u3) (base := z.heap.size) hb3.size)
      have D1_0_4 := Lib.hid (Dis.fresh O0_3.out 0 0)
      have O0_4 := Lib.hid (OwnG.below O0_3.out hal)
      have D1_2_4 := Lib.hid (Dis.fresh O2_3.out 0 0)
      have O2_4 := Lib.hid (OwnG.below O2_3.out hal)
      have hb4 := hb3.alloc hb3.size (.cells #[] 75)
      clear hal
      generalize (u3).alloc (.cells #[] 75) = u4 at *
      refine hK.out _ _ ⟨below_keep hb4 _ _ p0, below_keep hb4 _ _ p1, below_keep hb4 _ _ p2⟩ (fun hHeld => ?_)
      clear hK K
      (try simp only [Act.put, List.getElem_toArray, List.getElem_cons_zero, List.getElem_cons_succ, List.setIfInBounds_toArray, List.set_cons_zero, List.set_cons_succ])
      refine wpAnyH_ready (rs := [7]) (by kernel_rfl) (by simp) ?_
      refine AllReadyH.cons rfl (fun K hK => ?_) AllReadyH.nil
      obtain ⟨v1, u5, hr1, o1, hg1, hl1⟩ := run_app_all fz_cells fz_one (by omega) Try.underlying24 H1.out H2.out H3.out H4.out rfl (u4) 24 O1_4.out hb4.size (c := c1) (h1.below FzR.stays (hx.trans (hb4.mono hx.size))) hln1 (by omega)
      refine step_append_run rfl (.tmp 7) (.tmp 9) 24 24 rfl rfl rfl hr1 ?_
      have hb5 := hb4.grown hg1 hb4.size (fun k hk => (OwnG.block_lt O1_4.out k hk).1)
      have D1_0_5 := Lib.hid (Dis.app O0_4.out (D1_0_4.out) hl1)
      have O0_5 := Lib.hid (OwnG.keptD O0_4.out hg1 (D1_0_4.out))
      have D1_2_5 := Lib.hid (Dis.app O2_4.out (D1_2_4.out) hl1)
      have O2_5 := Lib.hid (OwnG.keptD O2_4.out hg1 (D1_2_4.out))
      have O1_5 := Lib.hid o1
      obtain ⟨B1, d1, e1, -, -, -⟩ := (show OwnZ u5 z.heap.size v1 _ from o1).sl
      subst e1
      clear o1 hr1 hg1 hl1
      refine hK.out _ _ ⟨below_keep hb5 _ _ p0, below_keep hb5 _ _ p1, below_keep hb5 _ _ p2⟩ (fun hHeld => ?_)
      clear hK K
      (try simp only [Act.put, List.getElem_toArray, List.getElem_cons_zero, List.getElem_cons_succ, List.setIfInBounds_toArray, List.set_cons_zero, List.set_cons_succ])
      refine wpAnyH_ready (rs := [11]) (by kernel_rfl) (by simp) ?_
      refine AllReadyH.cons rfl (fun K hK => ?_) AllReadyH.nil
      obtain ⟨v2, u6, hr2, o2, hg2, hl2⟩ := run_app_all oz_cells oz_one (by omega) Try.underlying25 J1.out J2.out J3.out J4.out rfl (u5) 25 O2_5.out hb5.size (c := c2) (h2.below OzR.stays (hx.trans (hb5.mono hx.size))) hln2 (by omega)
      refine step_append_run rfl (.tmp 11) (.tmp 13) 25 25 rfl rfl rfl hr2 ?_
      have hb6 := hb5.grown hg2 hb5.size (fun k hk => (OwnG.block_lt O2_5.out k hk).1)
      have D2_0_6 := Lib.hid (Dis.app O0_5.out (D2_0_3.out) hl2)
      have O0_6 := Lib.hid (OwnG.keptD O0_5.out hg2 (D2_0_3.out))
      have D2_1_6 := Lib.hid (Dis.app O1_5.out (D1_2_5.out.symm) hl2)
      have O1_6 := Lib.hid (OwnG.keptD O1_5.out hg2 (D1_2_5.out.symm))
      have O2_6 := Lib.hid o2
      obtain ⟨B2, d2, e2, -, -, -⟩ := (show OwnO u6 z.heap.size v2 _ from o2).sl
      subst e2
      clear o2 hr2 hg2 hl2
      have rr := rb.below hb6
      obtain ⟨⟨r0, r1, r2⟩, ⟨f0, f1, f2⟩⟩ := rr.three
      have RR := Lib.hid rr
      clear rr
      refine hK.out _ _ ⟨below_keep hb6 _ _ p0, below_keep hb6 _ _ p1, below_keep hb6 _ _ p2⟩ (fun hHeld => ?_)
      clear hK K
      (try simp only [Act.put, List.getElem_toArray, List.getElem_cons_zero, List.getElem_cons_succ, List.setIfInBounds_toArray, List.set_cons_zero, List.set_cons_succ])
      refine wpAnyH_take (i := 12) (v := ?v9) rfl (by kernel_rfl) (by kernel_rfl) (by kernel_rfl) (fun _ _ _ h => h) (Or.inl ⟨by rfl, ?hy9⟩) hHeld ?rest9
      case hy9 => (intro w' hSw; (try dsimp only at hSw); first | (go_simp; done) | (go_simp; with_reducible rfl))
      simp only [Act.put, List.getElem_toArray, List.getElem_cons_zero, List.getElem_cons_succ, List.setIfInBounds_toArray, List.set_cons_zero, List.set_cons_succ]
      refine wpAnyH_ready (rs := [13]) (by kernel_rfl) (by simp) ?_
      refine AllReadyH.cons rfl (fun K hK => ?_) AllReadyH.nil
      go_simp
      refine hK.out _ _ ⟨cellOff (cellOff (cellOff (below_keep hb6 _ _ p0) (by simp)) (by simp)) (by simp), cellOff (cellOff (cellOff (below_keep hb6 _ _ p1) (by simp)) (by simp)) (by simp), cellOff (cellOff (cellOff (below_keep hb6 _ _ p2) (by simp)) (by simp)) (by simp)⟩ (fun hHeld => ?_)
      clear hK K
      (try simp only [Act.put, List.getElem_toArray, List.getElem_cons_zero, List.getElem_cons_succ, List.setIfInBounds_toArray, List.set_cons_zero, List.set_cons_succ])
      refine wpAnyH_done (by kernel_rfl) ?_ _
      refine NoPanic.normal ?_
      clear hHeld
      have hbn : Below w.heap.size w u6 := hx.trans (hb6.mono hx.size)
      clear r0 r1 r2 f0 f1 f2
      go_wp2_with fail
      have hr9 := (((RR.out).set 0 (.slice B0 x.live.length d0)).set 1 (.slice B1 x.safe.length d1)).set 2 (.slice B2 x.ops.length d2)
      refine bodyPost_ret (results_cell_row (p := 2) (ty := 27) rfl _ _ (w.heap.size + 1) 27 #[.slice B0 x.live.length d0, .slice B1 x.safe.length d1, .slice B2 x.ops.length d2] (0, 0) _ rfl hr9 Try.underlying27 rfl HI.out) rfl ⟨⟨_, rfl, ?_⟩, ?_⟩
      · refine DzA.mono (base := z.heap.size) ?_ (by omega)
        refine DzA.set (DzA.set (DzA.set (show DzA _ z.heap.size _ x from ⟨_, _, _, rfl, O0_6.out, O1_6.out, O2_6.out, D1_0_5.out.symm⟩) ?_ _) ?_ _) ?_ _ <;> (show w.heap.size + 1 < z.heap.size; omega)
      · exact ((hbn.setCell (Nat.le_succ _) _).setCell (Nat.le_succ _) _).setCell (Nat.le_succ _) _
    refine AllReadyH.cons rfl (fun K hK => ?_) ?_
    · go_simp
      have hal : Below (u1).heap.size u1 ((u1).alloc (.cells #[] 75)) := (Below.refl _ _).alloc (Nat.le_refl _) _
      have O1_2 := Lib.hid (OwnG.lit (T := 75) (sz := 2) (f := Fz.cells) (u1) (base := z.heap.size) hb1.size)
      have D1_0_2 := Lib.hid (Dis.fresh O0_1.out 0 0)
      have O0_2 := Lib.hid (OwnG.below O0_1.out hal)
      have hb2 := hb1.alloc hb1.size (.cells #[] 75)
      clear hal
      generalize (u1).alloc (.cells #[] 75) = u2 at *
      refine hK.out _ _ ⟨below_keep hb2 _ _ p0, below_keep hb2 _ _ p1, below_keep hb2 _ _ p2⟩ (fun hHeld => ?_)
      clear hK K
      (try simp only [Act.put, List.getElem_toArray, List.getElem_cons_zero, List.getElem_cons_succ, List.setIfInBounds_toArray, List.set_cons_zero, List.set_cons_succ])
      refine wpAnyH_ready (rs := [3, 8]) (by kernel_rfl) (by simp) ?_
      refine AllReadyH.cons rfl (fun K hK => ?_) ?_
      · obtain ⟨v0, u3, hr0, o0, hg0, hl0⟩ := run_app_all fz_cells fz_one (by omega) Try.underlying24 H1.out H2.out H3.out H4.out rfl (u2) 24 O0_2.out hb2.size (c := c0) (h0.below FzR.stays (hx.trans (hb2.mono hx.size))) hln0 (by omega)
        refine step_append_run rfl (.tmp 3) (.tmp 5) 24 24 rfl rfl rfl hr0 ?_
        have hb3 := hb2.grown hg0 hb2.size (fun k hk => (OwnG.block_lt O0_2.out k hk).1)
        have D0_1_3 := Lib.hid (Dis.app O1_2.out (D1_0_2.out.symm) hl0)
        have O1_3 := Lib.hid (OwnG.keptD O1_2.out hg0 (D1_0_2.out.symm))
        have O0_3 := Lib.hid o0
        obtain ⟨B0, d0, e0, -, -, -⟩ := (show OwnZ u3 z.heap.size v0 _ from o0).sl
        subst e0
        clear o0 hr0 hg0 hl0
        refine hK.out _ _ ⟨below_keep hb3 _ _ p0, below_keep hb3 _ _ p1, below_keep hb3 _ _ p2⟩ (fun hHeld => ?_)
        clear hK K
        (try simp only [Act.put, List.getElem_toArray, List.getElem_cons_zero, List.getElem_cons_succ, List.setIfInBounds_toArray, List.set_cons_zero, List.set_cons_succ])
        refine wpAnyH_ready (rs := [7, 8]) (by kernel_rfl) (by simp) ?_
        refine AllReadyH.cons rfl (fun K hK => ?_) ?_
        · obtain ⟨v1, u4, hr1, o1, hg1, hl1⟩ := run_app_all fz_cells fz_one (by omega) Try.underlying24 H1.out H2.out H3.out H4.out rfl (u3) 24 O1_3.out hb3.size (c := c1) (h1.below FzR.stays (hx.trans (hb3.mono hx.size))) hln1 (by omega)
          refine step_append_run rfl (.tmp 7) (.tmp 9) 24 24 rfl rfl rfl hr1 ?_
          have hb4 := hb3.grown hg1 hb3.size (fun k hk => (OwnG.block_lt O1_3.out k hk).1)
          have D1_0_4 := Lib.hid (Dis.app O0_3.out (D0_1_3.out.symm) hl1)
          have O0_4 := Lib.hid (OwnG.keptD O0_3.out hg1 (D0_1_3.out.symm))
          have O1_4 := Lib.hid o1
          obtain ⟨B1, d1, e1, -, -, -⟩ := (show OwnZ u4 z.heap.size v1 _ from o1).sl
          subst e1
          clear o1 hr1 hg1 hl1
          refine hK.out _ _ ⟨below_keep hb4 _ _ p0, below_keep hb4 _ _ p1, below_keep hb4 _ _ p2⟩ (fun hHeld => ?_)
          clear hK K
          (try simp only [Act.put, List.getElem_toArray, List.getElem_cons_zero, List.getElem_cons_succ, List.setIfInBounds_toArray, List.set_cons_zero, List.set_cons_succ])
          refine wpAnyH_ready (rs := [8]) (by kernel_rfl) (by simp) ?_
          refine AllReadyH.cons rfl (fun K hK => ?_) AllReadyH.nil
          go_simp
          have hal : Below (u4).heap.size u4 ((u4).alloc (.cells #[] 36)) := (Below.refl _ _).alloc (Nat.le_refl _) _
          have O2_5 := Lib.hid (OwnG.lit (T := 36) (sz := 4) (f := Oz.cells) (u4) (base := z.heap.size) hb4.size)
          have D2_0_5 := Lib.hid (Dis.fresh O0_4.out 0 0)
          have O0_5 := Lib.hid (OwnG.below O0_4.out hal)
          have D2_1_5 := Lib.hid (Dis.fresh O1_4.out 0 0)
          have O1_5 := Lib.hid (OwnG.below O1_4.out hal)
          have hb5 := hb4.alloc hb4.size (.cells #[] 36)
          clear hal
          generalize (u4).alloc (.cells #[] 36) = u5 at *
          refine hK.out _ _ ⟨below_keep hb5 _ _ p0, below_keep hb5 _ _ p1, below_keep hb5 _ _ p2⟩ (fun hHeld => ?_)
          clear hK K
          (try simp only [Act.put, List.getElem_toArray, List.getElem_cons_zero, List.getElem_cons_succ, List.setIfInBounds_toArray, List.set_cons_zero, List.set_cons_succ])
          refine wpAnyH_ready (rs := [11]) (by kernel_rfl) (by simp) ?_
          refine AllReadyH.cons rfl (fun K hK => ?_) AllReadyH.nil
          obtain ⟨v2, u6, hr2, o2, hg2, hl2⟩ := run_app_all oz_cells oz_one (by omega) Try.underlying25 J1.out J2.out J3.out J4.out rfl (u5) 25 O2_5.out hb5.size (c := c2) (h2.below OzR.stays (hx.trans (hb5.mono hx.size))) hln2 (by omega)
          refine step_append_run rfl (.tmp 11) (.tmp 13) 25 25 rfl rfl rfl hr2 ?_
          have hb6 := hb5.grown hg2 hb5.size (fun k hk => (OwnG.block_lt O2_5.out k hk).1)
          have D2_0_6 := Lib.hid (Dis.app O0_5.out (D2_0_5.out) hl2)
          have O0_6 := Lib.hid (OwnG.keptD O0_5.out hg2 (D2_0_5.out))
          have D2_1_6 := Lib.hid (Dis.app O1_5.out (D2_1_5.out) hl2)
          have O1_6 := Lib.hid (OwnG.keptD O1_5.out hg2 (D2_1_5.out))
          have O2_6 := Lib.hid o2
          obtain ⟨B2, d2, e2, -, -, -⟩ := (show OwnO u6 z.heap.size v2 _ from o2).sl
          subst e2
          clear o2 hr2 hg2 hl2
          have rr := rb.below hb6
          obtain ⟨⟨r0, r1, r2⟩, ⟨f0, f1, f2⟩⟩ := rr.three
          have RR := Lib.hid rr
          clear rr
          refine hK.out _ _ ⟨below_keep hb6 _ _ p0, below_keep hb6 _ _ p1, below_keep hb6 _ _ p2⟩ (fun hHeld => ?_)
          clear hK K
          (try simp only [Act.put, List.getElem_toArray, List.getElem_cons_zero, List.getElem_cons_succ, List.setIfInBounds_toArray, List.set_cons_zero, List.set_cons_succ])
          refine wpAnyH_take (i := 12) (v := ?v10) rfl (by kernel_rfl) (by kernel_rfl) (by kernel_rfl) (fun _ _ _ h => h) (Or.inl ⟨by rfl, ?hy10⟩) hHeld ?rest10
          case hy10 => (intro w' hSw; (try dsimp only at hSw); first | (go_simp; done) | (go_simp; with_reducible rfl))
          simp only [Act.put, List.getElem_toArray, List.getElem_cons_zero, List.getElem_cons_succ, List.setIfInBounds_toArray, List.set_cons_zero, List.set_cons_succ]
          refine wpAnyH_ready (rs := [13]) (by kernel_rfl) (by simp) ?_
          refine AllReadyH.cons rfl (fun K hK => ?_) AllReadyH.nil
          go_simp
          refine hK.out _ _ ⟨cellOff (cellOff (cellOff (below_keep hb6 _ _ p0) (by simp)) (by simp)) (by simp), cellOff (cellOff (cellOff (below_keep hb6 _ _ p1) (by simp)) (by simp)) (by simp), cellOff (cellOff (cellOff (below_keep hb6 _ _ p2) (by simp)) (by simp)) (by simp)⟩ (fun hHeld => ?_)
          clear hK K
          (try simp only [Act.put, List.getElem_toArray, List.getElem_cons_zero, List.getElem_cons_succ, List.setIfInBounds_toArray, List.set_cons_zero, List.set_cons_succ])
          refine wpAnyH_done (by kernel_rfl) ?_ _
          refine NoPanic.normal ?_
          clear hHeld
          have hbn : Below w.heap.size w u6 := hx.trans (hb6.mono hx.size)
          clear r0 r1 r2 f0 f1 f2
          go_wp2_with fail
          have hr9 := (((RR.out).set 0 (.slice B0 x.live.length d0)).set 1 (.slice B1 x.safe.length d1)).set 2 (.slice B2 x.ops.length d2)
          refine bodyPost_ret (results_cell_row (p := 2) (ty := 27) rfl _ _ (w.heap.size + 1) 27 #[.slice B0 x.live.length d0, .slice B1 x.safe.length d1, .slice B2 x.ops.length d2] (0, 0) _ rfl hr9 Try.underlying27 rfl HI.out) rfl ⟨⟨_, rfl, ?_⟩, ?_⟩
          · refine DzA.mono (base := z.heap.size) ?_ (by omega)
            refine DzA.set (DzA.set (DzA.set (show DzA _ z.heap.size _ x from ⟨_, _, _, rfl, O0_6.out, O1_6.out, O2_6.out, D1_0_4.out.symm⟩) ?_ _) ?_ _) ?_ _ <;> (show w.heap.size + 1 < z.heap.size; omega)
          · exact ((hbn.setCell (Nat.le_succ _) _).setCell (Nat.le_succ _) _).setCell (Nat.le_succ _) _
        refine AllReadyH.cons rfl (fun K hK => ?_) AllReadyH.nil
        go_simp
        have hal : Below (u3).heap.size u3 ((u3).alloc (.cells #[] 36)) := (Below.refl _ _).alloc (Nat.le_refl _) _
        have O2_4 := Lib.hid (OwnG.lit (T := 36) (sz := 4) (f := Oz.cells) (u3) (base := z.heap.size) hb3.size)
        have D2_0_4 := Lib.hid (Dis.fresh O0_3.out 0 0)
        have O0_4 := Lib.hid (OwnG.below O0_3.out hal)
        have D2_1_4 := Lib.hid (Dis.fresh O1_3.out 0 0)
        have O1_4 := Lib.hid (OwnG.below O1_3.out hal)
        have hb4 := hb3.alloc hb3.size (.cells #[] 36)
        clear hal
        generalize (u3).alloc (.cells #[] 36) = u4 at *
        refine hK.out _ _ ⟨below_keep hb4 _ _ p0, below_keep hb4 _ _ p1, below_keep hb4 _ _ p2⟩ (fun hHeld => ?_)
        clear hK K
        (try simp only [Act.put, List.getElem_toArray, List.getElem_cons_zero, List.getElem_cons_succ, List.setIfInBounds_toArray, List.set_cons_zero, List.set_cons_succ])
        refine wpAnyH_ready (rs := [7]) (by kernel_rfl) (by simp) ?_
        refine AllReadyH.cons rfl (fun K hK => ?_) AllReadyH.nil
        obtain ⟨v1, u5, hr1, o1, hg1, hl1⟩ := run_app_all fz_cells fz_one (by omega) Try.underlying24 H1.out H2.out H3.out H4.out rfl (u4) 24 O1_4.out hb4.size (c := c1) (h1.below FzR.stays (hx.trans (hb4.mono hx.size))) hln1 (by omega)
        refine step_append_run rfl (.tmp 7) (.tmp 9) 24 24 rfl rfl rfl hr1 ?_
        have hb5 := hb4.grown hg1 hb4.size (fun k hk => (OwnG.block_lt O1_4.out k hk).1)
        have D1_0_5 := Lib.hid (Dis.app O0_4.out (D0_1_3.out.symm) hl1)
        have O0_5 := Lib.hid (OwnG.keptD O0_4.out hg1 (D0_1_3.out.symm))
        have D1_2_5 := Lib.hid (Dis.app O2_4.out (D2_1_4.out.symm) hl1)
        have O2_5 := Lib.hid (OwnG.keptD O2_4.out hg1 (D2_1_4.out.symm))
        have O1_5 := Lib.hid o1
        obtain ⟨B1, d1, e1, -, -, -⟩ := (show OwnZ u5 z.heap.size v1 _ from o1).sl
        subst e1
        clear o1 hr1 hg1 hl1
        refine hK.out _ _ ⟨below_keep hb5 _ _ p0, below_keep hb5 _ _ p1, below_keep hb5 _ _ p2⟩ (fun hHeld => ?_)
        clear hK K
        (try simp only [Act.put, List.getElem_toArray, List.getElem_cons_zero, List.getElem_cons_succ, List.setIfInBounds_toArray, List.set_cons_zero, List.set_cons_succ])
        refine wpAnyH_ready (rs := [11]) (by kernel_rfl) (by simp) ?_
        refine AllReadyH.cons rfl (fun K hK => ?_) AllReadyH.nil
        obtain ⟨v2, u6, hr2, o2, hg2, hl2⟩ := run_app_all oz_cells oz_one (by omega) Try.underlying25 J1.out J2.out J3.out J4.out rfl (u5) 25 O2_5.out hb5.size (c := c2) (h2.below OzR.stays (hx.trans (hb5.mono hx.size))) hln2 (by omega)
        refine step_append_run rfl (.tmp 11) (.tmp 13) 25 25 rfl rfl rfl hr2 ?_
        have hb6 := hb5.grown hg2 hb5.size (fun k hk => (OwnG.block_lt O2_5.out k hk).1)
        have D2_0_6 := Lib.hid (Dis.app O0_5.out (D2_0_4.out) hl2)
        have O0_6 := Lib.hid (OwnG.keptD O0_5.out hg2 (D2_0_4.out))
        have D2_1_6 := Lib.hid (Dis.app O1_5.out (D1_2_5.out.symm) hl2)
        have O1_6 := Lib.hid (OwnG.keptD O1_5.out hg2 (D1_2_5.out.symm))
        have O2_6 := Lib.hid o2
        obtain ⟨B2, d2, e2, -, -, -⟩ := (show OwnO u6 z.heap.size v2 _ from o2).sl
        subst e2
        clear o2 hr2 hg2 hl2
        have rr := rb.below hb6
        obtain ⟨⟨r0, r1, r2⟩, ⟨f0, f1, f2⟩⟩ := rr.three
        have RR := Lib.hid rr
        clear rr
        refine hK.out _ _ ⟨below_keep hb6 _ _ p0, below_keep hb6 _ _ p1, below_keep hb6 _ _ p2⟩ (fun hHeld => ?_)
        clear hK K
        (try simp only [Act.put, List.getElem_toArray, List.getElem_cons_zero, List.getElem_cons_succ, List.setIfInBounds_toArray, List.set_cons_zero, List.set_cons_succ])
        refine wpAnyH_take (i := 12) (v := ?v11) rfl (by kernel_rfl) (by kernel_rfl) (by kernel_rfl) (fun _ _ _ h => h) (Or.inl ⟨by rfl, ?hy11⟩) hHeld ?rest11
        case hy11 => (intro w' hSw; (try dsimp only at hSw); first | (go_simp; done) | (go_simp; with_reducible rfl))
        simp only [Act.put, List.getElem_toArray, List.getElem_cons_zero, List.getElem_cons_succ, List.setIfInBounds_toArray, List.set_cons_zero, List.set_cons_succ]
        refine wpAnyH_ready (rs := [13]) (by kernel_rfl) (by simp) ?_
        refine AllReadyH.cons rfl (fun K hK => ?_) AllReadyH.nil
        go_simp
        refine hK.out _ _ ⟨cellOff (cellOff (cellOff (below_keep hb6 _ _ p0) (by simp)) (by simp)) (by simp), cellOff (cellOff (cellOff (below_keep hb6 _ _ p1) (by simp)) (by simp)) (by simp), cellOff (cellOff (cellOff (below_keep hb6 _ _ p2) (by simp)) (by simp)) (by simp)⟩ (fun hHeld => ?_)
        clear hK K
        (try simp only [Act.put, List.getElem_toArray, List.getElem_cons_zero, List.getElem_cons_succ, List.setIfInBounds_toArray, List.set_cons_zero, List.set_cons_succ])
        refine wpAnyH_done (by kernel_rfl) ?_ _
        refine NoPanic.normal ?_
        clear hHeld
        have hbn : Below w.heap.size w u6 := hx.trans (hb6.mono hx.size)
        clear r0 r1 r2 f0 f1 f2
        go_wp2_with fail
        have hr9 := (((RR.out).set 0 (.slice B0 x.live.length d0)).set 1 (.slice B1 x.safe.length d1)).set 2 (.slice B2 x.ops.length d2)
        refine bodyPost_ret (results_cell_row (p := 2) (ty := 27) rfl _ _ (w.heap.size + 1) 27 #[.slice B0 x.live.length d0, .slice B1 x.safe.length d1, .slice B2 x.ops.length d2] (0, 0) _ rfl hr9 Try.underlying27 rfl HI.out) rfl ⟨⟨_, rfl, ?_⟩, ?_⟩
        · refine DzA.mono (base := z.heap.size) ?_ (by omega)
          refine DzA.set (DzA.set (DzA.set (show DzA _ z.heap.size _ x from ⟨_, _, _, rfl, O0_6.out, O1_6.out, O2_6.out, D1_0_5.out.symm⟩) ?_ _) ?_ _) ?_ _ <;> (show w.heap.size + 1 < z.heap.size; omega)
        · exact ((hbn.setCell (Nat.le_succ _) _).setCell (Nat.le_succ _) _).setCell (Nat.le_succ _) _
      refine AllReadyH.cons rfl (fun K hK => ?_) AllReadyH.nil
      go_simp
      have hal : Below (u2).heap.size u2 ((u2).alloc (.cells #[] 36)) := (Below.refl _ _).alloc (Nat.le_refl _) _
      have O2_3 := Lib.hid (OwnG.lit (T := 36) (sz := 4) (f := Oz.cells) (u2) (base := z.heap.size) hb2.size)
      have D2_0_3 := Lib.hid (Dis.fresh O0_2.out 0 0)
      have O0_3 := Lib.hid (OwnG.below O0_2.out hal)
      have D2_1_3 := Lib.hid (Dis.fresh O1_2.out 0 0)
      have O1_3 := Lib.hid (OwnG.below O1_2.out hal)
      have hb3 := hb2.alloc hb2.size (.cells #[] 36)
      clear hal
      generalize (u2).alloc (.cells #[] 36) = u3 at *
      refine hK.out _ _ ⟨below_keep hb3 _ _ p0, below_keep hb3 _ _ p1, below_keep hb3 _ _ p2⟩ (fun hHeld => ?_)
      clear hK K
      (try simp only [Act.put, List.getElem_toArray, List.getElem_cons_zero, List.getElem_cons_succ, List.setIfInBounds_toArray, List.set_cons_zero, List.set_cons_succ])
      refine wpAnyH_ready (rs := [3]) (by kernel_rfl) (by simp) ?_
      refine AllReadyH.cons rfl (fun K hK => ?_) AllReadyH.nil
      obtain ⟨v0, u4, hr0, o0, hg0, hl0⟩ := run_app_all fz_cells fz_one (by omega) Try.underlying24 H1.out H2.out H3.out H4.out rfl (u3) 24 O0_3.out hb3.size (c := c0) (h0.below FzR.stays (hx.trans (hb3.mono hx.size))) hln0 (by omega)
      refine step_append_run rfl (.tmp 3) (.tmp 5) 24 24 rfl rfl rfl hr0 ?_
      have hb4 := hb3.grown hg0 hb3.size (fun k hk => (OwnG.block_lt O0_3.out k hk).1)
      have D0_1_4 := Lib.hid (Dis.app O1_3.out (D1_0_2.out.symm) hl0)
      have O1_4 := Lib.hid (OwnG.keptD O1_3.out hg0 (D1_0_2.out.symm))
      have D0_2_4 := Lib.hid (Dis.app O2_3.out (D2_0_3.out.symm) hl0)
      have O2_4 := Lib.hid (OwnG.keptD O2_3.out hg0 (D2_0_3.out.symm))
      have O0_4 := Lib.hid o0
      obtain ⟨B0, d0, e0, -, -, -⟩ := (show OwnZ u4 z.heap.size v0 _ from o0).sl
      subst e0
      clear o0 hr0 hg0 hl0
      refine hK.out _ _ ⟨below_keep hb4 _ _ p0, below_keep hb4 _ _ p1, below_keep hb4 _ _ p2⟩ (fun hHeld => ?_)
      clear hK K
      (try simp only [Act.put, List.getElem_toArray, List.getElem_cons_zero, List.getElem_cons_succ, List.setIfInBounds_toArray, List.set_cons_zero, List.set_cons_succ])
      refine wpAnyH_ready (rs := [7]) (by kernel_rfl) (by simp) ?_
      refine AllReadyH.cons rfl (fun K hK => ?_) AllReadyH.nil
      obtain ⟨v1, u5, hr1, o1, hg1, hl1⟩ := run_app_all fz_cells fz_one (by omega) Try.underlying24 H1.out H2.out H3.out H4.out rfl (u4) 24 O1_4.out hb4.size (c := c1) (h1.below FzR.stays (hx.trans (hb4.mono hx.size))) hln1 (by omega)
      refine step_append_run rfl (.tmp 7) (.tmp 9) 24 24 rfl rfl rfl hr1 ?_
      have hb5 := hb4.grown hg1 hb4.size (fun k hk => (OwnG.block_lt O1_4.out k hk).1)
      have D1_0_5 := Lib.hid (Dis.app O0_4.out (D0_1_4.out.symm) hl1)
      have O0_5 := Lib.hid (OwnG.keptD O0_4.out hg1 (D0_1_4.out.symm))
      have D1_2_5 := Lib.hid (Dis.app O2_4.out (D2_1_3.out.symm) hl1)
      have O2_5 := Lib.hid (OwnG.keptD O2_4.out hg1 (D2_1_3.out.symm))
      have O1_5 := Lib.hid o1
      obtain ⟨B1, d1, e1, -, -, -⟩ := (show OwnZ u5 z.heap.size v1 _ from o1).sl
      subst e1
      clear o1 hr1 hg1 hl1
      refine hK.out _ _ ⟨below_keep hb5 _ _ p0, below_keep hb5 _ _ p1, below_keep hb5 _ _ p2⟩ (fun hHeld => ?_)
      clear hK K
      (try simp only [Act.put, List.getElem_toArray, List.getElem_cons_zero, List.getElem_cons_succ, List.setIfInBounds_toArray, List.set_cons_zero, List.set_cons_succ])
      refine wpAnyH_ready (rs := [11]) (by kernel_rfl) (by simp) ?_
      refine AllReadyH.cons rfl (fun K hK => ?_) AllReadyH.nil
      obtain ⟨v2, u6, hr2, o2, hg2, hl2⟩ := run_app_all oz_cells oz_one (by omega) Try.underlying25 J1.out J2.out J3.out J4.out rfl (u5) 25 O2_5.out hb5.size (c := c2) (h2.below OzR.stays (hx.trans (hb5.mono hx.size))) hln2 (by omega)
      refine step_append_run rfl (.tmp 11) (.tmp 13) 25 25 rfl rfl rfl hr2 ?_
      have hb6 := hb5.grown hg2 hb5.size (fun k hk => (OwnG.block_lt O2_5.out k hk).1)
      have D2_0_6 := Lib.hid (Dis.app O0_5.out (D0_2_4.out.symm) hl2)
      have O0_6 := Lib.hid (OwnG.keptD O0_5.out hg2 (D0_2_4.out.symm))
      have D2_1_6 := Lib.hid (Dis.app O1_5.out (D1_2_5.out.symm) hl2)
      have O1_6 := Lib.hid (OwnG.keptD O1_5.out hg2 (D1_2_5.out.symm))
      have O2_6 := Lib.hid o2
      obtain ⟨B2, d2, e2, -, -, -⟩ := (show OwnO u6 z.heap.size v2 _ from o2).sl
      subst e2
      clear o2 hr2 hg2 hl2
      have rr := rb.below hb6
      obtain ⟨⟨r0, r1, r2⟩, ⟨f0, f1, f2⟩⟩ := rr.three
      have RR := Lib.hid rr
      clear rr
      refine hK.out _ _ ⟨below_keep hb6 _ _ p0, below_keep hb6 _ _ p1, below_keep hb6 _ _ p2⟩ (fun hHeld => ?_)
      clear hK K
      (try simp only [Act.put, List.getElem_toArray, List.getElem_cons_zero, List.getElem_cons_succ, List.setIfInBounds_toArray, List.set_cons_zero, List.set_cons_succ])
      refine wpAnyH_take (i := 12) (v := ?v12) rfl (by kernel_rfl) (by kernel_rfl) (by kernel_rfl) (fun _ _ _ h => h) (Or.inl ⟨by rfl, ?hy12⟩) hHeld ?rest12
      case hy12 => (intro w' hSw; (try dsimp only at hSw); first | (go_simp; done) | (go_simp; with_reducible rfl))
      simp only [Act.put, List.getElem_toArray, List.getElem_cons_zero, List.getElem_cons_succ, List.setIfInBounds_toArray, List.set_cons_zero, List.set_cons_succ]
      refine wpAnyH_ready (rs := [13]) (by kernel_rfl) (by simp) ?_
      refine AllReadyH.cons rfl (fun K hK => ?_) AllReadyH.nil
      go_simp
      refine hK.out _ _ ⟨cellOff (cellOff (cellOff (below_keep hb6 _ _ p0) (by simp)) (by simp)) (by simp), cellOff (cellOff (cellOff (below_keep hb6 _ _ p1) (by simp)) (by simp)) (by simp), cellOff (cellOff (cellOff (below_keep hb6 _ _ p2) (by simp)) (by simp)) (by simp)⟩ (fun hHeld => ?_)
      clear hK K
      (try simp only [Act.put, List.getElem_toArray, List.getElem_cons_zero, List.getElem_cons_succ, List.setIfInBounds_toArray, List.set_cons_zero, List.set_cons_succ])
      refine wpAnyH_done (by kernel_rfl) ?_ _
      refine NoPanic.normal ?_
      clear hHeld
      have hbn : Below w.heap.size w u6 := hx.trans (hb6.mono hx.size)
      clear r0 r1 r2 f0 f1 f2
      go_wp2_with fail
      have hr9 := (((RR.out).set 0 (.slice B0 x.live.length d0)).set 1 (.slice B1 x.safe.length d1)).set 2 (.slice B2 x.ops.length d2)
      refine bodyPost_ret (results_cell_row (p := 2) (ty := 27) rfl _ _ (w.heap.size + 1) 27 #[.slice B0 x.live.length d0, .slice B1 x.safe.length d1, .slice B2 x.ops.length d2] (0, 0) _ rfl hr9 Try.underlying27 rfl HI.out) rfl ⟨⟨_, rfl, ?_⟩, ?_⟩
      · refine DzA.mono (base := z.heap.size) ?_ (by omega)
        refine DzA.set (DzA.set (DzA.set (show DzA _ z.heap.size _ x from ⟨_, _, _, rfl, O0_6.out, O1_6.out, O2_6.out, D1_0_5.out.symm⟩) ?_ _) ?_ _) ?_ _ <;> (show w.heap.size + 1 < z.heap.size; omega)
      · exact ((hbn.setCell (Nat.le_succ _) _).setCell (Nat.le_succ _) _).setCell (Nat.le_succ _) _
    refine AllReadyH.cons rfl (fun K hK => ?_) AllReadyH.nil
    go_simp
    have hal : Below (u1).heap.size u1 ((u1).alloc (.cells #[] 36)) := (Below.refl _ _).alloc (Nat.le_refl _) _
    have O2_2 := Lib.hid (OwnG.lit (T := 36) (sz := 4) (f := Oz.cells) (u1) (base := z.heap.size) hb1.size)
    have D2_0_2 := Lib.hid (Dis.fresh O0_1.out 0 0)
    have O0_2 := Lib.hid (OwnG.below O0_1.out hal)
    have hb2 := hb1.alloc hb1.size (.cells #[] 36)
    clear hal
    generalize (u1).alloc (.cells #[] 36) = u2 at *
    refine hK.out _ _ ⟨below_keep hb2 _ _ p0, below_keep hb2 _ _ p1, below_keep hb2 _ _ p2⟩ (fun hHeld => ?_)
    clear hK K
    (try simp only [Act.put, List.getElem_toArray, List.getElem_cons_zero, List.getElem_cons_succ, List.setIfInBounds_toArray, List.set_cons_zero, List.set_cons_succ])
    refine wpAnyH_ready (rs := [3, 4]) (by kernel_rfl) (by simp) ?_
    refine AllReadyH.cons rfl (fun K hK => ?_) ?_
    · obtain ⟨v0, u3, hr0, o0, hg0, hl0⟩ := run_app_all fz_cells fz_one (by omega) Try.underlying24 H1.out H2.out H3.out H4.out rfl (u2) 24 O0_2.out hb2.size (c := c0) (h0.below FzR.stays (hx.trans (hb2.mono hx.size))) hln0 (by omega)
      refine step_append_run rfl (.tmp 3) (.tmp 5) 24 24 rfl rfl rfl hr0 ?_
      have hb3 := hb2.grown hg0 hb2.size (fun k hk => (OwnG.block_lt O0_2.out k hk).1)
      have D0_2_3 := Lib.hid (Dis.app O2_2.out (D2_0_2.out.symm) hl0)
      have O2_3 := Lib.hid (OwnG.keptD O2_2.out hg0 (D2_0_2.out.symm))
      have O0_3 := Lib.hid o0
      obtain ⟨B0, d0, e0, -, -, -⟩ := (show OwnZ u3 z.heap.size v0 _ from o0).sl
      subst e0
      clear o0 hr0 hg0 hl0
      refine hK.out _ _ ⟨below_keep hb3 _ _ p0, below_keep hb3 _ _ p1, below_keep hb3 _ _ p2⟩ (fun hHeld => ?_)
      clear hK K
      (try simp only [Act.put, List.getElem_toArray, List.getElem_cons_zero, List.getElem_cons_succ, List.setIfInBounds_toArray, List.set_cons_zero, List.set_cons_succ])
      refine wpAnyH_ready (rs := [4]) (by kernel_rfl) (by simp) ?_
      refine AllReadyH.cons rfl (fun K hK => ?_) AllReadyH.nil
      go_simp
      have hal : Below (u3).heap.size u3 ((u3).alloc (.cells #[] 75)) := (Below.refl _ _).alloc (Nat.le_refl _) _
      have O1_4 := Lib.hid (OwnG.lit (T := 75) (sz := 2) (f := Fz.cells) (u3) (base := z.heap.size) hb3.size)
      have D1_0_4 := Lib.hid (Dis.fresh O0_3.out 0 0)
      have O0_4 := Lib.hid (OwnG.below O0_3.out hal)
      have D1_2_4 := Lib.hid (Dis.fresh O2_3.out 0 0)
      have O2_4 := Lib.hid (OwnG.below O2_3.out hal)
      have hb4 := hb3.alloc hb3.size (.cells #[] 75)
      clear hal
      generalize (u3).alloc (.cells #[] 75) = u4 at *
      refine hK.out _ _ ⟨below_keep hb4 _ _ p0, below_keep hb4 _ _ p1, below_keep hb4 _ _ p2⟩ (fun hHeld => ?_)
      clear hK K
      (try simp only [Act.put, List.getElem_toArray, List.getElem_cons_zero, List.getElem_cons_succ, List.setIfInBounds_toArray, List.set_cons_zero, List.set_cons_succ])
      refine wpAnyH_ready (rs := [7]) (by kernel_rfl) (by simp) ?_
      refine AllReadyH.cons rfl (fun K hK => ?_) AllReadyH.nil
      obtain ⟨v1, u5, hr1, o1, hg1, hl1⟩ := run_app_all fz_cells fz_one (by omega) Try.underlying24 H1.out H2.out H3.out H4.out rfl (u4) 24 O1_4.out hb4.size (c := c1) (h1.below FzR.stays (hx.trans (hb4.mono hx.size))) hln1 (by omega)
      refine step_append_run rfl (.tmp 7) (.tmp 9) 24 24 rfl rfl rfl hr1 ?_
      have hb5 := hb4.grown hg1 hb4.size (fun k hk => (OwnG.block_lt O1_4.out k hk).1)
      have D1_0_5 := Lib.hid (Dis.app O0_4.out (D1_0_4.out) hl1)
      have O0_5 := Lib.hid (OwnG.keptD O0_4.out hg1 (D1_0_4.out))
      have D1_2_5 := Lib.hid (Dis.app O2_4.out (D1_2_4.out) hl1)
      have O2_5 := Lib.hid (OwnG.keptD O2_4.out hg1 (D1_2_4.out))
      have O1_5 := Lib.hid o1
      obtain ⟨B1, d1, e1, -, -, -⟩ := (show OwnZ u5 z.heap.size v1 _ from o1).sl
      subst e1
      clear o1 hr1 hg1 hl1
      refine hK.out _ _ ⟨below_keep hb5 _ _ p0, below_keep hb5 _ _ p1, below_keep hb5 _ _ p2⟩ (fun hHeld => ?_)
      clear hK K
      (try simp only [Act.put, List.getElem_toArray, List.getElem_cons_zero, List.getElem_cons_succ, List.setIfInBounds_toArray, List.set_cons_zero, List.set_cons_succ])
      refine wpAnyH_ready (rs := [11]) (by kernel_rfl) (by simp) ?_
      refine AllReadyH.cons rfl (fun K hK => ?_) AllReadyH.nil
      obtain ⟨v2, u6, hr2, o2, hg2, hl2⟩ := run_app_all oz_cells oz_one (by omega) Try.underlying25 J1.out J2.out J3.out J4.out rfl (u5) 25 O2_5.out hb5.size (c := c2) (h2.below OzR.stays (hx.trans (hb5.mono hx.size))) hln2 (by omega)
      refine step_append_run rfl (.tmp 11) (.tmp 13) 25 25 rfl rfl rfl hr2 ?_
      have hb6 := hb5.grown hg2 hb5.size (fun k hk => (OwnG.block_lt O2_5.out k hk).1)
      have D2_0_6 := Lib.hid (Dis.app O0_5.out (D0_2_3.out.symm) hl2)
      have O0_6 := Lib.hid (OwnG.keptD O0_5.out hg2 (D0_2_3.out.symm))
      have D2_1_6 := Lib.hid (Dis.app O1_5.out (D1_2_5.out.symm) hl2)
      have O1_6 := Lib.hid (OwnG.keptD O1_5.out hg2 (D1_2_5.out.symm))
      have O2_6 := Lib.hid o2
      obtain ⟨B2, d2, e2, -, -, -⟩ := (show OwnO u6 z.heap.size v2 _ from o2).sl
      subst e2
      clear o2 hr2 hg2 hl2
      have rr := rb.below hb6
      obtain ⟨⟨r0, r1, r2⟩, ⟨f0, f1, f2⟩⟩ := rr.three
      have RR := Lib.hid rr
      clear rr
      refine hK.out _ _ ⟨below_keep hb6 _ _ p0, below_keep hb6 _ _ p1, below_keep hb6 _ _ p2⟩ (fun hHeld => ?_)
      clear hK K
      (try simp only [Act.put, List.getElem_toArray, List.getElem_cons_zero, List.getElem_cons_succ, List.setIfInBounds_toArray, List.set_cons_zero, List.set_cons_succ])
      refine wpAnyH_take (i := 12) (v := ?v13) rfl (by kernel_rfl) (by kernel_rfl) (by kernel_rfl) (fun _ _ _ h => h) (Or.inl ⟨by rfl, ?hy13⟩) hHeld ?rest13
      case hy13 => (intro w' hSw; (try dsimp only at hSw); first | (go_simp; done) | (go_simp; with_reducible rfl))
      simp only [Act.put, List.getElem_toArray, List.getElem_cons_zero, List.getElem_cons_succ, List.setIfInBounds_toArray, List.set_cons_zero, List.set_cons_succ]
      refine wpAnyH_ready (rs := [13]) (by kernel_rfl) (by simp) ?_
      refine AllReadyH.cons rfl (fun K hK => ?_) AllReadyH.nil
      go_simp
      refine hK.out _ _ ⟨cellOff (cellOff (cellOff (below_keep hb6 _ _ p0) (by simp)) (by simp)) (by simp), cellOff (cellOff (cellOff (below_keep hb6 _ _ p1) (by simp)) (by simp)) (by simp), cellOff (cellOff (cellOff (below_keep hb6 _ _ p2) (by simp)) (by simp)) (by simp)⟩ (fun hHeld => ?_)
      clear hK K
      (try simp only [Act.put, List.getElem_toArray, List.getElem_cons_zero, List.getElem_cons_succ, List.setIfInBounds_toArray, List.set_cons_zero, List.set_cons_succ])
      refine wpAnyH_done (by kernel_rfl) ?_ _
      refine NoPanic.normal ?_
      clear hHeld
      have hbn : Below w.heap.size w u6 := hx.trans (hb6.mono hx.size)
      clear r0 r1 r2 f0 f1 f2
      go_wp2_with fail
      have hr9 := (((RR.out).set 0 (.slice B0 x.live.length d0)).set 1 (.slice B1 x.safe.length d1)).set 2 (.slice B2 x.ops.length d2)
      refine bodyPost_ret (results_cell_row (p := 2) (ty := 27) rfl _ _ (w.heap.size + 1) 27 #[.slice B0 x.live.length d0, .slice B1 x.safe.length d1, .slice B2 x.ops.length d2] (0, 0) _ rfl hr9 Try.underlying27 rfl HI.out) rfl ⟨⟨_, rfl, ?_⟩, ?_⟩
      · refine DzA.mono (base := z.heap.size) ?_ (by omega)
        refine DzA.set (DzA.set (DzA.set (show DzA _ z.heap.size _ x from ⟨_, _, _, rfl, O0_6.out, O1_6.out, O2_6.out, D1_0_5.out.symm⟩) ?_ _) ?_ _) ?_ _ <;> (show w.heap.size + 1 < z.heap.size; omega)
      · exact ((hbn.setCell (Nat.le_succ _) _).setCell (Nat.le_succ _) _).setCell (Nat.le_succ _) _
    refine AllReadyH.cons rfl (fun K hK => ?_) AllReadyH.nil
    go_simp
    have hal : Below (u2).heap.size u2 ((u2).alloc (.cells #[] 75)) := (Below.refl _ _).alloc (Nat.le_refl _) _
    have O1_3 := Lib.hid (OwnG.lit (T := 75) (sz := 2) (f := Fz.cells) (u2) (base := z.heap.size) hb2.size)
    have D1_0_3 := Lib.hid (Dis.fresh O0_2.out 0 0)
    have O0_3 := Lib.hid (OwnG.below O0_2.out hal)
    have D1_2_3 := Lib.hid (Dis.fresh O2_2.out 0 0)
    have O2_3 := Lib.hid (OwnG.below O2_2.out hal)
    have hb3 := hb2.alloc hb2.size (.cells #[] 75)
    clear hal
    generalize (u2).alloc (.cells #[] 75) = u3 at *
    refine hK.out _ _ ⟨below_keep hb3 _ _ p0, below_keep hb3 _ _ p1, below_keep hb3 _ _ p2⟩ (fun hHeld => ?_)
    clear hK K
    (try simp only [Act.put, List.getElem_toArray, List.getElem_cons_zero, List.getElem_cons_succ, List.setIfInBounds_toArray, List.set_cons_zero, List.set_cons_succ])
    refine wpAnyH_ready (rs := [3]) (by kernel_rfl) (by simp) ?_
    refine AllReadyH.cons rfl (fun K hK => ?_) AllReadyH.nil
    obtain ⟨v0, u4, hr0, o0, hg0, hl0⟩ := run_app_all fz_cells fz_one (by omega) Try.underlying24 H1.out H2.out H3.out H4.out rfl (u3) 24 O0_3.out hb3.size (c := c0) (h0.below FzR.stays (hx.trans (hb3.mono hx.size))) hln0 (by omega)
    refine step_append_run rfl (.tmp 3) (.tmp 5) 24 24 rfl rfl rfl hr0 ?_
    have hb4 := hb3.grown hg0 hb3.size (fun k hk => (OwnG.block_lt O0_3.out k hk).1)
    have D0_2_4 := Lib.hid (Dis.app O2_3.out (D2_0_2.out.symm) hl0)
    have O2_4 := Lib.hid (OwnG.keptD O2_3.out hg0 (D2_0_2.out.symm))
    have D0_1_4 := Lib.hid (Dis.app O1_3.out (D1_0_3.out.symm) hl0)
    have O1_4 := Lib.hid (OwnG.keptD O1_3.out hg0 (D1_0_3.out.symm))
    have O0_4 := Lib.hid o0
    obtain ⟨B0, d0, e0, -, -, -⟩ := (show OwnZ u4 z.heap.size v0 _ from o0).sl
    subst e0
    clear o0 hr0 hg0 hl0
    refine hK.out _ _ ⟨below_keep hb4 _ _ p0, below_keep hb4 _ _ p1, below_keep hb4 _ _ p2⟩ (fun hHeld => ?_)
    clear hK K
    (try simp only [Act.put, List.getElem_toArray, List.getElem_cons_zero, List.getElem_cons_succ, List.setIfInBounds_toArray, List.set_cons_zero, List.set_cons_succ])
    refine wpAnyH_ready (rs := [7]) (by kernel_rfl) (by simp) ?_
    refine AllReadyH.cons rfl (fun K hK => ?_) AllReadyH.nil
    obtain ⟨v1, u5, hr1, o1, hg1, hl1⟩ := run_app_all fz_cells fz_one (by omega) Try.underlying24 H1.out H2.out H3.out H4.out rfl (u4) 24 O1_4.out hb4.size (c := c1) (h1.below FzR.stays (hx.trans (hb4.mono hx.size))) hln1 (by omega)
    refine step_append_run rfl (.tmp 7) (.tmp 9) 24 24 rfl rfl rfl hr1 ?_
    have hb5 := hb4.grown hg1 hb4.size (fun k hk => (OwnG.block_lt O1_4.out k hk).1)
    have D1_0_5 := Lib.hid (Dis.app O0_4.out (D0_1_4.out.symm) hl1)
    have O0_5 := Lib.hid (OwnG.keptD O0_4.out hg1 (D0_1_4.out.symm))
    have D1_2_5 := Lib.hid (Dis.app O2_4.out (D1_2_3.out) hl1)
    have O2_5 := Lib.hid (OwnG.keptD O2_4.out hg1 (D1_2_3.out))
    have O1_5 := Lib.hid o1
    obtain ⟨B1, d1, e1, -, -, -⟩ := (show OwnZ u5 z.heap.size v1 _ from o1).sl
    subst e1
    clear o1 hr1 hg1 hl1
    refine hK.out _ _ ⟨below_keep hb5 _ _ p0, below_keep hb5 _ _ p1, below_keep hb5 _ _ p2⟩ (fun hHeld => ?_)
    clear hK K
    (try simp only [Act.put, List.getElem_toArray, List.getElem_cons_zero, List.getElem_cons_succ, List.setIfInBounds_toArray, List.set_cons_zero, List.set_cons_succ])
    refine wpAnyH_ready (rs := [11]) (by kernel_rfl) (by simp) ?_
    refine AllReadyH.cons rfl (fun K hK => ?_) AllReadyH.nil
    obtain ⟨v2, u6, hr2, o2, hg2, hl2⟩ := run_app_all oz_cells oz_one (by omega) Try.underlying25 J1.out J2.out J3.out J4.out rfl (u5) 25 O2_5.out hb5.size (c := c2) (h2.below OzR.stays (hx.trans (hb5.mono hx.size))) hln2 (by omega)
    refine step_append_run rfl (.tmp 11) (.tmp 13) 25 25 rfl rfl rfl hr2 ?_
    have hb6 := hb5.grown hg2 hb5.size (fun k hk => (OwnG.block_lt O2_5.out k hk).1)
    have D2_0_6 := Lib.hid (Dis.app O0_5.out (D0_2_4.out.symm) hl2)
    have O0_6 := Lib.hid (OwnG.keptD O0_5.out hg2 (D0_2_4.out.symm))
    have D2_1_6 := Lib.hid (Dis.app O1_5.out (D1_2_5.out.symm) hl2)
    have O1_6 := Lib.hid (OwnG.keptD O1_5.out hg2 (D1_2_5.out.symm))
    have O2_6 := Lib.hid o2
    obtain ⟨B2, d2, e2, -, -, -⟩ := (show OwnO u6 z.heap.size v2 _ from o2).sl
    subst e2
    clear o2 hr2 hg2 hl2
    have rr := rb.below hb6
    obtain ⟨⟨r0, r1, r2⟩, ⟨f0, f1, f2⟩⟩ := rr.three
    have RR := Lib.hid rr
    clear rr
    refine hK.out _ _ ⟨below_keep hb6 _ _ p0, below_keep hb6 _ _ p1, below_keep hb6 _ _ p2⟩ (fun hHeld => ?_)
    clear hK K
    (try simp only [Act.put, List.getElem_toArray, List.getElem_cons_zero, List.getElem_cons_succ, List.setIfInBounds_toArray, List.set_cons_zero, List.set_cons_succ])
    refine wpAnyH_take (i := 12) (v := ?v14) rfl (by kernel_rfl) (by kernel_rfl) (by kernel_rfl) (fun _ _ _ h => h) (Or.inl ⟨by rfl, ?hy14⟩) hHeld ?rest14
    case hy14 => (intro w' hSw; (try dsimp only at hSw); first | (go_simp; done) | (go_simp; with_reducible rfl))
    simp only [Act.put, List.getElem_toArray, List.getElem_cons_zero, List.getElem_cons_succ, List.setIfInBounds_toArray, List.set_cons_zero, List.set_cons_succ]
    refine wpAnyH_ready (rs := [13]) (by kernel_rfl) (by simp) ?_
    refine AllReadyH.cons rfl (fun K hK => ?_) AllReadyH.nil
    go_simp
    refine hK.out _ _ ⟨cellOff (cellOff (cellOff (below_keep hb6 _ _ p0) (by simp)) (by simp)) (by simp), cellOff (cellOff (cellOff (below_keep hb6 _ _ p1) (by simp)) (by simp)) (by simp), cellOff (cellOff (cellOff (below_keep hb6 _ _ p2) (by simp)) (by simp)) (by simp)⟩ (fun hHeld => ?_)
    clear hK K
    (try simp only [Act.put, List.getElem_toArray, List.getElem_cons_zero, List.getElem_cons_succ, List.setIfInBounds_toArray, List.set_cons_zero, List.set_cons_succ])
    refine wpAnyH_done (by kernel_rfl) ?_ _
    refine NoPanic.normal ?_
    clear hHeld
    have hbn : Below w.heap.size w u6 := hx.trans (hb6.mono hx.size)
    clear r0 r1 r2 f0 f1 f2
    go_wp2_with fail
    have hr9 := (((RR.out).set 0 (.slice B0 x.live.length d0)).set 1 (.slice B1 x.safe.length d1)).set 2 (.slice B2 x.ops.length d2)
    refine bodyPost_ret (results_cell_row (p := 2) (ty := 27) rfl _ _ (w.heap.size + 1) 27 #[.slice B0 x.live.length d0, .slice B1 x.safe.length d1, .slice B2 x.ops.length d2] (0, 0) _ rfl hr9 Try.underlying27 rfl HI.out) rfl ⟨⟨_, rfl, ?_⟩, ?_⟩
    · refine DzA.mono (base := z.heap.size) ?_ (by omega)
      refine DzA.set (DzA.set (DzA.set (show DzA _ z.heap.size _ x from ⟨_, _, _, rfl, O0_6.out, O1_6.out, O2_6.out, D1_0_5.out.symm⟩) ?_ _) ?_ _) ?_ _ <;> (show w.heap.size + 1 < z.heap.size; omega)
    · exact ((hbn.setCell (Nat.le_succ _) _).setCell (Nat.le_succ _) _).setCell (Nat.le_succ _) _
  refine AllReadyH.cons rfl (fun K hK => ?_) ?_
  · go_simp
    have hal : Below (u0).heap.size u0 ((u0).alloc (.cells #[] 75)) := (Below.refl _ _).alloc (Nat.le_refl _) _
    have O1_1 := Lib.hid (OwnG.lit (T := 75) (sz := 2) (f := Fz.cells) (u0) (base := z.heap.size) hb0.size)
    have hb1 := hb0.alloc hb0.size (.cells #[] 75)
    clear hal
    generalize (u0).alloc (.cells #[] 75) = u1 at *
    refine hK.out _ _ ⟨below_keep hb1 _ _ p0, below_keep hb1 _ _ p1, below_keep hb1 _ _ p2⟩ (fun hHeld => ?_)
    clear hK K
    (try simp only [Act.put, List.getElem_toArray, List.getElem_cons_zero, List.getElem_cons_succ, List.setIfInBounds_toArray, List.set_cons_zero, List.set_cons_succ])
    refine wpAnyH_ready (rs := [0, 8]) (by kernel_rfl) (by simp) ?_
    refine AllReadyH.cons rfl (fun K hK => ?_) ?_
    · go_simp
      have hal : Below (u1).heap.size u1 ((u1).alloc (.cells #[] 75)) := (Below.refl _ _).alloc (Nat.le_refl _) _
      have O0_2 := Lib.hid (OwnG.lit (T := 75) (sz := 2) (f := Fz.cells) (u1) (base := z.heap.size) hb1.size)
      have D0_1_2 := Lib.hid (Dis.fresh O1_1.out 0 0)
      have O1_2 := Lib.hid (OwnG.below O1_1.out hal)
      have hb2 := hb1.alloc hb1.size (.cells #[] 75)
      clear hal
      generalize (u1).alloc (.cells #[] 75) = u2 at *
      refine hK.out _ _ ⟨below_keep hb2 _ _ p0, below_keep hb2 _ _ p1, below_keep hb2 _ _ p2⟩ (fun hHeld => ?_)
      clear hK K
      (try simp only [Act.put, List.getElem_toArray, List.getElem_cons_zero, List.getElem_cons_succ, List.setIfInBounds_toArray, List.set_cons_zero, List.set_cons_succ])
      refine wpAnyH_ready (rs := [3, 8]) (by kernel_rfl) (by simp) ?_
      refine AllReadyH.cons rfl (fun K hK => ?_) ?_
      · obtain ⟨v0, u3, hr0, o0, hg0, hl0⟩ := run_app_all fz_cells fz_one (by omega) Try.underlying24 H1.out H2.out H3.out H4.out rfl (u2) 24 O0_2.out hb2.size (c := c0) (h0.below FzR.stays (hx.trans (hb2.mono hx.size))) hln0 (by omega)
        refine step_append_run rfl (.tmp 3) (.tmp 5) 24 24 rfl rfl rfl hr0 ?_
        have hb3 := hb2.grown hg0 hb2.size (fun k hk => (OwnG.block_lt O0_2.out k hk).1)
        have D0_1_3 := Lib.hid (Dis.app O1_2.out (D0_1_2.out) hl0)
        have O1_3 := Lib.hid (OwnG.keptD O1_2.out hg0 (D0_1_2.out))
        have O0_3 := Lib.hid o0
        obtain ⟨B0, d0, e0, -, -, -⟩ := (show OwnZ u3 z.heap.size v0 _ from o0).sl
        subst e0
        clear o0 hr0 hg0 hl0
        refine hK.out _ _ ⟨below_keep hb3 _ _ p0, below_keep hb3 _ _ p1, below_keep hb3 _ _ p2⟩ (fun hHeld => ?_)
        clear hK K
        (try simp only [Act.put, List.getElem_toArray, List.getElem_cons_zero, List.getElem_cons_succ, List.setIfInBounds_toArray, List.set_cons_zero, List.set_cons_succ])
        refine wpAnyH_ready (rs := [7, 8]) (by kernel_rfl) (by simp) ?_
        refine AllReadyH.cons rfl (fun K hK => ?_) ?_
        · obtain ⟨v1, u4, hr1, o1, hg1, hl1⟩ := run_app_all fz_cells fz_one (by omega) Try.underlying24 H1.out H2.out H3.out H4.out rfl (u3) 24 O1_3.out hb3.size (c := c1) (h1.below FzR.stays (hx.trans (hb3.mono hx.size))) hln1 (by omega)
          refine step_append_run rfl (.tmp 7) (.tmp 9) 24 24 rfl rfl rfl hr1 ?_
          have hb4 := hb3.grown hg1 hb3.size (fun k hk => (OwnG.block_lt O1_3.out k hk).1)
          have D1_0_4 := Lib.hid (Dis.app O0_3.out (D0_1_3.out.symm) hl1)
          have O0_4 := Lib.hid (OwnG.keptD O0_3.out hg1 (D0_1_3.out.symm))
          have O1_4 := Lib.hid o1
          obtain ⟨B1, d1, e1, -, -, -⟩ := (show OwnZ u4 z.heap.size v1 _ from o1).sl
          subst e1
          clear o1 hr1 hg1 hl1
          refine hK.out _ _ ⟨below_keep hb4 _ _ p0, below_keep hb4 _ _ p1, below_keep hb4 _ _ p2⟩ (fun hHeld => ?_)
          clear hK K
          (try simp only [Act.put, List.getElem_toArray, List.getElem_cons_zero, List.getElem_cons_succ, List.setIfInBounds_toArray, List.set_cons_zero, List.set_cons_succ])
          refine wpAnyH_ready (rs := [8]) (by kernel_rfl) (by simp) ?_
          refine AllReadyH.cons rfl (fun K hK => ?_) AllReadyH.nil
          go_simp
          have hal : Below (u4).heap.size u4 ((u4).alloc (.cells #[] 36)) := (Below.refl _ _).alloc (Nat.le_refl _) _
          have O2_5 := Lib.hid (OwnG.lit (T := 36) (sz := 4) (f := Oz.cells) (u4) (base := z.heap.size) hb4.size)
          have D2_1_5 := Lib.hid (Dis.fresh O1_4.out 0 0)
          have O1_5 := Lib.hid (OwnG.below O1_4.out hal)
          have D2_0_5 := Lib.hid (Dis.fresh O0_4.out 0 0)
          have O0_5 := Lib.hid (OwnG.below O0_4.out hal)
          have hb5 := hb4.alloc hb4.size (.cells #[] 36)
          clear hal
          generalize (u4).alloc (.cells #[] 36) = u5 at *
          refine hK.out _ _ ⟨below_keep hb5 _ _ p0, below_keep hb5 _ _ p1, below_keep hb5 _ _ p2⟩ (fun hHeld => ?_)
          clear hK K
          (try simp only [Act.put, List.getElem_toArray, List.getElem_cons_zero, List.getElem_cons_succ, List.setIfInBounds_toArray, List.set_cons_zero, List.set_cons_succ])
          refine wpAnyH_ready (rs := [11]) (by kernel_rfl) (by simp) ?_
          refine AllReadyH.cons rfl (fun K hK => ?_) AllReadyH.nil
          obtain ⟨v2, u6, hr2, o2, hg2, hl2⟩ := run_app_all oz_cells oz_one (by omega) Try.underlying25 J1.out J2.out J3.out J4.out rfl (u5) 25 O2_5.out hb5.size (c := c2) (h2.below OzR.stays (hx.trans (hb5.mono hx.size))) hln2 (by omega)
          refine step_append_run rfl (.tmp 11) (.tmp 13) 25 25 rfl rfl rfl hr2 ?_
          have hb6 := hb5.grown hg2 hb5.size (fun k hk => (OwnG.block_lt O2_5.out k hk).1)
          have D2_1_6 := Lib.hid (Dis.app O1_5.out (D2_1_5.out) hl2)
          have O1_6 := Lib.hid (OwnG.keptD O1_5.out hg2 (D2_1_5.out))
          have D2_0_6 := Lib.hid (Dis.app O0_5.out (D2_0_5.out) hl2)
          have O0_6 := Lib.hid (OwnG.keptD O0_5.out hg2 (D2_0_5.out))
          have O2_6 := Lib.hid o2
          obtain ⟨B2, d2, e2, -, -, -⟩ := (show OwnO u6 z.heap.size v2 _ from o2).sl
          subst e2
          clear o2 hr2 hg2 hl2
          have rr := rb.below hb6
          obtain ⟨⟨r0, r1, r2⟩, ⟨f0, f1, f2⟩⟩ := rr.three
          have RR := Lib.hid rr
          clear rr
          refine hK.out _ _ ⟨below_keep hb6 _ _ p0, below_keep hb6 _ _ p1, below_keep hb6 _ _ p2⟩ (fun hHeld => ?_)
          clear hK K
          (try simp only [Act.put, List.getElem_toArray, List.getElem_cons_zero, List.getElem_cons_succ, List.setIfInBounds_toArray, List.set_cons_zero, List.set_cons_succ])
          refine wpAnyH_take (i := 12) (v := ?v15) rfl (by kernel_rfl) (by kernel_rfl) (by kernel_rfl) (fun _ _ _ h => h) (Or.inl ⟨by rfl, ?hy15⟩) hHeld ?rest15
          case hy15 => (intro w' hSw; (try dsimp only at hSw); first | (go_simp; done) | (go_simp; with_reducible rfl))
          simp only [Act.put, List.getElem_toArray, List.getElem_cons_zero, List.getElem_cons_succ, List.setIfInBounds_toArray, List.set_cons_zero, List.set_cons_succ]
          refine wpAnyH_ready (rs := [13]) (by kernel_rfl) (by simp) ?_
          refine AllReadyH.cons rfl (fun K hK => ?_) AllReadyH.nil
          go_simp
          refine hK.out _ _ ⟨cellOff (cellOff (cellOff (below_keep hb6 _ _ p0) (by simp)) (by simp)) (by simp), cellOff (cellOff (cellOff (below_keep hb6 _ _ p1) (by simp)) (by simp)) (by simp), cellOff (cellOff (cellOff (below_keep hb6 _ _ p2) (by simp)) (by simp)) (by simp)⟩ (fun hHeld => ?_)
          clear hK K
          (try simp only [Act.put, List.getElem_toArray, List.getElem_cons_zero, List.getElem_cons_succ, List.setIfInBounds_toArray, List.set_cons_zero, List.set_cons_succ])
          refine wpAnyH_done (by kernel_rfl) ?_ _
          refine NoPanic.normal ?_
          clear hHeld
          have hbn : Below w.heap.size w u6 := hx.trans (hb6.mono hx.size)
          clear r0 r1 r2 f0 f1 f2
          go_wp2_with fail
          have hr9 := (((RR.out).set 0 (.slice B0 x.live.length d0)).set 1 (.slice B1 x.safe.length d1)).set 2 (.slice B2 x.ops.length d2)
          refine bodyPost_ret (results_cell_row (p := 2) (ty := 27) rfl _ _ (w.heap.size + 1) 27 #[.slice B0 x.live.length d0, .slice B1 x.safe.length d1, .slice B2 x.ops.length d2] (0, 0) _ rfl hr9 Try.underlying27 rfl HI.out) rfl ⟨⟨_, rfl, ?_⟩, ?_⟩
          · refine DzA.mono (base := z.heap.size) ?_ (by omega)
            refine DzA.set (DzA.set (DzA.set (show DzA _ z.heap.size _ x from ⟨_, _, _, rfl, O0_6.out, O1_6.out, O2_6.out, D1_0_4.out.symm⟩) ?_ _) ?_ _) ?_ _ <;> (show w.heap.size + 1 < z.heap.size; omega)
          · exact ((hbn.setCell (Nat.le_succ _) _).setCell (Nat.le_succ _) _).setCell (Nat.le_succ _) _
        refine AllReadyH.cons rfl (fun K hK => ?_) AllReadyH.nil
        go_simp
        have hal : Below (u3).heap.size u3 ((u3).alloc (.cells #[] 36)) := (Below.refl _ _).alloc (Nat.le_refl _) _
        have O2_4 := Lib.hid (OwnG.lit (T := 36) (sz := 4) (f := Oz.cells) (u3) (base := z.heap.size) hb3.size)
        have D2_1_4 := Lib.hid (Dis.fresh O1_3.out 0 0)
        have O1_4 := Lib.hid (OwnG.below O1_3.out hal)
        have D2_0_4 := Lib.hid (Dis.fresh O0_3.out 0 0)
        have O0_4 := Lib.hid (OwnG.below O0_3.out hal)
        have hb4 := hb3.alloc hb3.size (.cells #[] 36)
        clear hal
        generalize (u3).alloc (.cells #[] 36) = u4 at *
        refine hK.out _ _ ⟨below_keep hb4 _ _ p0, below_keep hb4 _ _ p1, below_keep hb4 _ _ p2⟩ (fun hHeld => ?_)
        clear hK K
        (try simp only [Act.put, List.getElem_toArray, List.getElem_cons_zero, List.getElem_cons_succ, List.setIfInBounds_toArray, List.set_cons_zero, List.set_cons_succ])
        refine wpAnyH_ready (rs := [7]) (by kernel_rfl) (by simp) ?_
        refine AllReadyH.cons rfl (fun K hK => ?_) AllReadyH.nil
        obtain ⟨v1, u5, hr1, o1, hg1, hl1⟩ := run_app_all fz_cells fz_one (by omega) Try.underlying24 H1.out H2.out H3.out H4.out rfl (u4) 24 O1_4.out hb4.size (c := c1) (h1.below FzR.stays (hx.trans (hb4.mono hx.size))) hln1 (by omega)
        refine step_append_run rfl (.tmp 7) (.tmp 9) 24 24 rfl rfl rfl hr1 ?_
        have hb5 := hb4.grown hg1 hb4.size (fun k hk => (OwnG.block_lt O1_4.out k hk).1)
        have D1_0_5 := Lib.hid (Dis.app O0_4.out (D0_1_3.out.symm) hl1)
        have O0_5 := Lib.hid (OwnG.keptD O0_4.out hg1 (D0_1_3.out.symm))
        have D1_2_5 := Lib.hid (Dis.app O2_4.out (D2_1_4.out.symm) hl1)
        have O2_5 := Lib.hid (OwnG.keptD O2_4.out hg1 (D2_1_4.out.symm))
        have O1_5 := Lib.hid o1
        obtain ⟨B1, d1, e1, -, -, -⟩ := (show OwnZ u5 z.heap.size v1 _ from o1).sl
        subst e1
        clear o1 hr1 hg1 hl1
        refine hK.out _ _ ⟨below_keep hb5 _ _ p0, below_keep hb5 _ _ p1, below_keep hb5 _ _ p2⟩ (fun hHeld => ?_)
        clear hK K
        (try simp only [Act.put, List.getElem_toArray, List.getElem_cons_zero, List.getElem_cons_succ, List.setIfInBounds_toArray, List.set_cons_zero, List.set_cons_succ])
        refine wpAnyH_ready (rs := [11]) (by kernel_rfl) (by simp) ?_
        refine AllReadyH.cons rfl (fun K hK => ?_) AllReadyH.nil
        obtain ⟨v2, u6, hr2, o2, hg2, hl2⟩ := run_app_all oz_cells oz_one (by omega) Try.underlying25 J1.out J2.out J3.out J4.out rfl (u5) 25 O2_5.out hb5.size (c := c2) (h2.below OzR.stays (hx.trans (hb5.mono hx.size))) hln2 (by omega)
        refine step_append_run rfl (.tmp 11) (.tmp 13) 25 25 rfl rfl rfl hr2 ?_
        have hb6 := hb5.grown hg2 hb5.size (fun k hk => (OwnG.block_lt O2_5.out k hk).1)
        have D2_1_6 := Lib.hid (Dis.app O1_5.out (D1_2_5.out.symm) hl2)
        have O1_6 := Lib.hid (OwnG.keptD O1_5.out hg2 (D1_2_5.out.symm))
        have D2_0_6 := Lib.hid (Dis.app O0_5.out (D2_0_4.out) hl2)
        have O0_6 := Lib.hid (OwnG.keptD O0_5.out hg2 (D2_0_4.out))
        have O2_6 := Lib.hid o2
        obtain ⟨B2, d2, e2, -, -, -⟩ := (show OwnO u6 z.heap.size v2 _ from o2).sl
        subst e2
        clear o2 hr2 hg2 hl2
        have rr := rb.below hb6
        obtain ⟨⟨r0, r1, r2⟩, ⟨f0, f1, f2⟩⟩ := rr.three
        have RR := Lib.hid rr
        clear rr
        refine hK.out _ _ ⟨below_keep hb6 _ _ p0, below_keep hb6 _ _ p1, below_keep hb6 _ _ p2⟩ (fun hHeld => ?_)
        clear hK K
        (try simp only [Act.put, List.getElem_toArray, List.getElem_cons_zero, List.getElem_cons_succ, List.setIfInBounds_toArray, List.set_cons_zero, List.set_cons_succ])
        refine wpAnyH_take (i := 12) (v := ?v16) rfl (by kernel_rfl) (by kernel_rfl) (by kernel_rfl) (fun _ _ _ h => h) (Or.inl ⟨by rfl, ?hy16⟩) hHeld ?rest16
        case hy16 => (intro w' hSw; (try dsimp only at hSw); first | (go_simp; done) | (go_simp; with_reducible rfl))
        simp only [Act.put, List.getElem_toArray, List.getElem_cons_zero, List.getElem_cons_succ, List.setIfInBounds_toArray, List.set_cons_zero, List.set_cons_succ]
        refine wpAnyH_ready (rs := [13]) (by kernel_rfl) (by simp) ?_
        refine AllReadyH.cons rfl (fun K hK => ?_) AllReadyH.nil
        go_simp
        refine hK.out _ _ ⟨cellOff (cellOff (cellOff (below_keep hb6 _ _ p0) (by simp)) (by simp)) (by simp), cellOff (cellOff (cellOff (below_keep hb6 _ _ p1) (by simp)) (by simp)) (by simp), cellOff (cellOff (cellOff (below_keep hb6 _ _ p2) (by simp)) (by simp)) (by simp)⟩ (fun hHeld => ?_)
        clear hK K
        (try simp only [Act.put, List.getElem_toArray, List.getElem_cons_zero, List.getElem_cons_succ, List.setIfInBounds_toArray, List.set_cons_zero, List.set_cons_succ])
        refine wpAnyH_done (by kernel_rfl) ?_ _
        refine NoPanic.normal ?_
        clear hHeld
        have hbn : Below w.heap.size w u6 := hx.trans (hb6.mono hx.size)
        clear r0 r1 r2 f0 f1 f2
        go_wp2_with fail
        have hr9 := (((RR.out).set 0 (.slice B0 x.live.length d0)).set 1 (.slice B1 x.safe.length d1)).set 2 (.slice B2 x.ops.length d2)
        refine bodyPost_ret (results_cell_row (p := 2) (ty := 27) rfl _ _ (w.heap.size + 1) 27 #[.slice B0 x.live.length d0, .slice B1 x.safe.length d1, .slice B2 x.ops.length d2] (0, 0) _ rfl hr9 Try.underlying27 rfl HI.out) rfl ⟨⟨_, rfl, ?_⟩, ?_⟩
        · refine DzA.mono (base := z.heap.size) ?_ (by omega)
          refine DzA.set (DzA.set (DzA.set (show DzA _ z.heap.size _ x from ⟨_, _, _, rfl, O0_6.out, O1_6.out, O2_6.out, D1_0_5.out.symm⟩) ?_ _) ?_ _) ?_ _ <;> (show w.heap.size + 1 < z.heap.size; omega)
        · exact ((hbn.setCell (Nat.le_succ _) _).setCell (Nat.le_succ _) _).setCell (Nat.le_succ _) _
      refine AllReadyH.cons rfl (fun K hK => ?_) AllReadyH.nil
      go_simp
      have hal : Below (u2).heap.size u2 ((u2).alloc (.cells #[] 36)) := (Below.refl _ _).alloc (Nat.le_refl _) _
      have O2_3 := Lib.hid (OwnG.lit (T := 36) (sz := 4) (f := Oz.cells) (u2) (base := z.heap.size) hb2.size)
      have D2_1_3 := Lib.hid (Dis.fresh O1_2.out 0 0)
      have O1_3 := Lib.hid (OwnG.below O1_2.out hal)
      have D2_0_3 := Lib.hid (Dis.fresh O0_2.out 0 0)
      have O0_3 := Lib.hid (OwnG.below O0_2.out hal)
      have hb3 := hb2.alloc hb2.size (.cells #[] 36)
      clear hal
      generalize (u2).alloc (.cells #[] 36) = u3 at *
      refine hK.out _ _ ⟨below_keep hb3 _ _ p0, below_keep hb3 _ _ p1, below_keep hb3 _ _ p2⟩ (fun hHeld => ?_)
      clear hK K
      (try simp only [Act.put, List.getElem_toArray, List.getElem_cons_zero, List.getElem_cons_succ, List.setIfInBounds_toArray, List.set_cons_zero, List.set_cons_succ])
      refine wpAnyH_ready (rs := [3]) (by kernel_rfl) (by simp) ?_
      refine AllReadyH.cons rfl (fun K hK => ?_) AllReadyH.nil
      obtain ⟨v0, u4, hr0, o0, hg0, hl0⟩ := run_app_all fz_cells fz_one (by omega) Try.underlying24 H1.out H2.out H3.out H4.out rfl (u3) 24 O0_3.out hb3.size (c := c0) (h0.below FzR.stays (hx.trans (hb3.mono hx.size))) hln0 (by omega)
      refine step_append_run rfl (.tmp 3) (.tmp 5) 24 24 rfl rfl rfl hr0 ?_
      have hb4 := hb3.grown hg0 hb3.size (fun k hk => (OwnG.block_lt O0_3.out k hk).1)
      have D0_1_4 := Lib.hid (Dis.app O1_3.out (D0_1_2.out) hl0)
      have O1_4 := Lib.hid (OwnG.keptD O1_3.out hg0 (D0_1_2.out))
      have D0_2_4 := Lib.hid (Dis.app O2_3.out (D2_0_3.out.symm) hl0)
      have O2_4 := Lib.hid (OwnG.keptD O2_3.out hg0 (D2_0_3.out.symm))
      have O0_4 := Lib.hid o0
      obtain ⟨B0, d0, e0, -, -, -⟩ := (show OwnZ u4 z.heap.size v0 _ from o0).sl
      subst e0
      clear o0 hr0 hg0 hl0
      refine hK.out _ _ ⟨below_keep hb4 _ _ p0, below_keep hb4 _ _ p1, below_keep hb4 _ _ p2⟩ (fun hHeld => ?_)
      clear hK K
      (try simp only [Act.put, List.getElem_toArray, List.getElem_cons_zero, List.getElem_cons_succ, List.setIfInBounds_toArray, List.set_cons_zero, List.set_cons_succ])
      refine wpAnyH_ready (rs := [7]) (by kernel_rfl) (by simp) ?_
      refine AllReadyH.cons rfl (fun K hK => ?_) AllReadyH.nil
      obtain ⟨v1, u5, hr1, o1, hg1, hl1⟩ := run_app_all fz_cells fz_one (by omega) Try.underlying24 H1.out H2.out H3.out H4.out rfl (u4) 24 O1_4.out hb4.size (c := c1) (h1.below FzR.stays (hx.trans (hb4.mono hx.size))) hln1 (by omega)
      refine step_append_run rfl (.tmp 7) (.tmp 9) 24 24 rfl rfl rfl hr1 ?_
      have hb5 := hb4.grown hg1 hb4.size (fun k hk => (OwnG.block_lt O1_4.out k hk).1)
      have D1_0_5 := Lib.hid (Dis.app O0_4.out (D0_1_4.out.symm) hl1)
      have O0_5 := Lib.hid (OwnG.keptD O0_4.out hg1 (D0_1_4.out.symm))
      have D1_2_5 := Lib.hid (Dis.app O2_4.out (D2_1_3.out.symm) hl1)
      have O2_5 := Lib.hid (OwnG.keptD O2_4.out hg1 (D2_1_3.out.symm))
      have O1_5 := Lib.hid o1
      obtain ⟨B1, d1, e1, -, -, -⟩ := (show OwnZ u5 z.heap.size v1 _ from o1).sl
      subst e1
      clear o1 hr1 hg1 hl1
      refine hK.out _ _ ⟨below_keep hb5 _ _ p0, below_keep hb5 _ _ p1, below_keep hb5 _ _ p2⟩ (fun hHeld => ?_)
      clear hK K
      (try simp only [Act.put, List.getElem_toArray, List.getElem_cons_zero, List.getElem_cons_succ, List.setIfInBounds_toArray, List.set_cons_zero, List.set_cons_succ])
      refine wpAnyH_ready (rs := [11]) (by kernel_rfl) (by simp) ?_
      refine AllReadyH.cons rfl (fun K hK => ?_) AllReadyH.nil
      obtain ⟨v2, u6, hr2, o2, hg2, hl2⟩ := run_app_all oz_cells oz_one (by omega) Try.underlying25 J1.out J2.out J3.out J4.out rfl (u5) 25 O2_5.out hb5.size (c := c2) (h2.below OzR.stays (hx.trans (hb5.mono hx.size))) hln2 (by omega)
      refine step_append_run rfl (.tmp 11) (.tmp 13) 25 25 rfl rfl rfl hr2 ?_
      have hb6 := hb5.grown hg2 hb5.size (fun k hk => (OwnG.block_lt O2_5.out k hk).1)
      have D2_1_6 := Lib.hid (Dis.app O1_5.out (D1_2_5.out.symm) hl2)
      have O1_6 := Lib.hid (OwnG.keptD O1_5.out hg2 (D1_2_5.out.symm))
      have D2_0_6 := Lib.hid (Dis.app O0_5.out (D0_2_4.out.symm) hl2)
      have O0_6 := Lib.hid (OwnG.keptD O0_5.out hg2 (D0_2_4.out.symm))
      have O2_6 := Lib.hid o2
      obtain ⟨B2, d2, e2, -, -, -⟩ := (show OwnO u6 z.heap.size v2 _ from o2).sl
      subst e2
      clear o2 hr2 hg2 hl2
      have rr := rb.below hb6
      obtain ⟨⟨r0, r1, r2⟩, ⟨f0, f1, f2⟩⟩ := rr.three
      have RR := Lib.hid rr
      clear rr
      refine hK.out _ _ ⟨below_keep hb6 _ _ p0, below_keep hb6 _ _ p1, below_keep hb6 _ _ p2⟩ (fun hHeld => ?_)
      clear hK K
      (try simp only [Act.put, List.getElem_toArray, List.getElem_cons_zero, List.getElem_cons_succ, List.setIfInBounds_toArray, List.set_cons_zero, List.set_cons_succ])
      refine wpAnyH_take (i := 12) (v := ?v17) rfl (by kernel_rfl) (by kernel_rfl) (by kernel_rfl) (fun _ _ _ h => h) (Or.inl ⟨by rfl, ?hy17⟩) hHeld ?rest17
      case hy17 => (intro w' hSw; (try dsimp only at hSw); first | (go_simp; done) | (go_simp; with_reducible rfl))
      simp only [Act.put, List.getElem_toArray, List.getElem_cons_zero, List.getElem_cons_succ, List.setIfInBounds_toArray, List.set_cons_zero, List.set_cons_succ]
      refine wpAnyH_ready (rs := [13]) (by kernel_rfl) (by simp) ?_
      refine AllReadyH.cons rfl (fun K hK => ?_) AllReadyH.nil
      go_simp
      refine hK.out _ _ ⟨cellOff (cellOff (cellOff (below_keep hb6 _ _ p0) (by simp)) (by simp)) (by simp), cellOff (cellOff (cellOff (below_keep hb6 _ _ p1) (by simp)) (by simp)) (by simp), cellOff (cellOff (cellOff (below_keep hb6 _ _ p2) (by simp)) (by simp)) (by simp)⟩ (fun hHeld => ?_)
      clear hK K
      (try simp only [Act.put, List.getElem_toArray, List.getElem_cons_zero, List.getElem_cons_succ, List.setIfInBounds_toArray, List.set_cons_zero, List.set_cons_succ])
      refine wpAnyH_done (by kernel_rfl) ?_ _
      refine NoPanic.normal ?_
      clear hHeld
      have hbn : Below w.heap.size w u6 := hx.trans (hb6.mono hx.size)
      clear r0 r1 r2 f0 f1 f2
      go_wp2_with fail
      have hr9 := (((RR.out).set 0 (.slice B0 x.live.length d0)).set 1 (.slice B1 x.safe.length d1)).set 2 (.slice B2 x.ops.length d2)
      refine bodyPost_ret (results_cell_row (p := 2) (ty := 27) rfl _ _ (w.heap.size + 1) 27 #[.slice B0 x.live.length d0, .slice B1 x.safe.length d1, .slice B2 x.ops.length d2] (0, 0) _ rfl hr9 Try.underlying27 rfl HI.out) rfl ⟨⟨_, rfl, ?_⟩, ?_⟩
      · refine DzA.mono (base := z.heap.size) ?_ (by omega)
        refine DzA.set (DzA.set (DzA.set (show DzA _ z.heap.size _ x from ⟨_, _, _, rfl, O0_6.out, O1_6.out, O2_6.out, D1_0_5.out.symm⟩) ?_ _) ?_ _) ?_ _ <;> (show w.heap.size + 1 < z.heap.size; omega)
      · exact ((hbn.setCell (Nat.le_succ _) _).setCell (Nat.le_succ _) _).setCell (Nat.le_succ _) _
    refine AllReadyH.cons rfl (fun K hK => ?_) AllReadyH.nil
    go_simp
    have hal : Below (u1).heap.size u1 ((u1).alloc (.cells #[] 36)) := (Below.refl _ _).alloc (Nat.le_refl _) _
    have O2_2 := Lib.hid (OwnG.lit (T := 36) (sz := 4) (f := Oz.cells) (u1) (base := z.heap.size) hb1.size)
    have D2_1_2 := Lib.hid (Dis.fresh O1_1.out 0 0)
    have O1_2 := Lib.hid (OwnG.below O1_1.out hal)
    have hb2 := hb1.alloc hb1.size (.cells #[] 36)
    clear hal
    generalize (u1).alloc (.cells #[] 36) = u2 at *
    refine hK.out _ _ ⟨below_keep hb2 _ _ p0, below_keep hb2 _ _ p1, below_keep hb2 _ _ p2⟩ (fun hHeld => ?_)
    clear hK K
    (try simp only [Act.put, List.getElem_toArray, List.getElem_cons_zero, List.getElem_cons_succ, List.setIfInBounds_toArray, List.set_cons_zero, List.set_cons_succ])
    refine wpAnyH_ready (rs := [0]) (by kernel_rfl) (by simp) ?_
    refine AllReadyH.cons rfl (fun K hK => ?_) AllReadyH.nil
    go_simp
    have hal : Below (u2).heap.size u2 ((u2).alloc (.cells #[] 75)) := (Below.refl _ _).alloc (Nat.le_refl _) _
    have O0_3 := Lib.hid (OwnG.lit (T := 75) (sz := 2) (f := Fz.cells) (u2) (base := z.heap.size) hb2.size)
    have D0_1_3 := Lib.hid (Dis.fresh O1_2.out 0 0)
    have O1_3 := Lib.hid (OwnG.below O1_2.out hal)
    have D0_2_3 := Lib.hid (Dis.fresh O2_2.out 0 0)
    have O2_3 := Lib.hid (OwnG.below O2_2.out hal)
    have hb3 := hb2.alloc hb2.size (.cells #[] 75)
    clear hal
    generalize (u2).alloc (.cells #[] 75) = u3 at *
    refine hK.out _ _ ⟨below_keep hb3 _ _ p0, below_keep hb3 _ _ p1, below_keep hb3 _ _ p2⟩ (fun hHeld => ?_)
    clear hK K
    (try simp only [Act.put, List.getElem_toArray, List.getElem_cons_zero, List.getElem_cons_succ, List.setIfInBounds_toArray, List.set_cons_zero, List.set_cons_succ])
    refine wpAnyH_ready (rs := [3]) (by kernel_rfl) (by simp) ?_
    refine AllReadyH.cons rfl (fun K hK => ?_) AllReadyH.nil
    obtain ⟨v0, u4, hr0, o0, hg0, hl0⟩ := run_app_all fz_cells fz_one (by omega) Try.underlying24 H1.out H2.out H3.out H4.out rfl (u3) 24 O0_3.out hb3.size (c := c0) (h0.below FzR.stays (hx.trans (hb3.mono hx.size))) hln0 (by omega)
    refine step_append_run rfl (.tmp 3) (.tmp 5) 24 24 rfl rfl rfl hr0 ?_
    have hb4 := hb3.grown hg0 hb3.size (fun k hk => (OwnG.block_lt O0_3.out k hk).1)
    have D0_1_4 := Lib.hid (Dis.app O1_3.out (D0_1_3.out) hl0)
    have O1_4 := Lib.hid (OwnG.keptD O1_3.out hg0 (D0_1_3.out))
    have D0_2_4 := Lib.hid (Dis.app O2_3.out (D0_2_3.out) hl0)
    have O2_4 := Lib.hid (OwnG.keptD O2_3.out hg0 (D0_2_3.out))
    have O0_4 := Lib.hid o0
    obtain ⟨B0, d0, e0, -, -, -⟩ := (show OwnZ u4 z.heap.size v0 _ from o0).sl
    subst e0
    clear o0 hr0 hg0 hl0
    refine hK.out _ _ ⟨below_keep hb4 _ _ p0, below_keep hb4 _ _ p1, below_keep hb4 _ _ p2⟩ (fun hHeld => ?_)
    clear hK K
    (try simp only [Act.put, List.getElem_toArray, List.getElem_cons_zero, List.getElem_cons_succ, List.setIfInBounds_toArray, List.set_cons_zero, List.set_cons_succ])
    refine wpAnyH_ready (rs := [7]) (by kernel_rfl) (by simp) ?_
    refine AllReadyH.cons rfl (fun K hK => ?_) AllReadyH.nil
    obtain ⟨v1, u5, hr1, o1, hg1, hl1⟩ := run_app_all fz_cells fz_one (by omega) Try.underlying24 H1.out H2.out H3.out H4.out rfl (u4) 24 O1_4.out hb4.size (c := c1) (h1.below FzR.stays (hx.trans (hb4.mono hx.size))) hln1 (by omega)
    refine step_append_run rfl (.tmp 7) (.tmp 9) 24 24 rfl rfl rfl hr1 ?_
    have hb5 := hb4.grown hg1 hb4.size (fun k hk => (OwnG.block_lt O1_4.out k hk).1)
    have D1_2_5 := Lib.hid (Dis.app O2_4.out (D2_1_2.out.symm) hl1)
    have O2_5 := Lib.hid (OwnG.keptD O2_4.out hg1 (D2_1_2.out.symm))
    have D1_0_5 := Lib.hid (Dis.app O0_4.out (D0_1_4.out.symm) hl1)
    have O0_5 := Lib.hid (OwnG.keptD O0_4.out hg1 (D0_1_4.out.symm))
    have O1_5 := Lib.hid o1
    obtain ⟨B1, d1, e1, -, -, -⟩ := (show OwnZ u5 z.heap.size v1 _ from o1).sl
    subst e1
    clear o1 hr1 hg1 hl1
    refine hK.out _ _ ⟨below_keep hb5 _ _ p0, below_keep hb5 _ _ p1, below_keep hb5 _ _ p2⟩ (fun hHeld => ?_)
    clear hK K
    (try simp only [Act.put, List.getElem_toArray, List.getElem_cons_zero, List.getElem_cons_succ, List.setIfInBounds_toArray, List.set_cons_zero, List.set_cons_succ])
    refine wpAnyH_ready (rs := [11]) (by kernel_rfl) (by simp) ?_
    refine AllReadyH.cons rfl (fun K hK => ?_) AllReadyH.nil
    obtain ⟨v2, u6, hr2, o2, hg2, hl2⟩ := run_app_all oz_cells oz_one (by omega) Try.underlying25 J1.out J2.out J3.out J4.out rfl (u5) 25 O2_5.out hb5.size (c := c2) (h2.below OzR.stays (hx.trans (hb5.mono hx.size))) hln2 (by omega)
    refine step_append_run rfl (.tmp 11) (.tmp 13) 25 25 rfl rfl rfl hr2 ?_
    have hb6 := hb5.grown hg2 hb5.size (fun k hk => (OwnG.block_lt O2_5.out k hk).1)
    have D2_1_6 := Lib.hid (Dis.app O1_5.out (D1_2_5.out.symm) hl2)
    have O1_6 := Lib.hid (OwnG.keptD O1_5.out hg2 (D1_2_5.out.symm))
    have D2_0_6 := Lib.hid (Dis.app O0_5.out (D0_2_4.out.symm) hl2)
    have O0_6 := Lib.hid (OwnG.keptD O0_5.out hg2 (D0_2_4.out.symm))
    have O2_6 := Lib.hid o2
    obtain ⟨B2, d2, e2, -, -, -⟩ := (show OwnO u6 z.heap.size v2 _ from o2).sl
    subst e2
    clear o2 hr2 hg2 hl2
    have rr := rb.below hb6
    obtain ⟨⟨r0, r1, r2⟩, ⟨f0, f1, f2⟩⟩ := rr.three
    have RR := Lib.hid rr
    clear rr
    refine hK.out _ _ ⟨below_keep hb6 _ _ p0, below_keep hb6 _ _ p1, below_keep hb6 _ _ p2⟩ (fun hHeld => ?_)
    clear hK K
    (try simp only [Act.put, List.getElem_toArray, List.getElem_cons_zero, List.getElem_cons_succ, List.setIfInBounds_toArray, List.set_cons_zero, List.set_cons_succ])
    refine wpAnyH_take (i := 12) (v := ?v18) rfl (by kernel_rfl) (by kernel_rfl) (by kernel_rfl) (fun _ _ _ h => h) (Or.inl ⟨by rfl, ?hy18⟩) hHeld ?rest18
    case hy18 => (intro w' hSw; (try dsimp only at hSw); first | (go_simp; done) | (go_simp; with_reducible rfl))
    simp only [Act.put, List.getElem_toArray, List.getElem_cons_zero, List.getElem_cons_succ, List.setIfInBounds_toArray, List.set_cons_zero, List.set_cons_succ]
    refine wpAnyH_ready (rs := [13]) (by kernel_rfl) (by simp) ?_
    refine AllReadyH.cons rfl (fun K hK => ?_) AllReadyH.nil
    go_simp
    refine hK.out _ _ ⟨cellOff (cellOff (cellOff (below_keep hb6 _ _ p0) (by simp)) (by simp)) (by simp), cellOff (cellOff (cellOff (below_keep hb6 _ _ p1) (by simp)) (by simp)) (by simp), cellOff (cellOff (cellOff (below_keep hb6 _ _ p2) (by simp)) (by simp)) (by simp)⟩ (fun hHeld => ?_)
    clear hK K
    (try simp only [Act.put, List.getElem_toArray, List.getElem_cons_zero, List.getElem_cons_succ, List.setIfInBounds_toArray, List.set_cons_zero, List.set_cons_succ])
    refine wpAnyH_done (by kernel_rfl) ?_ _
    refine NoPanic.normal ?_
    clear hHeld
    have hbn : Below w.heap.size w u6 := hx.trans (hb6.mono hx.size)
    clear r0 r1 r2 f0 f1 f2
    go_wp2_with fail
    have hr9 := (((RR.out).set 0 (.slice B0 x.live.length d0)).set 1 (.slice B1 x.safe.length d1)).set 2 (.slice B2 x.ops.length d2)
    refine bodyPost_ret (results_cell_row (p := 2) (ty := 27) rfl _ _ (w.heap.size + 1) 27 #[.slice B0 x.live.length d0, .slice B1 x.safe.length d1, .slice B2 x.ops.length d2] (0, 0) _ rfl hr9 Try.underlying27 rfl HI.out) rfl ⟨⟨_, rfl, ?_⟩, ?_⟩
    · refine DzA.mono (base := z.heap.size) ?_ (by omega)
      refine DzA.set (DzA.set (DzA.set (show DzA _ z.heap.size _ x from ⟨_, _, _, rfl, O0_6.out, O1_6.out, O2_6.out, D1_0_5.out.symm⟩) ?_ _) ?_ _) ?_ _ <;> (show w.heap.size + 1 < z.heap.size; omega)
    · exact ((hbn.setCell (Nat.le_succ _) _).setCell (Nat.le_succ _) _).setCell (Nat.le_succ _) _
  refine AllReadyH.cons rfl (fun K hK => ?_) AllReadyH.nil
  go_simp
  have hal : Below (u0).heap.size u0 ((u0).alloc (.cells #[] 36)) := (Below.refl _ _).alloc (Nat.le_refl _) _
  have O2_1 := Lib.hid (OwnG.lit (T := 36) (sz := 4) (f := Oz.cells) (u0) (base := z.heap.size) hb0.size)
  have hb1 := hb0.alloc hb0.size (.cells #[] 36)
  clear hal
  generalize (u0).alloc (.cells #[] 36) = u1 at *
  refine hK.out _ _ ⟨below_keep hb1 _ _ p0, below_keep hb1 _ _ p1, below_keep hb1 _ _ p2⟩ (fun hHeld => ?_)
  clear hK K
  (try simp only [Act.put, List.getElem_toArray, List.getElem_cons_zero, List.getElem_cons_succ, List.setIfInBounds_toArray, List.set_cons_zero, List.set_cons_succ])
  refine wpAnyH_ready (rs := [0, 4]) (by kernel_rfl) (by simp) ?_
  refine AllReadyH.cons rfl (fun K hK => ?_) ?_
  · go_simp
    have hal : Below (u1).heap.size u1 ((u1).alloc (.cells #[] 75)) := (Below.refl _ _).alloc (Nat.le_refl _) _
    have O0_2 := Lib.hid (OwnG.lit (T := 75) (sz := 2) (f := Fz.cells) (u1) (base := z.heap.size) hb1.size)
    have D0_2_2 := Lib.hid (Dis.fresh O2_1.out 0 0)
    have O2_2 := Lib.hid (OwnG.below O2_1.out hal)
    have hb2 := hb1.alloc hb1.size (.cells #[] 75)
    clear hal
    generalize (u1).alloc (.cells #[] 75) = u2 at *
    refine hK.out _ _ ⟨below_keep hb2 _ _ p0, below_keep hb2 _ _ p1, below_keep hb2 _ _ p2⟩ (fun hHeld => ?_)
    clear hK K
    (try simp only [Act.put, List.getElem_toArray, List.getElem_cons_zero, List.getElem_cons_succ, List.setIfInBounds_toArray, List.set_cons_zero, List.set_cons_succ])
    refine wpAnyH_ready (rs := [3, 4]) (by kernel_rfl) (by simp) ?_
    refine AllReadyH.cons rfl (fun K hK => ?_) ?_
    · obtain ⟨v0, u3, hr0, o0, hg0, hl0⟩ := run_app_all fz_cells fz_one (by omega) Try.underlying24 H1.out H2.out H3.out H4.out rfl (u2) 24 O0_2.out hb2.size (c := c0) (h0.below FzR.stays (hx.trans (hb2.mono hx.size))) hln0 (by omega)
      refine step_append_run rfl (.tmp 3) (.tmp 5) 24 24 rfl rfl rfl hr0 ?_
      have hb3 := hb2.grown hg0 hb2.size (fun k hk => (OwnG.block_lt O0_2.out k hk).1)
      have D0_2_3 := Lib.hid (Dis.app O2_2.out (D0_2_2.out) hl0)
      have O2_3 := Lib.hid (OwnG.keptD O2_2.out hg0 (D0_2_2.out))
      have O0_3 := Lib.hid o0
      obtain ⟨B0, d0, e0, -, -, -⟩ := (show OwnZ u3 z.heap.size v0 _ from o0).sl
      subst e0
      clear o0 hr0 hg0 hl0
      refine hK.out _ _ ⟨below_keep hb3 _ _ p0, below_keep hb3 _ _ p1, below_keep hb3 _ _ p2⟩ (fun hHeld => ?_)
      clear hK K
      (try simp only [Act.put, List.getElem_toArray, List.getElem_cons_zero, List.getElem_cons_succ, List.setIfInBounds_toArray, List.set_cons_zero, List.set_cons_succ])
      refine wpAnyH_ready (rs := [4]) (by kernel_rfl) (by simp) ?_
      refine AllReadyH.cons rfl (fun K hK => ?_) AllReadyH.nil
      go_simp
      have hal : Below (u3).heap.size u3 ((u3).alloc (.cells #[] 75)) := (Below.refl _ _).alloc (Nat.le_refl _) _
      have O1_4 := Lib.hid (OwnG.lit (T := 75) (sz := 2) (f := Fz.cells) (u3) (base := z.heap.size) hb3.size)
      have D1_2_4 := Lib.hid (Dis.fresh O2_3.out 0 0)
      have O2_4 := Lib.hid (OwnG.below O2_3.out hal)
      have D1_0_4 := Lib.hid (Dis.fresh O0_3.out 0 0)
      have O0_4 := Lib.hid (OwnG.below O0_3.out hal)
      have hb4 := hb3.alloc hb3.size (.cells #[] 75)
      clear hal
      generalize (u3).alloc (.cells #[] 75) = u4 at *
      refine hK.out _ _ ⟨below_keep hb4 _ _ p0, below_keep hb4 _ _ p1, below_keep hb4 _ _ p2⟩ (fun hHeld => ?_)
      clear hK K
      (try simp only [Act.put, List.getElem_toArray, List.getElem_cons_zero, List.getElem_cons_succ, List.setIfInBounds_toArray, List.set_cons_zero, List.set_cons_succ])
      refine wpAnyH_ready (rs := [7]) (by kernel_rfl) (by simp) ?_
      refine AllReadyH.cons rfl (fun K hK => ?_) AllReadyH.nil
      obtain ⟨v1, u5, hr1, o1, hg1, hl1⟩ := run_app_all fz_cells fz_one (by omega) Try.underlying24 H1.out H2.out H3.out H4.out rfl (u4) 24 O1_4.out hb4.size (c := c1) (h1.below FzR.stays (hx.trans (hb4.mono hx.size))) hln1 (by omega)
      refine step_append_run rfl (.tmp 7) (.tmp 9) 24 24 rfl rfl rfl hr1 ?_
      have hb5 := hb4.grown hg1 hb4.size (fun k hk => (OwnG.block_lt O1_4.out k hk).1)
      have D1_2_5 := Lib.hid (Dis.app O2_4.out (D1_2_4.out) hl1)
      have O2_5 := Lib.hid (OwnG.keptD O2_4.out hg1 (D1_2_4.out))
      have D1_0_5 := Lib.hid (Dis.app O0_4.out (D1_0_4.out) hl1)
      have O0_5 := Lib.hid (OwnG.keptD O0_4.out hg1 (D1_0_4.out))
      have O1_5 := Lib.hid o1
      obtain ⟨B1, d1, e1, -, -, -⟩ := (show OwnZ u5 z.heap.size v1 _ from o1).sl
      subst e1
      clear o1 hr1 hg1 hl1
      refine hK.out _ _ ⟨below_keep hb5 _ _ p0, below_keep hb5 _ _ p1, below_keep hb5 _ _ p2⟩ (fun hHeld => ?_)
      clear hK K
      (try simp only [Act.put, List.getElem_toArray, List.getElem_cons_zero, List.getElem_cons_succ, List.setIfInBounds_toArray, List.set_cons_zero, List.set_cons_succ])
      refine wpAnyH_ready (rs := [11]) (by kernel_rfl) (by simp) ?_
      refine AllReadyH.cons rfl (fun K hK => ?_) AllReadyH.nil
      obtain ⟨v2, u6, hr2, o2, hg2, hl2⟩ := run_app_all oz_cells oz_one (by omega) Try.underlying25 J1.out J2.out J3.out J4.out rfl (u5) 25 O2_5.out hb5.size (c := c2) (h2.below OzR.stays (hx.trans (hb5.mono hx.size))) hln2 (by omega)
      refine step_append_run rfl (.tmp 11) (.tmp 13) 25 25 rfl rfl rfl hr2 ?_
      have hb6 := hb5.grown hg2 hb5.size (fun k hk => (OwnG.block_lt O2_5.out k hk).1)
      have D2_0_6 := Lib.hid (Dis.app O0_5.out (D0_2_3.out.symm) hl2)
      have O0_6 := Lib.hid (OwnG.keptD O0_5.out hg2 (D0_2_3.out.symm))
      have D2_1_6 := Lib.hid (Dis.app O1_5.out (D1_2_5.out.symm) hl2)
      have O1_6 := Lib.hid (OwnG.keptD O1_5.out hg2 (D1_2_5.out.symm))
      have O2_6 := Lib.hid o2
      obtain ⟨B2, d2, e2, -, -, -⟩ := (show OwnO u6 z.heap.size v2 _ from o2).sl
      subst e2
      clear o2 hr2 hg2 hl2
      have rr := rb.below hb6
      obtain ⟨⟨r0, r1, r2⟩, ⟨f0, f1, f2⟩⟩ := rr.three
      have RR := Lib.hid rr
      clear rr
      refine hK.out _ _ ⟨below_keep hb6 _ _ p0, below_keep hb6 _ _ p1, below_keep hb6 _ _ p2⟩ (fun hHeld => ?_)
      clear hK K
      (try simp only [Act.put, List.getElem_toArray, List.getElem_cons_zero, List.getElem_cons_succ, List.setIfInBounds_toArray, List.set_cons_zero, List.set_cons_succ])
      refine wpAnyH_take (i := 12) (v := ?v19) rfl (by kernel_rfl) (by kernel_rfl) (by kernel_rfl) (fun _ _ _ h => h) (Or.inl ⟨by rfl, ?hy19⟩) hHeld ?rest19
      case hy19 => (intro w' hSw; (try dsimp only at hSw); first | (go_simp; done) | (go_simp; with_reducible rfl))
      simp only [Act.put, List.getElem_toArray, List.getElem_cons_zero, List.getElem_cons_succ, List.setIfInBounds_toArray, List.set_cons_zero, List.set_cons_succ]
      refine wpAnyH_ready (rs := [13]) (by kernel_rfl) (by simp) ?_
      refine AllReadyH.cons rfl (fun K hK => ?_) AllReadyH.nil
      go_simp
      refine hK.out _ _ ⟨cellOff (cellOff (cellOff (below_keep hb6 _ _ p0) (by simp)) (by simp)) (by simp), cellOff (cellOff (cellOff (below_keep hb6 _ _ p1) (by simp)) (by simp)) (by simp), cellOff (cellOff (cellOff (below_keep hb6 _ _ p2) (by simp)) (by simp)) (by simp)⟩ (fun hHeld => ?_)
      clear hK K
      (try simp only [Act.put, List.getElem_toArray, List.getElem_cons_zero, List.getElem_cons_succ, List.setIfInBounds_toArray, List.set_cons_zero, List.set_cons_succ])
      refine wpAnyH_done (by kernel_rfl) ?_ _
      refine NoPanic.normal ?_
      clear hHeld
      have hbn : Below w.heap.size w u6 := hx.trans (hb6.mono hx.size)
      clear r0 r1 r2 f0 f1 f2
      go_wp2_with fail
      have hr9 := (((RR.out).set 0 (.slice B0 x.live.length d0)).set 1 (.slice B1 x.safe.length d1)).set 2 (.slice B2 x.ops.length d2)
      refine bodyPost_ret (results_cell_row (p := 2) (ty := 27) rfl _ _ (w.heap.size + 1) 27 #[.slice B0 x.live.length d0, .slice B1 x.safe.length d1, .slice B2 x.ops.length d2] (0, 0) _ rfl hr9 Try.underlying27 rfl HI.out) rfl ⟨⟨_, rfl, ?_⟩, ?_⟩
      · refine DzA.mono (base := z.heap.size) ?_ (by omega)
        refine DzA.set (DzA.set (DzA.set (show DzA _ z.heap.size _ x from ⟨_, _, _, rfl, O0_6.out, O1_6.out, O2_6.out, D1_0_5.out.symm⟩) ?_ _) ?_ _) ?_ _ <;> (show w.heap.size + 1 < z.heap.size; omega)
      · exact ((hbn.setCell (Nat.le_succ _) _).setCell (Nat.le_succ _) _).setCell (Nat.le_succ _) _
    refine AllReadyH.cons rfl (fun K hK => ?_) AllReadyH.nil
    go_simp
    have hal : Below (u2).heap.size u2 ((u2).alloc (.cells #[] 75)) := (Below.refl _ _).alloc (Nat.le_refl _) _
    have O1_3 := Lib.hid (OwnG.lit (T := 75) (sz := 2) (f := Fz.cells) (u2) (base := z.heap.size) hb2.size)
    have D1_2_3 := Lib.hid (Dis.fresh O2_2.out 0 0)
    have O2_3 := Lib.hid (OwnG.below O2_2.out hal)
    have D1_0_3 := Lib.hid (Dis.fresh O0_2.out 0 0)
    have O0_3 := Lib.hid (OwnG.below O0_2.out hal)
    have hb3 := hb2.alloc hb2.size (.cells #[] 75)
    clear hal
    generalize (u2).alloc (.cells #[] 75) = u3 at *
    refine hK.out _ _ ⟨below_keep hb3 _ _ p0, below_keep hb3 _ _ p1, below_keep hb3 _ _ p2⟩ (fun hHeld => ?_)
    clear hK K
    (try simp only [Act.put, List.getElem_toArray, List.getElem_cons_zero, List.getElem_cons_succ, List.setIfInBounds_toArray, List.set_cons_zero, List.set_cons_succ])
    refine wpAnyH_ready (rs := [3]) (by kernel_rfl) (by simp) ?_
    refine AllReadyH.cons rfl (fun K hK => ?_) AllReadyH.nil
    obtain ⟨v0, u4, hr0, o0, hg0, hl0⟩ := run_app_all fz_cells fz_one (by omega) Try.underlying24 H1.out H2.out H3.out H4.out rfl (u3) 24 O0_3.out hb3.size (c := c0) (h0.below FzR.stays (hx.trans (hb3.mono hx.size))) hln0 (by omega)
    refine step_append_run rfl (.tmp 3) (.tmp 5) 24 24 rfl rfl rfl hr0 ?_
    have hb4 := hb3.grown hg0 hb3.size (fun k hk => (OwnG.block_lt O0_3.out k hk).1)
    have D0_2_4 := Lib.hid (Dis.app O2_3.out (D0_2_2.out) hl0)
    have O2_4 := Lib.hid (OwnG.keptD O2_3.out hg0 (D0_2_2.out))
    have D0_1_4 := Lib.hid (Dis.app O1_3.out (D1_0_3.out.symm) hl0)
    have O1_4 := Lib.hid (OwnG.keptD O1_3.out hg0 (D1_0_3.out.symm))
    have O0_4 := Lib.hid o0
    obtain ⟨B0, d0, e0, -, -, -⟩ := (show OwnZ u4 z.heap.size v0 _ from o0).sl
    subst e0
    clear o0 hr0 hg0 hl0
    refine hK.out _ _ ⟨below_keep hb4 _ _ p0, below_keep hb4 _ _ p1, below_keep hb4 _ _ p2⟩ (fun hHeld => ?_)
    clear hK K
    (try simp only [Act.put, List.getElem_toArray, List.getElem_cons_zero, List.getElem_cons_succ, List.setIfInBounds_toArray, List.set_cons_zero, List.set_cons_succ])
    refine wpAnyH_ready (rs := [7]) (by kernel_rfl) (by simp) ?_
    refine AllReadyH.cons rfl (fun K hK => ?_) AllReadyH.nil
    obtain ⟨v1, u5, hr1, o1, hg1, hl1⟩ := run_app_all fz_cells fz_one (by omega) Try.underlying24 H1.out H2.out H3.out H4.out rfl (u4) 24 O1_4.out hb4.size (c := c1) (h1.below FzR.stays (hx.trans (hb4.mono hx.size))) hln1 (by omega)
    refine step_append_run rfl (.tmp 7) (.tmp 9) 24 24 rfl rfl rfl hr1 ?_
    have hb5 := hb4.grown hg1 hb4.size (fun k hk => (OwnG.block_lt O1_4.out k hk).1)
    have D1_2_5 := Lib.hid (Dis.app O2_4.out (D1_2_3.out) hl1)
    have O2_5 := Lib.hid (OwnG.keptD O2_4.out hg1 (D1_2_3.out))
    have D1_0_5 := Lib.hid (Dis.app O0_4.out (D0_1_4.out.symm) hl1)
    have O0_5 := Lib.hid (OwnG.keptD O0_4.out hg1 (D0_1_4.out.symm))
    have O1_5 := Lib.hid o1
    obtain ⟨B1, d1, e1, -, -, -⟩ := (show OwnZ u5 z.heap.size v1 _ from o1).sl
    subst e1
    clear o1 hr1 hg1 hl1
    refine hK.out _ _ ⟨below_keep hb5 _ _ p0, below_keep hb5 _ _ p1, below_keep hb5 _ _ p2⟩ (fun hHeld => ?_)
    clear hK K
    (try simp only [Act.put, List.getElem_toArray, List.getElem_cons_zero, List.getElem_cons_succ, List.setIfInBounds_toArray, List.set_cons_zero, List.set_cons_succ])
    refine wpAnyH_ready (rs := [11]) (by kernel_rfl) (by simp) ?_
    refine AllReadyH.cons rfl (fun K hK => ?_) AllReadyH.nil
    obtain ⟨v2, u6, hr2, o2, hg2, hl2⟩ := run_app_all oz_cells oz_one (by omega) Try.underlying25 J1.out J2.out J3.out J4.out rfl (u5) 25 O2_5.out hb5.size (c := c2) (h2.below OzR.stays (hx.trans (hb5.mono hx.size))) hln2 (by omega)
    refine step_append_run rfl (.tmp 11) (.tmp 13) 25 25 rfl rfl rfl hr2 ?_
    have hb6 := hb5.grown hg2 hb5.size (fun k hk => (OwnG.block_lt O2_5.out k hk).1)
    have D2_0_6 := Lib.hid (Dis.app O0_5.out (D0_2_4.out.symm) hl2)
    have O0_6 := Lib.hid (OwnG.keptD O0_5.out hg2 (D0_2_4.out.symm))
    have D2_1_6 := Lib.hid (Dis.app O1_5.out (D1_2_5.out.symm) hl2)
    have O1_6 := Lib.hid (OwnG.keptD O1_5.out hg2 (D1_2_5.out.symm))
    have O2_6 := Lib.hid o2
    obtain ⟨B2, d2, e2, -, -, -⟩ := (show OwnO u6 z.heap.size v2 _ from o2).sl
    subst e2
    clear o2 hr2 hg2 hl2
    have rr := rb.below hb6
    obtain ⟨⟨r0, r1, r2⟩, ⟨f0, f1, f2⟩⟩ := rr.three
    have RR := Lib.hid rr
    clear rr
    refine hK.out _ _ ⟨below_keep hb6 _ _ p0, below_keep hb6 _ _ p1, below_keep hb6 _ _ p2⟩ (fun hHeld => ?_)
    clear hK K
    (try simp only [Act.put, List.getElem_toArray, List.getElem_cons_zero, List.getElem_cons_succ, List.setIfInBounds_toArray, List.set_cons_zero, List.set_cons_succ])
    refine wpAnyH_take (i := 12) (v := ?v20) rfl (by kernel_rfl) (by kernel_rfl) (by kernel_rfl) (fun _ _ _ h => h) (Or.inl ⟨by rfl, ?hy20⟩) hHeld ?rest20
    case hy20 => (intro w' hSw; (try dsimp only at hSw); first | (go_simp; done) | (go_simp; with_reducible rfl))
    simp only [Act.put, List.getElem_toArray, List.getElem_cons_zero, List.getElem_cons_succ, List.setIfInBounds_toArray, List.set_cons_zero, List.set_cons_succ]
    refine wpAnyH_ready (rs := [13]) (by kernel_rfl) (by simp) ?_
    refine AllReadyH.cons rfl (fun K hK => ?_) AllReadyH.nil
    go_simp
    refine hK.out _ _ ⟨cellOff (cellOff (cellOff (below_keep hb6 _ _ p0) (by simp)) (by simp)) (by simp), cellOff (cellOff (cellOff (below_keep hb6 _ _ p1) (by simp)) (by simp)) (by simp), cellOff (cellOff (cellOff (below_keep hb6 _ _ p2) (by simp)) (by simp)) (by simp)⟩ (fun hHeld => ?_)
    clear hK K
    (try simp only [Act.put, List.getElem_toArray, List.getElem_cons_zero, List.getElem_cons_succ, List.setIfInBounds_toArray, List.set_cons_zero, List.set_cons_succ])
    refine wpAnyH_done (by kernel_rfl) ?_ _
    refine NoPanic.normal ?_
    clear hHeld
    have hbn : Below w.heap.size w u6 := hx.trans (hb6.mono hx.size)
    clear r0 r1 r2 f0 f1 f2
    go_wp2_with fail
    have hr9 := (((RR.out).set 0 (.slice B0 x.live.length d0)).set 1 (.slice B1 x.safe.length d1)).set 2 (.slice B2 x.ops.length d2)
    refine bodyPost_ret (results_cell_row (p := 2) (ty := 27) rfl _ _ (w.heap.size + 1) 27 #[.slice B0 x.live.length d0, .slice B1 x.safe.length d1, .slice B2 x.ops.length d2] (0, 0) _ rfl hr9 Try.underlying27 rfl HI.out) rfl ⟨⟨_, rfl, ?_⟩, ?_⟩
    · refine DzA.mono (base := z.heap.size) ?_ (by omega)
      refine DzA.set (DzA.set (DzA.set (show DzA _ z.heap.size _ x from ⟨_, _, _, rfl, O0_6.out, O1_6.out, O2_6.out, D1_0_5.out.symm⟩) ?_ _) ?_ _) ?_ _ <;> (show w.heap.size + 1 < z.heap.size; omega)
    · exact ((hbn.setCell (Nat.le_succ _) _).setCell (Nat.le_succ _) _).setCell (Nat.le_succ _) _
  refine AllReadyH.cons rfl (fun K hK => ?_) AllReadyH.nil
  go_simp
  have hal : Below (u1).heap.size u1 ((u1).alloc (.cells #[] 75)) := (Below.refl _ _).alloc (Nat.le_refl _) _
  have O1_2 := Lib.hid (OwnG.lit (T := 75) (sz := 2) (f := Fz.cells) (u1) (base := z.heap.size) hb1.size)
  have D1_2_2 := Lib.hid (Dis.fresh O2_1.out 0 0)
  have O2_2 := Lib.hid (OwnG.below O2_1.out hal)
  have hb2 := hb1.alloc hb1.size (.cells #[] 75)
  clear hal
  generalize (u1).alloc (.cells #[] 75) = u2 at *
  refine hK.out _ _ ⟨below_keep hb2 _ _ p0, below_keep hb2 _ _ p1, below_keep hb2 _ _ p2⟩ (fun hHeld => ?_)
  clear hK K
  (try simp only [Act.put, List.getElem_toArray, List.getElem_cons_zero, List.getElem_cons_succ, List.setIfInBounds_toArray, List.set_cons_zero, List.set_cons_succ])
  refine wpAnyH_ready (rs := [0]) (by kernel_rfl) (by simp) ?_
  refine AllReadyH.cons rfl (fun K hK => ?_) AllReadyH.nil
  go_simp
  have hal : Below (u2).heap.size u2 ((u2).alloc (.cells #[] 75)) := (Below.refl _ _).alloc (Nat.le_refl _) _
  have O0_3 := Lib.hid (OwnG.lit (T := 75) (sz := 2) (f := Fz.cells) (u2) (base := z.heap.size) hb2.size)
  have D0_2_3 := Lib.hid (Dis.fresh O2_2.out 0 0)
  have O2_3 := Lib.hid (OwnG.below O2_2.out hal)
  have D0_1_3 := Lib.hid (Dis.fresh O1_2.out 0 0)
  have O1_3 := Lib.hid (OwnG.below O1_2.out hal)
  have hb3 := hb2.alloc hb2.size (.cells #[] 75)
  clear hal
  generalize (u2).alloc (.cells #[] 75) = u3 at *
  refine hK.out _ _ ⟨below_keep hb3 _ _ p0, below_keep hb3 _ _ p1, below_keep hb3 _ _ p2⟩ (fun hHeld => ?_)
  clear hK K
  (try simp only [Act.put, List.getElem_toArray, List.getElem_cons_zero, List.getElem_cons_succ, List.setIfInBounds_toArray, List.set_cons_zero, List.set_cons_succ])
  refine wpAnyH_ready (rs := [3]) (by kernel_rfl) (by simp) ?_
  refine AllReadyH.cons rfl (fun K hK => ?_) AllReadyH.nil
  obtain ⟨v0, u4, hr0, o0, hg0, hl0⟩ := run_app_all fz_cells fz_one (by omega) Try.underlying24 H1.out H2.out H3.out H4.out rfl (u3) 24 O0_3.out hb3.size (c := c0) (h0.below FzR.stays (hx.trans (hb3.mono hx.size))) hln0 (by omega)
  refine step_append_run rfl (.tmp 3) (.tmp 5) 24 24 rfl rfl rfl hr0 ?_
  have hb4 := hb3.grown hg0 hb3.size (fun k hk => (OwnG.block_lt O0_3.out k hk).1)
  have D0_2_4 := Lib.hid (Dis.app O2_3.out (D0_2_3.out) hl0)
  have O2_4 := Lib.hid (OwnG.keptD O2_3.out hg0 (D0_2_3.out))
  have D0_1_4 := Lib.hid (Dis.app O1_3.out (D0_1_3.out) hl0)
  have O1_4 := Lib.hid (OwnG.keptD O1_3.out hg0 (D0_1_3.out))
  have O0_4 := Lib.hid o0
  obtain ⟨B0, d0, e0, -, -, -⟩ := (show OwnZ u4 z.heap.size v0 _ from o0).sl
  subst e0
  clear o0 hr0 hg0 hl0
  refine hK.out _ _ ⟨below_keep hb4 _ _ p0, below_keep hb4 _ _ p1, below_keep hb4 _ _ p2⟩ (fun hHeld => ?_)
  clear hK K
  (try simp only [Act.put, List.getElem_toArray, List.getElem_cons_zero, List.getElem_cons_succ, List.setIfInBounds_toArray, List.set_cons_zero, List.set_cons_succ])
  refine wpAnyH_ready (rs := [7]) (by kernel_rfl) (by simp) ?_
  refine AllReadyH.cons rfl (fun K hK => ?_) AllReadyH.nil
  obtain ⟨v1, u5, hr1, o1, hg1, hl1⟩ := run_app_all fz_cells fz_one (by omega) Try.underlying24 H1.out H2.out H3.out H4.out rfl (u4) 24 O1_4.out hb4.size (c := c1) (h1.below FzR.stays (hx.trans (hb4.mono hx.size))) hln1 (by omega)
  refine step_append_run rfl (.tmp 7) (.tmp 9) 24 24 rfl rfl rfl hr1 ?_
  have hb5 := hb4.grown hg1 hb4.size (fun k hk => (OwnG.block_lt O1_4.out k hk).1)
  have D1_2_5 := Lib.hid (Dis.app O2_4.out (D1_2_2.out) hl1)
  have O2_5 := Lib.hid (OwnG.keptD O2_4.out hg1 (D1_2_2.out))
  have D1_0_5 := Lib.hid (Dis.app O0_4.out (D0_1_4.out.symm) hl1)
  have O0_5 := Lib.hid (OwnG.keptD O0_4.out hg1 (D0_1_4.out.symm))
  have O1_5 := Lib.hid o1
  obtain ⟨B1, d1, e1, -, -, -⟩ := (show OwnZ u5 z.heap.size v1 _ from o1).sl
  subst e1
  clear o1 hr1 hg1 hl1
  refine hK.out _ _ ⟨below_keep hb5 _ _ p0, below_keep hb5 _ _ p1, below_keep hb5 _ _ p2⟩ (fun hHeld => ?_)
  clear hK K
  (try simp only [Act.put, List.getElem_toArray, List.getElem_cons_zero, List.getElem_cons_succ, List.setIfInBounds_toArray, List.set_cons_zero, List.set_cons_succ])
  refine wpAnyH_ready (rs := [11]) (by kernel_rfl) (by simp) ?_
  refine AllReadyH.cons rfl (fun K hK => ?_) AllReadyH.nil
  obtain ⟨v2, u6, hr2, o2, hg2, hl2⟩ := run_app_all oz_cells oz_one (by omega) Try.underlying25 J1.out J2.out J3.out J4.out rfl (u5) 25 O2_5.out hb5.size (c := c2) (h2.below OzR.stays (hx.trans (hb5.mono hx.size))) hln2 (by omega)
  refine step_append_run rfl (.tmp 11) (.tmp 13) 25 25 rfl rfl rfl hr2 ?_
  have hb6 := hb5.grown hg2 hb5.size (fun k hk => (OwnG.block_lt O2_5.out k hk).1)
  have D2_1_6 := Lib.hid (Dis.app O1_5.out (D1_2_5.out.symm) hl2)
  have O1_6 := Lib.hid (OwnG.keptD O1_5.out hg2 (D1_2_5.out.symm))
  have D2_0_6 := Lib.hid (Dis.app O0_5.out (D0_2_4.out.symm) hl2)
  have O0_6 := Lib.hid (OwnG.keptD O0_5.out hg2 (D0_2_4.out.symm))
  have O2_6 := Lib.hid o2
  obtain ⟨B2, d2, e2, -, -, -⟩ := (show OwnO u6 z.heap.size v2 _ from o2).sl
  subst e2
  clear o2 hr2 hg2 hl2
  have rr := rb.below hb6
  obtain ⟨⟨r0, r1, r2⟩, ⟨f0, f1, f2⟩⟩ := rr.three
  have RR := Lib.hid rr
  clear rr
  refine hK.out _ _ ⟨below_keep hb6 _ _ p0, below_keep hb6 _ _ p1, below_keep hb6 _ _ p2⟩ (fun hHeld => ?_)
  clear hK K
  (try simp only [Act.put, List.getElem_toArray, List.getElem_cons_zero, List.getElem_cons_succ, List.setIfInBounds_toArray, List.set_cons_zero, List.set_cons_succ])
  refine wpAnyH_take (i := 12) (v := ?v21) rfl (by kernel_rfl) (by kernel_rfl) (by kernel_rfl) (fun _ _ _ h => h) (Or.inl ⟨by rfl, ?hy21⟩) hHeld ?rest21
  case hy21 => (intro w' hSw; (try dsimp only at hSw); first | (go_simp; done) | (go_simp; with_reducible rfl))
  simp only [Act.put, List.getElem_toArray, List.getElem_cons_zero, List.getElem_cons_succ, List.setIfInBounds_toArray, List.set_cons_zero, List.set_cons_succ]
  refine wpAnyH_ready (rs := [13]) (by kernel_rfl) (by simp) ?_
  refine AllReadyH.cons rfl (fun K hK => ?_) AllReadyH.nil
  go_simp
  refine hK.out _ _ ⟨cellOff (cellOff (cellOff (below_keep hb6 _ _ p0) (by simp)) (by simp)) (by simp), cellOff (cellOff (cellOff (below_keep hb6 _ _ p1) (by simp)) (by simp)) (by simp), cellOff (cellOff (cellOff (below_keep hb6 _ _ p2) (by simp)) (by simp)) (by simp)⟩ (fun hHeld => ?_)
  clear hK K
  (try simp only [Act.put, List.getElem_toArray, List.getElem_cons_zero, List.getElem_cons_succ, List.setIfInBounds_toArray, List.set_cons_zero, List.set_cons_succ])
  refine wpAnyH_done (by kernel_rfl) ?_ _
  refine NoPanic.normal ?_
  clear hHeld
  have hbn : Below w.heap.size w u6 := hx.trans (hb6.mono hx.size)
  clear r0 r1 r2 f0 f1 f2
  go_wp2_with fail
  have hr9 := (((RR.out).set 0 (.slice B0 x.live.length d0)).set 1 (.slice B1 x.safe.length d1)).set 2 (.slice B2 x.ops.length d2)
  refine bodyPost_ret (results_cell_row (p := 2) (ty := 27) rfl _ _ (w.heap.size + 1) 27 #[.slice B0 x.live.length d0, .slice B1 x.safe.length d1, .slice B2 x.ops.length d2] (0, 0) _ rfl hr9 Try.underlying27 rfl HI.out) rfl ⟨⟨_, rfl, ?_⟩, ?_⟩
  · refine DzA.mono (base := z.heap.size) ?_ (by omega)
    refine DzA.set (DzA.set (DzA.set (show DzA _ z.heap.size _ x from ⟨_, _, _, rfl, O0_6.out, O1_6.out, O2_6.out, D1_0_5.out.symm⟩) ?_ _) ?_ _) ?_ _ <;> (show w.heap.size + 1 < z.heap.size; omega)
  · exact ((hbn.setCell (Nat.le_succ _) _).setCell (Nat.le_succ _) _).setCell (Nat.le_succ _) _

set_option maxRecDepth 100000 in
set_option maxHeartbeats 1000000 in
theorem implCopyDisk (x : Dz) (A0 : Option Addr) (n0 c0 : Nat) (A1 : Option Addr) (n1 c1 : Nat) (A2 : Option Addr) (n2 c2 : Nat) (ok : Nat → Prop) (w : World) (h0 : Sl FzR 2 ok w A0 n0 x.live) (h1 : Sl FzR 2 ok w A1 n1 x.safe) (h2 : Sl OzR 4 ok w A2 n2 x.ops) (hl : n0 ≤ 1048576 ∧ n1 ≤ 1048576 ∧ n2 ≤ 1048576) :
    Calls Try.prog 63 #[.agg #[.slice A0 n0 c0, .slice A1 n1 c1, .slice A2 n2 c2]] w fun e w' => (∃ v, e = .returned v ∧ DzA w' w.heap.size v (x)) ∧ Below w.heap.size w w' := by
  obtain ⟨hx, hwz⟩ := box2 w (.cells #[.slice A0 n0 c0, .slice A1 n1 c1, .slice A2 n2 c2] 27) (.cells #[.slice none 0 0, .slice none 0 0, .slice none 0 0] 27)
  have ra := (Row.new w 27 #[.slice A0 n0 c0, .slice A1 n1 c1, .slice A2 n2 c2]).alloc (.cells #[.slice none 0 0, .slice none 0 0, .slice none 0 0] 27)
  have rb := Row.newAt (w.alloc (.cells #[.slice A0 n0 c0, .slice A1 n1 c1, .slice A2 n2 c2] 27)) 27 #[.slice none 0 0, .slice none 0 0, .slice none 0 0] (w.heap.size + 1) (by simp)
  have HI := Lib.hid infoDisk
  go_enter Try.func63, Try.ntmps63
  go_wp2_with fail
  generalize (w.alloc (.cells #[.slice A0 n0 c0, .slice A1 n1 c1, .slice A2 n2 c2] 27)).alloc (.cells #[.slice none 0 0, .slice none 0 0, .slice none 0 0] 27) = z at *
  obtain ⟨⟨p0, p1, p2⟩, -⟩ := ra.three
  have hb0 : Below z.heap.size z z.drew := (Below.refl _ z).drew
  refine wp_region_noPanic ?_
  refine wp_region_held_drew (S := (fun w' => w'.cell? ⟨w.heap.size, 0, none⟩ = some (.slice A0 n0 c0) ∧ w'.cell? ⟨w.heap.size, 1, none⟩ = some (.slice A1 n1 c1) ∧ w'.cell? ⟨w.heap.size, 2, none⟩ = some (.slice A2 n2 c2))) (by kernel_rfl) ⟨p0, p1, p2⟩ (fun hHeld => ?_)
  generalize z.drew = u0 at *
  refine wpAnyH_take (i := 0) (v := ?v22) rfl (by kernel_rfl) (by kernel_rfl) (by kernel_rfl) (fun _ _ _ h => h) (Or.inl ⟨by rfl, ?hy22⟩) hHeld ?rest22
  case hy22 => (intro w' hSw; (try dsimp only at hSw); first | (go_simp; done) | (go_simp; with_reducible rfl))
  simp only [Act.put, List.getElem_toArray, List.getElem_cons_zero, List.getElem_cons_succ, List.setIfInBounds_toArray, List.set_cons_zero, List.set_cons_succ]
  refine wpAnyH_take (i := 1) (v := ?v23) rfl (by kernel_rfl) (by kernel_rfl) (by kernel_rfl) (fun _ _ _ h => h) (Or.inl ⟨by rfl, ?hy23⟩) hHeld ?rest23
  case hy23 => (intro w' hSw; (try dsimp only at hSw); first | (go_simp; done) | (go_simp; with_reducible rfl))
  simp only [Act.put, List.getElem_toArray, List.getElem_cons_zero, List.getElem_cons_succ, List.setIfInBounds_toArray, List.set_cons_zero, List.set_cons_succ]
  refine wpAnyH_take (i := 3) (v := ?v24) rfl (by kernel_rfl) (by kernel_rfl) (by kernel_rfl) (fun _ _ _ h => h) (Or.inl ⟨by rfl, ?hy24⟩) hHeld ?rest24
  case hy24 => (intro w' hSw; (try dsimp only at hSw); first | (go_simp; done) | (go_simp; with_reducible rfl))
  simp only [Act.put, List.getElem_toArray, List.getElem_cons_zero, List.getElem_cons_succ, List.setIfInBounds_toArray, List.set_cons_zero, List.set_cons_succ]
  refine wpAnyH_take (i := 4) (v := ?v25) rfl (by kernel_rfl) (by kernel_rfl) (by kernel_rfl) (fun _ _ _ h => h) (Or.inl ⟨by rfl, ?hy25⟩) hHeld ?rest25
  case hy25 => (intro w' hSw; (try dsimp only at hSw); first | (go_simp; done) | (go_simp; with_reducible rfl))
  simp only [Act.put, List.getElem_toArray, List.getElem_cons_zero, List.getElem_cons_succ, List.setIfInBounds_toArray, List.set_cons_zero, List.set_cons_succ]
  refine wpAnyH_take (i := 6) (v := ?v26) rfl (by kernel_rfl) (by kernel_rfl) (by kernel_rfl) (fun _ _ _ h => h) (Or.inl ⟨by rfl, ?hy26⟩) hHeld ?rest26
  case hy26 => (intro w' hSw; (try dsimp only at hSw); first | (go_simp; done) | (go_simp; with_reducible rfl))
  simp only [Act.put, List.getElem_toArray, List.getElem_cons_zero, List.getElem_cons_succ, List.setIfInBounds_toArray, List.set_cons_zero, List.set_cons_succ]
  refine wpAnyH_take (i := 7) (v := ?v27) rfl (by kernel_rfl) (by kernel_rfl) (by kernel_rfl) (fun _ _ _ h => h) (Or.inl ⟨by rfl, ?hy27⟩) hHeld ?rest27
  case hy27 => (intro w' hSw; (try dsimp only at hSw); first | (go_simp; done) | (go_simp; with_reducible rfl))
  simp only [Act.put, List.getElem_toArray, List.getElem_cons_zero, List.getElem_cons_succ, List.setIfInBounds_toArray, List.set_cons_zero, List.set_cons_succ]
  refine wpAnyH_ready (rs := [2]) (by kernel_rfl) (by simp) ?_
  refine AllReadyH.cons rfl (fun K hK => ?_) AllReadyH.nil
  go_simp
  go_at_call 86
  refine (implCloneFiles A0 n0 c0 x.live _ _ (h0.below FzR.stays (hx.trans (hb0.mono hx.size))) hl.1).mono ?_
  rintro e u1 ⟨⟨v0, rfl, o0⟩, hq0⟩
  have O0_1 := Lib.hid o0
  have hb1 := hb0.trans (hq0.mono hb0.size)
  obtain ⟨B0, d0, e0, -, -, -⟩ := (show OwnZ u1 _ v0 _ from o0).sl
  subst e0
  clear o0
  refine hK.out _ _ (keep3 hHeld hq0) (fun hHeld => ?_)
  clear hK K
  (try simp only [Act.put, List.getElem_toArray, List.getElem_cons_zero, List.getElem_cons_succ, List.setIfInBounds_toArray, List.set_cons_zero, List.set_cons_succ])
  refine wpAnyH_ready (rs := [5]) (by kernel_rfl) (by simp) ?_
  refine AllReadyH.cons rfl (fun K hK => ?_) AllReadyH.nil
  go_simp
  go_at_call 86
  refine (implCloneFiles A1 n1 c1 x.safe _ _ (h1.below FzR.stays (hx.trans (hb1.mono hx.size))) hl.2.1).mono ?_
  rintro e u2 ⟨⟨v1, rfl, o1⟩, hq1⟩
  have O1_2 := Lib.hid o1
  have O0_2 := Lib.hid (OwnG.below O0_1.out hq1)
  have HD := Lib.hid (show Dis (.slice B0 x.live.length d0) v1 from fun k hk e => by have h1 := (OwnG.block_lt O0_1.out k hk).2; have h2 := (OwnG.block_lt O1_2.out k e).1; omega)
  have hb2 := hb1.trans (hq1.mono hb1.size)
  obtain ⟨B1, d1, e1, -, -, -⟩ := (show OwnZ u2 _ v1 _ from o1).sl
  subst e1
  clear o1
  refine hK.out _ _ (keep3 hHeld hq1) (fun hHeld => ?_)
  clear hK K
  (try simp only [Act.put, List.getElem_toArray, List.getElem_cons_zero, List.getElem_cons_succ, List.setIfInBounds_toArray, List.set_cons_zero, List.set_cons_succ])
  refine wpAnyH_ready (rs := [8]) (by kernel_rfl) (by simp) ?_
  refine AllReadyH.cons rfl (fun K hK => ?_) AllReadyH.nil
  go_simp
  go_at_call 91
  refine (implCloneDOps A2 n2 c2 x.ops _ _ (h2.below OzR.stays (hx.trans (hb2.mono hx.size))) hl.2.2).mono ?_
  rintro e u3 ⟨⟨v2, rfl, o2⟩, hq2⟩
  have O2_3 := Lib.hid o2
  have O0_3 := Lib.hid (OwnG.below O0_2.out hq2)
  have O1_3 := Lib.hid (OwnG.below O1_2.out hq2)
  have hb3 := hb2.trans (hq2.mono hb2.size)
  obtain ⟨B2, d2, e2, -, -, -⟩ := (show OwnO u3 _ v2 _ from o2).sl
  subst e2
  clear o2
  have rr := rb.below hb3
  obtain ⟨⟨r0, r1, r2⟩, ⟨f0, f1, f2⟩⟩ := rr.three
  have RR := Lib.hid rr
  clear rr
  refine hK.out _ _ (keep3 hHeld hq2) (fun hHeld => ?_)
  clear hK K
  (try simp only [Act.put, List.getElem_toArray, List.getElem_cons_zero, List.getElem_cons_succ, List.setIfInBounds_toArray, List.set_cons_zero, List.set_cons_succ])
  refine wpAnyH_take (i := 9) (v := ?v28) rfl (by kernel_rfl) (by kernel_rfl) (by kernel_rfl) (fun _ _ _ h => h) (Or.inl ⟨by rfl, ?hy28⟩) hHeld ?rest28
  case hy28 => (intro w' hSw; (try dsimp only at hSw); first | (go_simp; done) | (go_simp; with_reducible rfl))
  simp only [Act.put, List.getElem_toArray, List.getElem_cons_zero, List.getElem_cons_succ, List.setIfInBounds_toArray, List.set_cons_zero, List.set_cons_succ]
  refine wpAnyH_ready (rs := [10]) (by kernel_rfl) (by simp) ?_
  refine AllReadyH.cons rfl (fun K hK => ?_) AllReadyH.nil
  go_simp
  refine hK.out _ _ ⟨cellOff (cellOff (cellOff (below_keep hb3 _ _ p0) (by simp)) (by simp)) (by simp), cellOff (cellOff (cellOff (below_keep hb3 _ _ p1) (by simp)) (by simp)) (by simp), cellOff (cellOff (cellOff (below_keep hb3 _ _ p2) (by simp)) (by simp)) (by simp)⟩ (fun hHeld => ?_)
  clear hK K
  (try simp only [Act.put, List.getElem_toArray, List.getElem_cons_zero, List.getElem_cons_succ, List.setIfInBounds_toArray, List.set_cons_zero, List.set_cons_succ])
  refine wpAnyH_done (by kernel_rfl) ?_ _
  refine NoPanic.normal ?_
  clear hHeld
  have hbn : Below w.heap.size w u3 := hx.trans (hb3.mono hx.size)
  clear r0 r1 r2 f0 f1 f2
  go_wp2_with fail
  have hr9 := (((RR.out).set 0 (.slice B0 x.live.length d0)).set 1 (.slice B1 x.safe.length d1)).set 2 (.slice B2 x.ops.length d2)
  refine bodyPost_ret (results_cell_row (p := 2) (ty := 27) rfl _ _ (w.heap.size + 1) 27 #[.slice B0 x.live.length d0, .slice B1 x.safe.length d1, .slice B2 x.ops.length d2] (0, 0) _ rfl hr9 Try.underlying27 rfl HI.out) rfl ⟨⟨_, rfl, ?_⟩, ?_⟩
  · refine DzA.mono (base := z.heap.size) ?_ (by omega)
    refine DzA.set (DzA.set (DzA.set (show DzA _ z.heap.size _ x from ⟨_, _, _, rfl, OwnZ.mono O0_3.out hb0.size, OwnZ.mono O1_3.out hb1.size, OwnO.mono O2_3.out hb2.size, HD.out⟩) ?_ _) ?_ _) ?_ _ <;> (show w.heap.size + 1 < z.heap.size; omega)
  · exact ((hbn.setCell (Nat.le_succ _) _).setCell (Nat.le_succ _) _).setCell (Nat.le_succ _) _
end Go.Proofs.Ytkinegapnknhiaa
