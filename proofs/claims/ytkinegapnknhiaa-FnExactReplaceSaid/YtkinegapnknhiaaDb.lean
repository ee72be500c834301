/-
  Several texts in one: DiskCopy, DiskAct, OwnLaw, DiskLaw, DiskBox, DiskRead, DiskRepl, DiskReplFit.
-/
import Derived.Test.YtkinegapnknhiaaDiskSync
import Derived.Test.YtkinegapnknhiaaDiskMarks
import Derived.Test.YtkinegapnknhiaaOwnMarks
import Derived.Test.YtkinegapnknhiaaDiskOkImpl
namespace Go.Proofs.Ytkinegapnknhiaa
open Go.RowKit
set_option linter.unusedVariables false
set_option linter.unusedSimpArgs false

set_option maxRecDepth 100000 in
set_option maxHeartbeats 1000000 in
theorem specCopy (x : Dz) (A0 : Option Addr) (n0 c0 : Nat) (A1 : Option Addr) (n1 c1 : Nat) (A2 : Option Addr) (n2 c2 : Nat) (ok : Nat → Prop) (w : World) (h0 : Sl FzR 2 ok w A0 n0 x.live) (h1 : Sl FzR 2 ok w A1 n1 x.safe) (h2 : Sl OzR 4 ok w A2 n2 x.ops) (hl : n0 ≤ 1048576 ∧ n1 ≤ 1048576 ∧ n2 ≤ 1048576) :
    Calls Try.prog 65 #[.agg #[.slice A0 n0 c0, .slice A1 n1 c1, .slice A2 n2 c2]] w fun e w' => (∃ v, e = .returned v ∧ DzA w' w.heap.size v (x)) ∧ Below w.heap.size w w' := by
  obtain ⟨hx, hwz⟩ := box2 w (.cells #[.slice A0 n0 c0, .slice A1 n1 c1, .slice A2 n2 c2] 27) (.cells #[.slice none 0 0, .slice none 0 0, .slice none 0 0] 27)
  have ra := (Row.new w 27 #[.slice A0 n0 c0, .slice A1 n1 c1, .slice A2 n2 c2]).alloc (.cells #[.slice none 0 0, .slice none 0 0, .slice none 0 0] 27)
  have rb := Row.newAt (w.alloc (.cells #[.slice A0 n0 c0, .slice A1 n1 c1, .slice A2 n2 c2] 27)) 27 #[.slice none 0 0, .slice none 0 0, .slice none 0 0] (w.heap.size + 1) (by simp)
  have HI := Lib.hid infoDisk
  obtain ⟨i0, hi, hz0, hz1, hz2⟩ := info_parts infoFileT
  have H1 := Lib.hid hi
  have H2 := Lib.hid hz0
  have H3 := Lib.hid hz1
  have H4 := Lib.hid hz2
  clear hi hz0 hz1 hz2
  obtain ⟨j0, hi, hz0, hz1, hz2⟩ := info_parts infoDOpT
  have J1 := Lib.hid hi
  have J2 := Lib.hid hz0
  have J3 := Lib.hid hz1
  have J4 := Lib.hid hz2
  clear hi hz0 hz1 hz2
  go_enter Try.func65, Try.ntmps65
  go_wp2_with fail
  generalize (w.alloc (.cells #[.slice A0 n0 c0, .slice A1 n1 c1, .slice A2 n2 c2] 27)).alloc (.cells #[.slice none 0 0, .slice none 0 0, .slice none 0 0] 27) = z at *
  have hln0 := hl.1
  have hln1 := hl.2.1
  have hln2 := hl.2.2
  clear hl
  obtain ⟨⟨p0, p1, p2⟩, -⟩ := ra.three
  obtain ⟨⟨r0, r1, r2⟩, ⟨f0, f1, f2⟩⟩ := rb.three
  clear r0 r1 r2 f0 f1 f2
  have hb0 : Below z.heap.size z z.drew := (Below.refl _ z).drew
  refine wp_region_noPanic ?_
  refine wp_region_held_drew (S := (fun w' => w'.cell? ⟨w.heap.size, 0, none⟩ = some (.slice A0 n0 c0) ∧ w'.cell? ⟨w.heap.size, 1, none⟩ = some (.slice A1 n1 c1) ∧ w'.cell? ⟨w.heap.size, 2, none⟩ = some (.slice A2 n2 c2))) (by kernel_rfl) ⟨p0, p1, p2⟩ (fun hHeld => ?_)
  generalize z.drew = u0 at *
  refine wpAnyH_take (i := 1) (v := ?v1) rfl (by kernel_rfl) (by kernel_rfl) (by kernel_rfl) (fun _ _ _ h => h) (Or.inl ⟨by rfl, ?hy1⟩) hHeld ?rest1
  case hy1 => (intro w' hSw; (try dsimp only at hSw); first | (go_simp; done) | (go_simp; with_reducible rfl))
  simp only [Act.put, List.getElem_toArray, List.getElem_cons_zero, List.getElem_cons_succ, List.setIfInBounds_toArray, List.set_cons_zero, List.set_cons_succ]
  refine wpAnyH_take (i := 2) (v := ?v2) rfl (by kernel_rfl) (by kernel_rfl) (by kernel_rfl) (fun _ _ _ h => h) (Or.inl ⟨by rfl, ?hy2⟩) hHeld ?rest2
  case hy2 => (intro w' hSw; (try dsimp only at hSw); first | (go_simp; done) | (go_simp; with_reducible rfl))
  simp only [Act.put, List.getElem_toArray, List.getElem_cons_zero, List.getElem_cons_succ, List.setIfInBounds_toArray, List.set_cons_zero, List.set_cons_succ]
  refine wpAnyH_take (i := 5) (v := ?v3) rfl (by kernel_rfl) (by kernel_rfl) (by kernel_rfl) (fun _ _ _ h => h) (Or.inl ⟨by rfl, ?hy3⟩) hHeld ?rest3
  case hy3 => (intro w' hSw; (try dsimp only at hSw); first | (go_simp; done) | (go_simp; with_reducible rfl))
  simp only [Act.put, List.getElem_toArray, List.getElem_cons_zero, List.getElem_cons_succ, List.setIfInBounds_toArray, List.set_cons_zero, List.set_cons_succ]
  refine wpAnyH_take (i := 6) (v := ?v4) rfl (by kernel_rfl) (by kernel_rfl) (by kernel_rfl) (fun _ _ _ h => h) (Or.inl ⟨by rfl, ?hy4⟩) hHeld ?rest4
  case hy4 => (intro w' hSw; (try dsimp only at hSw); first | (go_simp; done) | (go_simp; with_reducible rfl))
  simp only [Act.put, List.getElem_toArray, List.getElem_cons_zero, List.getElem_cons_succ, List.setIfInBounds_toArray, List.set_cons_zero, List.set_cons_succ]
  refine wpAnyH_take (i := 9) (v := ?v5) rfl (by kernel_rfl) (by kernel_rfl) (by kernel_rfl) (fun _ _ _ h => h) (Or.inl ⟨by rfl, ?hy5⟩) hHeld ?rest5
  case hy5 => (intro w' hSw; (try dsimp only at hSw); first | (go_simp; done) | (go_simp; with_reducible rfl))
  simp only [Act.put, List.getElem_toArray, List.getElem_cons_zero, List.getElem_cons_succ, List.setIfInBounds_toArray, List.set_cons_zero, List.set_cons_succ]
  refine wpAnyH_take (i := 10) (v := ?v6) rfl (by kernel_rfl) (by kernel_rfl) (by kernel_rfl) (fun _ _ _ h => h) (Or.inl ⟨by rfl, ?hy6⟩) hHeld ?rest6
  case hy6 => (intro w' hSw; (try dsimp only at hSw); first | (go_simp; done) | (go_simp; with_reducible rfl))
  simp only [Act.put, List.getElem_toArray, List.getElem_cons_zero, List.getElem_cons_succ, List.setIfInBounds_toArray, List.set_cons_zero, List.set_cons_succ]
  refine wpAnyH_ready (rs := [0, 4, 8]) (by kernel_rfl) (by simp) ?_
  refine AllReadyH.cons rfl (fun K hK => ?_) ?_
  · go_simp
    have hal : Below (u0).heap.size u0 ((u0).alloc (.cells #[] 75)) := (Below.refl _ _).alloc (Nat.le_refl _) _
    have O0_1 := Lib.hid (OwnG.lit (T := 75) (sz := 2) (f := Fz.cells) (u0) (base := z.heap.size) hb0.size)
    have hb1 := hb0.alloc hb0.size (.cells #[] 75)
    clear hal
    generalize (u0).alloc (.cells #[] 75) = u1 at *
    refine hK.out _ _ ⟨below_keep hb1 _ _ p0, below_keep hb1 _ _ p1, below_keep hb1 _ _ p2⟩ (fun hHeld => ?_)
    clear hK K
    (try simp only [Act.put, List.getElem_toArray, List.getElem_cons_zero, List.getElem_cons_succ, List.setIfInBounds_toArray, List.set_cons_zero, List.set_cons_succ])
    refine wpAnyH_ready (rs := [3, 4, 8]) (by kernel_rfl) (by simp) ?_
    refine AllReadyH.cons rfl (fun K hK => ?_) ?_
    · obtain ⟨v0, u2, hr0, o0, hg0, hl0⟩ := run_app_all fz_cells fz_one (by omega) Try.underlying24 H1.out H2.out H3.out H4.out rfl (u1) 24 O0_1.out hb1.size (c := c0) (h0.below FzR.stays (hx.trans (hb1.mono hx.size))) hln0 (by omega)
      refine step_append_run rfl (.tmp 3) (.tmp 5) 24 24 rfl rfl rfl hr0 ?_
      have hb2 := hb1.grown hg0 hb1.size (fun k hk => (OwnG.block_lt O0_1.out k hk).1)
      have O0_2 := Lib.hid o0
      obtain ⟨B0, d0, e0, -, -, -⟩ := (show OwnZ u2 z.heap.size v0 _ from o0).sl
      subst e0
      clear o0 hr0 hg0 hl0
      refine hK.out _ _ ⟨below_keep hb2 _ _ p0, below_keep hb2 _ _ p1, below_keep hb2 _ _ p2⟩ (fun hHeld => ?_)
      clear hK K
      (try simp only [Act.put, List.getElem_toArray, List.getElem_cons_zero, List.getElem_cons_succ, List.setIfInBounds_toArray, List.set_cons_zero, List.set_cons_succ])
      refine wpAnyH_ready (rs := [4, 8]) (by kernel_rfl) (by simp) ?_
      refine AllReadyH.cons rfl (fun K hK => ?_) ?_
      · go_simp
        have hal : Below (u2).heap.size u2 ((u2).alloc (.cells #[] 75)) := (Below.refl _ _).alloc (Nat.le_refl _) _
        have O1_3 := Lib.hid (OwnG.lit (T := 75) (sz := 2) (f := Fz.cells) (u2) (base := z.heap.size) hb2.size)
        have D1_0_3 := Lib.hid (Dis.fresh O0_2.out 0 0)
        have O0_3 := Lib.hid (OwnG.below O0_2.out hal)
        have hb3 := hb2.alloc hb2.size (.cells #[] 75)
        clear hal
        generalize (u2).alloc (.cells #[] 75) = u3 at *
        refine hK.out _ _ ⟨below_keep hb3 _ _ p0, below_keep hb3 _ _ p1, below_keep hb3 _ _ p2⟩ (fun hHeld => ?_)
        clear hK K
        (try simp only [Act.put, List.getElem_toArray, List.getElem_cons_zero, List.getElem_cons_succ, List.setIfInBounds_toArray, List.set_cons_zero, List.set_cons_succ])
        refine wpAnyH_ready (rs := [7, 8]) (by kernel_rfl) (by simp) ?_
        refine AllReadyH.cons rfl (fun K hK => ?_) ?_
        · obtain ⟨v1, u4, hr1, o1, hg1, hl1⟩ := run_app_all fz_cells fz_one (by omega) Try.underlying24 H1.out H2.out H3.out H4.out rfl (u3) 24 O1_3.out hb3.size (c := c1) (h1.below FzR.stays (hx.trans (hb3.mono hx.size))) hln1 (by omega)
          refine step_append_run rfl (.tmp 7) (.tmp 9) 24 24 rfl rfl rfl hr1 ?_
          have hb4 := hb3.grown hg1 hb3.size (fun k hk => (OwnG.block_lt O1_3.out k hk).1)
          have D1_0_4 := Lib.hid (Dis.app O0_3.out (D1_0_3.out) hl1)
          have O0_4 := Lib.hid (OwnG.keptD O0_3.out hg1 (D1_0_3.out))
          have O1_4 := Lib.hid o1
          obtain ⟨B1, d1, e1, -, -, -⟩ := (show OwnZ u4 z.heap.size v1 _ from o1).sl
          subst e1
          clear o1 hr1 hg1 hl1
          refine hK.out _ _ ⟨below_keep hb4 _ _ p0, below_keep hb4 _ _ p1, below_keep hb4 _ _ p2⟩ (fun hHeld => ?_)
          clear hK K
          (try simp only [Act.put, List.getElem_toArray, List.getElem_cons_zero, List.getElem_cons_succ, List.setIfInBounds_toArray, List.set_cons_zero, List.set_cons_succ])
          refine wpAnyH_ready (rs := [8]) (by kernel_rfl) (by simp) ?_
          refine AllReadyH.cons rfl (fun K hK => ?_) AllReadyH.nil
          go_simp
          have hal : Below (u4).heap.size u4 ((u4).alloc (.cells #[] 36)) := (Below.refl _ _).alloc (Nat.le_refl _) _
          have O2_5 := Lib.hid (OwnG.lit (T := 36) (sz := 4) (f := Oz.cells) (u4) (base := z.heap.size) hb4.size)
          have D2_0_5 := Lib.hid (Dis.fresh O0_4.out 0 0)
          have O0_5 := Lib.hid (OwnG.below O0_4.out hal)
          have D2_1_5 := Lib.hid (Dis.fresh O1_4.out 0 0)
          have O1_5 := Lib.hid (OwnG.below O1_4.out hal)
          have hb5 := hb4.alloc hb4.size (.cells #[] 36)
          clear hal
          generalize (u4).alloc (.cells #[] 36) = u5 at *
          refine hK.out _ _ ⟨below_keep hb5 _ _ p0, below_keep hb5 _ _ p1, below_keep hb5 _ _ p2⟩ (fun hHeld => ?_)
          clear hK K
          (try simp only [Act.put, List.getElem_toArray, List.getElem_cons_zero, List.getElem_cons_succ, List.setIfInBounds_toArray, List.set_cons_zero, List.set_cons_succ])
          refine wpAnyH_ready (rs := [11]) (by kernel_rfl) (by simp) ?_
          refine AllReadyH.cons rfl (fun K hK => ?_) AllReadyH.nil
          obtain ⟨v2, u6, hr2, o2, hg2, hl2⟩ := run_app_all oz_cells oz_one (by omega) Try.underlying25 J1.out J2.out J3.out J4.out rfl (u5) 25 O2_5.out hb5.size (c := c2) (h2.below OzR.stays (hx.trans (hb5.mono hx.size))) hln2 (by omega)
          refine step_append_run rfl (.tmp 11) (.tmp 13) 25 25 rfl rfl rfl hr2 ?_
          have hb6 := hb5.grown hg2 hb5.size (fun k hk => (OwnG.block_lt O2_5.out k hk).1)
          have D2_0_6 := Lib.hid (Dis.app O0_5.out (D2_0_5.out) hl2)
          have O0_6 := Lib.hid (OwnG.keptD O0_5.out hg2 (D2_0_5.out))
          have D2_1_6 := Lib.hid (Dis.app O1_5.out (D2_1_5.out) hl2)
          have O1_6 := Lib.hid (OwnG.keptD O1_5.out hg2 (D2_1_5.out))
          have O2_6 := Lib.hid o2
          obtain ⟨B2, d2, e2, -, -, -⟩ := (show OwnO u6 z.heap.size v2 _ from o2).sl
          subst e2
          clear o2 hr2 hg2 hl2
          have rr := rb.below hb6
          obtain ⟨⟨r0, r1, r2⟩, ⟨f0, f1, f2⟩⟩ := rr.three
          have RR := Lib.hid rr
          clear rr
          refine hK.out _ _ ⟨below_keep hb6 _ _ p0, below_keep hb6 _ _ p1, below_keep hb6 _ _ p2⟩ (fun hHeld => ?_)
          clear hK K
          (try simp only [Act.put, List.getElem_toArray, List.getElem_cons_zero, List.getElem_cons_succ, List.setIfInBounds_toArray, List.set_cons_zero, List.set_cons_succ])
          refine wpAnyH_take (i := 12) (v := ?v7) rfl (by kernel_rfl) (by kernel_rfl) (by kernel_rfl) (fun _ _ _ h => h) (Or.inl ⟨by rfl, ?hy7⟩) hHeld ?rest7
          case hy7 => (intro w' hSw; (try dsimp only at hSw); first | (go_simp; done) | (go_simp; with_reducible rfl))
          simp only [Act.put, List.getElem_toArray, List.getElem_cons_zero, List.getElem_cons_succ, List.setIfInBounds_toArray, List.set_cons_zero, List.set_cons_succ]
          refine wpAnyH_ready (rs := [13]) (by kernel_rfl) (by simp) ?_
          refine AllReadyH.cons rfl (fun K hK => ?_) AllReadyH.nil
          go_simp
          refine hK.out _ _ ⟨cellOff (cellOff (cellOff (below_keep hb6 _ _ p0) (by simp)) (by simp)) (by simp), cellOff (cellOff (cellOff (below_keep hb6 _ _ p1) (by simp)) (by simp)) (by simp), cellOff (cellOff (cellOff (below_keep hb6 _ _ p2) (by simp)) (by simp)) (by simp)⟩ (fun hHeld => ?_)
          clear hK K
          (try simp only [Act.put, List.getElem_toArray, List.getElem_cons_zero, List.getElem_cons_succ, List.setIfInBounds_toArray, List.set_cons_zero, List.set_cons_succ])
          refine wpAnyH_done (by kernel_rfl) ?_ _
          refine NoPanic.normal ?_
          clear hHeld
          have hbn : Below w.heap.size w u6 := hx.trans (hb6.mono hx.size)
          clear r0 r1 r2 f0 f1 f2
          go_wp2_with fail
          have hr9 := (((RR.out).set 0 (.slice B0 x.live.length d0)).set 1 (.slice B1 x.safe.length d1)).set 2 (.slice B2 x.ops.length d2)
          refine bodyPost_ret (results_cell_row (p := 2) (ty := 27) rfl _ _ (w.heap.size + 1) 27 #[.slice B0 x.live.length d0, .slice B1 x.safe.length d1, .slice B2 x.ops.length d2] (0, 0) _ rfl hr9 Try.underlying27 rfl HI.out) rfl ⟨⟨_, rfl, ?_⟩, ?_⟩
          · refine DzA.mono (base := z.heap.size) ?_ (by omega)
            refine DzA.set (DzA.set (DzA.set (show DzA _ z.heap.size _ x from ⟨_, _, _, rfl, O0_6.out, O1_6.out, O2_6.out, D1_0_4.out.symm⟩) ?_ _) ?_ _) ?_ _ <;> (show w.heap.size + 1 < z.heap.size; omega)
          · exact ((hbn.setCell (Nat.le_succ _) _).setCell (Nat.le_succ _) _).setCell (Nat.le_succ _) _
        refine AllReadyH.cons rfl (fun K hK => ?_) AllReadyH.nil
        go_simp
        have hal : Below (u3).heap.size u3 ((u3).alloc (.cells #[] 36)) := (Below.refl _ _).alloc (Nat.le_refl _) _
        have O2_4 := Lib.hid (OwnG.lit (T := 36) (sz := 4) (f := Oz.cells) (u3) (base := z.heap.size) hb3.size)
        have D2_0_4 := Lib.hid (Dis.fresh O0_3.out 0 0)
        have O0_4 := Lib.hid (OwnG.below O0_3.out hal)
        have D2_1_4 := Lib.hid (Dis.fresh O1_3.out 0 0)
        have O1_4 := Lib.hid (OwnG.below O1_3.out hal)
        have hb4 := hb3.alloc hb3.size (.cells #[] 36)
        clear hal
        generalize (u3).alloc (.cells #[] 36) = u4 at *
        refine hK.out _ _ ⟨below_keep hb4 _ _ p0, below_keep hb4 _ _ p1, below_keep hb4 _ _ p2⟩ (fun hHeld => ?_)
        clear hK K
        (try simp only [Act.put, List.getElem_toArray, List.getElem_cons_zero, List.getElem_cons_succ, List.setIfInBounds_toArray, List.set_cons_zero, List.set_cons_succ])
        refine wpAnyH_ready (rs := [7]) (by kernel_rfl) (by simp) ?_
        refine AllReadyH.cons rfl (fun K hK => ?_) AllReadyH.nil
        obtain ⟨v1, u5, hr1, o1, hg1, hl1⟩ := run_app_all fz_cells fz_one (by omega) Try.underlying24 H1.out H2.out H3.out H4.out rfl (u4) 24 O1_4.out hb4.size (c := c1) (h1.below FzR.stays (hx.trans (hb4.mono hx.size))) hln1 (by omega)
        refine step_append_run rfl (.tmp 7) (.tmp 9) 24 24 rfl rfl rfl hr1 ?_
        have hb5 := hb4.grown hg1 hb4.size (fun k hk => (OwnG.block_lt O1_4.out k hk).1)
        have D1_0_5 := Lib.hid (Dis.app O0_4.out (D1_0_3.out) hl1)
        have O0_5 := Lib.hid (OwnG.keptD O0_4.out hg1 (D1_0_3.out))
        have D1_2_5 := Lib.hid (Dis.app O2_4.out (D2_1_4.out.symm) hl1)
        have O2_5 := Lib.hid (OwnG.keptD O2_4.out hg1 (D2_1_4.out.symm))
        have O1_5 := Lib.hid o1
        obtain ⟨B1, d1, e1, -, -, -⟩ := (show OwnZ u5 z.heap.size v1 _ from o1).sl
        subst e1
        clear o1 hr1 hg1 hl1
        refine hK.out _ _ ⟨below_keep hb5 _ _ p0, below_keep hb5 _ _ p1, below_keep hb5 _ _ p2⟩ (fun hHeld => ?_)
        clear hK K
        (try simp only [Act.put, List.getElem_toArray, List.getElem_cons_zero, List.getElem_cons_succ, List.setIfInBounds_toArray, List.set_cons_zero, List.set_cons_succ])
        refine wpAnyH_ready (rs := [11]) (by kernel_rfl) (by simp) ?_
        refine AllReadyH.cons rfl (fun K hK => ?_) AllReadyH.nil
        obtain ⟨v2, u6, hr2, o2, hg2, hl2⟩ := run_app_all oz_cells oz_one (by omega) Try.underlying25 J1.out J2.out J3.out J4.out rfl (u5) 25 O2_5.out hb5.size (c := c2) (h2.below OzR.stays (hx.trans (hb5.mono hx.size))) hln2 (by omega)
        refine step_append_run rfl (.tmp 11) (.tmp 13) 25 25 rfl rfl rfl hr2 ?_
        have hb6 := hb5.grown hg2 hb5.size (fun k hk => (OwnG.block_lt O2_5.out k hk).1)
        have D2_0_6 := Lib.hid (Dis.app O0_5.out (D2_0_4.out) hl2)
        have O0_6 := Lib.hid (OwnG.keptD O0_5.out hg2 (D2_0_4.out))
        have D2_1_6 := Lib.hid (Dis.app O1_5.out (D1_2_5.out.symm) hl2)
        have O1_6 := Lib.hid (OwnG.keptD O1_5.out hg2 (D1_2_5.out.symm))
        have O2_6 := Lib.hid o2
        obtain ⟨B2, d2, e2, -, -, -⟩ := (show OwnO u6 z.heap.size v2 _ from o2).sl
        subst e2
        clear o2 hr2 hg2 hl2
        have rr := rb.below hb6
        obtain ⟨⟨r0, r1, r2⟩, ⟨f0, f1, f2⟩⟩ := rr.three
        have RR := Lib.hid rr
        clear rr
        refine hK.out _ _ ⟨below_keep hb6 _ _ p0, below_keep hb6 _ _ p1, below_keep hb6 _ _ p2⟩ (fun hHeld => ?_)
        clear hK K
        (try simp only [Act.put, List.getElem_toArray, List.getElem_cons_zero, List.getElem_cons_succ, List.setIfInBounds_toArray, List.set_cons_zero, List.set_cons_succ])
        refine wpAnyH_take (i := 12) (v := ?v8) rfl (by kernel_rfl) (by kernel_rfl) (by kernel_rfl) (fun _ _ _ h => h) (Or.inl ⟨by rfl, ?hy8⟩) hHeld ?rest8
        case hy8 => (intro w' hSw; (try dsimp only at hSw); first | (go_simp; done) | (go_simp; with_reducible rfl))
        simp only [Act.put, List.getElem_toArray, List.getElem_cons_zero, List.getElem_cons_succ, List.setIfInBounds_toArray, List.set_cons_zero, List.set_cons_succ]
        refine wpAnyH_ready (rs := [13]) (by kernel_rfl) (by simp) ?_
        refine AllReadyH.cons rfl (fun K hK => ?_) AllReadyH.nil
        go_simp
        refine hK.out _ _ ⟨cellOff (cellOff (cellOff (below_keep hb6 _ _ p0) (by simp)) (by simp)) (by simp), cellOff (cellOff (cellOff (below_keep hb6 _ _ p1) (by simp)) (by simp)) (by simp), cellOff (cellOff (cellOff (below_keep hb6 _ _ p2) (by simp)) (by simp)) (by simp)⟩ (fun hHeld => ?_)
        clear hK K
        (try simp only [Act.put, List.getElem_toArray, List.getElem_cons_zero, List.getElem_cons_succ, List.setIfInBounds_toArray, List.set_cons_zero, List.set_cons_succ])
        refine wpAnyH_done (by kernel_rfl) ?_ _
        refine NoPanic.normal ?_
        clear hHeld
        have hbn : Below w.heap.size w u6 := hx.trans (hb6.mono hx.size)
        clear r0 r1 r2 f0 f1 f2
        go_wp2_with fail
        have hr9 := (((RR.out).set 0 (.slice B0 x.live.length d0)).set 1 (.slice B1 x.safe.length d1)).set 2 (.slice B2 x.ops.length d2)
        refine bodyPost_ret (results_cell_row (p := 2) (ty := 27) rfl _ _ (w.heap.size + 1) 27 #[.slice B0 x.live.length d0, .slice B1 x.safe.length d1, .slice B2 x.ops.length d2] (0, 0) _ rfl hr9 Try.underlying27 rfl HI.out) rfl ⟨⟨_, rfl, ?_⟩, ?_⟩
        · refine DzA.mono (base := z.heap.size) ?_ (by omega)
          refine DzA.set (DzA.set (DzA.set (show DzA _ z.heap.size _ x from ⟨_, _, _, rfl, O0_6.out, O1_6.out, O2_6.out, D1_0_5.out.symm⟩) ?_ _) ?_ _) ?_ _ <;> (show w.heap.size + 1 < z.heap.size; omega)
        · exact ((hbn.setCell (Nat.le_succ _) _).setCell (Nat.le_succ _) _).setCell (Nat.le_succ _) _
      refine AllReadyH.cons rfl (fun K hK => ?_) AllReadyH.nil
      go_simp
      have hal : Below (u2).heap.size u2 ((u2).alloc (.cells #[] 36)) := (Below.refl _ _).alloc (Nat.le_refl _) _
      have O2_3 := Lib.hid (OwnG.lit (T := 36) (sz := 4) (f := Oz.cells) (u2) (base := z.heap.size) hb2.size)
      have D2_0_3 := Lib.hid (Dis.fresh O0_2.out 0 0)
      have O0_3 := Lib.hid (OwnG.below O0_2.out hal)
      have hb3 := hb2.alloc hb2.size (.cells #[] 36)
      clear hal
      generalize (u2).alloc (.cells #[] 36) = u3 at *
      refine hK.out _ _ ⟨below_keep hb3 _ _ p0, below_keep hb3 _ _ p1, below_keep hb3 _ _ p2⟩ (fun hHeld => ?_)
      clear hK K
      (try simp only [Act.put, List.getElem_toArray, List.getElem_cons_zero, List.getElem_cons_succ, List.setIfInBounds_toArray, List.set_cons_zero, List.set_cons_succ])
      refine wpAnyH_ready (rs := [4]) (by kernel_rfl) (by simp) ?_
      refine AllReadyH.cons rfl (fun K hK => ?_) AllReadyH.nil
      go_simp
      have hal : Below (u3).heap.size u3 ((u3).alloc (.cells #[] 75)) := (Below.refl _ _).alloc (Nat.le_refl _) _
      have O1_4 := Lib.hid (OwnG.lit (T := 75) (sz := 2) (f := Fz.cells) (u3) (base := z.heap.size) hb3.size)
      have D1_0_4 := Lib.hid (Dis.fresh O0_3.out 0 0)
      have O0_4 := Lib.hid (OwnG.below O0_3.out hal)
      have D1_2_4 := Lib.hid (Dis.fresh O2_3.out 0 0)
      have O2_4 := Lib.hid (OwnG.below O2_3.out hal)
      have hb4 := hb3.alloc hb3.size (.cells #[] 75)
      clear hal
      generalize (u3).alloc (.cells #[] 75) = u4 at *
      refine hK.out _ _ ⟨below_keep hb4 _ _ p0, below_keep hb4 _ _ p1, below_keep hb4 _ _ p2⟩ (fun hHeld => ?_)
      clear hK K
      (try simp only [Act.put, List.getElem_toArray, List.getElem_cons_zero, List.getElem_cons_succ, List.setIfInBounds_toArray, List.set_cons_zero, List.set_cons_succ])
      refine wpAnyH_ready (rs := [7]) (by kernel_rfl) (by simp) ?_
      refine AllReadyH.cons rfl (fun K hK => ?_) AllReadyH.nil
      obtain ⟨v1, u5, hr1, o1, hg1, hl1⟩ := run_app_all fz_cells fz_one (by omega) Try.underlying24 H1.out H2.out H3.out H4.out rfl (u4) 24 O1_4.out hb4.size (c := c1) (h1.below FzR.stays (hx.trans (hb4.mono hx.size))) hln1 (by omega)
      refine step_append_run rfl (.tmp 7) (.tmp 9) 24 24 rfl rfl rfl hr1 ?_
      have hb5 := hb4.grown hg1 hb4.size (fun k hk => (OwnG.block_lt O1_4.out k hk).1)
      have D1_0_5 := Lib.hid (Dis.app O0_4.out (D1_0_4.out) hl1)
      have O0_5 := Lib.hid (OwnG.keptD O0_4.out hg1 (D1_0_4.out))
      have D1_2_5 := Lib.hid (Dis.app O2_4.out (D1_2_4.out) hl1)
      have O2_5 := Lib.hid (OwnG.keptD O2_4.out hg1 (D1_2_4.out))
      have O1_5 := Lib.hid o1
      obtain ⟨B1, d1, e1, -, -, -⟩ := (show OwnZ u5 z.heap.size v1 _ from o1).sl
      subst e1
      clear o1 hr1 hg1 hl1
      refine hK.out _ _ ⟨below_keep hb5 _ _ p0, below_keep hb5 _ _ p1, below_keep hb5 _ _ p2⟩ (fun hHeld => ?_)
      clear hK K
      (try simp only [Act.put, List.getElem_toArray, List.getElem_cons_zero, List.getElem_cons_succ, List.setIfInBounds_toArray, List.set_cons_zero, List.set_cons_succ])
      refine wpAnyH_ready (rs := [11]) (by kernel_rfl) (by simp) ?_
      refine AllReadyH.cons rfl (fun K hK => ?_) AllReadyH.nil
      obtain ⟨v2, u6, hr2, o2, hg2, hl2⟩ := run_app_all oz_cells oz_one (by omega) Try.underlying25 J1.out J2.out J3.out J4.out rfl (u5) 25 O2_5.out hb5.size (c := c2) (h2.below OzR.stays (hx.trans (hb5.mono hx.size))) hln2 (by omega)
      refine step_append_run rfl (.tmp 11) (.tmp 13) 25 25 rfl rfl rfl hr2 ?_
      have hb6 := hb5.grown hg2 hb5.size (fun k hk => (OwnG.block_lt O2_5.out k hk).1)
      have D2_0_6 := Lib.hid (Dis.app O0_5.out (D2_0_3.out) hl2)
      have O0_6 := Lib.hid (OwnG.keptD O0_5.out hg2 (D2_0_3.out))
      have D2_1_6 := Lib.hid (Dis.app O1_5.out (D1_2_5.out.symm) hl2)
      have O1_6 := Lib.hid (OwnG.keptD O1_5.out hg2 (D1_2_5.out.symm))
      have O2_6 := Lib.hid o2
      obtain ⟨B2, d2, e2, -, -, -⟩ := (show OwnO u6 z.heap.size v2 _ from o2).sl
      subst e2
      clear o2 hr2 hg2 hl2
      have rr := rb.below hb6
      obtain ⟨⟨r0, r1, r2⟩, ⟨f0, f1, f2⟩⟩ := rr.three
      have RR := Lib.hid rr
      clear rr
      refine hK.out _ _ ⟨below_keep hb6 _ _ p0, below_keep hb6 _ _ p1, below_keep hb6 _ _ p2⟩ (fun hHeld => ?_)
      clear hK K
      (try simp only [Act.put, List.getElem_toArray, List.getElem_cons_zero, List.getElem_cons_succ, List.setIfInBounds_toArray, List.set_cons_zero, List.set_cons_succ])
      refine wpAnyH_take (i := 12) (v := ?v9) rfl (by kernel_rfl) (by kernel_rfl) (by kernel_rfl) (fun _ _ _ h => h) (Or.inl ⟨by rfl, ?hy9⟩) hHeld ?rest9
      case hy9 => (intro w' hSw; (try dsimp only at hSw); first | (go_simp; done) | (go_simp; with_reducible rfl))
      simp only [Act.put, List.getElem_toArray, List.getElem_cons_zero, List.getElem_cons_succ, List.setIfInBounds_toArray, List.set_cons_zero, List.set_cons_succ]
      refine wpAnyH_ready (rs := [13]) (by kernel_rfl) (by simp) ?_
      refine AllReadyH.cons rfl (fun K hK => ?_) AllReadyH.nil
      go_simp
      refine hK.out _ _ ⟨cellOff (cellOff (cellOff (below_keep hb6 _ _ p0) (by simp)) (by simp)) (by simp), cellOff (cellOff (cellOff (below_keep hb6 _ _ p1) (by simp)) (by simp)) (by simp), cellOff (cellOff (cellOff (below_keep hb6 _ _ p2) (by simp)) (by simp)) (by simp)⟩ (fun hHeld => ?_)
      clear hK K
      (try simp only [Act.put, List.getElem_toArray, List.getElem_cons_zero, List.getElem_cons_succ, List.setIfInBounds_toArray, List.set_cons_zero, List.set_cons_succ])
      refine wpAnyH_done (by kernel_rfl) ?_ _
      refine NoPanic.normal ?_
      clear hHeld
      have hbn : Below w.heap.size w u6 := hx.trans (hb6.mono hx.size)
      clear r0 r1 r2 f0 f1 f2
      go_wp2_with fail
      have hr9 := (((RR.out).set 0 (.slice B0 x.live.length d0)).set 1 (.slice B1 x.safe.length d1)).set 2 (.slice B2 x.ops.length d2)
      refine bodyPost_ret (results_cell_row (p := 2) (ty := 27) rfl _ _ (w.heap.size + 1) 27 #[.slice B0 x.live.length d0, .slice B1 x.safe.length d1, .slice B2 x.ops.length d2] (0, 0) _ rfl hr9 Try.underlying27 rfl HI.out) rfl ⟨⟨_, rfl, ?_⟩, ?_⟩
      · refine DzA.mono (base := z.heap.size) ?_ (by omega)
        refine DzA.set (DzA.set (DzA.set (show DzA _ z.heap.size _ x from ⟨_, _, _, rfl, O0_6.out, O1_6.out, O2_6.out, D1_0_5.out.symm⟩) ?_ _) ?_ _) ?_ _ <;> (show w.heap.size + 1 < z.heap.size; omega)
      · exact ((hbn.setCell (Nat.le_succ _) _).setCell (Nat.le_succ _) _).setCell (Nat.le_succ _) _
    refine AllReadyH.cons rfl (fun K hK => ?_) ?_
    · go_simp
      have hal : Below (u1).heap.size u1 ((u1).alloc (.cells #[] 75)) := (Below.refl _ _).alloc (Nat.le_refl _) _
      have O1_2 := Lib.hid (OwnG.lit (T := 75) (sz := 2) (f := Fz.cells) (u1) (base := z.heap.size) hb1.size)
      have D1_0_2 := Lib.hid (Dis.fresh O0_1.out 0 0)
      have O0_2 := Lib.hid (OwnG.below O0_1.out hal)
      have hb2 := hb1.alloc hb1.size (.cells #[] 75)
      clear hal
      generalize (u1).alloc (.cells #[] 75) = u2 at *
      refine hK.out _ _ ⟨below_keep hb2 _ _ p0, below_keep hb2 _ _ p1, below_keep hb2 _ _ p2⟩ (fun hHeld => ?_)
      clear hK K
      (try simp only [Act.put, List.getElem_toArray, List.getElem_cons_zero, List.getElem_cons_succ, List.setIfInBounds_toArray, List.set_cons_zero, List.set_cons_succ])
      refine wpAnyH_ready (rs := [3, 8]) (by kernel_rfl) (by simp) ?_
      refine AllReadyH.cons rfl (fun K hK => ?_) ?_
      · obtain ⟨v0, u3, hr0, o0, hg0, hl0⟩ := run_app_all fz_cells fz_one (by omega) Try.underlying24 H1.out H2.out H3.out H4.out rfl (u2) 24 O0_2.out hb2.size (c := c0) (h0.below FzR.stays (hx.trans (hb2.mono hx.size))) hln0 (by omega)
        refine step_append_run rfl (.tmp 3) (.tmp 5) 24 24 rfl rfl rfl hr0 ?_
        have hb3 := hb2.grown hg0 hb2.size (fun k hk => (OwnG.block_lt O0_2.out k hk).1)
        have D0_1_3 := Lib.hid (Dis.app O1_2.out (D1_0_2.out.symm) hl0)
        have O1_3 := Lib.hid (OwnG.keptD O1_2.out hg0 (D1_0_2.out.symm))
        have O0_3 := Lib.hid o0
        obtain ⟨B0, d0, e0, -, -, -⟩ := (show OwnZ u3 z.heap.size v0 _ from o0).sl
        subst e0
        clear o0 hr0 hg0 hl0
        refine hK.out _ _ ⟨below_keep hb3 _ _ p0, below_keep hb3 _ _ p1, below_keep hb3 _ _ p2⟩ (fun hHeld => ?_)
        clear hK K
        (try simp only [Act.put, List.getElem_toArray, List.getElem_cons_zero, List.getElem_cons_succ, List.setIfInBounds_toArray, List.set_cons_zero, List.set_cons_succ])
        refine wpAnyH_ready (rs := [7, 8]) (by kernel_rfl) (by simp) ?_
        refine AllReadyH.cons rfl (fun K hK => ?_) ?_
        · obtain ⟨v1, u4, hr1, o1, hg1, hl1⟩ := run_app_all fz_cells fz_one (by omega) Try.underlying24 H1.out H2.out H3.out H4.out rfl (u3) 24 O1_3.out hb3.size (c := c1) (h1.below FzR.stays (hx.trans (hb3.mono hx.size))) hln1 (by omega)
          refine step_append_run rfl (.tmp 7) (.tmp 9) 24 24 rfl rfl rfl hr1 ?_
          have hb4 := hb3.grown hg1 hb3.size (fun k hk => (OwnG.block_lt O1_3.out k hk).1)
          have D1_0_4 := Lib.hid (Dis.app O0_3.out (D0_1_3.out.symm) hl1)
          have O0_4 := Lib.hid (OwnG.keptD O0_3.out hg1 (D0_1_3.out.symm))
          have O1_4 := Lib.hid o1
          obtain ⟨B1, d1, e1, -, -, -⟩ := (show OwnZ u4 z.heap.size v1 _ from o1).sl
          subst e1
          clear o1 hr1 hg1 hl1
          refine hK.out _ _ ⟨below_keep hb4 _ _ p0, below_keep hb4 _ _ p1, below_keep hb4 _ _ p2⟩ (fun hHeld => ?_)
          clear hK K
          (try simp only [Act.put, List.getElem_toArray, List.getElem_cons_zero, List.getElem_cons_succ, List.setIfInBounds_toArray, List.set_cons_zero, List.set_cons_succ])
          refine wpAnyH_ready (rs := [8]) (by kernel_rfl) (by simp) ?_
          refine AllReadyH.cons rfl (fun K hK => ?_) AllReadyH.nil
          go_simp
          have hal : Below (u4).heap.size u4 ((u4).alloc (.cells #[] 36)) := (Below.refl _ _).alloc (Nat.le_refl _) _
          have O2_5 := Lib.hid (OwnG.lit (T := 36) (sz := 4) (f := Oz.cells) (u4) (base := z.heap.size) hb4.size)
          have D2_0_5 := Lib.hid (Dis.fresh O0_4.out 0 0)
          have O0_5 := Lib.hid (OwnG.below O0_4.out hal)
          have D2_1_5 := Lib.hid (Dis.fresh O1_4.out 0 0)
          have O1_5 := Lib.hid (OwnG.below O1_4.out hal)
          have hb5 := hb4.alloc hb4.size (.cells #[] 36)
          clear hal
          generalize (u4).alloc (.cells #[] 36) = u5 at *
          refine hK.out _ _ ⟨below_keep hb5 _ _ p0, below_keep hb5 _ _ p1, below_keep hb5 _ _ p2⟩ (fun hHeld => ?_)
          clear hK K
          (try simp only [Act.put, List.getElem_toArray, List.getElem_cons_zero, List.getElem_cons_succ, List.setIfInBounds_toArray, List.set_cons_zero, List.set_cons_succ])
          refine wpAnyH_ready (rs := [11]) (by kernel_rfl) (by simp) ?_
          refine AllReadyH.cons rfl (fun K hK => ?_) AllReadyH.nil
          obtain ⟨v2, u6, hr2, o2, hg2, hl2⟩ := run_app_all oz_cells oz_one (by omega) Try.underlying25 J1.out J2.out J3.out J4.out rfl (u5) 25 O2_5.out hb5.size (c := c2) (h2.below OzR.stays (hx.trans (hb5.mono hx.size))) hln2 (by omega)
          refine step_append_run rfl (.tmp 11) (.tmp 13) 25 25 rfl rfl rfl hr2 ?_
          have hb6 := hb5.grown hg2 hb5.size (fun k hk => (OwnG.block_lt O2_5.out k hk).1)
          have D2_0_6 := Lib.hid (Dis.app O0_5.out (D2_0_5.out) hl2)
          have O0_6 := Lib.hid (OwnG.keptD O0_5.out hg2 (D2_0_5.out))
          have D2_1_6 := Lib.hid (Dis.app O1_5.out (D2_1_5.out) hl2)
          have O1_6 := Lib.hid (OwnG.keptD O1_5.out hg2 (D2_1_5.out))
          have O2_6 := Lib.hid o2
          obtain ⟨B2, d2, e2, -, -, -⟩ := (show OwnO u6 z.heap.size v2 _ from o2).sl
          subst e2
          clear o2 hr2 hg2 hl2
          have rr := rb.below hb6
          obtain ⟨⟨r0, r1, r2⟩, ⟨f0, f1, f2⟩⟩ := rr.three
          have RR := Lib.hid rr
          clear rr
          refine hK.out _ _ ⟨below_keep hb6 _ _ p0, below_keep hb6 _ _ p1, below_keep hb6 _ _ p2⟩ (fun hHeld => ?_)
          clear hK K
          (try simp only [Act.put, List.getElem_toArray, List.getElem_cons_zero, List.getElem_cons_succ, List.setIfInBounds_toArray, List.set_cons_zero, List.set_cons_succ])
          refine wpAnyH_take (i := 12) (v := ?v10) rfl (by kernel_rfl) (by kernel_rfl) (by kernel_rfl) (fun _ _ _ h => h) (Or.inl ⟨by rfl, ?hy10⟩) hHeld ?rest10
          case hy10 => (intro w' hSw; (try dsimp only at hSw); first | (go_simp; done) | (go_simp; with_reducible rfl))
          simp only [Act.put, List.getElem_toArray, List.getElem_cons_zero, List.getElem_cons_succ, List.setIfInBounds_toArray, List.set_cons_zero, List.set_cons_succ]
          refine wpAnyH_ready (rs := [13]) (by kernel_rfl) (by simp) ?_
          refine AllReadyH.cons rfl (fun K hK => ?_) AllReadyH.nil
          go_simp
          refine hK.out _ _ ⟨cellOff (cellOff (cellOff (below_keep hb6 _ _ p0) (by simp)) (by simp)) (by simp), cellOff (cellOff (cellOff (below_keep hb6 _ _ p1) (by simp)) (by simp)) (by simp), cellOff (cellOff (cellOff (below_keep hb6 _ _ p2) (by simp)) (by simp)) (by simp)⟩ (fun hHeld => ?_)
          clear hK K
          (try simp only [Act.put, List.getElem_toArray, List.getElem_cons_zero, List.getElem_cons_succ, List.setIfInBounds_toArray, List.set_cons_zero, List.set_cons_succ])
          refine wpAnyH_done (by kernel_rfl) ?_ _
          refine NoPanic.normal ?_
          clear hHeld
          have hbn : Below w.heap.size w u6 := hx.trans (hb6.mono hx.size)
          clear r0 r1 r2 f0 f1 f2
          go_wp2_with fail
          have hr9 := (((RR.out).set 0 (.slice B0 x.live.length d0)).set 1 (.slice B1 x.safe.length d1)).set 2 (.slice B2 x.ops.length d2)
          refine bodyPost_ret (results_cell_row (p := 2) (ty := 27) rfl _ _ (w.heap.size + 1) 27 #[.slice B0 x.live.length d0, .slice B1 x.safe.length d1, .slice B2 x.ops.length d2] (0, 0) _ rfl hr9 Try.underlying27 rfl HI.out) rfl ⟨⟨_, rfl, ?_⟩, ?_⟩
          · refine DzA.mono (base := z.heap.size) ?_ (by omega)
            refine DzA.set (DzA.set (DzA.set (show DzA _ z.heap.size _ x from ⟨_, _, _, rfl, O0_6.out, O1_6.out, O2_6.out, D1_0_4.out.symm⟩) ?_ _) ?_ _) ?_ _ <;> (show w.heap.size + 1 < z.heap.size; omega)
          · exact ((hbn.setCell (Nat.le_succ _) _).setCell (Nat.le_succ _) _).setCell (Nat.le_succ _) _
        refine AllReadyH.cons rfl (fun K hK => ?_) AllReadyH.nil
        go_simp
        have hal : Below (u3).heap.size u3 ((u3).alloc (.cells #[] 36)) := (Below.refl _ _).alloc (Nat.le_refl _) _
        have O2_4 := Lib.hid (OwnG.lit (T := 36) (sz := 4) (f := Oz.cells) (u3) (base := z.heap.size) hb3.size)
        have D2_0_4 := Lib.hid (Dis.fresh O0_3.out 0 0)
        have O0_4 := Lib.hid (OwnG.below O0_3.out hal)
        have D2_1_4 := Lib.hid (Dis.fresh O1_3.out 0 0)
        have O1_4 := Lib.hid (OwnG.below O1_3.out hal)
        have hb4 := hb3.alloc hb3.size (.cells #[] 36)
        clear hal
        generalize (u3).alloc (.cells #[] 36) = u4 at *
        refine hK.out _ _ ⟨below_keep hb4 _ _ p0, below_keep hb4 _ _ p1, below_keep hb4 _ _ p2⟩ (fun hHeld => ?_)
        clear hK K
        (try simp only [Act.put, List.getElem_toArray, List.getElem_cons_zero, List.getElem_cons_succ, List.setIfInBounds_toArray, List.set_cons_zero, List.set_cons_succ])
        refine wpAnyH_ready (rs := [7]) (by kernel_rfl) (by simp) ?_
        refine AllReadyH.cons rfl (fun K hK => ?_) AllReadyH.nil
        obtain ⟨v1, u5, hr1, o1, hg1, hl1⟩ := run_app_all fz_cells fz_one (by omega) Try.underlying24 H1.out H2.out H3.out H4.out rfl (u4) 24 O1_4.out hb4.size (c := c1) (h1.below FzR.stays (hx.trans (hb4.mono hx.size))) hln1 (by omega)
        refine step_append_run rfl (.tmp 7) (.tmp 9) 24 24 rfl rfl rfl hr1 ?_
        have hb5 := hb4.grown hg1 hb4.size (fun k hk => (OwnG.block_lt O1_4.out k hk).1)
        have D1_0_5 := Lib.hid (Dis.app O0_4.out (D0_1_3.out.symm) hl1)
        have O0_5 := Lib.hid (OwnG.keptD O0_4.out hg1 (D0_1_3.out.symm))
        have D1_2_5 := Lib.hid (Dis.app O2_4.out (D2_1_4.out.symm) hl1)
        have O2_5 := Lib.hid (OwnG.keptD O2_4.out hg1 (D2_1_4.out.symm))
        have O1_5 := Lib.hid o1
        obtain ⟨B1, d1, e1, -, -, -⟩ := (show OwnZ u5 z.heap.size v1 _ from o1).sl
        subst e1
        clear o1 hr1 hg1 hl1
        refine hK.out _ _ ⟨below_keep hb5 _ _ p0, below_keep hb5 _ _ p1, below_keep hb5 _ _ p2⟩ (fun hHeld => ?_)
        clear hK K
        (try simp only [Act.put, List.getElem_toArray, List.getElem_cons_zero, List.getElem_cons_succ, List.setIfInBounds_toArray, List.set_cons_zero, List.set_cons_succ])
        refine wpAnyH_ready (rs := [11]) (by kernel_rfl) (by simp) ?_
        refine AllReadyH.cons rfl (fun K hK => ?_) AllReadyH.nil
        obtain ⟨v2, u6, hr2, o2, hg2, hl2⟩ := run_app_all oz_cells oz_one (by omega) Try.underlying25 J1.out J2.out J3.out J4.out rfl (u5) 25 O2_5.out hb5.size (c := c2) (h2.below OzR.stays (hx.trans (hb5.mono hx.size))) hln2 (by omega)
        refine step_append_run rfl (.tmp 11) (.tmp 13) 25 25 rfl rfl rfl hr2 ?_
        have hb6 := hb5.grown hg2 hb5.size (fun k hk => (OwnG.block_lt O2_5.out k hk).1)
        have D2_0_6 := Lib.hid (Dis.app O0_5.out (D2_0_4.out) hl2)
        have O0_6 := Lib.hid (OwnG.keptD O0_5.out hg2 (D2_0_4.out))
        have D2_1_6 := Lib.hid (Dis.app O1_5.out (D1_2_5.out.symm) hl2)
        have O1_6 := Lib.hid (OwnG.keptD O1_5.out hg2 (D1_2_5.out.symm))
        have O2_6 := Lib.hid o2
        obtain ⟨B2, d2, e2, -, -, -⟩ := (show OwnO u6 z.heap.size v2 _ from o2).sl
        subst e2
        clear o2 hr2 hg2 hl2
        have rr := rb.below hb6
        obtain ⟨⟨r0, r1, r2⟩, ⟨f0, f1, f2⟩⟩ := rr.three
        have RR := Lib.hid rr
        clear rr
        refine hK.out _ _ ⟨below_keep hb6 _ _ p0, below_keep hb6 _ _ p1, below_keep hb6 _ _ p2⟩ (fun hHeld => ?_)
        clear hK K
        (try simp only [Act.put, List.getElem_toArray, List.getElem_cons_zero, List.getElem_cons_succ, List.setIfInBounds_toArray, List.set_cons_zero, List.set_cons_succ])
        refine wpAnyH_take (i := 12) (v := ?v11) rfl (by kernel_rfl) (by kernel_rfl) (by kernel_rfl) (fun _ _ _ h => h) (Or.inl ⟨by rfl, ?hy11⟩) hHeld ?rest11
        case hy11 => (intro w' hSw; (try dsimp only at hSw); first | (go_simp; done) | (go_simp; with_reducible rfl))
        simp only [Act.put, List.getElem_toArray, List.getElem_cons_zero, List.getElem_cons_succ, List.setIfInBounds_toArray, List.set_cons_zero, List.set_cons_succ]
        refine wpAnyH_ready (rs := [13]) (by kernel_rfl) (by simp) ?_
        refine AllReadyH.cons rfl (fun K hK => ?_) AllReadyH.nil
        go_simp
        refine hK.out _ _ ⟨cellOff (cellOff (cellOff (below_keep hb6 _ _ p0) (by simp)) (by simp)) (by simp), cellOff (cellOff (cellOff (below_keep hb6 _ _ p1) (by simp)) (by simp)) (by simp), cellOff (cellOff (cellOff (below_keep hb6 _ _ p2) (by simp)) (by simp)) (by simp)⟩ (fun hHeld => ?_)
        clear hK K
        (try simp only [Act.put, List.getElem_toArray, List.getElem_cons_zero, List.getElem_cons_succ, List.setIfInBounds_toArray, List.set_cons_zero, List.set_cons_succ])
        refine wpAnyH_done (by kernel_rfl) ?_ _
        refine NoPanic.normal ?_
        clear hHeld
        have hbn : Below w.heap.size w u6 := hx.trans (hb6.mono hx.size)
        clear r0 r1 r2 f0 f1 f2
        go_wp2_with fail
        have hr9 := (((RR.out).set 0 (.slice B0 x.live.length d0)).set 1 (.slice B1 x.safe.length d1)).set 2 (.slice B2 x.ops.length d2)
        refine bodyPost_ret (results_cell_row (p := 2) (ty := 27) rfl _ _ (w.heap.size + 1) 27 #[.slice B0 x.live.length d0, .slice B1 x.safe.length d1, .slice B2 x.ops.length d2] (0, 0) _ rfl hr9 Try.underlying27 rfl HI.out) rfl ⟨⟨_, rfl, ?_⟩, ?_⟩
        · refine DzA.mono (base := z.heap.size) ?_ (by omega)
          refine DzA.set (DzA.set (DzA.set (show DzA _ z.heap.size _ x from ⟨_, _, _, rfl, O0_6.out, O1_6.out, O2_6.out, D1_0_5.out.symm⟩) ?_ _) ?_ _) ?_ _ <;> (show w.heap.size + 1 < z.heap.size; omega)
        · exact ((hbn.setCell (Nat.le_succ _) _).setCell (Nat.le_succ _) _).setCell (Nat.le_succ _) _
      refine AllReadyH.cons rfl (fun K hK => ?_) AllReadyH.nil
      go_simp
      have hal : Below (u2).heap.size u2 ((u2).alloc (.cells #[] 36)) := (Below.refl _ _).alloc (Nat.le_refl _) _
      have O2_3 := Lib.hid (OwnG.lit (T := 36) (sz := 4) (f := Oz.cells) (u2) (base := z.heap.size) hb2.size)
      have D2_0_3 := Lib.hid (Dis.fresh O0_2.out 0 0)
      have O0_3 := Lib.hid (OwnG.below O0_2.out hal)
      have D2_1_3 := Lib.hid (Dis.fresh O1_2.out 0 0)
      have O1_3 := Lib.hid (OwnG.below O1_2.out hal)
      have hb3 := hb2.alloc hb2.size (.cells #[] 36)
      clear hal
      generalize (u2).alloc (.cells #[] 36) = u3 at *
      refine hK.out _ _ ⟨below_keep hb3 _ _ p0, below_keep hb3 _ _ p1, below_keep hb3 _ _ p2⟩ (fun hHeld => ?_)
      clear hK K
      (try simp only [Act.put, List.getElem_toArray, List.getElem_cons_zero, List.getElem_cons_succ, List.setIfInBounds_toArray, List.set_cons_zero, List.set_cons_succ])
      refine wpAnyH_ready (rs := [3]) (by kernel_rfl) (by simp) ?_
      refine AllReadyH.cons rfl (fun K hK => ?_) AllReadyH.nil
      obtain ⟨v0, u4, hr0, o0, hg0, hl0⟩ := run_app_all fz_cells fz_one (by omega) Try.underlying24 H1.out H2.out H3.out H4.out rfl (u3) 24 O0_3.out hb3.size (c := c0) (h0.below FzR.stays (hx.trans (hb3.mono hx.size))) hln0 (by omega)
      refine step_append_run rfl (.tmp 3) (.tmp 5) 24 24 rfl rfl rfl hr0 ?_
      have hb4 := hb3.grown hg0 hb3.size (fun k hk => (OwnG.block_lt O0_3.out k hk).1)
      have D0_1_4 := Lib.hid (Dis.app O1_3.out (D1_0_2.out.symm) hl0)
      have O1_4 := Lib.hid (OwnG.keptD O1_3.out hg0 (D1_0_2.out.symm))
      have D0_2_4 := Lib.hid (Dis.app O2_3.out (D2_0_3.out.symm) hl0)
      have O2_4 := Lib.hid (OwnG.keptD O2_3.out hg0 (D2_0_3.out.symm))
      have O0_4 := Lib.hid o0
      obtain ⟨B0, d0, e0, -, -, -⟩ := (show OwnZ u4 z.heap.size v0 _ from o0).sl
      subst e0
      clear o0 hr0 hg0 hl0
      refine hK.out _ _ ⟨below_keep hb4 _ _ p0, below_keep hb4 _ _ p1, below_keep hb4 _ _ p2⟩ (fun hHeld => ?_)
      clear hK K
      (try simp only [Act.put, List.getElem_toArray, List.getElem_cons_zero, List.getElem_cons_succ, List.setIfInBounds_toArray, List.set_cons_zero, List.set_cons_succ])
      refine wpAnyH_ready (rs := [7]) (by kernel_rfl) (by simp) ?_
      refine AllReadyH.cons rfl (fun K hK => ?_) AllReadyH.nil
      obtain ⟨v1, u5, hr1, o1, hg1, hl1⟩ := run_app_all fz_cells fz_one (by omega) Try.underlying24 H1.out H2.out H3.out H4.out rfl (u4) 24 O1_4.out hb4.size (c := c1) (h1.below FzR.stays (hx.trans (hb4.mono hx.size))) hln1 (by omega)
      refine step_append_run rfl (.tmp 7) (.tmp 9) 24 24 rfl rfl rfl hr1 ?_
      have hb5 := hb4.grown hg1 hb4.size (fun k hk => (OwnG.block_lt O1_4.out k hk).1)
      have D1_0_5 := Lib.hid (Dis.app O0_4.out (D0_1_4.out.symm) hl1)
      have O0_5 := Lib.hid (OwnG.keptD O0_4.out hg1 (D0_1_4.out.symm))
      have D1_2_5 := Lib.hid (Dis.app O2_4.out (D2_1_3.out.symm) hl1)
      have O2_5 := Lib.hid (OwnG.keptD O2_4.out hg1 (D2_1_3.out.symm))
      have O1_5 := Lib.hid o1
      obtain ⟨B1, d1, e1, -, -, -⟩ := (show OwnZ u5 z.heap.size v1 _ from o1).sl
      subst e1
      clear o1 hr1 hg1 hl1
      refine hK.out _ _ ⟨below_keep hb5 _ _ p0, below_keep hb5 _ _ p1, below_keep hb5 _ _ p2⟩ (fun hHeld => ?_)
      clear hK K
      (try simp only [Act.put, List.getElem_toArray, List.getElem_cons_zero, List.getElem_cons_succ, List.setIfInBounds_toArray, List.set_cons_zero, List.set_cons_succ])
      refine wpAnyH_ready (rs := [11]) (by kernel_rfl) (by simp) ?_
      refine AllReadyH.cons rfl (fun K hK => ?_) AllReadyH.nil
      obtain ⟨v2, u6, hr2, o2, hg2, hl2⟩ := run_app_all oz_cells oz_one (by omega) Try.underlying25 J1.out J2.out J3.out J4.out rfl (u5) 25 O2_5.out hb5.size (c := c2) (h2.below OzR.stays (hx.trans (hb5.mono hx.size))) hln2 (by omega)
      refine step_append_run rfl (.tmp 11) (.tmp 13) 25 25 rfl rfl rfl hr2 ?_
      have hb6 := hb5.grown hg2 hb5.size (fun k hk => (OwnG.block_lt O2_5.out k hk).1)
      have D2_0_6 := Lib.hid (Dis.app O0_5.out (D0_2_4.out.symm) hl2)
      have O0_6 := Lib.hid (OwnG.keptD O0_5.out hg2 (D0_2_4.out.symm))
      have D2_1_6 := Lib.hid (Dis.app O1_5.out (D1_2_5.out.symm) hl2)
      have O1_6 := Lib.hid (OwnG.keptD O1_5.out hg2 (D1_2_5.out.symm))
      have O2_6 := Lib.hid o2
      obtain ⟨B2, d2, e2, -, -, -⟩ := (show OwnO u6 z.heap.size v2 _ from o2).sl
      subst e2
      clear o2 hr2 hg2 hl2
      have rr := rb.below hb6
      obtain ⟨⟨r0, r1, r2⟩, ⟨f0, f1, f2⟩⟩ := rr.three
      have RR := Lib.hid rr
      clear rr
      refine hK.out _ _ ⟨below_keep hb6 _ _ p0, below_keep hb6 _ _ p1, below_keep hb6 _ _ p2⟩ (fun hHeld => ?_)
      clear hK K
      (try simp only [Act.put, List.getElem_toArray, List.getElem_cons_zero, List.getElem_cons_succ, List.setIfInBounds_toArray, List.set_cons_zero, List.set_cons_succ])
      refine wpAnyH_take (i := 12) (v := ?v12) rfl (by kernel_rfl) (by kernel_rfl) (by kernel_rfl) (fun _ _ _ h => h) (Or.inl ⟨by rfl, ?hy12⟩) hHeld ?rest12
      case hy12 => (intro w' hSw; (try dsimp only at hSw); first | (go_simp; done) | (go_simp; with_reducible rfl))
      simp only [Act.put, List.getElem_toArray, List.getElem_cons_zero, List.getElem_cons_succ, List.setIfInBounds_toArray, List.set_cons_zero, List.set_cons_succ]
      refine wpAnyH_ready (rs := [13]) (by kernel_rfl) (by simp) ?_
      refine AllReadyH.cons rfl (fun K hK => ?_) AllReadyH.nil
      go_simp
      refine hK.out _ _ ⟨cellOff (cellOff (cellOff (below_keep hb6 _ _ p0) (by simp)) (by simp)) (by simp), cellOff (cellOff (cellOff (below_keep hb6 _ _ p1) (by simp)) (by simp)) (by simp), cellOff (cellOff (cellOff (below_keep hb6 _ _ p2) (by simp)) (by simp)) (by simp)⟩ (fun hHeld => ?_)
      clear hK K
      (try simp only [Act.put, List.getElem_toArray, List.getElem_cons_zero, List.getElem_cons_succ, List.setIfInBounds_toArray, List.set_cons_zero, List.set_cons_succ])
      refine wpAnyH_done (by kernel_rfl) ?_ _
      refine NoPanic.normal ?_
      clear hHeld
      have hbn : Below w.heap.size w u6 := hx.trans (hb6.mono hx.size)
      clear r0 r1 r2 f0 f1 f2
      go_wp2_with fail
      have hr9 := (((RR.out).set 0 (.slice B0 x.live.length d0)).set 1 (.slice B1 x.safe.length d1)).set 2 (.slice B2 x.ops.length d2)
      refine bodyPost_ret (results_cell_row (p := 2) (ty := 27) rfl _ _ (w.heap.size + 1) 27 #[.slice B0 x.live.length d0, .slice B1 x.safe.length d1, .slice B2 x.ops.length d2] (0, 0) _ rfl hr9 Try.underlying27 rfl HI.out) rfl ⟨⟨_, rfl, ?_⟩, ?_⟩
      · refine DzA.mono (base := z.heap.size) ?_ (by omega)
        refine DzA.set (DzA.set (DzA.set (show DzA _ z.heap.size _ x from ⟨_, _, _, rfl, O0_6.out, O1_6.out, O2_6.out, D1_0_5.out.symm⟩) ?_ _) ?_ _) ?_ _ <;> (show w.heap.size + 1 < z.heap.size; omega)
      · exact ((hbn.setCell (Nat.le_succ _) _).setCell (Nat.le_succ _) _).setCell (Nat.le_succ _) _
    refine AllReadyH.cons rfl (fun K hK => ?_) AllReadyH.nil
    go_simp
    have hal : Below (u1).heap.size u1 ((u1).alloc (.cells #[] 36)) := (Below.refl _ _).alloc (Nat.le_refl _) _
    have O2_2 := Lib.hid (OwnG.lit (T := 36) (sz := 4) (f := Oz.cells) (u1) (base := z.heap.size) hb1.size)
    have D2_0_2 := Lib.hid (Dis.fresh O0_1.out 0 0)
    have O0_2 := Lib.hid (OwnG.below O0_1.out hal)
    have hb2 := hb1.alloc hb1.size (.cells #[] 36)
    clear hal
    generalize (u1).alloc (.cells #[] 36) = u2 at *
    refine hK.out _ _ ⟨below_keep hb2 _ _ p0, below_keep hb2 _ _ p1, below_keep hb2 _ _ p2⟩ (fun hHeld => ?_)
    clear hK K
    (try simp only [Act.put, List.getElem_toArray, List.getElem_cons_zero, List.getElem_cons_succ, List.setIfInBounds_toArray, List.set_cons_zero, List.set_cons_succ])
    refine wpAnyH_ready (rs := [3, 4]) (by kernel_rfl) (by simp) ?_
    refine AllReadyH.cons rfl (fun K hK => ?_) ?_
    · obtain ⟨v0, u3, hr0, o0, hg0, hl0⟩ := run_app_all fz_cells fz_one (by omega) Try.underlying24 H1.out H2.out H3.out H4.out rfl (u2) 24 O0_2.out hb2.size (c := c0) (h0.below FzR.stays (hx.trans (hb2.mono hx.size))) hln0 (by omega)
      refine step_append_run rfl (.tmp 3) (.tmp 5) 24 24 rfl rfl rfl hr0 ?_
      have hb3 := hb2.grown hg0 hb2.size (fun k hk => (OwnG.block_lt O0_2.out k hk).1)
      have D0_2_3 := Lib.hid (Dis.app O2_2.out (D2_0_2.out.symm) hl0)
      have O2_3 := Lib.hid (OwnG.keptD O2_2.out hg0 (D2_0_2.out.symm))
      have O0_3 := Lib.hid o0
      obtain ⟨B0, d0, e0, -, -, -⟩ := (show OwnZ u3 z.heap.size v0 _ from o0).sl
      subst e0
      clear o0 hr0 hg0 hl0
      refine hK.out _ _ ⟨below_keep hb3 _ _ p0, below_keep hb3 _ _ p1, below_keep hb3 _ _ p2⟩ (fun hHeld => ?_)
      clear hK K
      (try simp only [Act.put, List.getElem_toArray, List.getElem_cons_zero, List.getElem_cons_succ, List.setIfInBounds_toArray, List.set_cons_zero, List.set_cons_succ])
      refine wpAnyH_ready (rs := [4]) (by kernel_rfl) (by simp) ?_
      refine AllReadyH.cons rfl (fun K hK => ?_) AllReadyH.nil
      go_simp
      have hal : Below (u3).heap.size u3 ((u3).alloc (.cells #[] 75)) := (Below.refl _ _).alloc (Nat.le_refl _) _
      have O1_4 := Lib.hid (OwnG.lit (T := 75) (sz := 2) (f := Fz.cells) (u3) (base := z.heap.size) hb3.size)
      have D1_0_4 := Lib.hid (Dis.fresh O0_3.out 0 0)
      have O0_4 := Lib.hid (OwnG.below O0_3.out hal)
      have D1_2_4 := Lib.hid (Dis.fresh O2_3.out 0 0)
      have O2_4 := Lib.hid (OwnG.below O2_3.out hal)
      have hb4 := hb3.alloc hb3.size (.cells #[] 75)
      clear hal
      generalize (u3).alloc (.cells #[] 75) = u4 at *
      refine hK.out _ _ ⟨below_keep hb4 _ _ p0, below_keep hb4 _ _ p1, below_keep hb4 _ _ p2⟩ (fun hHeld => ?_)
      clear hK K
      (try simp only [Act.put, List.getElem_toArray, List.getElem_cons_zero, List.getElem_cons_succ, List.setIfInBounds_toArray, List.set_cons_zero, List.set_cons_succ])
      refine wpAnyH_ready (rs := [7]) (by kernel_rfl) (by simp) ?_
      refine AllReadyH.cons rfl (fun K hK => ?_) AllReadyH.nil
      obtain ⟨v1, u5, hr1, o1, hg1, hl1⟩ := run_app_all fz_cells fz_one (by omega) Try.underlying24 H1.out H2.out H3.out H4.out rfl (u4) 24 O1_4.out hb4.size (c := c1) (h1.below FzR.stays (hx.trans (hb4.mono hx.size))) hln1 (by omega)
      refine step_append_run rfl (.tmp 7) (.tmp 9) 24 24 rfl rfl rfl hr1 ?_
      have hb5 := hb4.grown hg1 hb4.size (fun k hk => (OwnG.block_lt O1_4.out k hk).1)
      have D1_0_5 := Lib.hid (Dis.app O0_4.out (D1_0_4.out) hl1)
      have O0_5 := Lib.hid (OwnG.keptD O0_4.out hg1 (D1_0_4.out))
      have D1_2_5 := Lib.hid (Dis.app O2_4.out (D1_2_4.out) hl1)
      have O2_5 := Lib.hid (OwnG.keptD O2_4.out hg1 (D1_2_4.out))
      have O1_5 := Lib.hid o1
      obtain ⟨B1, d1, e1, -, -, -⟩ := (show OwnZ u5 z.heap.size v1 _ from o1).sl
      subst e1
      clear o1 hr1 hg1 hl1
      refine hK.out _ _ ⟨below_keep hb5 _ _ p0, below_keep hb5 _ _ p1, below_keep hb5 _ _ p2⟩ (fun hHeld => ?_)
      clear hK K
      (try simp only [Act.put, List.getElem_toArray, List.getElem_cons_zero, List.getElem_cons_succ, List.setIfInBounds_toArray, List.set_cons_zero, List.set_cons_succ])
      refine wpAnyH_ready (rs := [11]) (by kernel_rfl) (by simp) ?_
      refine AllReadyH.cons rfl (fun K hK => ?_) AllReadyH.nil
      obtain ⟨v2, u6, hr2, o2, hg2, hl2⟩ := run_app_all oz_cells oz_one (by omega) Try.underlying25 J1.out J2.out J3.out J4.out rfl (u5) 25 O2_5.out hb5.size (c := c2) (h2.below OzR.stays (hx.trans (hb5.mono hx.size))) hln2 (by omega)
      refine step_append_run rfl (.tmp 11) (.tmp 13) 25 25 rfl rfl rfl hr2 ?_
      have hb6 := hb5.grown hg2 hb5.size (fun k hk => (OwnG.block_lt O2_5.out k hk).1)
      have D2_0_6 := Lib.hid (Dis.app O0_5.out (D0_2_3.out.symm) hl2)
      have O0_6 := Lib.hid (OwnG.keptD O0_5.out hg2 (D0_2_3.out.symm))
      have D2_1_6 := Lib.hid (Dis.app O1_5.out (D1_2_5.out.symm) hl2)
      have O1_6 := Lib.hid (OwnG.keptD O1_5.out hg2 (D1_2_5.out.symm))
      have O2_6 := Lib.hid o2
      obtain ⟨B2, d2, e2, -, -, -⟩ := (show OwnO u6 z.heap.size v2 _ from o2).sl
      subst e2
      clear o2 hr2 hg2 hl2
      have rr := rb.below hb6
      obtain ⟨⟨r0, r1, r2⟩, ⟨f0, f1, f2⟩⟩ := rr.three
      have RR := Lib.hid rr
      clear rr
      refine hK.out _ _ ⟨below_keep hb6 _ _ p0, below_keep hb6 _ _ p1, below_keep hb6 _ _ p2⟩ (fun hHeld => ?_)
      clear hK K
      (try simp only [Act.put, List.getElem_toArray, List.getElem_cons_zero, List.getElem_cons_succ, List.setIfInBounds_toArray, List.set_cons_zero, List.set_cons_succ])
      refine wpAnyH_take (i := 12) (v := ?v13) rfl (by kernel_rfl) (by kernel_rfl) (by kernel_rfl) (fun _ _ _ h => h) (Or.inl ⟨by rfl, ?hy13⟩) hHeld ?rest13
      case hy13 => (intro w' hSw; (try dsimp only at hSw); first | (go_simp; done) | (go_simp; with_reducible rfl))
      simp only [Act.put, List.getElem_toArray, List.getElem_cons_zero, List.getElem_cons_succ, List.setIfInBounds_toArray, List.set_cons_zero, List.set_cons_succ]
      refine wpAnyH_ready (rs := [13]) (by kernel_rfl) (by simp) ?_
      refine AllReadyH.cons rfl (fun K hK => ?_) AllReadyH.nil
      go_simp
      refine hK.out _ _ ⟨cellOff (cellOff (cellOff (below_keep hb6 _ _ p0) (by simp)) (by simp)) (by simp), cellOff (cellOff (cellOff (below_keep hb6 _ _ p1) (by simp)) (by simp)) (by simp), cellOff (cellOff (cellOff (below_keep hb6 _ _ p2) (by simp)) (by simp)) (by simp)⟩ (fun hHeld => ?_)
      clear hK K
      (try simp only [Act.put, List.getElem_toArray, List.getElem_cons_zero, List.getElem_cons_succ, List.setIfInBounds_toArray, List.set_cons_zero, List.set_cons_succ])
      refine wpAnyH_done (by kernel_rfl) ?_ _
      refine NoPanic.normal ?_
      clear hHeld
      have hbn : Below w.heap.size w u6 := hx.trans (hb6.mono hx.size)
      clear r0 r1 r2 f0 f1 f2
      go_wp2_with fail
      have hr9 := (((RR.out).set 0 (.slice B0 x.live.length d0)).set 1 (.slice B1 x.safe.length d1)).set 2 (.slice B2 x.ops.length d2)
      refine bodyPost_ret (results_cell_row (p := 2) (ty := 27) rfl _ _ (w.heap.size + 1) 27 #[.slice B0 x.live.length d0, .slice B1 x.safe.length d1, .slice B2 x.ops.length d2] (0, 0) _ rfl hr9 Try.underlying27 rfl HI.out) rfl ⟨⟨_, rfl, ?_⟩, ?_⟩
      · refine DzA.mono (base := z.heap.size) ?_ (by omega)
        refine DzA.set (DzA.set (DzA.set (show DzA _ z.heap.size _ x from ⟨_, _, _, rfl, O0_6.out, O1_6.out, O2_6.out, D1_0_5.out.symm⟩) ?_ _) ?_ _) ?_ _ <;> (show w.heap.size + 1 < z.heap.size; omega)
      · exact ((hbn.setCell (Nat.le_succ _) _).setCell (Nat.le_succ _) _).setCell (Nat.le_succ _) _
    refine AllReadyH.cons rfl (fun K hK => ?_) AllReadyH.nil
    go_simp
    have hal : Below (u2).heap.size u2 ((u2).alloc (.cells #[] 75)) := (Below.refl _ _).alloc (Nat.le_refl _) _
    have O1_3 := Lib.hid (OwnG.lit (T := 75) (sz := 2) (f := Fz.cells) (u2) (base := z.heap.size) hb2.size)
    have D1_0_3 := Lib.hid (Dis.fresh O0_2.out 0 0)
    have O0_3 := Lib.hid (OwnG.below O0_2.out hal)
    have D1_2_3 := Lib.hid (Dis.fresh O2_2.out 0 0)
    have O2_3 := Lib.hid (OwnG.below O2_2.out hal)
    have hb3 := hb2.alloc hb2.size (.cells #[] 75)
    clear hal
    generalize (u2).alloc (.cells #[] 75) = u3 at *
    refine hK.out _ _ ⟨below_keep hb3 _ _ p0, below_keep hb3 _ _ p1, below_keep hb3 _ _ p2⟩ (fun hHeld => ?_)
    clear hK K
    (try simp only [Act.put, List.getElem_toArray, List.getElem_cons_zero, List.getElem_cons_succ, List.setIfInBounds_toArray, List.set_cons_zero, List.set_cons_succ])
    refine wpAnyH_ready (rs := [3]) (by kernel_rfl) (by simp) ?_
    refine AllReadyH.cons rfl (fun K hK => ?_) AllReadyH.nil
    obtain ⟨v0, u4, hr0, o0, hg0, hl0⟩ := run_app_all fz_cells fz_one (by omega) Try.underlying24 H1.out H2.out H3.out H4.out rfl (u3) 24 O0_3.out hb3.size (c := c0) (h0.below FzR.stays (hx.trans (hb3.mono hx.size))) hln0 (by omega)
    refine step_append_run rfl (.tmp 3) (.tmp 5) 24 24 rfl rfl rfl hr0 ?_
    have hb4 := hb3.grown hg0 hb3.size (fun k hk => (OwnG.block_lt O0_3.out k hk).1)
    have D0_2_4 := Lib.hid (Dis.app O2_3.out (D2_0_2.out.symm) hl0)
    have O2_4 := Lib.hid (OwnG.keptD O2_3.out hg0 (D2_0_2.out.symm))
    have D0_1_4 := Lib.hid (Dis.app O1_3.out (D1_0_3.out.symm) hl0)
    have O1_4 := Lib.hid (OwnG.keptD O1_3.out hg0 (D1_0_3.out.symm))
    have O0_4 := Lib.hid o0
    obtain ⟨B0, d0, e0, -, -, -⟩ := (show OwnZ u4 z.heap.size v0 _ from o0).sl
    subst e0
    clear o0 hr0 hg0 hl0
    refine hK.out _ _ ⟨below_keep hb4 _ _ p0, below_keep hb4 _ _ p1, below_keep hb4 _ _ p2⟩ (fun hHeld => ?_)
    clear hK K
    (try simp only [Act.put, List.getElem_toArray, List.getElem_cons_zero, List.getElem_cons_succ, List.setIfInBounds_toArray, List.set_cons_zero, List.set_cons_succ])
    refine wpAnyH_ready (rs := [7]) (by kernel_rfl) (by simp) ?_
    refine AllReadyH.cons rfl (fun K hK => ?_) AllReadyH.nil
    obtain ⟨v1, u5, hr1, o1, hg1, hl1⟩ := run_app_all fz_cells fz_one (by omega) Try.underlying24 H1.out H2.out H3.out H4.out rfl (u4) 24 O1_4.out hb4.size (c := c1) (h1.below FzR.stays (hx.trans (hb4.mono hx.size))) hln1 (by omega)
    refine step_append_run rfl (.tmp 7) (.tmp 9) 24 24 rfl rfl rfl hr1 ?_
    have hb5 := hb4.grown hg1 hb4.size (fun k hk => (OwnG.block_lt O1_4.out k hk).1)
    have D1_0_5 := Lib.hid (Dis.app O0_4.out (D0_1_4.out.symm) hl1)
    have O0_5 := Lib.hid (OwnG.keptD O0_4.out hg1 (D0_1_4.out.symm))
    have D1_2_5 := Lib.hid (Dis.app O2_4.out (D1_2_3.out) hl1)
    have O2_5 := Lib.hid (OwnG.keptD O2_4.out hg1 (D1_2_3.out))
    have O1_5 := Lib.hid o1
    obtain ⟨B1, d1, e1, -, -, -⟩ := (show OwnZ u5 z.heap.size v1 _ from o1).sl
    subst e1
    clear o1 hr1 hg1 hl1
    refine hK.out _ _ ⟨below_keep hb5 _ _ p0, below_keep hb5 _ _ p1, below_keep hb5 _ _ p2⟩ (fun hHeld => ?_)
    clear hK K
    (try simp only [Act.put, List.getElem_toArray, List.getElem_cons_zero, List.getElem_cons_succ, List.setIfInBounds_toArray, List.set_cons_zero, List.set_cons_succ])
    refine wpAnyH_ready (rs := [11]) (by kernel_rfl) (by simp) ?_
    refine AllReadyH.cons rfl (fun K hK => ?_) AllReadyH.nil
    obtain ⟨v2, u6, hr2, o2, hg2, hl2⟩ := run_app_all oz_cells oz_one (by omega) Try.underlying25 J1.out J2.out J3.out J4.out rfl (u5) 25 O2_5.out hb5.size (c := c2) (h2.below OzR.stays (hx.trans (hb5.mono hx.size))) hln2 (by omega)
    refine step_append_run rfl (.tmp 11) (.tmp 13) 25 25 rfl rfl rfl hr2 ?_
    have hb6 := hb5.grown hg2 hb5.size (fun k hk => (OwnG.block_lt O2_5.out k hk).1)
    have D2_0_6 := Lib.hid (Dis.app O0_5.out (D0_2_4.out.symm) hl2)
    have O0_6 := Lib.hid (OwnG.keptD O0_5.out hg2 (D0_2_4.out.symm))
    have D2_1_6 := Lib.hid (Dis.app O1_5.out (D1_2_5.out.symm) hl2)
    have O1_6 := Lib.hid (OwnG.keptD O1_5.out hg2 (D1_2_5.out.symm))
    have O2_6 := Lib.hid o2
    obtain ⟨B2, d2, e2, -, -, -⟩ := (show OwnO u6 z.heap.size v2 _ from o2).sl
    subst e2
    clear o2 hr2 hg2 hl2
    have rr := rb.below hb6
    obtain ⟨⟨r0, r1, r2⟩, ⟨f0, f1, f2⟩⟩ := rr.three
    have RR := Lib.hid rr
    clear rr
    refine hK.out _ _ ⟨below_keep hb6 _ _ p0, below_keep hb6 _ _ p1, below_keep hb6 _ _ p2⟩ (fun hHeld => ?_)
    clear hK K
    (try simp only [Act.put, List.getElem_toArray, List.getElem_cons_zero, List.getElem_cons_succ, List.setIfInBounds_toArray, List.set_cons_zero, List.set_cons_succ])
    refine wpAnyH_take (i := 12) (v := ?v14) rfl (by kernel_rfl) (by kernel_rfl) (by kernel_rfl) (fun _ _ _ h => h) (Or.inl ⟨by rfl, ?hy14⟩) hHeld ?rest14
    case hy14 => (intro w' hSw; (try dsimp only at hSw); first | (go_simp; done) | (go_simp; with_reducible rfl))
    simp only [Act.put, List.getElem_toArray, List.getElem_cons_zero, List.getElem_cons_succ, List.setIfInBounds_toArray, List.set_cons_zero, List.set_cons_succ]
    refine wpAnyH_ready (rs := [13]) (by kernel_rfl) (by simp) ?_
    refine AllReadyH.cons rfl (fun K hK => ?_) AllReadyH.nil
    go_simp
    refine hK.out _ _ ⟨cellOff (cellOff (cellOff (below_keep hb6 _ _ p0) (by simp)) (by simp)) (by simp), cellOff (cellOff (cellOff (below_keep hb6 _ _ p1) (by simp)) (by simp)) (by simp), cellOff (cellOff (cellOff (below_keep hb6 _ _ p2) (by simp)) (by simp)) (by simp)⟩ (fun hHeld => ?_)
    clear hK K
    (try simp only [Act.put, List.getElem_toArray, List.getElem_cons_zero, List.getElem_cons_succ, List.setIfInBounds_toArray, List.set_cons_zero, List.set_cons_succ])
    refine wpAnyH_done (by kernel_rfl) ?_ _
    refine NoPanic.normal ?_
    clear hHeld
    have hbn : Below w.heap.size w u6 := hx.trans (hb6.mono hx.size)
    clear r0 r1 r2 f0 f1 f2
    go_wp2_with fail
    have hr9 := (((RR.out).set 0 (.slice B0 x.live.length d0)).set 1 (.slice B1 x.safe.length d1)).set 2 (.slice B2 x.ops.length d2)
    refine bodyPost_ret (results_cell_row (p := 2) (ty := 27) rfl _ _ (w.heap.size + 1) 27 #[.slice B0 x.live.length d0, .slice B1 x.safe.length d1, .slice B2 x.ops.length d2] (0, 0) _ rfl hr9 Try.underlying27 rfl HI.out) rfl ⟨⟨_, rfl, ?_⟩, ?_⟩
    · refine DzA.mono (base := z.heap.size) ?_ (by omega)
      refine DzA.set (DzA.set (DzA.set (show DzA _ z.heap.size _ x from ⟨_, _, _, rfl, O0_6.out, O1_6.out, O2_6.out, D1_0_5.out.symm⟩) ?_ _) ?_ _) ?_ _ <;> (show w.heap.size + 1 < z.heap.size; omega)
    · exact ((hbn.setCell (Nat.le_succ _) _).setCell (Nat.le_succ _) _).setCell (Nat.le_succ _) _
  refine AllReadyH.cons rfl (fun K hK => ?_) ?_
  · go_simp
    have hal : Below (u0).heap.size u0 ((u0).alloc (.cells #[] 75)) := (Below.refl _ _).alloc (Nat.le_refl _) _
    have O1_1 := Lib.hid (OwnG.lit (T := 75) (sz := 2) (f := Fz.cells) (u0) (base := z.heap.size) hb0.size)
    have hb1 := hb0.alloc hb0.size (.cells #[] 75)
    clear hal
    generalize (u0).alloc (.cells #[] 75) = u1 at *
    refine hK.out _ _ ⟨below_keep hb1 _ _ p0, below_keep hb1 _ _ p1, below_keep hb1 _ _ p2⟩ (fun hHeld => ?_)
    clear hK K
    (try simp only [Act.put, List.getElem_toArray, List.getElem_cons_zero, List.getElem_cons_succ, List.setIfInBounds_toArray, List.set_cons_zero, List.set_cons_succ])
    refine wpAnyH_ready (rs := [0, 8]) (by kernel_rfl) (by simp) ?_
    refine AllReadyH.cons rfl (fun K hK => ?_) ?_
    · go_simp
      have hal : Below (u1).heap.size u1 ((u1).alloc (.cells #[] 75)) := (Below.refl _ _).alloc (Nat.le_refl _) _
      have O0_2 := Lib.hid (OwnG.lit (T := 75) (sz := 2) (f := Fz.cells) (u1) (base := z.heap.size) hb1.size)
      have D0_1_2 := Lib.hid (Dis.fresh O1_1.out 0 0)
      have O1_2 := Lib.hid (OwnG.below O1_1.out hal)
      have hb2 := hb1.alloc hb1.size (.cells #[] 75)
      clear hal
      generalize (u1).alloc (.cells #[] 75) = u2 at *
      refine hK.out _ _ ⟨below_keep hb2 _ _ p0, below_keep hb2 _ _ p1, below_keep hb2 _ _ p2⟩ (fun hHeld => ?_)
      clear hK K
      (try simp only [Act.put, List.getElem_toArray, List.getElem_cons_zero, List.getElem_cons_succ, List.setIfInBounds_toArray, List.set_cons_zero, List.set_cons_succ])
      refine wpAnyH_ready (rs := [3, 8]) (by kernel_rfl) (by simp) ?_
      refine AllReadyH.cons rfl (fun K hK => ?_) ?_
      · obtain ⟨v0, u3, hr0, o0, hg0, hl0⟩ := run_app_all fz_cells fz_one (by omega) Try.underlying24 H1.out H2.out H3.out H4.out rfl (u2) 24 O0_2.out hb2.size (c := c0) (h0.below FzR.stays (hx.trans (hb2.mono hx.size))) hln0 (by omega)
        refine step_append_run rfl (.tmp 3) (.tmp 5) 24 24 rfl rfl rfl hr0 ?_
        have hb3 := hb2.grown hg0 hb2.size (fun k hk => (OwnG.block_lt O0_2.out k hk).1)
        have D0_1_3 := Lib.hid (Dis.app O1_2.out (D0_1_2.out) hl0)
        have O1_3 := Lib.hid (OwnG.keptD O1_2.out hg0 (D0_1_2.out))
        have O0_3 := Lib.hid o0
        obtain ⟨B0, d0, e0, -, -, -⟩ := (show OwnZ u3 z.heap.size v0 _ from o0).sl
        subst e0
        clear o0 hr0 hg0 hl0
        refine hK.out _ _ ⟨below_keep hb3 _ _ p0, below_keep hb3 _ _ p1, below_keep hb3 _ _ p2⟩ (fun hHeld => ?_)
        clear hK K
        (try simp only [Act.put, List.getElem_toArray, List.getElem_cons_zero, List.getElem_cons_succ, List.setIfInBounds_toArray, List.set_cons_zero, List.set_cons_succ])
        refine wpAnyH_ready (rs := [7, 8]) (by kernel_rfl) (by simp) ?_
        refine AllReadyH.cons rfl (fun K hK => ?_) ?_
        · obtain ⟨v1, u4, hr1, o1, hg1, hl1⟩ := run_app_all fz_cells fz_one (by omega) Try.underlying24 H1.out H2.out H3.out H4.out rfl (u3) 24 O1_3.out hb3.size (c := c1) (h1.below FzR.stays (hx.trans (hb3.mono hx.size))) hln1 (by omega)
          refine step_append_run rfl (.tmp 7) (.tmp 9) 24 24 rfl rfl rfl hr1 ?_
          have hb4 := hb3.grown hg1 hb3.size (fun k hk => (OwnG.block_lt O1_3.out k hk).1)
          have D1_0_4 := Lib.hid (Dis.app O0_3.out (D0_1_3.out.symm) hl1)
          have O0_4 := Lib.hid (OwnG.keptD O0_3.out hg1 (D0_1_3.out.symm))
          have O1_4 := Lib.hid o1
          obtain ⟨B1, d1, e1, -, -, -⟩ := (show OwnZ u4 z.heap.size v1 _ from o1).sl
          subst e1
          clear o1 hr1 hg1 hl1
          refine hK.out _ _ ⟨below_keep hb4 _ _ p0, below_keep hb4 _ _ p1, below_keep hb4 _ _ p2⟩ (fun hHeld => ?_)
          clear hK K
          (try simp only [Act.put, List.getElem_toArray, List.getElem_cons_zero, List.getElem_cons_succ, List.setIfInBounds_toArray, List.set_cons_zero, List.set_cons_succ])
          refine wpAnyH_ready (rs := [8]) (by kernel_rfl) (by simp) ?_
          refine AllReadyH.cons rfl (fun K hK => ?_) AllReadyH.nil
          go_simp
          have hal : Below (u4).heap.size u4 ((u4).alloc (.cells #[] 36)) := (Below.refl _ _).alloc (Nat.le_refl _) _
          have O2_5 := Lib.hid (OwnG.lit (T := 36) (sz := 4) (f := Oz.cells) (u4) (base := z.heap.size) hb4.size)
          have D2_1_5 := Lib.hid (Dis.fresh O1_4.out 0 0)
          have O1_5 := Lib.hid (OwnG.below O1_4.out hal)
          have D2_0_5 := Lib.hid (Dis.fresh O0_4.out 0 0)
          have O0_5 := Lib.hid (OwnG.below O0_4.out hal)
          have hb5 := hb4.alloc hb4.size (.cells #[] 36)
          clear hal
          generalize (u4).alloc (.cells #[] 36) = u5 at *
          refine hK.out _ _ ⟨below_keep hb5 _ _ p0, below_keep hb5 _ _ p1, below_keep hb5 _ _ p2⟩ (fun hHeld => ?_)
          clear hK K
          (try simp only [Act.put, List.getElem_toArray, List.getElem_cons_zero, List.getElem_cons_succ, List.setIfInBounds_toArray, List.set_cons_zero, List.set_cons_succ])
          refine wpAnyH_ready (rs := [11]) (by kernel_rfl) (by simp) ?_
          refine AllReadyH.cons rfl (fun K hK => ?_) AllReadyH.nil
          obtain ⟨v2, u6, hr2, o2, hg2, hl2⟩ := run_app_all oz_cells oz_one (by omega) Try.underlying25 J1.out J2.out J3.out J4.out rfl (u5) 25 O2_5.out hb5.size (c := c2) (h2.below OzR.stays (hx.trans (hb5.mono hx.size))) hln2 (by omega)
          refine step_append_run rfl (.tmp 11) (.tmp 13) 25 25 rfl rfl rfl hr2 ?_
          have hb6 := hb5.grown hg2 hb5.size (fun k hk => (OwnG.block_lt O2_5.out k hk).1)
          have D2_1_6 := Lib.hid (Dis.app O1_5.out (D2_1_5.out) hl2)
          have O1_6 := Lib.hid (OwnG.keptD O1_5.out hg2 (D2_1_5.out))
          have D2_0_6 := Lib.hid (Dis.app O0_5.out (D2_0_5.out) hl2)
          have O0_6 := Lib.hid (OwnG.keptD O0_5.out hg2 (D2_0_5.out))
          have O2_6 := Lib.hid o2
          obtain ⟨B2, d2, e2, -, -, -⟩ := (show OwnO u6 z.heap.size v2 _ from o2).sl
          subst e2
          clear o2 hr2 hg2 hl2
          have rr := rb.below hb6
          obtain ⟨⟨r0, r1, r2⟩, ⟨f0, f1, f2⟩⟩ := rr.three
          have RR := Lib.hid rr
          clear rr
          refine hK.out _ _ ⟨below_keep hb6 _ _ p0, below_keep hb6 _ _ p1, below_keep hb6 _ _ p2⟩ (fun hHeld => ?_)
          clear hK K
          (try simp only [Act.put, List.getElem_toArray, List.getElem_cons_zero, List.getElem_cons_succ, List.setIfInBounds_toArray, List.set_cons_zero, List.set_cons_succ])
          refine wpAnyH_take (i := 12) (v := ?v15) rfl (by kernel_rfl) (by kernel_rfl) (by kernel_rfl) (fun _ _ _ h => h) (Or.inl ⟨by rfl, ?hy15⟩) hHeld ?rest15
          case hy15 => (intro w' hSw; (try dsimp only at hSw); first | (go_simp; done) | (go_simp; with_reducible rfl))
          simp only [Act.put, List.getElem_toArray, List.getElem_cons_zero, List.getElem_cons_succ, List.setIfInBounds_toArray, List.set_cons_zero, List.set_cons_succ]
          refine wpAnyH_ready (rs := [13]) (by kernel_rfl) (by simp) ?_
          refine AllReadyH.cons rfl (fun K hK => ?_) AllReadyH.nil
          go_simp
          refine hK.out _ _ ⟨cellOff (cellOff (cellOff (below_keep hb6 _ _ p0) (by simp)) (by simp)) (by simp), cellOff (cellOff (cellOff (below_keep hb6 _ _ p1) (by simp)) (by simp)) (by simp), cellOff (cellOff (cellOff (below_keep hb6 _ _ p2) (by simp)) (by simp)) (by simp)⟩ (fun hHeld => ?_)
          clear hK K
          (try simp only [Act.put, List.getElem_toArray, List.getElem_cons_zero, List.getElem_cons_succ, List.setIfInBounds_toArray, List.set_cons_zero, List.set_cons_succ])
          refine wpAnyH_done (by kernel_rfl) ?_ _
          refine NoPanic.normal ?_
          clear hHeld
          have hbn : Below w.heap.size w u6 := hx.trans (hb6.mono hx.size)
          clear r0 r1 r2 f0 f1 f2
          go_wp2_with fail
          have hr9 := (((RR.out).set 0 (.slice B0 x.live.length d0)).set 1 (.slice B1 x.safe.length d1)).set 2 (.slice B2 x.ops.length d2)
          refine bodyPost_ret (results_cell_row (p := 2) (ty := 27) rfl _ _ (w.heap.size + 1) 27 #[.slice B0 x.live.length d0, .slice B1 x.safe.length d1, .slice B2 x.ops.length d2] (0, 0) _ rfl hr9 Try.underlying27 rfl HI.out) rfl ⟨⟨_, rfl, ?_⟩, ?_⟩
          · refine DzA.mono (base := z.heap.size) ?_ (by omega)
            refine DzA.set (DzA.set (DzA.set (show DzA _ z.heap.size _ x from ⟨_, _, _, rfl, O0_6.out, O1_6.out, O2_6.out, D1_0_4.out.symm⟩) ?_ _) ?_ _) ?_ _ <;> (show w.heap.size + 1 < z.heap.size; omega)
          · exact ((hbn.setCell (Nat.le_succ _) _).setCell (Nat.le_succ _) _).setCell (Nat.le_succ _) _
        refine AllReadyH.cons rfl (fun K hK => ?_) AllReadyH.nil
        go_simp
        have hal : Below (u3).heap.size u3 ((u3).alloc (.cells #[] 36)) := (Below.refl _ _).alloc (Nat.le_refl _) _
        have O2_4 := Lib.hid (OwnG.lit (T := 36) (sz := 4) (f := Oz.cells) (u3) (base := z.heap.size) hb3.size)
        have D2_1_4 := Lib.hid (Dis.fresh O1_3.out 0 0)
        have O1_4 := Lib.hid (OwnG.below O1_3.out hal)
        have D2_0_4 := Lib.hid (Dis.fresh O0_3.out 0 0)
        have O0_4 := Lib.hid (OwnG.below O0_3.out hal)
        have hb4 := hb3.alloc hb3.size (.cells #[] 36)
        clear hal
        generalize (u3).alloc (.cells #[] 36) = u4 at *
        refine hK.out _ _ ⟨below_keep hb4 _ _ p0, below_keep hb4 _ _ p1, below_keep hb4 _ _ p2⟩ (fun hHeld => ?_)
        clear hK K
        (try simp only [Act.put, List.getElem_toArray, List.getElem_cons_zero, List.getElem_cons_succ, List.setIfInBounds_toArray, List.set_cons_zero, List.set_cons_succ])
        refine wpAnyH_ready (rs := [7]) (by kernel_rfl) (by simp) ?_
        refine AllReadyH.cons rfl (fun K hK => ?_) AllReadyH.nil
        obtain ⟨v1, u5, hr1, o1, hg1, hl1⟩ := run_app_all fz_cells fz_one (by omega) Try.underlying24 H1.out H2.out H3.out H4.out rfl (u4) 24 O1_4.out hb4.size (c := c1) (h1.below FzR.stays (hx.trans (hb4.mono hx.size))) hln1 (by omega)
        refine step_append_run rfl (.tmp 7) (.tmp 9) 24 24 rfl rfl rfl hr1 ?_
        have hb5 := hb4.grown hg1 hb4.size (fun k hk => (OwnG.block_lt O1_4.out k hk).1)
        have D1_0_5 := Lib.hid (Dis.app O0_4.out (D0_1_3.out.symm) hl1)
        have O0_5 := Lib.hid (OwnG.keptD O0_4.out hg1 (D0_1_3.out.symm))
        have D1_2_5 := Lib.hid (Dis.app O2_4.out (D2_1_4.out.symm) hl1)
        have O2_5 := Lib.hid (OwnG.keptD O2_4.out hg1 (D2_1_4.out.symm))
        have O1_5 := Lib.hid o1
        obtain ⟨B1, d1, e1, -, -, -⟩ := (show OwnZ u5 z.heap.size v1 _ from o1).sl
        subst e1
        clear o1 hr1 hg1 hl1
        refine hK.out _ _ ⟨below_keep hb5 _ _ p0, below_keep hb5 _ _ p1, below_keep hb5 _ _ p2⟩ (fun hHeld => ?_)
        clear hK K
        (try simp only [Act.put, List.getElem_toArray, List.getElem_cons_zero, List.getElem_cons_succ, List.setIfInBounds_toArray, List.set_cons_zero, List.set_cons_succ])
        refine wpAnyH_ready (rs := [11]) (by kernel_rfl) (by simp) ?_
        refine AllReadyH.cons rfl (fun K hK => ?_) AllReadyH.nil
        obtain ⟨v2, u6, hr2, o2, hg2, hl2⟩ := run_app_all oz_cells oz_one (by omega) Try.underlying25 J1.out J2.out J3.out J4.out rfl (u5) 25 O2_5.out hb5.size (c := c2) (h2.below OzR.stays (hx.trans (hb5.mono hx.size))) hln2 (by omega)
        refine step_append_run rfl (.tmp 11) (.tmp 13) 25 25 rfl rfl rfl hr2 ?_
        have hb6 := hb5.grown hg2 hb5.size (fun k hk => (OwnG.block_lt O2_5.out k hk).1)
        have D2_1_6 := Lib.hid (Dis.app O1_5.out (D1_2_5.out.symm) hl2)
        have O1_6 := Lib.hid (OwnG.keptD O1_5.out hg2 (D1_2_5.out.symm))
        have D2_0_6 := Lib.hid (Dis.app O0_5.out (D2_0_4.out) hl2)
        have O0_6 := Lib.hid (OwnG.keptD O0_5.out hg2 (D2_0_4.out))
        have O2_6 := Lib.hid o2
        obtain ⟨B2, d2, e2, -, -, -⟩ := (show OwnO u6 z.heap.size v2 _ from o2).sl
        subst e2
        clear o2 hr2 hg2 hl2
        have rr := rb.below hb6
        obtain ⟨⟨r0, r1, r2⟩, ⟨f0, f1, f2⟩⟩ := rr.three
        have RR := Lib.hid rr
        clear rr
        refine hK.out _ _ ⟨below_keep hb6 _ _ p0, below_keep hb6 _ _ p1, below_keep hb6 _ _ p2⟩ (fun hHeld => ?_)
        clear hK K
        (try simp only [Act.put, List.getElem_toArray, List.getElem_cons_zero, List.getElem_cons_succ, List.setIfInBounds_toArray, List.set_cons_zero, List.set_cons_succ])
        refine wpAnyH_take (i := 12) (v := ?v16) rfl (by kernel_rfl) (by kernel_rfl) (by kernel_rfl) (fun _ _ _ h => h) (Or.inl ⟨by rfl, ?hy16⟩) hHeld ?rest16
        case hy16 => (intro w' hSw; (try dsimp only at hSw); first | (go_simp; done) | (go_simp; with_reducible rfl))
        simp only [Act.put, List.getElem_toArray, List.getElem_cons_zero, List.getElem_cons_succ, List.setIfInBounds_toArray, List.set_cons_zero, List.set_cons_succ]
        refine wpAnyH_ready (rs := [13]) (by kernel_rfl) (by simp) ?_
        refine AllReadyH.cons rfl (fun K hK => ?_) AllReadyH.nil
        go_simp
        refine hK.out _ _ ⟨cellOff (cellOff (cellOff (below_keep hb6 _ _ p0) (by simp)) (by simp)) (by simp), cellOff (cellOff (cellOff (below_keep hb6 _ _ p1) (by simp)) (by simp)) (by simp), cellOff (cellOff (cellOff (below_keep hb6 _ _ p2) (by simp)) (by simp)) (by simp)⟩ (fun hHeld => ?_)
        clear hK K
        (try simp only [Act.put, List.getElem_toArray, List.getElem_cons_zero, List.getElem_cons_succ, List.setIfInBounds_toArray, List.set_cons_zero, List.set_cons_succ])
        refine wpAnyH_done (by kernel_rfl) ?_ _
        refine NoPanic.normal ?_
        clear hHeld
        have hbn : Below w.heap.size w u6 := hx.trans (hb6.mono hx.size)
        clear r0 r1 r2 f0 f1 f2
        go_wp2_with fail
        have hr9 := (((RR.out).set 0 (.slice B0 x.live.length d0)).set 1 (.slice B1 x.safe.length d1)).set 2 (.slice B2 x.ops.length d2)
        refine bodyPost_ret (results_cell_row (p := 2) (ty := 27) rfl _ _ (w.heap.size + 1) 27 #[.slice B0 x.live.length d0, .slice B1 x.safe.length d1, .slice B2 x.ops.length d2] (0, 0) _ rfl hr9 Try.underlying27 rfl HI.out) rfl ⟨⟨_, rfl, ?_⟩, ?_⟩
        · refine DzA.mono (base := z.heap.size) ?_ (by omega)
          refine DzA.set (DzA.set (DzA.set (show DzA _ z.heap.size _ x from ⟨_, _, _, rfl, O0_6.out, O1_6.out, O2_6.out, D1_0_5.out.symm⟩) ?_ _) ?_ _) ?_ _ <;> (show w.heap.size + 1 < z.heap.size; omega)
        · exact ((hbn.setCell (Nat.le_succ _) _).setCell (Nat.le_succ _) _).setCell (Nat.le_succ _) _
      refine AllReadyH.cons rfl (fun K hK => ?_) AllReadyH.nil
      go_simp
      have hal : Below (u2).heap.size u2 ((u2).alloc (.cells #[] 36)) := (Below.refl _ _).alloc (Nat.le_refl _) _
      have O2_3 := Lib.hid (OwnG.lit (T := 36) (sz := 4) (f := Oz.cells) (u2) (base := z.heap.size) hb2.size)
      have D2_1_3 := Lib.hid (Dis.fresh O1_2.out 0 0)
      have O1_3 := Lib.hid (OwnG.below O1_2.out hal)
      have D2_0_3 := Lib.hid (Dis.fresh O0_2.out 0 0)
      have O0_3 := Lib.hid (OwnG.below O0_2.out hal)
      have hb3 := hb2.alloc hb2.size (.cells #[] 36)
      clear hal
      generalize (u2).alloc (.cells #[] 36) = u3 at *
      refine hK.out _ _ ⟨below_keep hb3 _ _ p0, below_keep hb3 _ _ p1, below_keep hb3 _ _ p2⟩ (fun hHeld => ?_)
      clear hK K
      (try simp only [Act.put, List.getElem_toArray, List.getElem_cons_zero, List.getElem_cons_succ, List.setIfInBounds_toArray, List.set_cons_zero, List.set_cons_succ])
      refine wpAnyH_ready (rs := [3]) (by kernel_rfl) (by simp) ?_
      refine AllReadyH.cons rfl (fun K hK => ?_) AllReadyH.nil
      obtain ⟨v0, u4, hr0, o0, hg0, hl0⟩ := run_app_all fz_cells fz_one (by omega) Try.underlying24 H1.out H2.out H3.out H4.out rfl (u3) 24 O0_3.out hb3.size (c := c0) (h0.below FzR.stays (hx.trans (hb3.mono hx.size))) hln0 (by omega)
      refine step_append_run rfl (.tmp 3) (.tmp 5) 24 24 rfl rfl rfl hr0 ?_
      have hb4 := hb3.grown hg0 hb3.size (fun k hk => (OwnG.block_lt O0_3.out k hk).1)
      have D0_1_4 := Lib.hid (Dis.app O1_3.out (D0_1_2.out) hl0)
      have O1_4 := Lib.hid (OwnG.keptD O1_3.out hg0 (D0_1_2.out))
      have D0_2_4 := Lib.hid (Dis.app O2_3.out (D2_0_3.out.symm) hl0)
      have O2_4 := Lib.hid (OwnG.keptD O2_3.out hg0 (D2_0_3.out.symm))
      have O0_4 := Lib.hid o0
      obtain ⟨B0, d0, e0, -, -, -⟩ := (show OwnZ u4 z.heap.size v0 _ from o0).sl
      subst e0
      clear o0 hr0 hg0 hl0
      refine hK.out _ _ ⟨below_keep hb4 _ _ p0, below_keep hb4 _ _ p1, below_keep hb4 _ _ p2⟩ (fun hHeld => ?_)
      clear hK K
      (try simp only [Act.put, List.getElem_toArray, List.getElem_cons_zero, List.getElem_cons_succ, List.setIfInBounds_toArray, List.set_cons_zero, List.set_cons_succ])
      refine wpAnyH_ready (rs := [7]) (by kernel_rfl) (by simp) ?_
      refine AllReadyH.cons rfl (fun K hK => ?_) AllReadyH.nil
      obtain ⟨v1, u5, hr1, o1, hg1, hl1⟩ := run_app_all fz_cells fz_one (by omega) Try.underlying24 H1.out H2.out H3.out H4.out rfl (u4) 24 O1_4.out hb4.size (c := c1) (h1.below FzR.stays (hx.trans (hb4.mono hx.size))) hln1 (by omega)
      refine step_append_run rfl (.tmp 7) (.tmp 9) 24 24 rfl rfl rfl hr1 ?_
      have hb5 := hb4.grown hg1 hb4.size (fun k hk => (OwnG.block_lt O1_4.out k hk).1)
      have D1_0_5 := Lib.hid (Dis.app O0_4.out (D0_1_4.out.symm) hl1)
      have O0_5 := Lib.hid (OwnG.keptD O0_4.out hg1 (D0_1_4.out.symm))
      have D1_2_5 := Lib.hid (Dis.app O2_4.out (D2_1_3.out.symm) hl1)
      have O2_5 := Lib.hid (OwnG.keptD O2_4.out hg1 (D2_1_3.out.symm))
      have O1_5 := Lib.hid o1
      obtain ⟨B1, d1, e1, -, -, -⟩ := (show OwnZ u5 z.heap.size v1 _ from o1).sl
      subst e1
      clear o1 hr1 hg1 hl1
      refine hK.out _ _ ⟨below_keep hb5 _ _ p0, below_keep hb5 _ _ p1, below_keep hb5 _ _ p2⟩ (fun hHeld => ?_)
      clear hK K
      (try simp only [Act.put, List.getElem_toArray, List.getElem_cons_zero, List.getElem_cons_succ, List.setIfInBounds_toArray, List.set_cons_zero, List.set_cons_succ])
      refine wpAnyH_ready (rs := [11]) (by kernel_rfl) (by simp) ?_
      refine AllReadyH.cons rfl (fun K hK => ?_) AllReadyH.nil
      obtain ⟨v2, u6, hr2, o2, hg2, hl2⟩ := run_app_all oz_cells oz_one (by omega) Try.underlying25 J1.out J2.out J3.out J4.out rfl (u5) 25 O2_5.out hb5.size (c := c2) (h2.below OzR.stays (hx.trans (hb5.mono hx.size))) hln2 (by omega)
      refine step_append_run rfl (.tmp 11) (.tmp 13) 25 25 rfl rfl rfl hr2 ?_
      have hb6 := hb5.grown hg2 hb5.size (fun k hk => (OwnG.block_lt O2_5.out k hk).1)
      have D2_1_6 := Lib.hid (Dis.app O1_5.out (D1_2_5.out.symm) hl2)
      have O1_6 := Lib.hid (OwnG.keptD O1_5.out hg2 (D1_2_5.out.symm))
      have D2_0_6 := Lib.hid (Dis.app O0_5.out (D0_2_4.out.symm) hl2)
      have O0_6 := Lib.hid (OwnG.keptD O0_5.out hg2 (D0_2_4.out.symm))
      have O2_6 := Lib.hid o2
      obtain ⟨B2, d2, e2, -, -, -⟩ := (show OwnO u6 z.heap.size v2 _ from o2).sl
      subst e2
      clear o2 hr2 hg2 hl2
      have rr := rb.below hb6
      obtain ⟨⟨r0, r1, r2⟩, ⟨f0, f1, f2⟩⟩ := rr.three
      have RR := Lib.hid rr
      clear rr
      refine hK.out _ _ ⟨below_keep hb6 _ _ p0, below_keep hb6 _ _ p1, below_keep hb6 _ _ p2⟩ (fun hHeld => ?_)
      clear hK K
      (try simp only [Act.put, List.getElem_toArray, List.getElem_cons_zero, List.getElem_cons_succ, List.setIfInBounds_toArray, List.set_cons_zero, List.set_cons_succ])
      refine wpAnyH_take (i := 12) (v := ?v17) rfl (by kernel_rfl) (by kernel_rfl) (by kernel_rfl) (fun _ _ _ h => h) (Or.inl ⟨by rfl, ?hy17⟩) hHeld ?rest17
      case hy17 => (intro w' hSw; (try dsimp only at hSw); first | (go_simp; done) | (go_simp; with_reducible rfl))
      simp only [Act.put, List.getElem_toArray, List.getElem_cons_zero, List.getElem_cons_succ, List.setIfInBounds_toArray, List.set_cons_zero, List.set_cons_succ]
      refine wpAnyH_ready (rs := [13]) (by kernel_rfl) (by simp) ?_
      refine AllReadyH.cons rfl (fun K hK => ?_) AllReadyH.nil
      go_simp
      refine hK.out _ _ ⟨cellOff (cellOff (cellOff (below_keep hb6 _ _ p0) (by simp)) (by simp)) (by simp), cellOff (cellOff (cellOff (below_keep hb6 _ _ p1) (by simp)) (by simp)) (by simp), cellOff (cellOff (cellOff (below_keep hb6 _ _ p2) (by simp)) (by simp)) (by simp)⟩ (fun hHeld => ?_)
      clear hK K
      (try simp only [Act.put, List.getElem_toArray, List.getElem_cons_zero, List.getElem_cons_succ, List.setIfInBounds_toArray, List.set_cons_zero, List.set_cons_succ])
      refine wpAnyH_done (by kernel_rfl) ?_ _
      refine NoPanic.normal ?_
      clear hHeld
      have hbn : Below w.heap.size w u6 := hx.trans (hb6.mono hx.size)
      clear r0 r1 r2 f0 f1 f2
      go_wp2_with fail
      have hr9 := (((RR.out).set 0 (.slice B0 x.live.length d0)).set 1 (.slice B1 x.safe.length d1)).set 2 (.slice B2 x.ops.length d2)
      refine bodyPost_ret (results_cell_row (p := 2) (ty := 27) rfl _ _ (w.heap.size + 1) 27 #[.slice B0 x.live.length d0, .slice B1 x.safe.length d1, .slice B2 x.ops.length d2] (0, 0) _ rfl hr9 Try.underlying27 rfl HI.out) rfl ⟨⟨_, rfl, ?_⟩, ?_⟩
      · refine DzA.mono (base := z.heap.size) ?_ (by omega)
        refine DzA.set (DzA.set (DzA.set (show DzA _ z.heap.size _ x from ⟨_, _, _, rfl, O0_6.out, O1_6.out, O2_6.out, D1_0_5.out.symm⟩) ?_ _) ?_ _) ?_ _ <;> (show w.heap.size + 1 < z.heap.size; omega)
      · exact ((hbn.setCell (Nat.le_succ _) _).setCell (Nat.le_succ _) _).setCell (Nat.le_succ _) _
    refine AllReadyH.cons rfl (fun K hK => ?_) AllReadyH.nil
    go_simp
    have hal : Below (u1).heap.size u1 ((u1).alloc (.cells #[] 36)) := (Below.refl _ _).alloc (Nat.le_refl _) _
    have O2_2 := Lib.hid (OwnG.lit (T := 36) (sz := 4) (f := Oz.cells) (u1) (base := z.heap.size) hb1.size)
    have D2_1_2 := Lib.hid (Dis.fresh O1_1.out 0 0)
    have O1_2 := Lib.hid (OwnG.below O1_1.out hal)
    have hb2 := hb1.alloc hb1.size (.cells #[] 36)
    clear hal
    generalize (u1).alloc (.cells #[] 36) = u2 at *
    refine hK.out _ _ ⟨below_keep hb2 _ _ p0, below_keep hb2 _ _ p1, below_keep hb2 _ _ p2⟩ (fun hHeld => ?_)
    clear hK K
    (try simp only [Act.put, List.getElem_toArray, List.getElem_cons_zero, List.getElem_cons_succ, List.setIfInBounds_toArray, List.set_cons_zero, List.set_cons_succ])
    refine wpAnyH_ready (rs := [0]) (by kernel_rfl) (by simp) ?_
    refine AllReadyH.cons rfl (fun K hK => ?_) AllReadyH.nil
    go_simp
    have hal : Below (u2).heap.size u2 ((u2).alloc (.cells #[] 75)) := (Below.refl _ _).alloc (Nat.le_refl _) _
    have O0_3 := Lib.hid (OwnG.lit (T := 75) (sz := 2) (f := Fz.cells) (u2) (base := z.heap.size) hb2.size)
    have D0_1_3 := Lib.hid (Dis.fresh O1_2.out 0 0)
    have O1_3 := Lib.hid (OwnG.below O1_2.out hal)
    have D0_2_3 := Lib.hid (Dis.fresh O2_2.out 0 0)
    have O2_3 := Lib.hid (OwnG.below O2_2.out hal)
    have hb3 := hb2.alloc hb2.size (.cells #[] 75)
    clear hal
    generalize (u2).alloc (.cells #[] 75) = u3 at *
    refine hK.out _ _ ⟨below_keep hb3 _ _ p0, below_keep hb3 _ _ p1, below_keep hb3 _ _ p2⟩ (fun hHeld => ?_)
    clear hK K
    (try simp only [Act.put, List.getElem_toArray, List.getElem_cons_zero, List.getElem_cons_succ, List.setIfInBounds_toArray, List.set_cons_zero, List.set_cons_succ])
    refine wpAnyH_ready (rs := [3]) (by kernel_rfl) (by simp) ?_
    refine AllReadyH.cons rfl (fun K hK => ?_) AllReadyH.nil
    obtain ⟨v0, u4, hr0, o0, hg0, hl0⟩ := run_app_all fz_cells fz_one (by omega) Try.underlying24 H1.out H2.out H3.out H4.out rfl (u3) 24 O0_3.out hb3.size (c := c0) (h0.below FzR.stays (hx.trans (hb3.mono hx.size))) hln0 (by omega)
    refine step_append_run rfl (.tmp 3) (.tmp 5) 24 24 rfl rfl rfl hr0 ?_
    have hb4 := hb3.grown hg0 hb3.size (fun k hk => (OwnG.block_lt O0_3.out k hk).1)
    have D0_1_4 := Lib.hid (Dis.app O1_3.out (D0_1_3.out) hl0)
    have O1_4 := Lib.hid (OwnG.keptD O1_3.out hg0 (D0_1_3.out))
    have D0_2_4 := Lib.hid (Dis.app O2_3.out (D0_2_3.out) hl0)
    have O2_4 := Lib.hid (OwnG.keptD O2_3.out hg0 (D0_2_3.out))
    have O0_4 := Lib.hid o0
    obtain ⟨B0, d0, e0, -, -, -⟩ := (show OwnZ u4 z.heap.size v0 _ from o0).sl
    subst e0
    clear o0 hr0 hg0 hl0
    refine hK.out _ _ ⟨below_keep hb4 _ _ p0, below_keep hb4 _ _ p1, below_keep hb4 _ _ p2⟩ (fun hHeld => ?_)
    clear hK K
    (try simp only [Act.put, List.getElem_toArray, List.getElem_cons_zero, List.getElem_cons_succ, List.setIfInBounds_toArray, List.set_cons_zero, List.set_cons_succ])
    refine wpAnyH_ready (rs := [7]) (by kernel_rfl) (by simp) ?_
    refine AllReadyH.cons rfl (fun K hK => ?_) AllReadyH.nil
    obtain ⟨v1, u5, hr1, o1, hg1, hl1⟩ := run_app_all fz_cells fz_one (by omega) Try.underlying24 H1.out H2.out H3.out H4.out rfl (u4) 24 O1_4.out hb4.size (c := c1) (h1.below FzR.stays (hx.trans (hb4.mono hx.size))) hln1 (by omega)
    refine step_append_run rfl (.tmp 7) (.tmp 9) 24 24 rfl rfl rfl hr1 ?_
    have hb5 := hb4.grown hg1 hb4.size (fun k hk => (OwnG.block_lt O1_4.out k hk).1)
    have D1_2_5 := Lib.hid (Dis.app O2_4.out (D2_1_2.out.symm) hl1)
    have O2_5 := Lib.hid (OwnG.keptD O2_4.out hg1 (D2_1_2.out.symm))
    have D1_0_5 := Lib.hid (Dis.app O0_4.out (D0_1_4.out.symm) hl1)
    have O0_5 := Lib.hid (OwnG.keptD O0_4.out hg1 (D0_1_4.out.symm))
    have O1_5 := Lib.hid o1
    obtain ⟨B1, d1, e1, -, -, -⟩ := (show OwnZ u5 z.heap.size v1 _ from o1).sl
    subst e1
    clear o1 hr1 hg1 hl1
    refine hK.out _ _ ⟨below_keep hb5 _ _ p0, below_keep hb5 _ _ p1, below_keep hb5 _ _ p2⟩ (fun hHeld => ?_)
    clear hK K
    (try simp only [Act.put, List.getElem_toArray, List.getElem_cons_zero, List.getElem_cons_succ, List.setIfInBounds_toArray, List.set_cons_zero, List.set_cons_succ])
    refine wpAnyH_ready (rs := [11]) (by kernel_rfl) (by simp) ?_
    refine AllReadyH.cons rfl (fun K hK => ?_) AllReadyH.nil
    obtain ⟨v2, u6, hr2, o2, hg2, hl2⟩ := run_app_all oz_cells oz_one (by omega) Try.underlying25 J1.out J2.out J3.out J4.out rfl (u5) 25 O2_5.out hb5.size (c := c2) (h2.below OzR.stays (hx.trans (hb5.mono hx.size))) hln2 (by omega)
    refine step_append_run rfl (.tmp 11) (.tmp 13) 25 25 rfl rfl rfl hr2 ?_
    have hb6 := hb5.grown hg2 hb5.size (fun k hk => (OwnG.block_lt O2_5.out k hk).1)
    have D2_1_6 := Lib.hid (Dis.app O1_5.out (D1_2_5.out.symm) hl2)
    have O1_6 := Lib.hid (OwnG.keptD O1_5.out hg2 (D1_2_5.out.symm))
    have D2_0_6 := Lib.hid (Dis.app O0_5.out (D0_2_4.out.symm) hl2)
    have O0_6 := Lib.hid (OwnG.keptD O0_5.out hg2 (D0_2_4.out.symm))
    have O2_6 := Lib.hid o2
    obtain ⟨B2, d2, e2, -, -, -⟩ := (show OwnO u6 z.heap.size v2 _ from o2).sl
    subst e2
    clear o2 hr2 hg2 hl2
    have rr := rb.below hb6
    obtain ⟨⟨r0, r1, r2⟩, ⟨f0, f1, f2⟩⟩ := rr.three
    have RR := Lib.hid rr
    clear rr
    refine hK.out _ _ ⟨below_keep hb6 _ _ p0, below_keep hb6 _ _ p1, below_keep hb6 _ _ p2⟩ (fun hHeld => ?_)
    clear hK K
    (try simp only [Act.put, List.getElem_toArray, List.getElem_cons_zero, List.getElem_cons_succ, List.setIfInBounds_toArray, List.set_cons_zero, List.set_cons_succ])
    refine wpAnyH_take (i := 12) (v := ?v18) rfl (by kernel_rfl) (by kernel_rfl) (by kernel_rfl) (fun _ _ _ h => h) (Or.inl ⟨by rfl, ?hy18⟩) hHeld ?rest18
    case hy18 => (intro w' hSw; (try dsimp only at hSw); first | (go_simp; done) | (go_simp; with_reducible rfl))
    simp only [Act.put, List.getElem_toArray, List.getElem_cons_zero, List.getElem_cons_succ, List.setIfInBounds_toArray, List.set_cons_zero, List.set_cons_succ]
    refine wpAnyH_ready (rs := [13]) (by kernel_rfl) (by simp) ?_
    refine AllReadyH.cons rfl (fun K hK => ?_) AllReadyH.nil
    go_simp
    refine hK.out _ _ ⟨cellOff (cellOff (cellOff (below_keep hb6 _ _ p0) (by simp)) (by simp)) (by simp), cellOff (cellOff (cellOff (below_keep hb6 _ _ p1) (by simp)) (by simp)) (by simp), cellOff (cellOff (cellOff (below_keep hb6 _ _ p2) (by simp)) (by simp)) (by simp)⟩ (fun hHeld => ?_)
    clear hK K
    (try simp only [Act.put, List.getElem_toArray, List.getElem_cons_zero, List.getElem_cons_succ, List.setIfInBounds_toArray, List.set_cons_zero, List.set_cons_succ])
    refine wpAnyH_done (by kernel_rfl) ?_ _
    refine NoPanic.normal ?_
    clear hHeld
    have hbn : Below w.heap.size w u6 := hx.trans (hb6.mono hx.size)
    clear r0 r1 r2 f0 f1 f2
    go_wp2_with fail
    have hr9 := (((RR.out).set 0 (.slice B0 x.live.length d0)).set 1 (.slice B1 x.safe.length d1)).set 2 (.slice B2 x.ops.length d2)
    refine bodyPost_ret (results_cell_row (p := 2) (ty := 27) rfl _ _ (w.heap.size + 1) 27 #[.slice B0 x.live.length d0, .slice B1 x.safe.length d1, .slice B2 x.ops.length d2] (0, 0) _ rfl hr9 Try.underlying27 rfl HI.out) rfl ⟨⟨_, rfl, ?_⟩, ?_⟩
    · refine DzA.mono (base := z.heap.size) ?_ (by omega)
      refine DzA.set (DzA.set (DzA.set (show DzA _ z.heap.size _ x from ⟨_, _, _, rfl, O0_6.out, O1_6.out, O2_6.out, D1_0_5.out.symm⟩) ?_ _) ?_ _) ?_ _ <;> (show w.heap.size + 1 < z.heap.size; omega)
    · exact ((hbn.setCell (Nat.le_succ _) _).setCell (Nat.le_succ _) _).setCell (Nat.le_succ _) _
  refine AllReadyH.cons rfl (fun K hK => ?_) AllReadyH.nil
  go_simp
  have hal : Below (u0).heap.size u0 ((u0).alloc (.cells #[] 36)) := (Below.refl _ _).alloc (Nat.le_refl _) _
  have O2_1 := Lib.hid (OwnG.lit (T := 36) (sz := 4) (f := Oz.cells) (u0) (base := z.heap.size) hb0.size)
  have hb1 := hb0.alloc hb0.size (.cells #[] 36)
  clear hal
  generalize (u0).alloc (.cells #[] 36) = u1 at *
  refine hK.out _ _ ⟨below_keep hb1 _ _ p0, below_keep hb1 _ _ p1, below_keep hb1 _ _ p2⟩ (fun hHeld => ?_)
  clear hK K
  (try simp only [Act.put, List.getElem_toArray, List.getElem_cons_zero, List.getElem_cons_succ, List.setIfInBounds_toArray, List.set_cons_zero, List.set_cons_succ])
  refine wpAnyH_ready (rs := [0, 4]) (by kernel_rfl) (by simp) ?_
  refine AllReadyH.cons rfl (fun K hK => ?_) ?_
  · go_simp
    have hal : Below (u1).heap.size u1 ((u1).alloc (.cells #[] 75)) := (Below.refl _ _).alloc (Nat.le_refl _) _
    have O0_2 := Lib.hid (OwnG.lit (T := 75) (sz := 2) (f := Fz.cells) (u1) (base := z.heap.size) hb1.size)
    have D0_2_2 := Lib.hid (Dis.fresh O2_1.out 0 0)
    have O2_2 := Lib.hid (OwnG.below O2_1.out hal)
    have hb2 := hb1.alloc hb1.size (.cells #[] 75)
    clear hal
    generalize (u1).alloc (.cells #[] 75) = u2 at *
    refine hK.out _ _ ⟨below_keep hb2 _ _ p0, below_keep hb2 _ _ p1, below_keep hb2 _ _ p2⟩ (fun hHeld => ?_)
    clear hK K
    (try simp only [Act.put, List.getElem_toArray, List.getElem_cons_zero, List.getElem_cons_succ, List.setIfInBounds_toArray, List.set_cons_zero, List.set_cons_succ])
    refine wpAnyH_ready (rs := [3, 4]) (by kernel_rfl) (by simp) ?_
    refine AllReadyH.cons rfl (fun K hK => ?_) ?_
    · obtain ⟨v0, u3, hr0, o0, hg0, hl0⟩ := run_app_all fz_cells fz_one (by omega) Try.underlying24 H1.out H2.out H3.out H4.out rfl (u2) 24 O0_2.out hb2.size (c := c0) (h0.below FzR.stays (hx.trans (hb2.mono hx.size))) hln0 (by omega)
      refine step_append_run rfl (.tmp 3) (.tmp 5) 24 24 rfl rfl rfl hr0 ?_
      have hb3 := hb2.grown hg0 hb2.size (fun k hk => (OwnG.block_lt O0_2.out k hk).1)
      have D0_2_3 := Lib.hid (Dis.app O2_2.out (D0_2_2.out) hl0)
      have O2_3 := Lib.hid (OwnG.keptD O2_2.out hg0 (D0_2_2.out))
      have O0_3 := Lib.hid o0
      obtain ⟨B0, d0, e0, -, -, -⟩ := (show OwnZ u3 z.heap.size v0 _ from o0).sl
      subst e0
      clear o0 hr0 hg0 hl0
      refine hK.out _ _ ⟨below_keep hb3 _ _ p0, below_keep hb3 _ _ p1, below_keep hb3 _ _ p2⟩ (fun hHeld => ?_)
      clear hK K
      (try simp only [Act.put, List.getElem_toArray, List.getElem_cons_zero, List.getElem_cons_succ, List.setIfInBounds_toArray, List.set_cons_zero, List.set_cons_succ])
      refine wpAnyH_ready (rs := [4]) (by kernel_rfl) (by simp) ?_
      refine AllReadyH.cons rfl (fun K hK => ?_) AllReadyH.nil
      go_simp
      have hal : Below (u3).heap.size u3 ((u3).alloc (.cells #[] 75)) := (Below.refl _ _).alloc (Nat.le_refl _) _
      have O1_4 := Lib.hid (OwnG.lit (T := 75) (sz := 2) (f := Fz.cells) (u3) (base := z.heap.size) hb3.size)
      have D1_2_4 := Lib.hid (Dis.fresh O2_3.out 0 0)
      have O2_4 := Lib.hid (OwnG.below O2_3.out hal)
      have D1_0_4 := Lib.hid (Dis.fresh O0_3.out 0 0)
      have O0_4 := Lib.hid (OwnG.below O0_3.out hal)
      have hb4 := hb3.alloc hb3.size (.cells #[] 75)
      clear hal
      generalize (u3).alloc (.cells #[] 75) = u4 at *
      refine hK.out _ _ ⟨below_keep hb4 _ _ p0, below_keep hb4 _ _ p1, below_keep hb4 _ _ p2⟩ (fun hHeld => ?_)
      clear hK K
      (try simp only [Act.put, List.getElem_toArray, List.getElem_cons_zero, List.getElem_cons_succ, List.setIfInBounds_toArray, List.set_cons_zero, List.set_cons_succ])
      refine wpAnyH_ready (rs := [7]) (by kernel_rfl) (by simp) ?_
      refine AllReadyH.cons rfl (fun K hK => ?_) AllReadyH.nil
      obtain ⟨v1, u5, hr1, o1, hg1, hl1⟩ := run_app_all fz_cells fz_one (by omega) Try.underlying24 H1.out H2.out H3.out H4.out rfl (u4) 24 O1_4.out hb4.size (c := c1) (h1.below FzR.stays (hx.trans (hb4.mono hx.size))) hln1 (by omega)
      refine step_append_run rfl (.tmp 7) (.tmp 9) 24 24 rfl rfl rfl hr1 ?_
      have hb5 := hb4.grown hg1 hb4.size (fun k hk => (OwnG.block_lt O1_4.out k hk).1)
      have D1_2_5 := Lib.hid (Dis.app O2_4.out (D1_2_4.out) hl1)
      have O2_5 := Lib.hid (OwnG.keptD O2_4.out hg1 (D1_2_4.out))
      have D1_0_5 := Lib.hid (Dis.app O0_4.out (D1_0_4.out) hl1)
      have O0_5 := Lib.hid (OwnG.keptD O0_4.out hg1 (D1_0_4.out))
      have O1_5 := Lib.hid o1
      obtain ⟨B1, d1, e1, -, -, -⟩ := (show OwnZ u5 z.heap.size v1 _ from o1).sl
      subst e1
      clear o1 hr1 hg1 hl1
      refine hK.out _ _ ⟨below_keep hb5 _ _ p0, below_keep hb5 _ _ p1, below_keep hb5 _ _ p2⟩ (fun hHeld => ?_)
      clear hK K
      (try simp only [Act.put, List.getElem_toArray, List.getElem_cons_zero, List.getElem_cons_succ, List.setIfInBounds_toArray, List.set_cons_zero, List.set_cons_succ])
      refine wpAnyH_ready (rs := [11]) (by kernel_rfl) (by simp) ?_
      refine AllReadyH.cons rfl (fun K hK => ?_) AllReadyH.nil
      obtain ⟨v2, u6, hr2, o2, hg2, hl2⟩ := run_app_all oz_cells oz_one (by omega) Try.underlying25 J1.out J2.out J3.out J4.out rfl (u5) 25 O2_5.out hb5.size (c := c2) (h2.below OzR.stays (hx.trans (hb5.mono hx.size))) hln2 (by omega)
      refine step_append_run rfl (.tmp 11) (.tmp 13) 25 25 rfl rfl rfl hr2 ?_
      have hb6 := hb5.grown hg2 hb5.size (fun k hk => (OwnG.block_lt O2_5.out k hk).1)
      have D2_0_6 := Lib.hid (Dis.app O0_5.out (D0_2_3.out.symm) hl2)
      have O0_6 := Lib.hid (OwnG.keptD O0_5.out hg2 (D0_2_3.out.symm))
      have D2_1_6 := Lib.hid (Dis.app O1_5.out (D1_2_5.out.symm) hl2)
      have O1_6 := Lib.hid (OwnG.keptD O1_5.out hg2 (D1_2_5.out.symm))
      have O2_6 := Lib.hid o2
      obtain ⟨B2, d2, e2, -, -, -⟩ := (show OwnO u6 z.heap.size v2 _ from o2).sl
      subst e2
      clear o2 hr2 hg2 hl2
      have rr := rb.below hb6
      obtain ⟨⟨r0, r1, r2⟩, ⟨f0, f1, f2⟩⟩ := rr.three
      have RR := Lib.hid rr
      clear rr
      refine hK.out _ _ ⟨below_keep hb6 _ _ p0, below_keep hb6 _ _ p1, below_keep hb6 _ _ p2⟩ (fun hHeld => ?_)
      clear hK K
      (try simp only [Act.put, List.getElem_toArray, List.getElem_cons_zero, List.getElem_cons_succ, List.setIfInBounds_toArray, List.set_cons_zero, List.set_cons_succ])
      refine wpAnyH_take (i := 12) (v := ?v19) rfl (by kernel_rfl) (by kernel_rfl) (by kernel_rfl) (fun _ _ _ h => h) (Or.inl ⟨by rfl, ?hy19⟩) hHeld ?rest19
      case hy19 => (intro w' hSw; (try dsimp only at hSw); first | (go_simp; done) | (go_simp; with_reducible rfl))
      simp only [Act.put, List.getElem_toArray, List.getElem_cons_zero, List.getElem_cons_succ, List.setIfInBounds_toArray, List.set_cons_zero, List.set_cons_succ]
      refine wpAnyH_ready (rs := [13]) (by kernel_rfl) (by simp) ?_
      refine AllReadyH.cons rfl (fun K hK => ?_) AllReadyH.nil
      go_simp
      refine hK.out _ _ ⟨cellOff (cellOff (cellOff (below_keep hb6 _ _ p0) (by simp)) (by simp)) (by simp), cellOff (cellOff (cellOff (below_keep hb6 _ _ p1) (by simp)) (by simp)) (by simp), cellOff (cellOff (cellOff (below_keep hb6 _ _ p2) (by simp)) (by simp)) (by simp)⟩ (fun hHeld => ?_)
      clear hK K
      (try simp only [Act.put, List.getElem_toArray, List.getElem_cons_zero, List.getElem_cons_succ, List.setIfInBounds_toArray, List.set_cons_zero, List.set_cons_succ])
      refine wpAnyH_done (by kernel_rfl) ?_ _
      refine NoPanic.normal ?_
      clear hHeld
      have hbn : Below w.heap.size w u6 := hx.trans (hb6.mono hx.size)
      clear r0 r1 r2 f0 f1 f2
      go_wp2_with fail
      have hr9 := (((RR.out).set 0 (.slice B0 x.live.length d0)).set 1 (.slice B1 x.safe.length d1)).set 2 (.slice B2 x.ops.length d2)
      refine bodyPost_ret (results_cell_row (p := 2) (ty := 27) rfl _ _ (w.heap.size + 1) 27 #[.slice B0 x.live.length d0, .slice B1 x.safe.length d1, .slice B2 x.ops.length d2] (0, 0) _ rfl hr9 Try.underlying27 rfl HI.out) rfl ⟨⟨_, rfl, ?_⟩, ?_⟩
      · refine DzA.mono (base := z.heap.size) ?_ (by omega)
        refine DzA.set (DzA.set (DzA.set (show DzA _ z.heap.size _ x from ⟨_, _, _, rfl, O0_6.out, O1_6.out, O2_6.out, D1_0_5.out.symm⟩) ?_ _) ?_ _) ?_ _ <;> (show w.heap.size + 1 < z.heap.size; omega)
      · exact ((hbn.setCell (Nat.le_succ _) _).setCell (Nat.le_succ _) _).setCell (Nat.le_succ _) _
    refine AllReadyH.cons rfl (fun K hK => ?_) AllReadyH.nil
    go_simp
    have hal : Below (u2).heap.size u2 ((u2).alloc (.cells #[] 75)) := (Below.refl _ _).alloc (Nat.le_refl _) _
    have O1_3 := Lib.hid (OwnG.lit (T := 75) (sz := 2) (f := Fz.cells) (u2) (base := z.heap.size) hb2.size)
    have D1_2_3 := Lib.hid (Dis.fresh O2_2.out 0 0)
    have O2_3 := Lib.hid (OwnG.below O2_2.out hal)
    have D1_0_3 := Lib.hid (Dis.fresh O0_2.out 0 0)
    have O0_3 := Lib.hid (OwnG.below O0_2.out hal)
    have hb3 := hb2.alloc hb2.size (.cells #[] 75)
    clear hal
    generalize (u2).alloc (.cells #[] 75) = u3 at *
    refine hK.out _ _ ⟨below_keep hb3 _ _ p0, below_keep hb3 _ _ p1, below_keep hb3 _ _ p2⟩ (fun hHeld => ?_)
    clear hK K
    (try simp only [Act.put, List.getElem_toArray, List.getElem_cons_zero, List.getElem_cons_succ, List.setIfInBounds_toArray, List.set_cons_zero, List.set_cons_succ])
    refine wpAnyH_ready (rs := [3]) (by kernel_rfl) (by simp) ?_
    refine AllReadyH.cons rfl (fun K hK => ?_) AllReadyH.nil
    obtain ⟨v0, u4, hr0, o0, hg0, hl0⟩ := run_app_all fz_cells fz_one (by omega) Try.underlying24 H1.out H2.out H3.out H4.out rfl (u3) 24 O0_3.out hb3.size (c := c0) (h0.below FzR.stays (hx.trans (hb3.mono hx.size))) hln0 (by omega)
    refine step_append_run rfl (.tmp 3) (.tmp 5) 24 24 rfl rfl rfl hr0 ?_
    have hb4 := hb3.grown hg0 hb3.size (fun k hk => (OwnG.block_lt O0_3.out k hk).1)
    have D0_2_4 := Lib.hid (Dis.app O2_3.out (D0_2_2.out) hl0)
    have O2_4 := Lib.hid (OwnG.keptD O2_3.out hg0 (D0_2_2.out))
    have D0_1_4 := Lib.hid (Dis.app O1_3.out (D1_0_3.out.symm) hl0)
    have O1_4 := Lib.hid (OwnG.keptD O1_3.out hg0 (D1_0_3.out.symm))
    have O0_4 := Lib.hid o0
    obtain ⟨B0, d0, e0, -, -, -⟩ := (show OwnZ u4 z.heap.size v0 _ from o0).sl
    subst e0
    clear o0 hr0 hg0 hl0
    refine hK.out _ _ ⟨below_keep hb4 _ _ p0, below_keep hb4 _ _ p1, below_keep hb4 _ _ p2⟩ (fun hHeld => ?_)
    clear hK K
    (try simp only [Act.put, List.getElem_toArray, List.getElem_cons_zero, List.getElem_cons_succ, List.setIfInBounds_toArray, List.set_cons_zero, List.set_cons_succ])
    refine wpAnyH_ready (rs := [7]) (by kernel_rfl) (by simp) ?_
    refine AllReadyH.cons rfl (fun K hK => ?_) AllReadyH.nil
    obtain ⟨v1, u5, hr1, o1, hg1, hl1⟩ := run_app_all fz_cells fz_one (by omega) Try.underlying24 H1.out H2.out H3.out H4.out rfl (u4) 24 O1_4.out hb4.size (c := c1) (h1.below FzR.stays (hx.trans (hb4.mono hx.size))) hln1 (by omega)
    refine step_append_run rfl (.tmp 7) (.tmp 9) 24 24 rfl rfl rfl hr1 ?_
    have hb5 := hb4.grown hg1 hb4.size (fun k hk => (OwnG.block_lt O1_4.out k hk).1)
    have D1_2_5 := Lib.hid (Dis.app O2_4.out (D1_2_3.out) hl1)
    have O2_5 := Lib.hid (OwnG.keptD O2_4.out hg1 (D1_2_3.out))
    have D1_0_5 := Lib.hid (Dis.app O0_4.out (D0_1_4.out.symm) hl1)
    have O0_5 := Lib.hid (OwnG.keptD O0_4.out hg1 (D0_1_4.out.symm))
    have O1_5 := Lib.hid o1
    obtain ⟨B1, d1, e1, -, -, -⟩ := (show OwnZ u5 z.heap.size v1 _ from o1).sl
    subst e1
    clear o1 hr1 hg1 hl1
    refine hK.out _ _ ⟨below_keep hb5 _ _ p0, below_keep hb5 _ _ p1, below_keep hb5 _ _ p2⟩ (fun hHeld => ?_)
    clear hK K
    (try simp only [Act.put, List.getElem_toArray, List.getElem_cons_zero, List.getElem_cons_succ, List.setIfInBounds_toArray, List.set_cons_zero, List.set_cons_succ])
    refine wpAnyH_ready (rs := [11]) (by kernel_rfl) (by simp) ?_
    refine AllReadyH.cons rfl (fun K hK => ?_) AllReadyH.nil
    obtain ⟨v2, u6, hr2, o2, hg2, hl2⟩ := run_app_all oz_cells oz_one (by omega) Try.underlying25 J1.out J2.out J3.out J4.out rfl (u5) 25 O2_5.out hb5.size (c := c2) (h2.below OzR.stays (hx.trans (hb5.mono hx.size))) hln2 (by omega)
    refine step_append_run rfl (.tmp 11) (.tmp 13) 25 25 rfl rfl rfl hr2 ?_
    have hb6 := hb5.grown hg2 hb5.size (fun k hk => (OwnG.block_lt O2_5.out k hk).1)
    have D2_0_6 := Lib.hid (Dis.app O0_5.out (D0_2_4.out.symm) hl2)
    have O0_6 := Lib.hid (OwnG.keptD O0_5.out hg2 (D0_2_4.out.symm))
    have D2_1_6 := Lib.hid (Dis.app O1_5.out (D1_2_5.out.symm) hl2)
    have O1_6 := Lib.hid (OwnG.keptD O1_5.out hg2 (D1_2_5.out.symm))
    have O2_6 := Lib.hid o2
    obtain ⟨B2, d2, e2, -, -, -⟩ := (show OwnO u6 z.heap.size v2 _ from o2).sl
    subst e2
    clear o2 hr2 hg2 hl2
    have rr := rb.below hb6
    obtain ⟨⟨r0, r1, r2⟩, ⟨f0, f1, f2⟩⟩ := rr.three
    have RR := Lib.hid rr
    clear rr
    refine hK.out _ _ ⟨below_keep hb6 _ _ p0, below_keep hb6 _ _ p1, below_keep hb6 _ _ p2⟩ (fun hHeld => ?_)
    clear hK K
    (try simp only [Act.put, List.getElem_toArray, List.getElem_cons_zero, List.getElem_cons_succ, List.setIfInBounds_toArray, List.set_cons_zero, List.set_cons_succ])
    refine wpAnyH_take (i := 12) (v := ?v20) rfl (by kernel_rfl) (by kernel_rfl) (by kernel_rfl) (fun _ _ _ h => h) (Or.inl ⟨by rfl, ?hy20⟩) hHeld ?rest20
    case hy20 => (intro w' hSw; (try dsimp only at hSw); first | (go_simp; done) | (go_simp; with_reducible rfl))
    simp only [Act.put, List.getElem_toArray, List.getElem_cons_zero, List.getElem_cons_succ, List.setIfInBounds_toArray, List.set_cons_zero, List.set_cons_succ]
    refine wpAnyH_ready (rs := [13]) (by kernel_rfl) (by simp) ?_
    refine AllReadyH.cons rfl (fun K hK => ?_) AllReadyH.nil
    go_simp
    refine hK.out _ _ ⟨cellOff (cellOff (cellOff (below_keep hb6 _ _ p0) (by simp)) (by simp)) (by simp), cellOff (cellOff (cellOff (below_keep hb6 _ _ p1) (by simp)) (by simp)) (by simp), cellOff (cellOff (cellOff (below_keep hb6 _ _ p2) (by simp)) (by simp)) (by simp)⟩ (fun hHeld => ?_)
    clear hK K
    (try simp only [Act.put, List.getElem_toArray, List.getElem_cons_zero, List.getElem_cons_succ, List.setIfInBounds_toArray, List.set_cons_zero, List.set_cons_succ])
    refine wpAnyH_done (by kernel_rfl) ?_ _
    refine NoPanic.normal ?_
    clear hHeld
    have hbn : Below w.heap.size w u6 := hx.trans (hb6.mono hx.size)
    clear r0 r1 r2 f0 f1 f2
    go_wp2_with fail
    have hr9 := (((RR.out).set 0 (.slice B0 x.live.length d0)).set 1 (.slice B1 x.safe.length d1)).set 2 (.slice B2 x.ops.length d2)
    refine bodyPost_ret (results_cell_row (p := 2) (ty := 27) rfl _ _ (w.heap.size + 1) 27 #[.slice B0 x.live.length d0, .slice B1 x.safe.length d1, .slice B2 x.ops.length d2] (0, 0) _ rfl hr9 Try.underlying27 rfl HI.out) rfl ⟨⟨_, rfl, ?_⟩, ?_⟩
    · refine DzA.mono (base := z.heap.size) ?_ (by omega)
      refine DzA.set (DzA.set (DzA.set (show DzA _ z.heap.size _ x from ⟨_, _, _, rfl, O0_6.out, O1_6.out, O2_6.out, D1_0_5.out.symm⟩) ?_ _) ?_ _) ?_ _ <;> (show w.heap.size + 1 < z.heap.size; omega)
    · exact ((hbn.setCell (Nat.le_succ _) _).setCell (Nat.le_succ _) _).setCell (Nat.le_succ _) _
  refine AllReadyH.cons rfl (fun K hK => ?_) AllReadyH.nil
  go_simp
  have hal : Below (u1).heap.size u1 ((u1).alloc (.cells #[] 75)) := (Below.refl _ _).alloc (Nat.le_refl _) _
  have O1_2 := Lib.hid (OwnG.lit (T := 75) (sz := 2) (f := Fz.cells) (u1) (base := z.heap.size) hb1.size)
  have D1_2_2 := Lib.hid (Dis.fresh O2_1.out 0 0)
  have O2_2 := Lib.hid (OwnG.below O2_1.out hal)
  have hb2 := hb1.alloc hb1.size (.cells #[] 75)
  clear hal
  generalize (u1).alloc (.cells #[] 75) = u2 at *
  refine hK.out _ _ ⟨below_keep hb2 _ _ p0, below_keep hb2 _ _ p1, below_keep hb2 _ _ p2⟩ (fun hHeld => ?_)
  clear hK K
  (try simp only [Act.put, List.getElem_toArray, List.getElem_cons_zero, List.getElem_cons_succ, List.setIfInBounds_toArray, List.set_cons_zero, List.set_cons_succ])
  refine wpAnyH_ready (rs := [0]) (by kernel_rfl) (by simp) ?_
  refine AllReadyH.cons rfl (fun K hK => ?_) AllReadyH.nil
  go_simp
  have hal : Below (u2).heap.size u2 ((u2).alloc (.cells #[] 75)) := (Below.refl _ _).alloc (Nat.le_refl _) _
  have O0_3 := Lib.hid (OwnG.lit (T := 75) (sz := 2) (f := Fz.cells) (u2) (base := z.heap.size) hb2.size)
  have D0_2_3 := Lib.hid (Dis.fresh O2_2.out 0 0)
  have O2_3 := Lib.hid (OwnG.below O2_2.out hal)
  have D0_1_3 := Lib.hid (Dis.fresh O1_2.out 0 0)
  have O1_3 := Lib.hid (OwnG.below O1_2.out hal)
  have hb3 := hb2.alloc hb2.size (.cells #[] 75)
  clear hal
  generalize (u2).alloc (.cells #[] 75) = u3 at *
  refine hK.out _ _ ⟨below_keep hb3 _ _ p0, below_keep hb3 _ _ p1, below_keep hb3 _ _ p2⟩ (fun hHeld => ?_)
  clear hK K
  (try simp only [Act.put, List.getElem_toArray, List.getElem_cons_zero, List.getElem_cons_succ, List.setIfInBounds_toArray, List.set_cons_zero, List.set_cons_succ])
  refine wpAnyH_ready (rs := [3]) (by kernel_rfl) (by simp) ?_
  refine AllReadyH.cons rfl (fun K hK => ?_) AllReadyH.nil
  obtain ⟨v0, u4, hr0, o0, hg0, hl0⟩ := run_app_all fz_cells fz_one (by omega) Try.underlying24 H1.out H2.out H3.out H4.out rfl (u3) 24 O0_3.out hb3.size (c := c0) (h0.below FzR.stays (hx.trans (hb3.mono hx.size))) hln0 (by omega)
  refine step_append_run rfl (.tmp 3) (.tmp 5) 24 24 rfl rfl rfl hr0 ?_
  have hb4 := hb3.grown hg0 hb3.size (fun k hk => (OwnG.block_lt O0_3.out k hk).1)
  have D0_2_4 := Lib.hid (Dis.app O2_3.out (D0_2_3.out) hl0)
  have O2_4 := Lib.hid (OwnG.keptD O2_3.out hg0 (D0_2_3.out))
  have D0_1_4 := Lib.hid (Dis.app O1_3.out (D0_1_3.out) hl0)
  have O1_4 := Lib.hid (OwnG.keptD O1_3.out hg0 (D0_1_3.out))
  have O0_4 := Lib.hid o0
  obtain ⟨B0, d0, e0, -, -, -⟩ := (show OwnZ u4 z.heap.size v0 _ from o0).sl
  subst e0
  clear o0 hr0 hg0 hl0
  refine hK.out _ _ ⟨below_keep hb4 _ _ p0, below_keep hb4 _ _ p1, below_keep hb4 _ _ p2⟩ (fun hHeld => ?_)
  clear hK K
  (try simp only [Act.put, List.getElem_toArray, List.getElem_cons_zero, List.getElem_cons_succ, List.setIfInBounds_toArray, List.set_cons_zero, List.set_cons_succ])
  refine wpAnyH_ready (rs := [7]) (by kernel_rfl) (by simp) ?_
  refine AllReadyH.cons rfl (fun K hK => ?_) AllReadyH.nil
  obtain ⟨v1, u5, hr1, o1, hg1, hl1⟩ := run_app_all fz_cells fz_one (by omega) Try.underlying24 H1.out H2.out H3.out H4.out rfl (u4) 24 O1_4.out hb4.size (c := c1) (h1.below FzR.stays (hx.trans (hb4.mono hx.size))) hln1 (by omega)
  refine step_append_run rfl (.tmp 7) (.tmp 9) 24 24 rfl rfl rfl hr1 ?_
  have hb5 := hb4.grown hg1 hb4.size (fun k hk => (OwnG.block_lt O1_4.out k hk).1)
  have D1_2_5 := Lib.hid (Dis.app O2_4.out (D1_2_2.out) hl1)
  have O2_5 := Lib.hid (OwnG.keptD O2_4.out hg1 (D1_2_2.out))
  have D1_0_5 := Lib.hid (Dis.app O0_4.out (D0_1_4.out.symm) hl1)
  have O0_5 := Lib.hid (OwnG.keptD O0_4.out hg1 (D0_1_4.out.symm))
  have O1_5 := Lib.hid o1
  obtain ⟨B1, d1, e1, -, -, -⟩ := (show OwnZ u5 z.heap.size v1 _ from o1).sl
  subst e1
  clear o1 hr1 hg1 hl1
  refine hK.out _ _ ⟨below_keep hb5 _ _ p0, below_keep hb5 _ _ p1, below_keep hb5 _ _ p2⟩ (fun hHeld => ?_)
  clear hK K
  (try simp only [Act.put, List.getElem_toArray, List.getElem_cons_zero, List.getElem_cons_succ, List.setIfInBounds_toArray, List.set_cons_zero, List.set_cons_succ])
  refine wpAnyH_ready (rs := [11]) (by kernel_rfl) (by simp) ?_
  refine AllReadyH.cons rfl (fun K hK => ?_) AllReadyH.nil
  obtain ⟨v2, u6, hr2, o2, hg2, hl2⟩ := run_app_all oz_cells oz_one (by omega) Try.underlying25 J1.out J2.out J3.out J4.out rfl (u5) 25 O2_5.out hb5.size (c := c2) (h2.below OzR.stays (hx.trans (hb5.mono hx.size))) hln2 (by omega)
  refine step_append_run rfl (.tmp 11) (.tmp 13) 25 25 rfl rfl rfl hr2 ?_
  have hb6 := hb5.grown hg2 hb5.size (fun k hk => (OwnG.block_lt O2_5.out k hk).1)
  have D2_1_6 := Lib.hid (Dis.app O1_5.out (D1_2_5.out.symm) hl2)
  have O1_6 := Lib.hid (OwnG.keptD O1_5.out hg2 (D1_2_5.out.symm))
  have D2_0_6 := Lib.hid (Dis.app O0_5.out (D0_2_4.out.symm) hl2)
  have O0_6 := Lib.hid (OwnG.keptD O0_5.out hg2 (D0_2_4.out.symm))
  have O2_6 := Lib.hid o2
  obtain ⟨B2, d2, e2, -, -, -⟩ := (show OwnO u6 z.heap.size v2 _ from o2).sl
  subst e2
  clear o2 hr2 hg2 hl2
  have rr := rb.below hb6
  obtain ⟨⟨r0, r1, r2⟩, ⟨f0, f1, f2⟩⟩ := rr.three
  have RR := Lib.hid rr
  clear rr
  refine hK.out _ _ ⟨below_keep hb6 _ _ p0, below_keep hb6 _ _ p1, below_keep hb6 _ _ p2⟩ (fun hHeld => ?_)
  clear hK K
  (try simp only [Act.put, List.getElem_toArray, List.getElem_cons_zero, List.getElem_cons_succ, List.setIfInBounds_toArray, List.set_cons_zero, List.set_cons_succ])
  refine wpAnyH_take (i := 12) (v := ?v21) rfl (by kernel_rfl) (by kernel_rfl) (by kernel_rfl) (fun _ _ _ h => h) (Or.inl ⟨by rfl, ?hy21⟩) hHeld ?rest21
  case hy21 => (intro w' hSw; (try dsimp only at hSw); first | (go_simp; done) | (go_simp; with_reducible rfl))
  simp only [Act.put, List.getElem_toArray, List.getElem_cons_zero, List.getElem_cons_succ, List.setIfInBounds_toArray, List.set_cons_zero, List.set_cons_succ]
  refine wpAnyH_ready (rs := [13]) (by kernel_rfl) (by simp) ?_
  refine AllReadyH.cons rfl (fun K hK => ?_) AllReadyH.nil
  go_simp
  refine hK.out _ _ ⟨cellOff (cellOff (cellOff (below_keep hb6 _ _ p0) (by simp)) (by simp)) (by simp), cellOff (cellOff (cellOff (below_keep hb6 _ _ p1) (by simp)) (by simp)) (by simp), cellOff (cellOff (cellOff (below_keep hb6 _ _ p2) (by simp)) (by simp)) (by simp)⟩ (fun hHeld => ?_)
  clear hK K
  (try simp only [Act.put, List.getElem_toArray, List.getElem_cons_zero, List.getElem_cons_succ, List.setIfInBounds_toArray, List.set_cons_zero, List.set_cons_succ])
  refine wpAnyH_done (by kernel_rfl) ?_ _
  refine NoPanic.normal ?_
  clear hHeld
  have hbn : Below w.heap.size w u6 := hx.trans (hb6.mono hx.size)
  clear r0 r1 r2 f0 f1 f2
  go_wp2_with fail
  have hr9 := (((RR.out).set 0 (.slice B0 x.live.length d0)).set 1 (.slice B1 x.safe.length d1)).set 2 (.slice B2 x.ops.length d2)
  refine bodyPost_ret (results_cell_row (p := 2) (ty := 27) rfl _ _ (w.heap.size + 1) 27 #[.slice B0 x.live.length d0, .slice B1 x.safe.length d1, .slice B2 x.ops.length d2] (0, 0) _ rfl hr9 Try.underlying27 rfl HI.out) rfl ⟨⟨_, rfl, ?_⟩, ?_⟩
  · refine DzA.mono (base := z.heap.size) ?_ (by omega)
    refine DzA.set (DzA.set (DzA.set (show DzA _ z.heap.size _ x from ⟨_, _, _, rfl, O0_6.out, O1_6.out, O2_6.out, D1_0_5.out.symm⟩) ?_ _) ?_ _) ?_ _ <;> (show w.heap.size + 1 < z.heap.size; omega)
  · exact ((hbn.setCell (Nat.le_succ _) _).setCell (Nat.le_succ _) _).setCell (Nat.le_succ _) _

set_option maxRecDepth 100000 in
set_option maxHeartbeats 1000000 in
theorem implCopyDisk (x : Dz) (A0 : Option Addr) (n0 c0 : Nat) (A1 : Option Addr) (n1 c1 : Nat) (A2 : Option Addr) (n2 c2 : Nat) (ok : Nat → Prop) (w : World) (h0 : Sl FzR 2 ok w A0 n0 x.live) (h1 : Sl FzR 2 ok w A1 n1 x.safe) (h2 : Sl OzR 4 ok w A2 n2 x.ops) (hl : n0 ≤ 1048576 ∧ n1 ≤ 1048576 ∧ n2 ≤ 1048576) :
    Calls Try.prog 63 #[.agg #[.slice A0 n0 c0, .slice A1 n1 c1, .slice A2 n2 c2]] w fun e w' => (∃ v, e = .returned v ∧ DzA w' w.heap.size v (x)) ∧ Below w.heap.size w w' := by
  obtain ⟨hx, hwz⟩ := box2 w (.cells #[.slice A0 n0 c0, .slice A1 n1 c1, .slice A2 n2 c2] 27) (.cells #[.slice none 0 0, .slice none 0 0, .slice none 0 0] 27)
  have ra := (Row.new w 27 #[.slice A0 n0 c0, .slice A1 n1 c1, .slice A2 n2 c2]).alloc (.cells #[.slice none 0 0, .slice none 0 0, .slice none 0 0] 27)
  have rb := Row.newAt (w.alloc (.cells #[.slice A0 n0 c0, .slice A1 n1 c1, .slice A2 n2 c2] 27)) 27 #[.slice none 0 0, .slice none 0 0, .slice none 0 0] (w.heap.size + 1) (by simp)
  have HI := Lib.hid infoDisk
  go_enter Try.func63, Try.ntmps63
  go_wp2_with fail
  generalize (w.alloc (.cells #[.slice A0 n0 c0, .slice A1 n1 c1, .slice A2 n2 c2] 27)).alloc (.cells #[.slice none 0 0, .slice none 0 0, .slice none 0 0] 27) = z at *
  obtain ⟨⟨p0, p1, p2⟩, -⟩ := ra.three
  have hb0 : Below z.heap.size z z.drew := (Below.refl _ z).drew
  refine wp_region_noPanic ?_
  refine wp_region_held_drew (S := (fun w' => w'.cell? ⟨w.heap.size, 0, none⟩ = some (.slice A0 n0 c0) ∧ w'.cell? ⟨w.heap.size, 1, none⟩ = some (.slice A1 n1 c1) ∧ w'.cell? ⟨w.heap.size, 2, none⟩ = some (.slice A2 n2 c2))) (by kernel_rfl) ⟨p0, p1, p2⟩ (fun hHeld => ?_)
  generalize z.drew = u0 at *
  refine wpAnyH_take (i := 0) (v := ?v22) rfl (by kernel_rfl) (by kernel_rfl) (by kernel_rfl) (fun _ _ _ h => h) (Or.inl ⟨by rfl, ?hy22⟩) hHeld ?rest22
  case hy22 => (intro w' hSw; (try dsimp only at hSw); first | (go_simp; done) | (go_simp; with_reducible rfl))
  simp only [Act.put, List.getElem_toArray, List.getElem_cons_zero, List.getElem_cons_succ, List.setIfInBounds_toArray, List.set_cons_zero, List.set_cons_succ]
  refine wpAnyH_take (i := 1) (v := ?v23) rfl (by kernel_rfl) (by kernel_rfl) (by kernel_rfl) (fun _ _ _ h => h) (Or.inl ⟨by rfl, ?hy23⟩) hHeld ?rest23
  case hy23 => (intro w' hSw; (try dsimp only at hSw); first | (go_simp; done) | (go_simp; with_reducible rfl))
  simp only [Act.put, List.getElem_toArray, List.getElem_cons_zero, List.getElem_cons_succ, List.setIfInBounds_toArray, List.set_cons_zero, List.set_cons_succ]
  refine wpAnyH_take (i := 3) (v := ?v24) rfl (by kernel_rfl) (by kernel_rfl) (by kernel_rfl) (fun _ _ _ h => h) (Or.inl ⟨by rfl, ?hy24⟩) hHeld ?rest24
  case hy24 => (intro w' hSw; (try dsimp only at hSw); first | (go_simp; done) | (go_simp; with_reducible rfl))
  simp only [Act.put, List.getElem_toArray, List.getElem_cons_zero, List.getElem_cons_succ, List.setIfInBounds_toArray, List.set_cons_zero, List.set_cons_succ]
  refine wpAnyH_take (i := 4) (v := ?v25) rfl (by kernel_rfl) (by kernel_rfl) (by kernel_rfl) (fun _ _ _ h => h) (Or.inl ⟨by rfl, ?hy25⟩) hHeld ?rest25
  case hy25 => (intro w' hSw; (try dsimp only at hSw); first | (go_simp; done) | (go_simp; with_reducible rfl))
  simp only [Act.put, List.getElem_toArray, List.getElem_cons_zero, List.getElem_cons_succ, List.setIfInBounds_toArray, List.set_cons_zero, List.set_cons_succ]
  refine wpAnyH_take (i := 6) (v := ?v26) rfl (by kernel_rfl) (by kernel_rfl) (by kernel_rfl) (fun _ _ _ h => h) (Or.inl ⟨by rfl, ?hy26⟩) hHeld ?rest26
  case hy26 => (intro w' hSw; (try dsimp only at hSw); first | (go_simp; done) | (go_simp; with_reducible rfl))
  simp only [Act.put, List.getElem_toArray, List.getElem_cons_zero, List.getElem_cons_succ, List.setIfInBounds_toArray, List.set_cons_zero, List.set_cons_succ]
  refine wpAnyH_take (i := 7) (v := ?v27) rfl (by kernel_rfl) (by kernel_rfl) (by kernel_rfl) (fun _ _ _ h => h) (Or.inl ⟨by rfl, ?hy27⟩) hHeld ?rest27
  case hy27 => (intro w' hSw; (try dsimp only at hSw); first | (go_simp; done) | (go_simp; with_reducible rfl))
  simp only [Act.put, List.getElem_toArray, List.getElem_cons_zero, List.getElem_cons_succ, List.setIfInBounds_toArray, List.set_cons_zero, List.set_cons_succ]
  refine wpAnyH_ready (rs := [2]) (by kernel_rfl) (by simp) ?_
  refine AllReadyH.cons rfl (fun K hK => ?_) AllReadyH.nil
  go_simp
  go_at_call 86
  refine (implCloneFiles A0 n0 c0 x.live _ _ (h0.below FzR.stays (hx.trans (hb0.mono hx.size))) hl.1).mono ?_
  rintro e u1 ⟨⟨v0, rfl, o0⟩, hq0⟩
  have O0_1 := Lib.hid o0
  have hb1 := hb0.trans (hq0.mono hb0.size)
  obtain ⟨B0, d0, e0, -, -, -⟩ := (show OwnZ u1 _ v0 _ from o0).sl
  subst e0
  clear o0
  refine hK.out _ _ (keep3 hHeld hq0) (fun hHeld => ?_)
  clear hK K
  (try simp only [Act.put, List.getElem_toArray, List.getElem_cons_zero, List.getElem_cons_succ, List.setIfInBounds_toArray, List.set_cons_zero, List.set_cons_succ])
  refine wpAnyH_ready (rs := [5]) (by kernel_rfl) (by simp) ?_
  refine AllReadyH.cons rfl (fun K hK => ?_) AllReadyH.nil
  go_simp
  go_at_call 86
  refine (implCloneFiles A1 n1 c1 x.safe _ _ (h1.below FzR.stays (hx.trans (hb1.mono hx.size))) hl.2.1).mono ?_
  rintro e u2 ⟨⟨v1, rfl, o1⟩, hq1⟩
  have O1_2 := Lib.hid o1
  have O0_2 := Lib.hid (OwnG.below O0_1.out hq1)
  have HD := Lib.hid (show Dis (.slice B0 x.live.length d0) v1 from fun k hk e => by have h1 := (OwnG.block_lt O0_1.out k hk).2; have h2 := (OwnG.block_lt O1_2.out k e).1; omega)
  have hb2 := hb1.trans (hq1.mono hb1.size)
  obtain ⟨B1, d1, e1, -, -, -⟩ := (show OwnZ u2 _ v1 _ from o1).sl
  subst e1
  clear o1
  refine hK.out _ _ (keep3 hHeld hq1) (fun hHeld => ?_)
  clear hK K
  (try simp only [Act.put, List.getElem_toArray, List.getElem_cons_zero, List.getElem_cons_succ, List.setIfInBounds_toArray, List.set_cons_zero, List.set_cons_succ])
  refine wpAnyH_ready (rs := [8]) (by kernel_rfl) (by simp) ?_
  refine AllReadyH.cons rfl (fun K hK => ?_) AllReadyH.nil
  go_simp
  go_at_call 91
  refine (implCloneDOps A2 n2 c2 x.ops _ _ (h2.below OzR.stays (hx.trans (hb2.mono hx.size))) hl.2.2).mono ?_
  rintro e u3 ⟨⟨v2, rfl, o2⟩, hq2⟩
  have O2_3 := Lib.hid o2
  have O0_3 := Lib.hid (OwnG.below O0_2.out hq2)
  have O1_3 := Lib.hid (OwnG.below O1_2.out hq2)
  have hb3 := hb2.trans (hq2.mono hb2.size)
  obtain ⟨B2, d2, e2, -, -, -⟩ := (show OwnO u3 _ v2 _ from o2).sl
  subst e2
  clear o2
  have rr := rb.below hb3
  obtain ⟨⟨r0, r1, r2⟩, ⟨f0, f1, f2⟩⟩ := rr.three
  have RR := Lib.hid rr
  clear rr
  refine hK.out _ _ (keep3 hHeld hq2) (fun hHeld => ?_)
  clear hK K
  (try simp only [Act.put, List.getElem_toArray, List.getElem_cons_zero, List.getElem_cons_succ, List.setIfInBounds_toArray, List.set_cons_zero, List.set_cons_succ])
  refine wpAnyH_take (i := 9) (v := ?v28) rfl (by kernel_rfl) (by kernel_rfl) (by kernel_rfl) (fun _ _ _ h => h) (Or.inl ⟨by rfl, ?hy28⟩) hHeld ?rest28
  case hy28 => (intro w' hSw; (try dsimp only at hSw); first | (go_simp; done) | (go_simp; with_reducible rfl))
  simp only [Act.put, List.getElem_toArray, List.getElem_cons_zero, List.getElem_cons_succ, List.setIfInBounds_toArray, List.set_cons_zero, List.set_cons_succ]
  refine wpAnyH_ready (rs := [10]) (by kernel_rfl) (by simp) ?_
  refine AllReadyH.cons rfl (fun K hK => ?_) AllReadyH.nil
  go_simp
  refine hK.out _ _ ⟨cellOff (cellOff (cellOff (below_keep hb3 _ _ p0) (by simp)) (by simp)) (by simp), cellOff (cellOff (cellOff (below_keep hb3 _ _ p1) (by simp)) (by simp)) (by simp), cellOff (cellOff (cellOff (below_keep hb3 _ _ p2) (by simp)) (by simp)) (by simp)⟩ (fun hHeld => ?_)
  clear hK K
  (try simp only [Act.put, List.getElem_toArray, List.getElem_cons_zero, List.getElem_cons_succ, List.setIfInBounds_toArray, List.set_cons_zero, List.set_cons_succ])
  refine wpAnyH_done (by kernel_rfl) ?_ _
  refine NoPanic.normal ?_
  clear hHeld
  have hbn : Below w.heap.size w u3 := hx.trans (hb3.mono hx.size)
  clear r0 r1 r2 f0 f1 f2
  go_wp2_with fail
  have hr9 := (((RR.out).set 0 (.slice B0 x.live.length d0)).set 1 (.slice B1 x.safe.length d1)).set 2 (.slice B2 x.ops.length d2)
  refine bodyPost_ret (results_cell_row (p := 2) (ty := 27) rfl _ _ (w.heap.size + 1) 27 #[.slice B0 x.live.length d0, .slice B1 x.safe.length d1, .slice B2 x.ops.length d2] (0, 0) _ rfl hr9 Try.underlying27 rfl HI.out) rfl ⟨⟨_, rfl, ?_⟩, ?_⟩
  · refine DzA.mono (base := z.heap.size) ?_ (by omega)
    refine DzA.set (DzA.set (DzA.set (show DzA _ z.heap.size _ x from ⟨_, _, _, rfl, OwnZ.mono O0_3.out hb0.size, OwnZ.mono O1_3.out hb1.size, OwnO.mono O2_3.out hb2.size, HD.out⟩) ?_ _) ?_ _) ?_ _ <;> (show w.heap.size + 1 < z.heap.size; omega)
  · exact ((hbn.setCell (Nat.le_succ _) _).setCell (Nat.le_succ _) _).setCell (Nat.le_succ _) _
end Go.Proofs.Ytkinegapnknhiaa
namespace Go.Proofs.Ytkinegapnknhiaa
open Go.RowKit Go.Maps
set_option linter.unusedVariables false
set_option linter.unusedSimpArgs false

/-- What an op on a right disk is refused for. -/
def codeD (x : Dz) (o : Oz) : Int := if formB o then (if (doF x.live o).2 then (if x.ops.length = 200 then 4 else if filesB (doF x.live o).1 then 0 else 4) else 3) else 2
/-- The disk behind an op. -/
def actD (x : Dz) (o : Oz) : Dz := if codeD x o = 0 then ⟨(doF x.live o).1, x.safe, x.ops ++ [o]⟩ else x
theorem codeD_form {x : Dz} {o : Oz} (h : formB o = false) : codeD x o = 2 ∧ actD x o = x := by
  have e : codeD x o = 2 := by unfold codeD; rw [h]; rfl
  exact ⟨e, by unfold actD; rw [e]; rfl⟩
theorem codeD_none {x : Dz} {o : Oz} (h : formB o = true) (hd : (doF x.live o).2 = false) : codeD x o = 3 ∧ actD x o = x := by
  have e : codeD x o = 3 := by unfold codeD; rw [h, hd]; rfl
  exact ⟨e, by unfold actD; rw [e]; rfl⟩
theorem codeD_many {x : Dz} {o : Oz} (h : formB o = true) (hd : (doF x.live o).2 = true) (hm : x.ops.length = 200) : codeD x o = 4 ∧ actD x o = x := by
  have e : codeD x o = 4 := by unfold codeD; rw [h, hd, if_pos hm]; rfl
  exact ⟨e, by unfold actD; rw [e]; rfl⟩
theorem codeD_full {x : Dz} {o : Oz} (h : formB o = true) (hd : (doF x.live o).2 = true) (hr : filesB (doF x.live o).1 = false) : codeD x o = 4 ∧ actD x o = x := by
  have e : codeD x o = 4 := by unfold codeD; rw [h, hd, hr]; simp
  exact ⟨e, by unfold actD; rw [e]; rfl⟩
theorem codeD_ok {x : Dz} {o : Oz} (h : formB o = true) (hd : (doF x.live o).2 = true) (hm : x.ops.length ≠ 200) (hr : filesB (doF x.live o).1 = true) : codeD x o = 0 ∧ actD x o = ⟨(doF x.live o).1, x.safe, x.ops ++ [o]⟩ := by
  have e : codeD x o = 0 := by unfold codeD; rw [h, hd, hr, if_neg hm]; rfl
  exact ⟨e, by unfold actD; rw [if_pos e]⟩
theorem results_cell_row2 {P : Program} {fn : Func} {p u : Tmp} {ty : TypeId} (h : fn.results = #[.cell p ty, .tmp u]) (tmps : Array Value) (w : World) (g : Nat) (t : TypeId) (cs : Array Value) (fr : Nat × Nat) (d : TypeDesc)
    (hp : tmps.getD p undef = .pointer (some ⟨g, 0, none⟩)) {r : Value} (hr : tmps.getD u undef = r) (hg : w.heap[g]? = some (.cells cs t fr))
    (hu : P.underlying ty = some d) (hd : (match d with | .struct _ | .array _ _ => true | _ => false) = true) (hi : (P.info? ty).map (·.size) = some cs.size) :
    (results fn tmps).run P w = .ok (.tuple #[.agg cs, r]) w := by
  rw [results_cell_tmp h, hp, hr]
  simp [asAddr, run_loadVar_row w g t ty cs fr d hg hu hd hi]
theorem OwnG.setNe {α : Type} {T : TypeId} {sz : Nat} {f : α → List Value} {w : World} {base : Nat} {v : Value} {xs : List α} (h : OwnG T sz f w base v xs) {p : Addr} (hp : v.ownBlock ≠ some p.block) (u : Value) : OwnG T sz f (w.setCell p u) base v xs :=
  World.ownsRow.kept h (row := some p.block) ⟨rfl, rfl, rfl, by simp [World.setCell], fun k _ hne => Below.heap_setCell _ _ _ _ (fun e => hne (by rw [e]))⟩ (Or.inr hp)
theorem OwnG.far {α : Type} {T : TypeId} {sz : Nat} {f : α → List Value} {w : World} {base : Nat} {v : Value} {xs : List α} (h : OwnG T sz f w base v xs) {g : Nat} (hg : w.heap.size ≤ g) : v.ownBlock ≠ some g := fun e => by
  have := (OwnG.block_lt h g e).2; omega
theorem box3 (w : World) (a b c : Obj) : Below w.heap.size w (((w.alloc a).alloc b).alloc c) ∧ w.heap.size + 3 ≤ (((w.alloc a).alloc b).alloc c).heap.size := ⟨(((Below.refl w.heap.size w).alloc (Nat.le_refl _) a).alloc (by simp) b).alloc (by simp <;> omega) c, by simp⟩

set_option maxRecDepth 100000 in
set_option maxHeartbeats 2000000 in
theorem specAct (x : Dz) (o : Oz) (A0 : Option Addr) (n0 c0 : Nat) (A1 : Option Addr) (n1 c1 : Nat) (A2 : Option Addr) (n2 c2 : Nat) (ok : Nat → Prop) (w : World) (h0 : Sl FzR 2 ok w A0 n0 x.live) (h1 : Sl FzR 2 ok w A1 n1 x.safe) (h2 : Sl OzR 4 ok w A2 n2 x.ops) (hr : filesB x.live = true ∧ x.safe.length ≤ 1048576 ∧ x.ops.length ≤ 1048575) (ho : o.data.size ≤ 268435456) :
    Calls Try.prog 58 #[.agg #[.slice A0 n0 c0, .slice A1 n1 c1, .slice A2 n2 c2], .agg #[.int .i64 o.kind, .string o.name, .string o.to, .string o.data]] w fun e w' => (∃ v, e = .returned (.tuple #[v, .int .i64 (codeD x o)]) ∧ DzA w' w.heap.size v (actD x o)) ∧ Below w.heap.size w w' := by
  obtain ⟨hx, hwz⟩ := box3 w (.cells #[.slice A0 n0 c0, .slice A1 n1 c1, .slice A2 n2 c2] 27) (.cells #[.int .i64 o.kind, .string o.name, .string o.to, .string o.data] 36) (.cells #[.slice none 0 0, .slice none 0 0, .slice none 0 0] 27)
  have ra := ((Row.new w 27 #[.slice A0 n0 c0, .slice A1 n1 c1, .slice A2 n2 c2]).alloc (.cells #[.int .i64 o.kind, .string o.name, .string o.to, .string o.data] 36)).alloc (.cells #[.slice none 0 0, .slice none 0 0, .slice none 0 0] 27)
  have ro := (Row.newAt (w.alloc (.cells #[.slice A0 n0 c0, .slice A1 n1 c1, .slice A2 n2 c2] 27)) 36 #[.int .i64 o.kind, .string o.name, .string o.to, .string o.data] (w.heap.size + 1) (by simp)).alloc (.cells #[.slice none 0 0, .slice none 0 0, .slice none 0 0] 27)
  have rb := Row.newAt ((w.alloc (.cells #[.slice A0 n0 c0, .slice A1 n1 c1, .slice A2 n2 c2] 27)).alloc (.cells #[.int .i64 o.kind, .string o.name, .string o.to, .string o.data] 36)) 27 #[.slice none 0 0, .slice none 0 0, .slice none 0 0] (w.heap.size + 2) (by simp)
  have HI := Lib.hid infoDisk
  obtain ⟨j0, hi, hz0, hz1, hz2⟩ := info_parts infoDOpT
  have J1 := Lib.hid hi
  have J2 := Lib.hid hz0
  have J3 := Lib.hid hz1
  have J4 := Lib.hid hz2
  clear hi hz0 hz1 hz2
  go_enter Try.func58, Try.ntmps58
  go_wp2_with fail
  generalize ((w.alloc (.cells #[.slice A0 n0 c0, .slice A1 n1 c1, .slice A2 n2 c2] 27)).alloc (.cells #[.int .i64 o.kind, .string o.name, .string o.to, .string o.data] 36)).alloc (.cells #[.slice none 0 0, .slice none 0 0, .slice none 0 0] 27) = z at *
  obtain rfl : x.live.length = n0 := h0.1
  obtain rfl : x.safe.length = n1 := h1.1
  obtain rfl : x.ops.length = n2 := h2.1
  have hfl := filesB_bytes hr.1
  have HL := Lib.hid (show x.live.length ≤ 1048576 ∧ x.safe.length ≤ 1048576 ∧ x.ops.length ≤ 1048576 from ⟨by omega, hr.2.1, by have := hr.2.2; omega⟩)
  have HBY := Lib.hid (doF_bytes x.live o)
  have HOL := Lib.hid hr.2.2
  have HFL := Lib.hid hfl
  clear hr hfl
  obtain ⟨⟨s0, s1, s2, s3⟩, -⟩ := ro.all4
  refine (specForm14 o _).mono ?_
  rintro e w1 ⟨rfl, hq⟩
  clear s0 s1 s2 s3
  have hx := hx.trans (hq.mono hx.size)
  have hwz := Nat.le_trans hwz hq.size
  have ra := ra.below hq
  have ro := ro.below hq
  have rb := rb.below hq
  obtain ⟨⟨p0, p1, p2⟩, -⟩ := ra.three
  obtain ⟨⟨s0, s1, s2, s3⟩, -⟩ := ro.all4
  obtain ⟨⟨r0, r1, r2⟩, ⟨f0, f1, f2⟩⟩ := rb.three
  cases e0 : formB o
  · have HA := Lib.hid (codeD_form (x := x) e0)
    go_wp2_with fail
    refine (specCopy x A0 _ c0 A1 _ c1 A2 _ c2 _ _ (h0.below FzR.stays hx) (h1.below FzR.stays hx) (h2.below OzR.stays hx) HL.out).mono ?_
    rintro e w9 ⟨⟨v, rfl, hv⟩, hb⟩
    have hxe := hx.trans (hb.mono hx.size)
    have RR := Lib.hid (rb.below hb)
    have HV := Lib.hid (hv.mono (base' := w.heap.size + 3) hwz)
    obtain ⟨v0, v1, v2, rfl, k0, k1, k2, -⟩ := hv
    obtain ⟨B0, d0, rfl, -⟩ := k0.sl
    obtain ⟨B1, d1, rfl, -⟩ := k1.sl
    obtain ⟨B2, d2, rfl, -⟩ := k2.sl
    clear p0 p1 p2 s0 s1 s2 s3 r0 r1 r2 f0 f1 f2 k0 k1 k2 hb
    have rr := RR.out
    obtain ⟨⟨r0, r1, r2⟩, ⟨f0, f1, f2⟩⟩ := rr.three
    clear rr
    go_wp2_with fail
    have hr9 := (((RR.out).set 0 (.slice B0 x.live.length d0)).set 1 (.slice B1 x.safe.length d1)).set 2 (.slice B2 x.ops.length d2)
    refine bodyPost_ret (results_cell_row2 (p := 4) (u := 5) (ty := 27) rfl _ _ (w.heap.size + 2) 27 #[.slice B0 x.live.length d0, .slice B1 x.safe.length d1, .slice B2 x.ops.length d2] (0, 0) _ rfl rfl hr9 Try.underlying27 rfl HI.out) rfl ⟨⟨.agg #[.slice B0 x.live.length d0, .slice B1 x.safe.length d1, .slice B2 x.ops.length d2], ?_, ?_⟩, ?_⟩
    · rw [HA.out.1]; rfl
    · refine DzA.mono (base := w.heap.size + 3) ?_ (by omega)
      rw [HA.out.2]
      refine DzA.set (DzA.set (DzA.set (HV.out) ?_ _) ?_ _) ?_ _ <;> (exact Nat.lt_succ_self _)
    · exact ((hxe.setCell (Nat.le_add_right _ 2) _).setCell (Nat.le_add_right _ 2) _).setCell (Nat.le_add_right _ 2) _
  have E0 := Lib.hid e0
  have HZ1 := Lib.hid hwz
  clear e0
  go_wp2_with fail
  refine (specDo14 A0 _ c0 x.live o _ _ (h0.below FzR.stays hx) (by have := HFL.out; omega) (by have := HFL.out; omega) ho).mono ?_
  rintro e w2 ⟨v, rfl, hv, hq2⟩
  obtain ⟨N0, e0, rfl, -, -, hsl⟩ := (show OwnZ w2 _ v _ from hv).sl
  have HN := Lib.hid hv
  clear hv
  have hx := hx.trans (hq2.mono hx.size)
  have hwz := Nat.le_trans hwz hq2.size
  have ra := ra.below hq2
  have ro := ro.below hq2
  have rb := rb.below hq2
  clear p0 p1 p2 s0 s1 s2 s3 r0 r1 r2 f0 f1 f2
  obtain ⟨⟨p0, p1, p2⟩, -⟩ := ra.three
  obtain ⟨⟨s0, s1, s2, s3⟩, -⟩ := ro.all4
  obtain ⟨⟨r0, r1, r2⟩, ⟨f0, f1, f2⟩⟩ := rb.three
  cases e1 : (doF x.live o).2
  · have HA := Lib.hid (codeD_none (x := x) E0.out e1)
    go_wp2_with fail
    refine (specCopy x A0 _ c0 A1 _ c1 A2 _ c2 _ _ (h0.below FzR.stays hx) (h1.below FzR.stays hx) (h2.below OzR.stays hx) HL.out).mono ?_
    rintro e w9 ⟨⟨v, rfl, hv⟩, hb⟩
    have hxe := hx.trans (hb.mono hx.size)
    have RR := Lib.hid (rb.below hb)
    have HV := Lib.hid (hv.mono (base' := w.heap.size + 3) hwz)
    obtain ⟨v0, v1, v2, rfl, k0, k1, k2, -⟩ := hv
    obtain ⟨B0, d0, rfl, -⟩ := k0.sl
    obtain ⟨B1, d1, rfl, -⟩ := k1.sl
    obtain ⟨B2, d2, rfl, -⟩ := k2.sl
    clear p0 p1 p2 s0 s1 s2 s3 r0 r1 r2 f0 f1 f2 k0 k1 k2 hb
    have rr := RR.out
    obtain ⟨⟨r0, r1, r2⟩, ⟨f0, f1, f2⟩⟩ := rr.three
    clear rr
    go_wp2_with fail
    have hr9 := (((RR.out).set 0 (.slice B0 x.live.length d0)).set 1 (.slice B1 x.safe.length d1)).set 2 (.slice B2 x.ops.length d2)
    refine bodyPost_ret (results_cell_row2 (p := 4) (u := 5) (ty := 27) rfl _ _ (w.heap.size + 2) 27 #[.slice B0 x.live.length d0, .slice B1 x.safe.length d1, .slice B2 x.ops.length d2] (0, 0) _ rfl rfl hr9 Try.underlying27 rfl HI.out) rfl ⟨⟨.agg #[.slice B0 x.live.length d0, .slice B1 x.safe.length d1, .slice B2 x.ops.length d2], ?_, ?_⟩, ?_⟩
    · rw [HA.out.1]; rfl
    · refine DzA.mono (base := w.heap.size + 3) ?_ (by omega)
      rw [HA.out.2]
      refine DzA.set (DzA.set (DzA.set (HV.out) ?_ _) ?_ _) ?_ _ <;> (exact Nat.lt_succ_self _)
    · exact ((hxe.setCell (Nat.le_add_right _ 2) _).setCell (Nat.le_add_right _ 2) _).setCell (Nat.le_add_right _ 2) _
  have E1 := Lib.hid e1
  clear e1
  by_cases h200 : x.ops.length = 200
  · have h200' : decide ((x.ops.length : Int) = 200) = true := decide_eq_true (by omega)
    have h2b : ((x.ops.length : Int) == 200) = true := by simpa using (show (x.ops.length : Int) = 200 by omega)
    have HA := Lib.hid (codeD_many (x := x) E0.out E1.out h200)
    clear h200
    go_wp2_with fail
    refine (specCopy x A0 _ c0 A1 _ c1 A2 _ c2 _ _ (h0.below FzR.stays hx) (h1.below FzR.stays hx) (h2.below OzR.stays hx) HL.out).mono ?_
    rintro e w9 ⟨⟨v, rfl, hv⟩, hb⟩
    have hxe := hx.trans (hb.mono hx.size)
    have RR := Lib.hid (rb.below hb)
    have HV := Lib.hid (hv.mono (base' := w.heap.size + 3) hwz)
    obtain ⟨v0, v1, v2, rfl, k0, k1, k2, -⟩ := hv
    obtain ⟨B0, d0, rfl, -⟩ := k0.sl
    obtain ⟨B1, d1, rfl, -⟩ := k1.sl
    obtain ⟨B2, d2, rfl, -⟩ := k2.sl
    clear p0 p1 p2 s0 s1 s2 s3 r0 r1 r2 f0 f1 f2 k0 k1 k2 hb
    have rr := RR.out
    obtain ⟨⟨r0, r1, r2⟩, ⟨f0, f1, f2⟩⟩ := rr.three
    clear rr
    go_wp2_with fail
    have hr9 := (((RR.out).set 0 (.slice B0 x.live.length d0)).set 1 (.slice B1 x.safe.length d1)).set 2 (.slice B2 x.ops.length d2)
    refine bodyPost_ret (results_cell_row2 (p := 4) (u := 5) (ty := 27) rfl _ _ (w.heap.size + 2) 27 #[.slice B0 x.live.length d0, .slice B1 x.safe.length d1, .slice B2 x.ops.length d2] (0, 0) _ rfl rfl hr9 Try.underlying27 rfl HI.out) rfl ⟨⟨.agg #[.slice B0 x.live.length d0, .slice B1 x.safe.length d1, .slice B2 x.ops.length d2], ?_, ?_⟩, ?_⟩
    · rw [HA.out.1]; rfl
    · refine DzA.mono (base := w.heap.size + 3) ?_ (by omega)
      rw [HA.out.2]
      refine DzA.set (DzA.set (DzA.set (HV.out) ?_ _) ?_ _) ?_ _ <;> (exact Nat.lt_succ_self _)
    · exact ((hxe.setCell (Nat.le_add_right _ 2) _).setCell (Nat.le_add_right _ 2) _).setCell (Nat.le_add_right _ 2) _
  have H200 := Lib.hid h200
  have h2a : decide ((x.ops.length : Int) = 200) = false := decide_eq_false (by omega)
  have h2b : ((x.ops.length : Int) == 200) = false := by simpa using (show ¬ (x.ops.length : Int) = 200 by omega)
  clear h200
  go_wp2_with fail
  refine (specFiles14 N0 _ e0 (doF x.live o).1 _ _ hsl (by have := HBY.out; have := HFL.out; omega)).mono ?_
  rintro e w3 ⟨rfl, hq3⟩
  have HN := Lib.hid (OwnG.below HN.out hq3)
  clear hsl
  have hx := hx.trans (hq3.mono hx.size)
  have hwz := Nat.le_trans hwz hq3.size
  have ra := ra.below hq3
  have ro := ro.below hq3
  have rb := rb.below hq3
  clear p0 p1 p2 s0 s1 s2 s3 r0 r1 r2 f0 f1 f2
  obtain ⟨⟨p0, p1, p2⟩, -⟩ := ra.three
  obtain ⟨⟨s0, s1, s2, s3⟩, -⟩ := ro.all4
  obtain ⟨⟨r0, r1, r2⟩, ⟨f0, f1, f2⟩⟩ := rb.three
  cases e2 : filesB (doF x.live o).1
  · have HA := Lib.hid (codeD_full (x := x) E0.out E1.out e2)
    go_wp2_with fail
    refine (specCopy x A0 _ c0 A1 _ c1 A2 _ c2 _ _ (h0.below FzR.stays hx) (h1.below FzR.stays hx) (h2.below OzR.stays hx) HL.out).mono ?_
    rintro e w9 ⟨⟨v, rfl, hv⟩, hb⟩
    have hxe := hx.trans (hb.mono hx.size)
    have RR := Lib.hid (rb.below hb)
    have HV := Lib.hid (hv.mono (base' := w.heap.size + 3) hwz)
    obtain ⟨v0, v1, v2, rfl, k0, k1, k2, -⟩ := hv
    obtain ⟨B0, d0, rfl, -⟩ := k0.sl
    obtain ⟨B1, d1, rfl, -⟩ := k1.sl
    obtain ⟨B2, d2, rfl, -⟩ := k2.sl
    clear p0 p1 p2 s0 s1 s2 s3 r0 r1 r2 f0 f1 f2 k0 k1 k2 hb
    have rr := RR.out
    obtain ⟨⟨r0, r1, r2⟩, ⟨f0, f1, f2⟩⟩ := rr.three
    clear rr
    go_wp2_with fail
    have hr9 := (((RR.out).set 0 (.slice B0 x.live.length d0)).set 1 (.slice B1 x.safe.length d1)).set 2 (.slice B2 x.ops.length d2)
    refine bodyPost_ret (results_cell_row2 (p := 4) (u := 5) (ty := 27) rfl _ _ (w.heap.size + 2) 27 #[.slice B0 x.live.length d0, .slice B1 x.safe.length d1, .slice B2 x.ops.length d2] (0, 0) _ rfl rfl hr9 Try.underlying27 rfl HI.out) rfl ⟨⟨.agg #[.slice B0 x.live.length d0, .slice B1 x.safe.length d1, .slice B2 x.ops.length d2], ?_, ?_⟩, ?_⟩
    · rw [HA.out.1]; rfl
    · refine DzA.mono (base := w.heap.size + 3) ?_ (by omega)
      rw [HA.out.2]
      refine DzA.set (DzA.set (DzA.set (HV.out) ?_ _) ?_ _) ?_ _ <;> (exact Nat.lt_succ_self _)
    · exact ((hxe.setCell (Nat.le_add_right _ 2) _).setCell (Nat.le_add_right _ 2) _).setCell (Nat.le_add_right _ 2) _
  have HA := Lib.hid (codeD_ok (x := x) E0.out E1.out H200.out e2)
  clear e2
  have LTN0 := (OwnG.block_lt HN.out)
  have HZ3 := Lib.hid hwz
  go_wp2_with fail
  refine (specCopy x A0 _ c0 A1 _ c1 A2 _ c2 _ _ (h0.below FzR.stays hx) (h1.below FzR.stays hx) (h2.below OzR.stays hx) HL.out).mono ?_
  rintro e w4 ⟨⟨v, rfl, hv⟩, hq⟩
  have HN := Lib.hid (OwnG.below HN.out hq)
  have LTN := Lib.hid LTN0
  have hx := hx.trans (hq.mono hx.size)
  have hwz := Nat.le_trans hwz hq.size
  have ro := ro.below hq
  have rb := rb.below hq
  obtain ⟨v0, v1, v2, rfl, k0, k1, k2, -⟩ := hv
  obtain ⟨B0, d0, rfl, -⟩ := k0.sl
  have K1 := Lib.hid k1
  have K2 := Lib.hid k2
  obtain ⟨B1, d1, rfl, -⟩ := k1.sl
  obtain ⟨B2, d2, rfl, -⟩ := k2.sl
  have hal5 := (Below.refl w4.heap.size w4).alloc (Nat.le_refl _) (.cells #[.slice N0 (doF x.live o).1.length e0, .slice B1 x.safe.length d1, .slice B2 x.ops.length d2] 27)
  have hal6 := hal5.alloc hal5.size (.cells #[.int .i64 o.kind, .string o.name, .string o.to, .string o.data] 36)
  have hsz5 : w4.heap.size < (w4.alloc (.cells #[.slice N0 (doF x.live o).1.length e0, .slice B1 x.safe.length d1, .slice B2 x.ops.length d2] 27)).heap.size := by simp
  have hsz6 : w4.heap.size < ((w4.alloc (.cells #[.slice N0 (doF x.live o).1.length e0, .slice B1 x.safe.length d1, .slice B2 x.ops.length d2] 27)).alloc (.cells #[.int .i64 o.kind, .string o.name, .string o.to, .string o.data] 36)).heap.size := by simp; omega
  have ro := ro.alloc (.cells #[.slice N0 (doF x.live o).1.length e0, .slice B1 x.safe.length d1, .slice B2 x.ops.length d2] 27)
  have rt := (Row.new w4 27 #[.slice N0 (doF x.live o).1.length e0, .slice B1 x.safe.length d1, .slice B2 x.ops.length d2]).alloc (.cells #[.int .i64 o.kind, .string o.name, .string o.to, .string o.data] 36)
  have rb6 := (rb.alloc (.cells #[.slice N0 (doF x.live o).1.length e0, .slice B1 x.safe.length d1, .slice B2 x.ops.length d2] 27)).alloc (.cells #[.int .i64 o.kind, .string o.name, .string o.to, .string o.data] 36)
  have HN6 := Lib.hid (OwnG.below HN.out hal6)
  have K16 := Lib.hid (OwnG.below K1.out hal6)
  have K26 := Lib.hid (OwnG.below K2.out hal6)
  have K25 := Lib.hid (OwnG.below K2.out hal5)
  have D2N := Lib.hid (Dis.types K26.out HN6.out (by decide))
  have D21 := Lib.hid (Dis.types K26.out K16.out (by decide))
  have FN := Lib.hid (OwnG.far HN.out (Nat.le_refl _))
  have F1 := Lib.hid (OwnG.far K1.out (Nat.le_refl _))
  have F2 := Lib.hid (OwnG.far K2.out (Nat.le_refl _))
  have hdN : Dis (.slice N0 (doF x.live o).1.length e0) (.slice B1 x.safe.length d1) := fun k hk e => by have h1 := (LTN.out k hk).2; have h2 := (OwnG.block_lt K1.out k e).1; omega
  have HDN := Lib.hid hdN
  have hx6 := (hx.alloc hx.size (.cells #[.slice N0 (doF x.live o).1.length e0, .slice B1 x.safe.length d1, .slice B2 x.ops.length d2] 27)).alloc (Nat.le_trans hx.size hal5.size) (.cells #[.int .i64 o.kind, .string o.name, .string o.to, .string o.data] 36)
  have HX6 := Lib.hid hx6
  have HS4 := Lib.hid hq.size
  have HS6 := Lib.hid hsz6
  clear k0 k1 k2 p0 p1 p2 s0 s1 s2 s3 r0 r1 r2 f0 f1 f2 ra hdN hx6 hal5 hal6
  obtain ⟨⟨s0, s1, s2, s3⟩, -⟩ := ro.all4
  go_wp2_with (at_builtin; refine wpList_append_own_at _ rfl _ _ 25 rfl w3.heap.size 36 j0 (.agg #[.int .i64 0, .string ⟨#[]⟩, .string ⟨#[]⟩, .string ⟨#[]⟩]) 4 56 Try.underlying25 J1.out J2.out J3.out J4.out rfl (by decide) _ _ _ rfl (World.ownsRow.alloc K25.out _) ⟨_, 0, none⟩ 1 1 (Oz.cells o) rfl rfl ?c1 ?c2 ?c3 ?c4 ?c5 ?_)
  case c1 => exact cells_newAt _ (Oz.cells o) _ (by simp)
  case c2 => intro u hu; simp [Oz.cells] at hu; rcases hu with rfl | rfl | rfl | rfl <;> rfl
  case c3 => have := HOL.out; unfold maxLen; omega
  case c4 => have := HOL.out; omega
  case c5 => have := HS4.out; simp; omega
  intro v6 w6 hown6 hgrow _ hl6
  have R6 := OwnG.app K25.out (by have := HS4.out; simp; omega) hown6 hgrow
  have O6 := Lib.hid (show OwnO w6 w3.heap.size v6 (x.ops ++ [o]) from R6.1)
  have hne6 : v6.ownBlock ≠ some w4.heap.size := fun e => by
    rcases hl6 with h | h
    · exact F2.out (h ▸ e)
    · rw [e] at h
      injection h with h
      have := HS6.out
      omega
  have N6 := Lib.hid (OwnG.keptD HN6.out hgrow D2N.out)
  have S6 := Lib.hid (OwnG.keptD K16.out hgrow D21.out)
  have hx6 : Below w.heap.size w w6 := HX6.out.grown hgrow HX6.out.size (fun k hk => by have := (OwnG.block_lt K2.out k hk).1; omega)
  have kr : ∀ {g : Nat} {T : TypeId} {cs : Array Value}, Row ((w4.alloc (.cells #[.slice N0 (doF x.live o).1.length e0, .slice B1 x.safe.length d1, .slice B2 x.ops.length d2] 27)).alloc (.cells #[.int .i64 o.kind, .string o.name, .string o.to, .string o.data] 36)) g T cs → (Value.slice B2 x.ops.length d2).ownBlock ≠ some g → Row w6 g T cs := fun hr hne => (hgrow.block _ (lt_of_block hr) (fun e => hne e.symm)).trans hr
  have rt := kr rt F2.out
  have rb := kr rb6 (fun e => by have := (OwnG.block_lt K2.out _ e).1; omega)
  obtain ⟨C2, m2, dd, hm2, hv6⟩ : ∃ C2 m2 dd, m2 = (x.ops ++ [o]).length ∧ v6 = .slice C2 m2 dd := by obtain ⟨C2, dd, e, -⟩ := O6.out.sl; exact ⟨C2, _, dd, rfl, e⟩
  subst hv6
  have N7 := Lib.hid (OwnG.setNe N6.out (p := ⟨w4.heap.size, 2, none⟩) FN.out (.slice C2 m2 dd))
  have S7 := Lib.hid (OwnG.setNe S6.out (p := ⟨w4.heap.size, 2, none⟩) F1.out (.slice C2 m2 dd))
  have O7 := Lib.hid (OwnG.setNe O6.out (p := ⟨w4.heap.size, 2, none⟩) hne6 (.slice C2 m2 dd))
  have rt7 := rt.set 2 (.slice C2 m2 dd)
  have rb7 := rb.far (p := ⟨w4.heap.size, 2, none⟩) (by simp; omega) (.slice C2 m2 dd)
  have hx7 := hx6.setCell (p := ⟨w4.heap.size, 2, none⟩) (by simp; omega) (.slice C2 m2 dd)
  have RR := Lib.hid rb7
  have HX7 := Lib.hid hx7
  clear hown6 hgrow hl6 R6 hm2 kr s0 s1 s2 s3 hne6
  obtain ⟨⟨t0, t1, t2⟩, ⟨u0, u1, u2⟩⟩ := rt.three
  obtain ⟨⟨t3, t4, t5⟩, -⟩ := (show Row _ _ _ #[.slice N0 (doF x.live o).1.length e0, .slice B1 x.safe.length d1, .slice C2 m2 dd] from rt7).three
  obtain ⟨⟨r0, r1, r2⟩, ⟨f0, f1, f2⟩⟩ := rb7.three
  obtain ⟨⟨r3, r4, r5⟩, ⟨f3, f4, f5⟩⟩ := rb.three
  clear rb7 rt7 rt rb rb6 hx7 hx6
  go_wp2_with fail
  have hr9 := (((RR.out).set 0 (.slice N0 (doF x.live o).1.length e0)).set 1 (.slice B1 x.safe.length d1)).set 2 (.slice C2 m2 dd)
  refine bodyPost_ret (results_cell_row2 (p := 4) (u := 5) (ty := 27) rfl _ _ (w.heap.size + 2) 27 #[.slice N0 (doF x.live o).1.length e0, .slice B1 x.safe.length d1, .slice C2 m2 dd] (0, 0) _ rfl rfl hr9 Try.underlying27 rfl HI.out) rfl ⟨⟨.agg #[.slice N0 (doF x.live o).1.length e0, .slice B1 x.safe.length d1, .slice C2 m2 dd], ?_, ?_⟩, ?_⟩
  · rw [HA.out.1]; rfl
  · refine DzA.mono (base := w.heap.size + 3) ?_ (by omega)
    rw [HA.out.2]
    refine DzA.set (DzA.set (DzA.set (show DzA _ (w.heap.size + 3) _ ⟨(doF x.live o).1, x.safe, x.ops ++ [o]⟩ from ⟨_, _, _, rfl, OwnZ.mono N7.out HZ1.out, OwnZ.mono S7.out HZ3.out, OwnO.mono O7.out HZ3.out, HDN.out⟩) ?_ _) ?_ _) ?_ _ <;> (exact Nat.lt_succ_self _)
  · exact ((HX7.out.setCell (Nat.le_add_right _ 2) _).setCell (Nat.le_add_right _ 2) _).setCell (Nat.le_add_right _ 2) _

theorem codeD_F {x : Dz} {o : Oz} (hf : filesB x.live = true) : codeD x o = if codeF x.live o = 0 then (if x.ops.length = 200 then 4 else 0) else codeF x.live o := by
  unfold codeD codeF
  cases h1 : formB o
  · rfl
  cases h2 : (doF x.live o).2
  · rfl
  rw [doF_room hf h1]
  cases h3 : roomB (doF x.live o).1 <;> by_cases h4 : x.ops.length = 200 <;> simp [h4]
theorem codeF_z {l : List Fz} {o : Oz} (h : codeF l o = 0) : nextF l o = (doF l o).1 := by
  unfold codeF at h
  unfold nextF
  cases h1 : formB o
  · rw [h1] at h; cases h
  · rfl
theorem actD_no {x : Dz} {o : Oz} {k : Int} (h : codeD x o = k) (hk : k ≠ 0) : codeD x o = k ∧ actD x o = x := ⟨h, by unfold actD; rw [if_neg (by rw [h]; exact hk)]⟩
theorem actD_yes {x : Dz} {o : Oz} (h : codeD x o = 0) : codeD x o = 0 ∧ actD x o = ⟨(doF x.live o).1, x.safe, x.ops ++ [o]⟩ := ⟨h, by unfold actD; rw [if_pos h]⟩

set_option maxRecDepth 100000 in
set_option maxHeartbeats 2000000 in
theorem implDoOn (x : Dz) (o : Oz) (A0 : Option Addr) (n0 c0 : Nat) (A1 : Option Addr) (n1 c1 : Nat) (A2 : Option Addr) (n2 c2 : Nat) (ok : Nat → Prop) (w : World) (h0 : Sl FzR 2 ok w A0 n0 x.live) (h1 : Sl FzR 2 ok w A1 n1 x.safe) (h2 : Sl OzR 4 ok w A2 n2 x.ops) (hr : filesB x.live = true ∧ x.safe.length ≤ 1048576 ∧ x.ops.length ≤ 200) (ho : o.data.size ≤ 268000000) :
    Calls Try.prog 57 #[.agg #[.slice A0 n0 c0, .slice A1 n1 c1, .slice A2 n2 c2], .agg #[.int .i64 o.kind, .string o.name, .string o.to, .string o.data]] w fun e w' => (∃ v, e = .returned (.tuple #[v, .int .i64 (codeD x o)]) ∧ DzA w' w.heap.size v (actD x o)) ∧ Below w.heap.size w w' := by
  obtain ⟨hx, hwz⟩ := box3 w (.cells #[.slice A0 n0 c0, .slice A1 n1 c1, .slice A2 n2 c2] 27) (.cells #[.int .i64 o.kind, .string o.name, .string o.to, .string o.data] 36) (.cells #[.slice none 0 0, .slice none 0 0, .slice none 0 0] 27)
  have ra := ((Row.new w 27 #[.slice A0 n0 c0, .slice A1 n1 c1, .slice A2 n2 c2]).alloc (.cells #[.int .i64 o.kind, .string o.name, .string o.to, .string o.data] 36)).alloc (.cells #[.slice none 0 0, .slice none 0 0, .slice none 0 0] 27)
  have ro := (Row.newAt (w.alloc (.cells #[.slice A0 n0 c0, .slice A1 n1 c1, .slice A2 n2 c2] 27)) 36 #[.int .i64 o.kind, .string o.name, .string o.to, .string o.data] (w.heap.size + 1) (by simp)).alloc (.cells #[.slice none 0 0, .slice none 0 0, .slice none 0 0] 27)
  have rb := Row.newAt ((w.alloc (.cells #[.slice A0 n0 c0, .slice A1 n1 c1, .slice A2 n2 c2] 27)).alloc (.cells #[.int .i64 o.kind, .string o.name, .string o.to, .string o.data] 36)) 27 #[.slice none 0 0, .slice none 0 0, .slice none 0 0] (w.heap.size + 2) (by simp)
  have HI := Lib.hid infoDisk
  obtain ⟨j0, hi, hz0, hz1, hz2⟩ := info_parts infoDOpT
  have J1 := Lib.hid hi
  have J2 := Lib.hid hz0
  have J3 := Lib.hid hz1
  have J4 := Lib.hid hz2
  clear hi hz0 hz1 hz2
  go_enter Try.func57, Try.ntmps57
  go_wp2_with fail
  generalize ((w.alloc (.cells #[.slice A0 n0 c0, .slice A1 n1 c1, .slice A2 n2 c2] 27)).alloc (.cells #[.int .i64 o.kind, .string o.name, .string o.to, .string o.data] 36)).alloc (.cells #[.slice none 0 0, .slice none 0 0, .slice none 0 0] 27) = z at *
  obtain rfl : x.live.length = n0 := h0.1
  obtain rfl : x.safe.length = n1 := h1.1
  obtain rfl : x.ops.length = n2 := h2.1
  have hfl := filesB_bytes hr.1
  have HFB := Lib.hid hr.1
  have HL := Lib.hid (show x.live.length ≤ 1048576 ∧ x.safe.length ≤ 1048576 ∧ x.ops.length ≤ 1048576 from ⟨by omega, hr.2.1, by have := hr.2.2; omega⟩)
  have HBY := Lib.hid (doF_bytes x.live o)
  have HOL := Lib.hid hr.2.2
  have HFL := Lib.hid hfl
  have HCD := Lib.hid (codeD_F (x := x) (o := o) hr.1)
  have HZ0 := Lib.hid hwz
  clear hr hfl
  refine (implCopyDisk x A0 _ c0 A1 _ c1 A2 _ c2 _ _ (h0.below FzR.stays hx) (h1.below FzR.stays hx) (h2.below OzR.stays hx) HL.out).mono ?_
  rintro e w1 ⟨⟨v, rfl, hv⟩, hq⟩
  have hx := hx.trans (hq.mono hx.size)
  have HZ1 := Lib.hid (Nat.le_trans hwz hq.size)
  have HZW := Lib.hid hq.size
  have ra := ra.below hq
  have ro := ro.below hq
  have rb := rb.below hq
  obtain ⟨v0, v1, v2, rfl, k0, k1, k2, hd⟩ := hv
  have K0 := Lib.hid k0
  have K1 := Lib.hid k1
  have K2 := Lib.hid k2
  have HD01 := Lib.hid hd
  obtain ⟨B0, d0, rfl, -⟩ := k0.sl
  obtain ⟨B1, d1, rfl, -⟩ := k1.sl
  obtain ⟨B2, d2, rfl, -⟩ := k2.sl
  have F1 := Lib.hid (OwnG.far K1.out (Nat.le_refl _))
  have F2 := Lib.hid (OwnG.far K2.out (Nat.le_refl _))
  have hal := (Below.refl w1.heap.size w1).alloc (Nat.le_refl _) (.cells #[.slice B0 x.live.length d0, .slice B1 x.safe.length d1, .slice B2 x.ops.length d2] 27)
  have rt := Row.new w1 27 #[.slice B0 x.live.length d0, .slice B1 x.safe.length d1, .slice B2 x.ops.length d2]
  have HSO := Lib.hid (show w1.heap.size < (w1.alloc (.cells #[.slice B0 x.live.length d0, .slice B1 x.safe.length d1, .slice B2 x.ops.length d2] 27)).heap.size by simp)
  have hx := hx.alloc hx.size (.cells #[.slice B0 x.live.length d0, .slice B1 x.safe.length d1, .slice B2 x.ops.length d2] 27)
  have ra := ra.below hal
  have ro := ro.below hal
  have rb := rb.below hal
  have K0 := Lib.hid (OwnG.below K0.out hal)
  have K1 := Lib.hid (OwnG.below K1.out hal)
  have K2 := Lib.hid (OwnG.below K2.out hal)
  clear k0 k1 k2 hd hq hal
  obtain ⟨⟨p0, p1, p2⟩, -⟩ := ra.three
  go_wp2_with fail
  generalize w1.alloc (.cells #[.slice B0 x.live.length d0, .slice B1 x.safe.length d1, .slice B2 x.ops.length d2] 27) = z1 at *
  refine (implFilesOf A0 _ c0 x.live _ _ (h0.below FzR.stays hx) HFB.out).mono ?_
  rintro e w2 ⟨rfl, hf2, hq2⟩
  have ro2 := ro.below hq2
  obtain ⟨⟨s0, s1, s2, s3⟩, -⟩ := ro2.all4
  clear p0 p1 p2 ro2
  go_wp2_with fail
  refine (implFilesDo _ _ x.live o _ hf2 (by have := HFL.out; omega) (by have := HFL.out; omega)).mono ?_
  rintro e w3 ⟨rfl, hf3, hk3⟩
  have hq3 : Below z1.heap.size z1 w3 := hq2.trans hk3.low
  have HX := Lib.hid (hx.trans (hq3.mono hx.size))
  have HF3 := Lib.hid hf3
  have K0 := Lib.hid (OwnG.below K0.out hq3)
  have K1 := Lib.hid (OwnG.below K1.out hq3)
  have K2 := Lib.hid (OwnG.below K2.out hq3)
  have ra := ra.below hq3
  have ro := ro.below hq3
  have rb := rb.below hq3
  have rt := rt.below hq3
  have HS3 := Lib.hid hq3.size
  have RR := Lib.hid rb
  clear s0 s1 s2 s3 hf2 hf3 hq2 hk3 hq3 hx
  obtain ⟨⟨p0, p1, p2⟩, -⟩ := ra.three
  obtain ⟨⟨t0, t1, t2⟩, ⟨u0, u1, u2⟩⟩ := rt.three
  obtain ⟨⟨r0, r1, r2⟩, ⟨f0, f1, f2⟩⟩ := rb.three
  have HRT := Lib.hid rt
  have HRO := Lib.hid ro
  clear ra ro rb rt
  by_cases hc : codeF x.live o = 0
  case neg =>
    have HC := Lib.hid (show codeD x o = codeF x.live o by rw [HCD.out, if_neg hc])
    have HNZ := Lib.hid hc
    generalize codeF x.live o = k at *
    have hk1 : decide (k = 0) = false := decide_eq_false hc
    have hk2 : (k == 0) = false := by simpa using hc
    have hk3 : (k != 0) = true := by simpa using hc
    clear hc
    have HA := Lib.hid (actD_no HC.out HNZ.out)
    go_wp2_with fail
    have hr9 := (((RR.out).set 0 (.slice B0 x.live.length d0)).set 1 (.slice B1 x.safe.length d1)).set 2 (.slice B2 x.ops.length d2)
    refine bodyPost_ret (results_cell_row2 (p := 4) (u := 5) (ty := 27) rfl _ _ (w.heap.size + 2) 27 #[.slice B0 x.live.length d0, .slice B1 x.safe.length d1, .slice B2 x.ops.length d2] (0, 0) _ rfl rfl hr9 Try.underlying27 rfl HI.out) rfl ⟨⟨.agg #[.slice B0 x.live.length d0, .slice B1 x.safe.length d1, .slice B2 x.ops.length d2], ?_, ?_⟩, ?_⟩
    · rw [HA.out.1]; rfl
    · refine DzA.mono (base := w.heap.size + 3) ?_ (by omega)
      rw [HA.out.2]
      refine DzA.set (DzA.set (DzA.set (show DzA _ (w.heap.size + 3) _ x from ⟨_, _, _, rfl, OwnZ.mono K0.out HZ0.out, OwnZ.mono K1.out HZ0.out, OwnO.mono K2.out HZ0.out, HD01.out⟩) ?_ _) ?_ _) ?_ _ <;> (exact Nat.lt_succ_self _)
    · exact ((HX.out.setCell (Nat.le_add_right _ 2) _).setCell (Nat.le_add_right _ 2) _).setCell (Nat.le_add_right _ 2) _
  have HNX := Lib.hid (codeF_z hc)
  have HCD := Lib.hid (show codeD x o = if x.ops.length = 200 then 4 else 0 by rw [HCD.out, if_pos hc])
  rw [hc]
  clear hc
  by_cases h200 : x.ops.length = 200
  · have HC := Lib.hid (show codeD x o = 4 by rw [HCD.out, if_pos h200])
    have hg1 : decide ((200 : Int) ≤ x.ops.length) = true := decide_eq_true (by omega)
    clear h200
    have HA := Lib.hid (actD_no HC.out (by decide))
    go_wp2_with fail
    have hr9 := (((RR.out).set 0 (.slice B0 x.live.length d0)).set 1 (.slice B1 x.safe.length d1)).set 2 (.slice B2 x.ops.length d2)
    refine bodyPost_ret (results_cell_row2 (p := 4) (u := 5) (ty := 27) rfl _ _ (w.heap.size + 2) 27 #[.slice B0 x.live.length d0, .slice B1 x.safe.length d1, .slice B2 x.ops.length d2] (0, 0) _ rfl rfl hr9 Try.underlying27 rfl HI.out) rfl ⟨⟨.agg #[.slice B0 x.live.length d0, .slice B1 x.safe.length d1, .slice B2 x.ops.length d2], ?_, ?_⟩, ?_⟩
    · rw [HA.out.1]; rfl
    · refine DzA.mono (base := w.heap.size + 3) ?_ (by omega)
      rw [HA.out.2]
      refine DzA.set (DzA.set (DzA.set (show DzA _ (w.heap.size + 3) _ x from ⟨_, _, _, rfl, OwnZ.mono K0.out HZ0.out, OwnZ.mono K1.out HZ0.out, OwnO.mono K2.out HZ0.out, HD01.out⟩) ?_ _) ?_ _) ?_ _ <;> (exact Nat.lt_succ_self _)
    · exact ((HX.out.setCell (Nat.le_add_right _ 2) _).setCell (Nat.le_add_right _ 2) _).setCell (Nat.le_add_right _ 2) _
  have HA := Lib.hid (actD_yes (show codeD x o = 0 by rw [HCD.out, if_neg h200]))
  have hg1 : decide ((200 : Int) ≤ x.ops.length) = false := decide_eq_false (by have := HOL.out; omega)
  clear h200
  go_wp2_with fail
  refine (implList _ _ (doF x.live o).1 _ (by rw [← HNX.out]; exact HF3.out) (by have := HBY.out; have := HFL.out; omega)).mono ?_
  rintro e w4 ⟨⟨v, rfl, hv⟩, hq4⟩
  obtain ⟨N0, e0, rfl, -⟩ := (show OwnZ w4 _ v _ from hv).sl
  have hne : (Value.slice N0 (doF x.live o).1.length e0).ownBlock ≠ some w1.heap.size := fun e => by have h1 := (OwnG.block_lt hv _ e).1; have h2 := HS3.out; have h3 := HSO.out; omega
  have FN := Lib.hid hne
  have HN4 := Lib.hid (OwnG.setNe hv (p := ⟨w1.heap.size, 0, none⟩) hne (.slice N0 (doF x.live o).1.length e0))
  have K14 := Lib.hid (OwnG.setNe (OwnG.below K1.out hq4) (p := ⟨w1.heap.size, 0, none⟩) F1.out (.slice N0 (doF x.live o).1.length e0))
  have K24 := Lib.hid (OwnG.setNe (OwnG.below K2.out hq4) (p := ⟨w1.heap.size, 0, none⟩) F2.out (.slice N0 (doF x.live o).1.length e0))
  have hdN : Dis (.slice N0 (doF x.live o).1.length e0) (.slice B1 x.safe.length d1) := fun k hk e => by have h1 := (OwnG.block_lt hv k hk).1; have h2 := (OwnG.block_lt K1.out k e).2; omega
  have HDN := Lib.hid hdN
  have hx4 := (HX.out.trans (hq4.mono HX.out.size)).setCell (p := ⟨w1.heap.size, 0, none⟩) (by have := HZ1.out; simp; omega) (.slice N0 (doF x.live o).1.length e0)
  have rt4 := HRT.out.below hq4
  have rt5 := rt4.set 0 (.slice N0 (doF x.live o).1.length e0)
  have ro5 := (HRO.out.below hq4).far (p := ⟨w1.heap.size, 0, none⟩) (by have := HZ1.out; simp; omega) (.slice N0 (doF x.live o).1.length e0)
  have rb5 := (RR.out.below hq4).far (p := ⟨w1.heap.size, 0, none⟩) (by have := HZ1.out; simp; omega) (.slice N0 (doF x.live o).1.length e0)
  have HS4 := Lib.hid (show w1.heap.size < (w4.setCell ⟨w1.heap.size, 0, none⟩ (.slice N0 (doF x.live o).1.length e0)).heap.size by have h1 := hq4.size; have h2 := HS3.out; have h3 := HSO.out; simp only [World.setCell, Array.size_modify]; omega)
  clear p0 p1 p2 t0 t1 t2 u0 u1 u2 r0 r1 r2 f0 f1 f2 hv hne hdN RR
  obtain ⟨⟨t0, t1, t2⟩, ⟨u0, u1, u2⟩⟩ := rt4.three
  obtain ⟨⟨t3, t4, t5⟩, ⟨u3, u4, u5⟩⟩ := (show Row _ _ _ #[.slice N0 (doF x.live o).1.length e0, .slice B1 x.safe.length d1, .slice B2 x.ops.length d2] from rt5).three
  obtain ⟨⟨s0, s1, s2, s3⟩, -⟩ := ro5.all4
  have hal6 := (Below.refl (w4.setCell ⟨w1.heap.size, 0, none⟩ (.slice N0 (doF x.live o).1.length e0)).heap.size (w4.setCell ⟨w1.heap.size, 0, none⟩ (.slice N0 (doF x.live o).1.length e0))).alloc (Nat.le_refl _) (.cells #[.int .i64 o.kind, .string o.name, .string o.to, .string o.data] 36)
  have HN6 := Lib.hid (OwnG.below HN4.out hal6)
  have K16 := Lib.hid (OwnG.below K14.out hal6)
  have K26 := Lib.hid (OwnG.below K24.out hal6)
  have D2N := Lib.hid (Dis.types K26.out HN6.out (by decide))
  have D21 := Lib.hid (Dis.types K26.out K16.out (by decide))
  have rt6 := rt5.alloc (.cells #[.int .i64 o.kind, .string o.name, .string o.to, .string o.data] 36)
  have rb6 := rb5.alloc (.cells #[.int .i64 o.kind, .string o.name, .string o.to, .string o.data] 36)
  have HX6 := Lib.hid (hx4.alloc hx4.size (.cells #[.int .i64 o.kind, .string o.name, .string o.to, .string o.data] 36))
  have HW14 := Lib.hid (show w1.heap.size < w4.heap.size by have h1 := hq4.size; have h2 := HS3.out; have h3 := HSO.out; omega)
  have HBS := Lib.hid (show z.heap.size ≤ ((w4.setCell ⟨w1.heap.size, 0, none⟩ (.slice N0 (doF x.live o).1.length e0)).alloc (.cells #[.int .i64 o.kind, .string o.name, .string o.to, .string o.data] 36)).heap.size by have h1 := HZW.out; have h2 := HS4.out; have h3 := hal6.size; omega)
  have HS6 := Lib.hid (show w1.heap.size < ((w4.setCell ⟨w1.heap.size, 0, none⟩ (.slice N0 (doF x.live o).1.length e0)).alloc (.cells #[.int .i64 o.kind, .string o.name, .string o.to, .string o.data] 36)).heap.size by have h2 := HS4.out; have h3 := hal6.size; omega)
  clear hal6 rt4 rt5 ro5 rb5 hx4 hq4 HRT HRO
  go_wp2_with (at_builtin; refine wpList_append_own_at _ rfl _ _ 25 rfl z.heap.size 36 j0 (.agg #[.int .i64 0, .string ⟨#[]⟩, .string ⟨#[]⟩, .string ⟨#[]⟩]) 4 56 Try.underlying25 J1.out J2.out J3.out J4.out rfl (by decide) _ _ _ rfl (World.ownsRow.alloc K24.out _) ⟨_, 0, none⟩ 1 1 (Oz.cells o) rfl rfl ?c1 ?c2 ?c3 ?c4 ?c5 ?_)
  case c1 => exact cells_newAt _ (Oz.cells o) _ (by first | rfl | simp)
  case c2 => intro u hu; simp [Oz.cells] at hu; rcases hu with rfl | rfl | rfl | rfl <;> rfl
  case c3 => have := HOL.out; unfold maxLen; omega
  case c4 => have := HOL.out; omega
  case c5 => exact HBS.out
  intro v6 w6 hown6 hgrow _ hl6
  have R6 := OwnG.app K24.out (by have h1 := HZW.out; have h2 := HS4.out; omega) hown6 hgrow
  have O6 := Lib.hid (show OwnO w6 z.heap.size v6 (x.ops ++ [o]) from R6.1)
  have hne6 : v6.ownBlock ≠ some w1.heap.size := fun e => by
    rcases hl6 with h | h
    · exact F2.out (h ▸ e)
    · rw [e] at h
      injection h with h
      have h7 := HS6.out
      have h8 := HW14.out
      omega
  have N6 := Lib.hid (OwnG.keptD HN6.out hgrow D2N.out)
  have S6 := Lib.hid (OwnG.keptD K16.out hgrow D21.out)
  have hx6 : Below w.heap.size w w6 := HX6.out.grown hgrow HX6.out.size (fun k hk => by have h1 := (OwnG.block_lt K2.out k hk).1; have h2 := HZ0.out; omega)
  have rt := (hgrow.block _ (lt_of_block rt6) (fun e => F2.out e.symm)).trans rt6
  have rb := (hgrow.block _ (lt_of_block rb6) (fun e => by have h1 := (OwnG.block_lt K2.out _ e.symm).1; have h2 := HZ0.out; omega)).trans rb6
  obtain ⟨C2, m2, dd, hm2, hv6⟩ : ∃ C2 m2 dd, m2 = (x.ops ++ [o]).length ∧ v6 = .slice C2 m2 dd := by obtain ⟨C2, dd, e, -⟩ := O6.out.sl; exact ⟨C2, _, dd, rfl, e⟩
  subst hv6
  have N7 := Lib.hid (OwnG.setNe N6.out (p := ⟨w1.heap.size, 2, none⟩) FN.out (.slice C2 m2 dd))
  have S7 := Lib.hid (OwnG.setNe S6.out (p := ⟨w1.heap.size, 2, none⟩) F1.out (.slice C2 m2 dd))
  have O7 := Lib.hid (OwnG.setNe O6.out (p := ⟨w1.heap.size, 2, none⟩) hne6 (.slice C2 m2 dd))
  have rt7 := Row.set (show Row w6 w1.heap.size _ #[.slice N0 (doF x.live o).1.length e0, .slice B1 x.safe.length d1, .slice B2 x.ops.length d2] from rt) 2 (.slice C2 m2 dd)
  have rb7 := Row.far (show Row w6 (w.heap.size + 2) _ #[.slice none 0 0, .slice none 0 0, .slice none 0 0] from rb) (p := ⟨w1.heap.size, 2, none⟩) (by have := HZ1.out; simp; omega) (.slice C2 m2 dd)
  have hx7 := hx6.setCell (p := ⟨w1.heap.size, 2, none⟩) (by have := HZ1.out; simp; omega) (.slice C2 m2 dd)
  have RR := Lib.hid rb7
  have HX7 := Lib.hid hx7
  clear hown6 hgrow hl6 R6 hm2 s0 s1 s2 s3 hne6 t0 t1 t2 u0 u1 u2 t3 t4 t5 u3 u4 u5
  obtain ⟨⟨t0, t1, t2⟩, ⟨u0, u1, u2⟩⟩ := (show Row w6 w1.heap.size _ #[.slice N0 (doF x.live o).1.length e0, .slice B1 x.safe.length d1, .slice B2 x.ops.length d2] from rt).three
  obtain ⟨⟨t3, t4, t5⟩, -⟩ := (show Row _ _ _ #[.slice N0 (doF x.live o).1.length e0, .slice B1 x.safe.length d1, .slice C2 m2 dd] from rt7).three
  obtain ⟨⟨r0, r1, r2⟩, ⟨f0, f1, f2⟩⟩ := rb7.three
  clear rb7 rt7 rt rb rb6 rt6 hx7 hx6
  go_wp2_with fail
  have hr9 := (((RR.out).set 0 (.slice N0 (doF x.live o).1.length e0)).set 1 (.slice B1 x.safe.length d1)).set 2 (.slice C2 m2 dd)
  refine bodyPost_ret (results_cell_row2 (p := 4) (u := 5) (ty := 27) rfl _ _ (w.heap.size + 2) 27 #[.slice N0 (doF x.live o).1.length e0, .slice B1 x.safe.length d1, .slice C2 m2 dd] (0, 0) _ rfl rfl hr9 Try.underlying27 rfl HI.out) rfl ⟨⟨.agg #[.slice N0 (doF x.live o).1.length e0, .slice B1 x.safe.length d1, .slice C2 m2 dd], ?_, ?_⟩, ?_⟩
  · rw [HA.out.1]; rfl
  · refine DzA.mono (base := w.heap.size + 3) ?_ (by omega)
    rw [HA.out.2]
    refine DzA.set (DzA.set (DzA.set (show DzA _ (w.heap.size + 3) _ ⟨(doF x.live o).1, x.safe, x.ops ++ [o]⟩ from ⟨_, _, _, rfl, OwnZ.mono N7.out (by have h1 := HZ1.out; have h2 := HSO.out; have h3 := HS3.out; omega), OwnZ.mono S7.out HZ0.out, OwnO.mono O7.out HZ0.out, HDN.out⟩) ?_ _) ?_ _) ?_ _ <;> (exact Nat.lt_succ_self _)
  · exact ((HX7.out.setCell (Nat.le_add_right _ 2) _).setCell (Nat.le_add_right _ 2) _).setCell (Nat.le_add_right _ 2) _

def codeDo (x : Dz) (o : Oz) : Int := if diskB x then codeD x o else 1
def actDo (x : Dz) (o : Oz) : Dz := if diskB x then actD x o else ⟨[], [], []⟩
theorem doD_no {x : Dz} {o : Oz} (h : diskB x = false) : codeDo x o = 1 ∧ actDo x o = ⟨[], [], []⟩ := by unfold codeDo actDo; rw [h]; exact ⟨rfl, rfl⟩
theorem doD_yes {x : Dz} {o : Oz} (h : diskB x = true) : codeDo x o = codeD x o ∧ actDo x o = actD x o := by unfold codeDo actDo; rw [h]; exact ⟨rfl, rfl⟩
theorem diskB_parts {x : Dz} (h : diskB x = true) : filesB x.live = true ∧ filesB x.safe = true ∧ x.ops.length ≤ 200 := by
  unfold diskB at h
  simp only [Bool.and_eq_true, decide_eq_true_eq] at h
  exact ⟨h.1.1.1, h.1.1.2, h.1.2⟩
theorem OwnO.len {w : World} {base : Nat} {v : Value} {xs : List Oz} (h : OwnO w base v xs) : ∃ A n c, v = .slice A n c := by obtain ⟨A, c, e, -⟩ := h.sl; exact ⟨A, _, c, e⟩
theorem OwnZ.len {w : World} {base : Nat} {v : Value} {xs : List Fz} (h : OwnZ w base v xs) : ∃ A n c, v = .slice A n c := by obtain ⟨A, c, e, -⟩ := h.sl; exact ⟨A, _, c, e⟩

set_option maxRecDepth 100000 in
set_option maxHeartbeats 2000000 in
theorem specDo (x : Dz) (o : Oz) (A0 : Option Addr) (n0 c0 : Nat) (A1 : Option Addr) (n1 c1 : Nat) (A2 : Option Addr) (n2 c2 : Nat) (ok : Nat → Prop) (w : World) (h0 : Sl FzR 2 ok w A0 n0 x.live) (h1 : Sl FzR 2 ok w A1 n1 x.safe) (h2 : Sl OzR 4 ok w A2 n2 x.ops) (hs : x.sz ≤ 1048576) (ho : o.data.size ≤ 268435456) :
    Calls Try.prog 21 #[.agg #[.slice A0 n0 c0, .slice A1 n1 c1, .slice A2 n2 c2], .agg #[.int .i64 o.kind, .string o.name, .string o.to, .string o.data]] w fun e w' => (∃ v, e = .returned (.tuple #[v, .int .i64 (codeDo x o)]) ∧ DzA w' w.heap.size v (actDo x o)) ∧ Below w.heap.size w w' := by
  obtain ⟨hx, hwz⟩ := box3 w (.cells #[.slice A0 n0 c0, .slice A1 n1 c1, .slice A2 n2 c2] 27) (.cells #[.int .i64 o.kind, .string o.name, .string o.to, .string o.data] 36) (.cells #[.slice none 0 0, .slice none 0 0, .slice none 0 0] 27)
  have ra := ((Row.new w 27 #[.slice A0 n0 c0, .slice A1 n1 c1, .slice A2 n2 c2]).alloc (.cells #[.int .i64 o.kind, .string o.name, .string o.to, .string o.data] 36)).alloc (.cells #[.slice none 0 0, .slice none 0 0, .slice none 0 0] 27)
  have ro := (Row.newAt (w.alloc (.cells #[.slice A0 n0 c0, .slice A1 n1 c1, .slice A2 n2 c2] 27)) 36 #[.int .i64 o.kind, .string o.name, .string o.to, .string o.data] (w.heap.size + 1) (by simp)).alloc (.cells #[.slice none 0 0, .slice none 0 0, .slice none 0 0] 27)
  have rb := Row.newAt ((w.alloc (.cells #[.slice A0 n0 c0, .slice A1 n1 c1, .slice A2 n2 c2] 27)).alloc (.cells #[.int .i64 o.kind, .string o.name, .string o.to, .string o.data] 36)) 27 #[.slice none 0 0, .slice none 0 0, .slice none 0 0] (w.heap.size + 2) (by simp)
  have HI := Lib.hid infoDisk
  obtain ⟨j0, hi, hz0, hz1, hz2⟩ := info_parts infoDOpT
  have J1 := Lib.hid hi
  have J2 := Lib.hid hz0
  have J3 := Lib.hid hz1
  have J4 := Lib.hid hz2
  clear hi hz0 hz1 hz2
  go_enter Try.func21, Try.ntmps21
  go_wp2_with fail
  generalize ((w.alloc (.cells #[.slice A0 n0 c0, .slice A1 n1 c1, .slice A2 n2 c2] 27)).alloc (.cells #[.int .i64 o.kind, .string o.name, .string o.to, .string o.data] 36)).alloc (.cells #[.slice none 0 0, .slice none 0 0, .slice none 0 0] 27) = z at *
  have HL := Lib.hid (sz_lens hs)
  refine (specDiskOk x A0 n0 c0 A1 n1 c1 A2 n2 c2 _ _ (h0.below FzR.stays hx) (h1.below FzR.stays hx) (h2.below OzR.stays hx) hs).mono ?_
  rintro e w1 ⟨rfl, hq⟩
  have hx := hx.trans (hq.mono hx.size)
  have hwz := Nat.le_trans hwz hq.size
  have ra := ra.below hq
  have ro := ro.below hq
  have rb := rb.below hq
  obtain ⟨⟨p0, p1, p2⟩, -⟩ := ra.three
  obtain ⟨⟨s0, s1, s2, s3⟩, -⟩ := ro.all4
  obtain ⟨⟨r0, r1, r2⟩, ⟨f0, f1, f2⟩⟩ := rb.three
  clear hq
  cases e0 : diskB x
  · have HA := Lib.hid (doD_no (o := o) e0)
    have RR := Lib.hid rb
    clear ra rb ro
    go_wp2_with fail
    have hr9 := (((RR.out).set 0 (.slice none 0 0)).set 1 (.slice none 0 0)).set 2 (.slice none 0 0)
    refine bodyPost_ret (results_cell_row2 (p := 4) (u := 5) (ty := 27) rfl _ _ (w.heap.size + 2) 27 #[.slice none 0 0, .slice none 0 0, .slice none 0 0] (0, 0) _ rfl rfl hr9 Try.underlying27 rfl HI.out) rfl ⟨⟨.agg #[.slice none 0 0, .slice none 0 0, .slice none 0 0], ?_, ?_⟩, ?_⟩
    · rw [HA.out.1]; rfl
    · refine DzA.mono (base := w.heap.size + 3) ?_ (by omega)
      rw [HA.out.2]
      refine DzA.set (DzA.set (DzA.set (DzA.nil _ _) ?_ _) ?_ _) ?_ _ <;> (exact Nat.lt_succ_self _)
    · exact ((hx.setCell (Nat.le_add_right _ 2) _).setCell (Nat.le_add_right _ 2) _).setCell (Nat.le_add_right _ 2) _
  have HA := Lib.hid (doD_yes (o := o) e0)
  have HP := Lib.hid (diskB_parts e0)
  clear e0
  go_wp2_with fail
  refine (specAct x o A0 n0 c0 A1 n1 c1 A2 n2 c2 _ _ (h0.below FzR.stays hx) (h1.below FzR.stays hx) (h2.below OzR.stays hx) ⟨HP.out.1, HL.out.2.1, by have := HP.out.2.2; omega⟩ ho).mono ?_
  rintro e w2 ⟨⟨v, rfl, hv⟩, hb⟩
  have HX := Lib.hid (hx.trans (hb.mono hx.size))
  have RR := Lib.hid (rb.below hb)
  have HV := Lib.hid (hv.mono (base' := w.heap.size + 3) hwz)
  obtain ⟨v0, v1, v2, rfl, k0, k1, k2, -⟩ := hv
  obtain ⟨B0, m0, d0, rfl⟩ := k0.len
  obtain ⟨B1, m1, d1, rfl⟩ := k1.len
  obtain ⟨B2, m2, d2, rfl⟩ := k2.len
  clear r0 r1 r2 f0 f1 f2 p0 p1 p2 s0 s1 s2 s3 k0 k1 k2 hb
  have rr := RR.out
  obtain ⟨⟨r0, r1, r2⟩, ⟨f0, f1, f2⟩⟩ := rr.three
  clear rr
  have HC := Lib.hid HA.out.1
  generalize codeD x o = kc at *
  go_wp2_with fail
  have hr9 := (((RR.out).set 0 (.slice B0 m0 d0)).set 1 (.slice B1 m1 d1)).set 2 (.slice B2 m2 d2)
  refine bodyPost_ret (results_cell_row2 (p := 4) (u := 5) (ty := 27) rfl _ _ (w.heap.size + 2) 27 #[.slice B0 m0 d0, .slice B1 m1 d1, .slice B2 m2 d2] (0, 0) _ rfl rfl hr9 Try.underlying27 rfl HI.out) rfl ⟨⟨.agg #[.slice B0 m0 d0, .slice B1 m1 d1, .slice B2 m2 d2], ?_, ?_⟩, ?_⟩
  · rw [HA.out.1]; rfl
  · refine DzA.mono (base := w.heap.size + 3) ?_ (by omega)
    rw [HA.out.2]
    refine DzA.set (DzA.set (DzA.set (HV.out) ?_ _) ?_ _) ?_ _ <;> (exact Nat.lt_succ_self _)
  · exact ((HX.out.setCell (Nat.le_add_right _ 2) _).setCell (Nat.le_add_right _ 2) _).setCell (Nat.le_add_right _ 2) _

set_option maxRecDepth 100000 in
set_option maxHeartbeats 2000000 in
theorem implDo (x : Dz) (o : Oz) (A0 : Option Addr) (n0 c0 : Nat) (A1 : Option Addr) (n1 c1 : Nat) (A2 : Option Addr) (n2 c2 : Nat) (ok : Nat → Prop) (w : World) (h0 : Sl FzR 2 ok w A0 n0 x.live) (h1 : Sl FzR 2 ok w A1 n1 x.safe) (h2 : Sl OzR 4 ok w A2 n2 x.ops) (hs : x.sz ≤ 1048576) (ho : o.data.size ≤ 268000000) :
    Calls Try.prog 20 #[.agg #[.slice A0 n0 c0, .slice A1 n1 c1, .slice A2 n2 c2], .agg #[.int .i64 o.kind, .string o.name, .string o.to, .string o.data]] w fun e w' => (∃ v, e = .returned (.tuple #[v, .int .i64 (codeDo x o)]) ∧ DzA w' w.heap.size v (actDo x o)) ∧ Below w.heap.size w w' := by
  obtain ⟨hx, hwz⟩ := box3 w (.cells #[.slice A0 n0 c0, .slice A1 n1 c1, .slice A2 n2 c2] 27) (.cells #[.int .i64 o.kind, .string o.name, .string o.to, .string o.data] 36) (.cells #[.slice none 0 0, .slice none 0 0, .slice none 0 0] 27)
  have ra := ((Row.new w 27 #[.slice A0 n0 c0, .slice A1 n1 c1, .slice A2 n2 c2]).alloc (.cells #[.int .i64 o.kind, .string o.name, .string o.to, .string o.data] 36)).alloc (.cells #[.slice none 0 0, .slice none 0 0, .slice none 0 0] 27)
  have ro := (Row.newAt (w.alloc (.cells #[.slice A0 n0 c0, .slice A1 n1 c1, .slice A2 n2 c2] 27)) 36 #[.int .i64 o.kind, .string o.name, .string o.to, .string o.data] (w.heap.size + 1) (by simp)).alloc (.cells #[.slice none 0 0, .slice none 0 0, .slice none 0 0] 27)
  have rb := Row.newAt ((w.alloc (.cells #[.slice A0 n0 c0, .slice A1 n1 c1, .slice A2 n2 c2] 27)).alloc (.cells #[.int .i64 o.kind, .string o.name, .string o.to, .string o.data] 36)) 27 #[.slice none 0 0, .slice none 0 0, .slice none 0 0] (w.heap.size + 2) (by simp)
  have HI := Lib.hid infoDisk
  obtain ⟨j0, hi, hz0, hz1, hz2⟩ := info_parts infoDOpT
  have J1 := Lib.hid hi
  have J2 := Lib.hid hz0
  have J3 := Lib.hid hz1
  have J4 := Lib.hid hz2
  clear hi hz0 hz1 hz2
  go_enter Try.func20, Try.ntmps20
  go_wp2_with fail
  generalize ((w.alloc (.cells #[.slice A0 n0 c0, .slice A1 n1 c1, .slice A2 n2 c2] 27)).alloc (.cells #[.int .i64 o.kind, .string o.name, .string o.to, .string o.data] 36)).alloc (.cells #[.slice none 0 0, .slice none 0 0, .slice none 0 0] 27) = z at *
  have HL := Lib.hid (sz_lens hs)
  refine (implDiskOk x A0 n0 c0 A1 n1 c1 A2 n2 c2 _ _ (h0.below FzR.stays hx) (h1.below FzR.stays hx) (h2.below OzR.stays hx) hs).mono ?_
  rintro e w1 ⟨rfl, hq⟩
  have hx := hx.trans (hq.mono hx.size)
  have hwz := Nat.le_trans hwz hq.size
  have ra := ra.below hq
  have ro := ro.below hq
  have rb := rb.below hq
  obtain ⟨⟨p0, p1, p2⟩, -⟩ := ra.three
  obtain ⟨⟨s0, s1, s2, s3⟩, -⟩ := ro.all4
  obtain ⟨⟨r0, r1, r2⟩, ⟨f0, f1, f2⟩⟩ := rb.three
  clear hq
  cases e0 : diskB x
  · have HA := Lib.hid (doD_no (o := o) e0)
    have RR := Lib.hid rb
    clear ra rb ro
    go_wp2_with fail
    have hr9 := (((RR.out).set 0 (.slice none 0 0)).set 1 (.slice none 0 0)).set 2 (.slice none 0 0)
    refine bodyPost_ret (results_cell_row2 (p := 4) (u := 5) (ty := 27) rfl _ _ (w.heap.size + 2) 27 #[.slice none 0 0, .slice none 0 0, .slice none 0 0] (0, 0) _ rfl rfl hr9 Try.underlying27 rfl HI.out) rfl ⟨⟨.agg #[.slice none 0 0, .slice none 0 0, .slice none 0 0], ?_, ?_⟩, ?_⟩
    · rw [HA.out.1]; rfl
    · refine DzA.mono (base := w.heap.size + 3) ?_ (by omega)
      rw [HA.out.2]
      refine DzA.set (DzA.set (DzA.set (DzA.nil _ _) ?_ _) ?_ _) ?_ _ <;> (exact Nat.lt_succ_self _)
    · exact ((hx.setCell (Nat.le_add_right _ 2) _).setCell (Nat.le_add_right _ 2) _).setCell (Nat.le_add_right _ 2) _
  have HA := Lib.hid (doD_yes (o := o) e0)
  have HP := Lib.hid (diskB_parts e0)
  clear e0
  go_wp2_with fail
  refine (implDoOn x o A0 n0 c0 A1 n1 c1 A2 n2 c2 _ _ (h0.below FzR.stays hx) (h1.below FzR.stays hx) (h2.below OzR.stays hx) ⟨HP.out.1, HL.out.2.1, by have := HP.out.2.2; omega⟩ ho).mono ?_
  rintro e w2 ⟨⟨v, rfl, hv⟩, hb⟩
  have HX := Lib.hid (hx.trans (hb.mono hx.size))
  have RR := Lib.hid (rb.below hb)
  have HV := Lib.hid (hv.mono (base' := w.heap.size + 3) hwz)
  obtain ⟨v0, v1, v2, rfl, k0, k1, k2, -⟩ := hv
  obtain ⟨B0, m0, d0, rfl⟩ := k0.len
  obtain ⟨B1, m1, d1, rfl⟩ := k1.len
  obtain ⟨B2, m2, d2, rfl⟩ := k2.len
  clear r0 r1 r2 f0 f1 f2 p0 p1 p2 s0 s1 s2 s3 k0 k1 k2 hb
  have rr := RR.out
  obtain ⟨⟨r0, r1, r2⟩, ⟨f0, f1, f2⟩⟩ := rr.three
  clear rr
  have HC := Lib.hid HA.out.1
  generalize codeD x o = kc at *
  go_wp2_with fail
  have hr9 := (((RR.out).set 0 (.slice B0 m0 d0)).set 1 (.slice B1 m1 d1)).set 2 (.slice B2 m2 d2)
  refine bodyPost_ret (results_cell_row2 (p := 4) (u := 5) (ty := 27) rfl _ _ (w.heap.size + 2) 27 #[.slice B0 m0 d0, .slice B1 m1 d1, .slice B2 m2 d2] (0, 0) _ rfl rfl hr9 Try.underlying27 rfl HI.out) rfl ⟨⟨.agg #[.slice B0 m0 d0, .slice B1 m1 d1, .slice B2 m2 d2], ?_, ?_⟩, ?_⟩
  · rw [HA.out.1]; rfl
  · refine DzA.mono (base := w.heap.size + 3) ?_ (by omega)
    rw [HA.out.2]
    refine DzA.set (DzA.set (DzA.set (HV.out) ?_ _) ?_ _) ?_ _ <;> (exact Nat.lt_succ_self _)
  · exact ((HX.out.setCell (Nat.le_add_right _ 2) _).setCell (Nat.le_add_right _ 2) _).setCell (Nat.le_add_right _ 2) _
end Go.Proofs.Ytkinegapnknhiaa
namespace Go.Proofs.Ytkinegapnknhiaa
open Go.RowKit
set_option linter.unusedVariables false
set_option linter.unusedSimpArgs false

theorem KeptL.range {B E : Nat} {w w' : World} (h : Kept B E w w') : KeptL (List.range' B (E - B)) w w' :=
  ⟨h.os, h.tape, h.output, h.size, fun k hk ho => h.block k hk (by
    rw [List.mem_range'_1] at ho
    omega), h.frozen⟩
theorem not_range {B E : Nat} {bs : List Nat} (h : ∀ b ∈ bs, E ≤ b) : ∀ x ∈ bs, x ∉ List.range' B (E - B) := fun x hx hh => by
  have h1 := h x hx
  rw [List.mem_range'_1] at hh
  omega
theorem Sl.keptL {α : Type} {R : Rd α} {sz : Nat} {ok : Nat → Prop} {w w' : World} {A : Option Addr} {n : Nat} {xs : List α} {bs : List Nat} (h : Sl R sz ok w A n xs) (hR : Stays R) (hk : KeptL bs w w') (hd : ∀ b, ok b → b ∉ bs) : Sl R sz ok w' A n xs :=
  h.stays hR (fun _ h => h) fun p v hb hp => hk.far (hd _ hb) hp
theorem Row.keptL {w w' : World} {g : Nat} {T : TypeId} {cs : Array Value} {bs : List Nat} (h : Row w g T cs) (hk : KeptL bs w w') (hg : g ∉ bs) : Row w' g T cs := (hk.block g (lt_of_block h) hg).trans h
end Go.Proofs.Ytkinegapnknhiaa
namespace Go.Proofs.Ytkinegapnknhiaa
open Go.RowKit
set_option linter.unusedVariables false
set_option linter.unusedSimpArgs false

theorem Row.keptB {B E : Nat} {w w' : World} {g : Nat} {T : TypeId} {cs : Array Value} (h : Row w g T cs) (k : Kept B E w w') (hg : g < B ∨ E ≤ g) : Row w' g T cs := (k.block g (lt_of_block h) hg).trans h
theorem syncD_fits {x : Dz} (h : x.sz ≤ 1048576) : (syncD x).fits := by
  have h1 := Dz.fits_of h
  unfold syncD
  split
  · exact ⟨h1.1, h1.1, by simp⟩
  · exact ⟨by simp, by simp, by simp⟩
end Go.Proofs.Ytkinegapnknhiaa
namespace Go.Proofs.Ytkinegapnknhiaa
open Go.RowKit
set_option linter.unusedVariables false
set_option linter.unusedSimpArgs false

theorem OwnG.neRow {α : Type} {T T' : TypeId} {sz : Nat} {f : α → List Value} {w : World} {base : Nat} {v : Value} {xs : List α} (h : OwnG T sz f w base v xs) {g : Nat} {cs : Array Value} (hr : Row w g T' cs) (hT : T ≠ T') : v.ownBlock ≠ some g := fun e => by
  rcases h.2 with ⟨rfl, -⟩ | ⟨k, cap, cur, rfl, h1, h2, -⟩
  · cases e
  have e1 : k = g := by simpa [Value.ownBlock] using e
  subst e1
  have h3 : w.heap[k]? = some (.cells cs T' (0, 0)) := hr
  rw [h2] at h3
  injection h3 with h4
  injection h4 with _ h5 _
  exact hT h5
/-- A disk of a call's own, in a box of its own. -/
def DzBox (w : World) (base : Nat) (p : Value) (x : Dz) : Prop := ∃ (g : Nat) (v0 v1 v2 : Value), p = .pointer (some ⟨g, 0, none⟩) ∧ base ≤ g ∧ Row w g 27 #[v0, v1, v2] ∧ DzA w base (.agg #[v0, v1, v2]) x
theorem DzA.setRow {w : World} {base : Nat} {v : Value} {x : Dz} (h : DzA w base v x) {g : Nat} {cs : Array Value} (hr : Row w g 27 cs) {p : Addr} (hp : p.block = g) (u : Value) : DzA (w.setCell p u) base v x := by
  obtain ⟨v0, v1, v2, rfl, k0, k1, k2, hd⟩ := h
  subst hp
  exact ⟨v0, v1, v2, rfl, OwnG.setNe k0 (OwnG.neRow k0 hr (by decide)) u, OwnG.setNe k1 (OwnG.neRow k1 hr (by decide)) u, OwnG.setNe k2 (OwnG.neRow k2 hr (by decide)) u, hd⟩
theorem DzBox.store {w : World} {base g : Nat} {v0 v1 v2 a b c : Value} {x : Dz} (h : DzA w base (.agg #[v0, v1, v2]) x) (hr : Row w g 27 #[a, b, c]) (hg : base ≤ g) :
    DzBox (((w.setCell ⟨g, 0, none⟩ v0).setCell ⟨g, 1, none⟩ v1).setCell ⟨g, 2, none⟩ v2) base (.pointer (some ⟨g, 0, none⟩)) x :=
  ⟨g, v0, v1, v2, rfl, hg, ((hr.set 0 v0).set 1 v1).set 2 v2, ((h.setRow hr rfl v0).setRow (hr.set 0 v0) rfl v1).setRow ((hr.set 0 v0).set 1 v1) rfl v2⟩
theorem Below.set3 {w u : World} {G g : Nat} (h : Below G w u) (hg : G ≤ g) (v0 v1 v2 : Value) : Below G w (((u.setCell ⟨g, 0, none⟩ v0).setCell ⟨g, 1, none⟩ v1).setCell ⟨g, 2, none⟩ v2) := ((h.setCell hg _).setCell hg _).setCell hg _
/-- As DzA.open_; and no box lies in the blocks. -/
theorem DzA.openT {w : World} {base : Nat} {v : Value} {x : Dz} (h : DzA w base v x) (hf : x.fits) : ∃ (A0 : Option Addr) (c0 : Nat) (A1 : Option Addr) (c1 : Nat) (A2 : Option Addr) (c2 : Nat) (b0 b1 b2 : List Nat), v = .agg #[.slice A0 x.live.length c0, .slice A1 x.safe.length c1, .slice A2 x.ops.length c2] ∧
    Sl FzR 2 (okF base w) w A0 x.live.length x.live ∧ Sl FzR 2 (okF base w) w A1 x.safe.length x.safe ∧ Sl OzR 4 (okF base w) w A2 x.ops.length x.ops ∧
    FlS 2 w A0 x.live.length b0 ∧ FlS 2 w A1 x.safe.length b1 ∧ FlS 4 w A2 x.ops.length b2 ∧ (b0 ++ b1 ++ b2).Nodup ∧ (∀ b ∈ b0 ++ b1 ++ b2, base ≤ b ∧ b < w.heap.size) ∧ ∀ b ∈ b0 ++ b1 ++ b2, ∀ cs, ¬ Row w b 27 cs := by
  obtain ⟨v0, v1, v2, rfl, k0, k1, k2, hd⟩ := h
  have d02 : Dis v0 v2 := Dis.types k0 k2 (by decide)
  have d12 : Dis v1 v2 := Dis.types k1 k2 (by decide)
  obtain ⟨A0, c0, e0, s0, f0⟩ := OwnG.fl fz_cells fz_nosl k0 hf.1.1
  obtain ⟨A1, c1, e1, s1, f1⟩ := OwnG.fl fz_cells fz_nosl k1 hf.2.1.1
  obtain ⟨A2, c2, e2, s2, f2⟩ := OwnG.fl oz_cells oz_nosl k2 hf.2.2.1
  have hb : ∀ v, (blkL v).Nodup := fun v => by unfold blkL; split <;> simp
  have hm : ∀ b ∈ blkL v0 ++ blkL v1 ++ blkL v2, v0.ownBlock = some b ∨ v1.ownBlock = some b ∨ v2.ownBlock = some b := fun b hb => by
    rcases List.mem_append.1 hb with hb | hb
    · rcases List.mem_append.1 hb with hb | hb
      · exact .inl (mem_blkL.1 hb)
      · exact .inr (.inl (mem_blkL.1 hb))
    · exact .inr (.inr (mem_blkL.1 hb))
  refine ⟨A0, c0, A1, c1, A2, c2, blkL v0, blkL v1, blkL v2, by rw [e0, e1, e2], s0, s1, s2, f0, f1, f2, ?_, fun b hb => ?_, fun b hb cs hr => ?_⟩
  · rw [List.append_assoc, List.nodup_append]
    refine ⟨hb _, List.nodup_append.2 ⟨hb _, hb _, fun a ha b hb e => ?_⟩, fun a ha b hb e => ?_⟩
    · subst e; exact d12 _ (mem_blkL.1 ha) (mem_blkL.1 hb)
    · subst e
      rcases List.mem_append.1 hb with hb | hb
      · exact hd _ (mem_blkL.1 ha) (mem_blkL.1 hb)
      · exact d02 _ (mem_blkL.1 ha) (mem_blkL.1 hb)
  · rcases hm b hb with h | h | h
    · exact OwnG.block_lt k0 b h
    · exact OwnG.block_lt k1 b h
    · exact OwnG.block_lt k2 b h
  · rcases hm b hb with h | h | h
    · exact OwnG.neRow k0 hr (by decide) h
    · exact OwnG.neRow k1 hr (by decide) h
    · exact OwnG.neRow k2 hr (by decide) h
theorem mem_bytes {l : List Fz} {y : Fz} (h : y ∈ l) : y.data.size ≤ bytesF l := by
  unfold bytesF
  induction l with
  | nil => cases h
  | cons z r ih =>
    rw [List.map_cons, List.sum_cons]
    rcases List.mem_cons.1 h with rfl | h
    · omega
    · have := ih h; omega
theorem filesB_sz {l : List Fz} (h : filesB l = true) : l.length ≤ 1048576 ∧ ∀ y ∈ l, y.sz ≤ 1048576 := by
  have h1 := filesB_bytes h
  refine ⟨by omega, fun y hy => ?_⟩
  have h2 := mem_bytes hy
  have h3 := filesB_name h hy
  simp only [nameB, Bool.and_eq_true, decide_eq_true_eq] at h3
  unfold Fz.sz
  omega
theorem codeD_zero {x : Dz} {o : Oz} (h : codeD x o = 0) : filesB (doF x.live o).1 = true := by
  unfold codeD at h
  cases hf : filesB (doF x.live o).1
  · rw [hf] at h
    split at h
    · split at h
      · split at h <;> cases h
      · cases h
    · cases h
  · rfl
theorem actDo_fits {x : Dz} {o : Oz} (h : x.sz ≤ 1048576) (ho : o.sz ≤ 1048576) : (actDo x o).fits := by
  have h1 := Dz.fits_of h
  unfold actDo
  split
  · rename_i hd
    have hp := diskB_parts hd
    unfold actD
    split
    · rename_i hc
      refine ⟨filesB_sz (codeD_zero hc), h1.2.1, by simp only [List.length_append, List.length_cons, List.length_nil]; omega, fun y hy => ?_⟩
      · rcases List.mem_append.1 hy with hy | hy
        · exact h1.2.2.2 y hy
        · rw [List.mem_singleton.1 hy]; exact ho
    · exact h1
  · exact ⟨by simp, by simp, by simp⟩
end Go.Proofs.Ytkinegapnknhiaa
namespace Go.Proofs.Ytkinegapnknhiaa
open Go.RowKit
set_option linter.unusedVariables false
set_option linter.unusedSimpArgs false

def readL (l : List Fz) (s : List UInt8) : ByteArray := (findF l s).getD ⟨#[]⟩
def readT (x : Dz) (s : ByteArray) : ByteArray := if diskB x then readL x.live s.toList else ⟨#[]⟩
def readK (x : Dz) (s : ByteArray) : Bool := diskB x && (findF x.live s.toList).isSome
theorem read_no {x : Dz} {s : ByteArray} (h : diskB x = false) : readT x s = ⟨#[]⟩ ∧ readK x s = false := by unfold readT readK; rw [h]; exact ⟨rfl, rfl⟩
theorem read_none {x : Dz} {s : ByteArray} (hf : findF x.live s.toList = none) : readT x s = ⟨#[]⟩ ∧ readK x s = false := by
  unfold readT readK readL; rw [hf]
  refine ⟨?_, by simp⟩
  split <;> rfl
theorem read_some {x : Dz} {s d : ByteArray} (h : diskB x = true) (hf : findF x.live s.toList = some d) : readT x s = d ∧ readK x s = true := by unfold readT readK readL; rw [h, hf]; exact ⟨rfl, rfl⟩
theorem live_len {x : Dz} (h : x.sz ≤ 1048576) : x.live.length ≤ 1048576 := by unfold Dz.sz szL at h; omega

set_option maxRecDepth 100000 in
set_option maxHeartbeats 1000000 in
theorem specReadFile (x : Dz) (A0 : Option Addr) (n0 c0 : Nat) (A1 : Option Addr) (n1 c1 : Nat) (A2 : Option Addr) (n2 c2 : Nat) (s : ByteArray) (ok : Nat → Prop) (w : World) (h0 : Sl FzR 2 ok w A0 n0 x.live) (h1 : Sl FzR 2 ok w A1 n1 x.safe) (h2 : Sl OzR 4 ok w A2 n2 x.ops) (hs : x.sz ≤ 1048576) :
    Calls Try.prog 38 #[.agg #[.slice A0 n0 c0, .slice A1 n1 c1, .slice A2 n2 c2], .string s] w fun e w' => e = .returned (.tuple #[.string (readT x s), .bool (readK x s)]) ∧ Below w.heap.size w w' := by
  have rb := Row.new w 27 #[.slice A0 n0 c0, .slice A1 n1 c1, .slice A2 n2 c2]
  have hx := (Below.refl w.heap.size w).alloc (Nat.le_refl _) (.cells #[.slice A0 n0 c0, .slice A1 n1 c1, .slice A2 n2 c2] 27)
  go_enter Try.func38, Try.ntmps38
  go_wp2_with fail
  generalize w.alloc (.cells #[.slice A0 n0 c0, .slice A1 n1 c1, .slice A2 n2 c2] 27) = z at *
  refine (specDiskOk x A0 n0 c0 A1 n1 c1 A2 n2 c2 _ _ (h0.below FzR.stays hx) (h1.below FzR.stays hx) (h2.below OzR.stays hx) hs).mono ?_
  rintro e w1 ⟨rfl, hq⟩
  have hx := hx.trans (hq.mono hx.size)
  have rb := rb.below hq
  obtain ⟨⟨p0, p1, p2⟩, -⟩ := rb.three
  obtain rfl : x.live.length = n0 := h0.1
  clear hq
  cases e0 : diskB x
  · obtain ⟨t1, t2⟩ := read_no (s := s) e0
    have HR := Lib.hid (And.intro t1 t2)
    clear t1 t2
    go_wp2
    go_ret2
    exact ⟨by rw [HR.out.1, HR.out.2]; rfl, hx⟩
  go_wp2_with fail
  refine (specAt14 A0 x.live.length c0 x.live s _ _ (h0.below FzR.stays hx) (live_len hs)).mono ?_
  rintro e w2 ⟨⟨r, rfl, hr⟩, rfl⟩
  rcases hr with ⟨rfl, hf⟩ | ⟨i, rfl, hi, hf, -⟩
  · obtain ⟨t1, t2⟩ := read_none hf
    have HR := Lib.hid (And.intro t1 t2)
    clear t1 t2 hf
    go_wp2
    go_ret2
    exact ⟨by rw [HR.out.1, HR.out.2]; rfl, hx⟩
  · obtain ⟨b, off, -, rfl, q0', q1'⟩ := FzR.at_ h0 hi
    have q1 := below_keep hx _ _ q1'
    obtain ⟨t1, t2⟩ := read_some e0 hf
    have HR := Lib.hid (And.intro t1 t2)
    have i0 : (0 : Int) ≤ i := by omega
    have i0' : decide ((i : Int) < 0) = false := decide_eq_false (by omega)
    have i1 : (i : Int) < x.live.length := by omega
    clear t1 t2 hf q0' q1'
    go_wp2
    go_ret2
    exact ⟨by rw [HR.out.1, HR.out.2]; rfl, hx⟩

set_option maxRecDepth 100000 in
set_option maxHeartbeats 1000000 in
theorem implDataOf (A : Option Addr) (n c : Nat) (l : List Fz) (s : ByteArray) (ok : Nat → Prop) (w : World) (h : Sl FzR 2 ok w A n l) (hn : n ≤ 1048576) :
    Calls Try.prog 59 #[.slice A n c, .string s] w fun e w' => e = .returned (.tuple #[.string (readL l s.toList), .bool (findF l s.toList).isSome]) ∧ Below w.heap.size w w' := by
  obtain rfl : l.length = n := h.1
  go_enter Try.func59, Try.ntmps59
  go_wp2
  go_loopw [10] (fun i wr => ∃ k : Nat, k ≤ l.length ∧ i = .int .i64 k ∧ Hid (∀ x ∈ l.take k, x.nm ≠ s.toList) ∧ Below w.heap.size w wr) (fun i _ => l.length - (intOf i).toNat)
  case atStart => exact ⟨0, by omega, rfl, Lib.hid (by simp), Below.refl _ _⟩
  case round =>
    obtain ⟨k, hk, rfl, hno, hb⟩ := hrel
    by_cases hlt : k < l.length
    · obtain ⟨b, off, -, rfl, q0, q1⟩ := FzR.at_ (h.below FzR.stays hb) hlt
      have hba := hb.alloc hb.size (.cells #[.string l[k].name, .string l[k].data] 75)
      have i0 : (0 : Int) ≤ k := by omega
      have i1 : (k : Int) < l.length := by omega
      by_cases he : l[k].name.toList = s.toList
      · have hf := findF_at hlt hno.out he
        have HR := Lib.hid (show readL l s.toList = l[k].data ∧ (findF l s.toList).isSome = true by unfold readL; rw [hf]; exact ⟨rfl, rfl⟩)
        have he' : (l[k].name.toList == s.toList) = true := by simpa using he
        clear he hf
        go_wp2
        go_ret2
        exact ⟨by rw [HR.out.1, HR.out.2]; rfl, hba⟩
      · have HN := Lib.hid (show ∀ x ∈ l.take (k + 1), x.nm ≠ s.toList by
          intro x hx
          rw [List.take_succ_eq_append_getElem hlt] at hx
          rcases List.mem_append.1 hx with hx | hx
          · exact hno.out x hx
          · obtain rfl := List.mem_singleton.1 hx; exact he)
        have he' : (l[k].name.toList == s.toList) = false := by simpa using he
        clear he
        go_wp2
        go_roundw
        case rel => exact ⟨k + 1, by omega, by go_num, HN, hba⟩
        case measure => simp [intOf]; omega
    · have e : l.take k = l := List.take_of_length_le (by omega)
      have h1 := hno.out
      rw [e] at h1
      have hf := findF_none h1
      have HR := Lib.hid (show readL l s.toList = ⟨#[]⟩ ∧ (findF l s.toList).isSome = false by unfold readL; rw [hf]; exact ⟨rfl, rfl⟩)
      clear h1 e hno hf
      go_wp2
      go_ret2
      exact ⟨by rw [HR.out.1, HR.out.2]; rfl, hb⟩

set_option maxRecDepth 100000 in
set_option maxHeartbeats 1000000 in
theorem implReadFile (x : Dz) (A0 : Option Addr) (n0 c0 : Nat) (A1 : Option Addr) (n1 c1 : Nat) (A2 : Option Addr) (n2 c2 : Nat) (s : ByteArray) (ok : Nat → Prop) (w : World) (h0 : Sl FzR 2 ok w A0 n0 x.live) (h1 : Sl FzR 2 ok w A1 n1 x.safe) (h2 : Sl OzR 4 ok w A2 n2 x.ops) (hs : x.sz ≤ 1048576) :
    Calls Try.prog 22 #[.agg #[.slice A0 n0 c0, .slice A1 n1 c1, .slice A2 n2 c2], .string s] w fun e w' => e = .returned (.tuple #[.string (readT x s), .bool (readK x s)]) ∧ Below w.heap.size w w' := by
  have rb := Row.new w 27 #[.slice A0 n0 c0, .slice A1 n1 c1, .slice A2 n2 c2]
  have hx := (Below.refl w.heap.size w).alloc (Nat.le_refl _) (.cells #[.slice A0 n0 c0, .slice A1 n1 c1, .slice A2 n2 c2] 27)
  go_enter Try.func22, Try.ntmps22
  go_wp2_with fail
  generalize w.alloc (.cells #[.slice A0 n0 c0, .slice A1 n1 c1, .slice A2 n2 c2] 27) = z at *
  refine (implDiskOk x A0 n0 c0 A1 n1 c1 A2 n2 c2 _ _ (h0.below FzR.stays hx) (h1.below FzR.stays hx) (h2.below OzR.stays hx) hs).mono ?_
  rintro e w1 ⟨rfl, hq⟩
  have hx := hx.trans (hq.mono hx.size)
  have rb := rb.below hq
  obtain ⟨⟨p0, p1, p2⟩, -⟩ := rb.three
  obtain rfl : x.live.length = n0 := h0.1
  clear hq
  cases e0 : diskB x
  · obtain ⟨t1, t2⟩ := read_no (s := s) e0
    have HR := Lib.hid (And.intro t1 t2)
    clear t1 t2
    go_wp2
    go_ret2
    exact ⟨by rw [HR.out.1, HR.out.2]; rfl, hx⟩
  have HR := Lib.hid (show readT x s = readL x.live s.toList ∧ readK x s = (findF x.live s.toList).isSome by unfold readT readK; rw [e0]; exact ⟨rfl, rfl⟩)
  go_wp2_with fail
  refine (implDataOf A0 x.live.length c0 x.live s _ _ (h0.below FzR.stays hx) (live_len hs)).mono ?_
  rintro e w2 ⟨rfl, hb⟩
  have hbe := hx.trans (hb.mono hx.size)
  go_wp2
  go_ret2
  exact ⟨by rw [HR.out.1, HR.out.2]; rfl, hbe⟩
end Go.Proofs.Ytkinegapnknhiaa
namespace Go.Proofs.Ytkinegapnknhiaa
open Go.RowKit Go.Maps
set_option linter.unusedVariables false
set_option linter.unusedSimpArgs false

def freshN (n : ByteArray) : ByteArray := n ++ ⟨#[46, 110, 101, 119]⟩
def cutO (l : List Fz) (n : ByteArray) : List Oz := if (findF l n.toList).isSome then [⟨3, n, ⟨#[]⟩, ⟨#[]⟩⟩] else []
def putO (n d : ByteArray) : List Oz := [⟨1, freshN n, ⟨#[]⟩, d⟩, ⟨2, freshN n, n, ⟨#[]⟩⟩]
def opsR (l : List Fz) (n d : ByteArray) : List Oz := cutO l (freshN n) ++ putO n d
/-- Ops one behind the other, up to the first that is refused. -/
def seqD : List Oz → Dz → Dz × Int
  | [], x => (x, 0)
  | o :: r, x => if codeD x o = 0 then seqD r (actD x o) else (x, codeD x o)
def codeR (x : Dz) (n d : ByteArray) : Int := if diskB x then (seqD (opsR x.live n d) x).2 else 1
def replD (x : Dz) (n d : ByteArray) : Dz := if diskB x then (if (seqD (opsR x.live n d) x).2 = 0 then (seqD (opsR x.live n d) x).1 else x) else ⟨[], [], []⟩
/-- A disk on which ops may be done. -/
def rightD (x : Dz) : Prop := filesB x.live = true ∧ x.safe.length ≤ 1048576 ∧ x.ops.length ≤ 200
theorem actD_right {x : Dz} {o : Oz} (h : rightD x) (hc : codeD x o = 0) : rightD (actD x o) := by
  have hm : x.ops.length ≠ 200 := fun e => by
    unfold codeD at hc
    rw [if_pos e] at hc
    split at hc
    · split at hc <;> cases hc
    · cases hc
  unfold actD
  rw [if_pos hc]
  exact ⟨codeD_zero hc, h.2.1, by have := h.2.2; simp only [List.length_append, List.length_cons, List.length_nil]; omega⟩
theorem seqD_at {ops : List Oz} {k : Nat} (h : k < ops.length) (x : Dz) : seqD (ops.drop k) x = if codeD x ops[k] = 0 then seqD (ops.drop (k + 1)) (actD x ops[k]) else (x, codeD x ops[k]) := by
  rw [List.drop_eq_getElem_cons h]; rfl
theorem fresh_size {n : ByteArray} (h : n.size ≤ 1048576) : (freshN n).size ≤ 1048580 := by
  have e : (⟨#[46, 110, 101, 119]⟩ : ByteArray).size = 4 := rfl
  unfold freshN
  rw [ByteArray.size_append, e]
  omega
theorem flat_fits {x : Dz} {o : Oz} (h : x.fits) (ho : o.sz ≤ 1048576) (hr : x.ops.length ≤ 1048575) : (actD x o).fits := by
  unfold actD
  split
  · rename_i hc
    refine ⟨filesB_sz (codeD_zero hc), h.2.1, by simp only [List.length_append, List.length_cons, List.length_nil]; omega, fun y hy => ?_⟩
    rcases List.mem_append.1 hy with hy | hy
    · exact h.2.2.2 y hy
    · rw [List.mem_singleton.1 hy]; exact ho
  · exact h

set_option maxRecDepth 100000 in
theorem implOpsToWrite (n d : ByteArray) (w : World) (hn : n.size ≤ 1048576) :
    Calls Try.prog 90 #[.string n, .string d] w fun e w' => (∃ v, e = .returned v ∧ OwnO w' w.heap.size v (putO n d)) ∧ Below w.heap.size w w' := by
  have hs : n.size + 4 ≤ 9223372036854775807 := by omega
  have HO := Lib.hid (show OwnO (w.alloc (.cells #[.int .i64 1, .string (n ++ (⟨#[46, 110, 101, 119]⟩ : ByteArray)), .string ⟨#[]⟩, .string d, .int .i64 2, .string (n ++ (⟨#[46, 110, 101, 119]⟩ : ByteArray)), .string n, .string ⟨#[]⟩] 36)) w.heap.size (.slice (some ⟨w.heap.size, 0, none⟩) 2 2) (putO n d) from World.ownsRow_lit (e := 36) (size := 4) w #[.int .i64 1, .string (n ++ (⟨#[46, 110, 101, 119]⟩ : ByteArray)), .string ⟨#[]⟩, .string d, .int .i64 2, .string (n ++ (⟨#[46, 110, 101, 119]⟩ : ByteArray)), .string n, .string ⟨#[]⟩] 2 (Nat.le_refl _) (by unfold maxLen; omega) rfl)
  go_enter Try.func90, Try.ntmps90
  go_wp2_with fail
  go_ret
  exact ⟨⟨_, rfl, HO.out⟩, (Below.refl _ _).alloc (Nat.le_refl _) _⟩

set_option maxRecDepth 100000 in
theorem implOpsToRemove (A : Option Addr) (m c : Nat) (l : List Fz) (n : ByteArray) (ok : Nat → Prop) (w : World) (h : Sl FzR 2 ok w A m l) (hm : m ≤ 1048576) :
    Calls Try.prog 89 #[.slice A m c, .string n] w fun e w' => (∃ v, e = .returned v ∧ OwnO w' w.heap.size v (cutO l n)) ∧ Below w.heap.size w w' := by
  go_enter Try.func89, Try.ntmps89
  go_wp2_with fail
  refine (implDataOf A m c l n _ _ h hm).mono ?_
  rintro e w1 ⟨rfl, hb⟩
  have HB := Lib.hid hb
  have HS := Lib.hid hb.size
  clear hb
  cases e0 : (findF l n.toList).isSome
  · have HC := Lib.hid (show cutO l n = [] by unfold cutO; rw [e0]; rfl)
    clear e0
    go_wp2_with fail
    go_ret
    exact ⟨⟨_, rfl, by rw [HC.out]; exact OwnG.nil _ _⟩, HB.out⟩
  have HC := Lib.hid (show cutO l n = [⟨3, n, ⟨#[]⟩, ⟨#[]⟩⟩] by unfold cutO; rw [e0]; rfl)
  have HO := Lib.hid (show OwnO (w1.alloc (.cells #[.int .i64 3, .string n, .string ⟨#[]⟩, .string ⟨#[]⟩] 36)) w.heap.size (.slice (some ⟨w1.heap.size, 0, none⟩) 1 1) [⟨3, n, ⟨#[]⟩, ⟨#[]⟩⟩] from World.ownsRow_lit (e := 36) (size := 4) w1 #[.int .i64 3, .string n, .string ⟨#[]⟩, .string ⟨#[]⟩] 1 HS.out (by unfold maxLen; omega) rfl)
  clear e0
  go_wp2_with fail
  go_ret
  exact ⟨⟨_, rfl, by rw [HC.out]; exact HO.out⟩, HB.out.alloc HS.out _⟩

set_option maxRecDepth 100000 in
theorem implOpsToReplace (A : Option Addr) (m c : Nat) (l : List Fz) (n d : ByteArray) (ok : Nat → Prop) (w : World) (h : Sl FzR 2 ok w A m l) (hm : m ≤ 1048576) (hn : n.size ≤ 1048576) :
    Calls Try.prog 62 #[.slice A m c, .string n, .string d] w fun e w' => (∃ v, e = .returned v ∧ OwnO w' w.heap.size v (opsR l n d)) ∧ Below w.heap.size w w' := by
  have hs : n.size + 4 ≤ 9223372036854775807 := by omega
  obtain ⟨j0, hi, hz0, hz1, hz2⟩ := info_parts infoDOpT
  have J1 := Lib.hid hi
  have J2 := Lib.hid hz0
  have J3 := Lib.hid hz1
  have J4 := Lib.hid hz2
  clear hi hz0 hz1 hz2
  go_enter Try.func62, Try.ntmps62
  go_wp2_with fail
  refine (implOpsToRemove A m c l (n ++ (⟨#[46, 110, 101, 119]⟩ : ByteArray)) _ _ h hm).mono ?_
  rintro e w1 ⟨⟨v1, rfl, o1⟩, hb1⟩
  have O1 := Lib.hid o1
  have HB1 := Lib.hid hb1
  clear o1 hb1
  go_wp2_with fail
  refine (implOpsToWrite n d _ hn).mono ?_
  rintro e w2 ⟨⟨v2, rfl, o2⟩, hb2⟩
  have O1 := Lib.hid (OwnG.below O1.out hb2)
  have HB2 := Lib.hid (HB1.out.trans (hb2.mono HB1.out.size))
  obtain ⟨A2, c2, rfl, -, -, hs2⟩ := o2.sl
  have HL := Lib.hid (show (cutO l (n ++ (⟨#[46, 110, 101, 119]⟩ : ByteArray))).length ≤ 1 by unfold cutO; split <;> simp)
  have hA2 : ∃ a2 : Addr, A2 = some a2 := by obtain ⟨b, off, e, -⟩ := hs2.2 (by simp [putO]); exact ⟨_, e⟩
  obtain ⟨a2, rfl⟩ := hA2
  have hcl : ∀ j u, ((putO n d).map Oz.cells).flatten[j]? = some u → w2.cell? (a2.add j) = some u := by
    obtain ⟨b, off, e, -, -⟩ := hs2.2 (by simp [putO])
    injection e with e
    subst e
    intro j u hj
    exact flat_cells oz_cells (by omega) hs2 j u hj
  have HCL := Lib.hid hcl
  clear o2 hb2 hs2 hcl
  go_wp2_with (at_builtin; go_loud (refine wpList_append_own_at _ rfl _ _ 25 rfl w.heap.size 36 j0 (.agg #[.int .i64 0, .string ⟨#[]⟩, .string ⟨#[]⟩, .string ⟨#[]⟩]) 4 56 Try.underlying25 J1.out J2.out J3.out J4.out rfl (by decide) _ _ _ rfl O1.out a2 2 c2 (((putO n d).map Oz.cells).flatten) rfl rfl ?c1 ?c2 ?c3 ?c4 ?c5 ?_))
  case c1 => exact HCL.out
  case c2 => intro u hu; simp [putO, Oz.cells] at hu; rcases hu with rfl | rfl | rfl | rfl | rfl | rfl | rfl | rfl <;> rfl
  case c3 => have := HL.out; unfold maxLen; omega
  case c4 => have := HL.out; omega
  case c5 => exact HB2.out.size
  intro v6 w6 hown6 hgrow _ _
  have O6 := Lib.hid (show OwnO w6 w.heap.size v6 (opsR l n d) by
    have e : (cutO l (n ++ (⟨#[46, 110, 101, 119]⟩ : ByteArray))).length + 2 = (opsR l n d).length := by unfold opsR; rw [List.length_append]; rfl
    show World.ownsRow _ _ _ _ _ _ _
    rw [← e]
    unfold opsR
    rw [List.map_append, List.flatten_append]
    exact hown6)
  have hb6 : Below w.heap.size w w6 := HB2.out.grown hgrow HB2.out.size (fun k hk => (OwnG.block_lt O1.out k hk).1)
  clear hown6 hgrow
  go_wp2_with fail
  go_ret
  exact ⟨⟨_, rfl, O6.out⟩, hb6⟩

theorem replD_no {x : Dz} {n d : ByteArray} (h : diskB x = false) : codeR x n d = 1 ∧ replD x n d = ⟨[], [], []⟩ := by unfold codeR replD; rw [h]; exact ⟨rfl, rfl⟩
theorem replD_err {x : Dz} {n d : ByteArray} {k : Int} (h : diskB x = true) (hk : (seqD (opsR x.live n d) x).2 = k) (h0 : k ≠ 0) : codeR x n d = k ∧ replD x n d = x := by
  unfold codeR replD; rw [h, hk]; exact ⟨rfl, by simp [h0]⟩
theorem replD_ok {x y : Dz} {n d : ByteArray} (h : diskB x = true) (hk : seqD (opsR x.live n d) x = (y, 0)) : codeR x n d = 0 ∧ replD x n d = y := by
  unfold codeR replD; rw [h, hk]; exact ⟨rfl, rfl⟩
theorem seqD_step {o : Oz} {r : List Oz} {x : Dz} (h : codeD x o = 0) : seqD (o :: r) x = seqD r (actD x o) := by show (if codeD x o = 0 then _ else _) = _; rw [if_pos h]
theorem seqD_stop {o : Oz} {r : List Oz} {x : Dz} (h : codeD x o ≠ 0) : seqD (o :: r) x = (x, codeD x o) := by show (if codeD x o = 0 then _ else _) = _; rw [if_neg h]

set_option maxRecDepth 100000 in
set_option maxHeartbeats 4000000 in
theorem specReplace (x : Dz) (n d : ByteArray) (A0 : Option Addr) (n0 c0 : Nat) (A1 : Option Addr) (n1 c1 : Nat) (A2 : Option Addr) (n2 c2 : Nat) (ok : Nat → Prop) (w : World) (h0 : Sl FzR 2 ok w A0 n0 x.live) (h1 : Sl FzR 2 ok w A1 n1 x.safe) (h2 : Sl OzR 4 ok w A2 n2 x.ops) (hs : x.sz ≤ 1048576) (hn : n.size ≤ 1048576) (hd : d.size ≤ 1048576) :
    Calls Try.prog 25 #[.agg #[.slice A0 n0 c0, .slice A1 n1 c1, .slice A2 n2 c2], .string n, .string d] w fun e w' => (∃ v, e = .returned (.tuple #[v, .int .i64 (codeR x n d)]) ∧ DzA w' w.heap.size v (replD x n d)) ∧ Below w.heap.size w w' := by
  obtain ⟨hx, hwz⟩ := box2 w (.cells #[.slice A0 n0 c0, .slice A1 n1 c1, .slice A2 n2 c2] 27) (.cells #[.slice none 0 0, .slice none 0 0, .slice none 0 0] 27)
  have ra := (Row.new w 27 #[.slice A0 n0 c0, .slice A1 n1 c1, .slice A2 n2 c2]).alloc (.cells #[.slice none 0 0, .slice none 0 0, .slice none 0 0] 27)
  have rb := Row.newAt (w.alloc (.cells #[.slice A0 n0 c0, .slice A1 n1 c1, .slice A2 n2 c2] 27)) 27 #[.slice none 0 0, .slice none 0 0, .slice none 0 0] (w.heap.size + 1) (by simp)
  have HI := Lib.hid infoDisk
  have HL := Lib.hid (sz_lens hs)
  have hns : n.size + 4 ≤ 9223372036854775807 := by omega
  go_enter Try.func25, Try.ntmps25
  go_wp2_with fail
  generalize (w.alloc (.cells #[.slice A0 n0 c0, .slice A1 n1 c1, .slice A2 n2 c2] 27)).alloc (.cells #[.slice none 0 0, .slice none 0 0, .slice none 0 0] 27) = z at *
  refine (specDiskOk x A0 n0 c0 A1 n1 c1 A2 n2 c2 _ _ (h0.below FzR.stays hx) (h1.below FzR.stays hx) (h2.below OzR.stays hx) hs).mono ?_
  rintro e w1 ⟨rfl, hq⟩
  have hx := hx.trans (hq.mono hx.size)
  have hwz := Nat.le_trans hwz hq.size
  have HZ1 := Lib.hid hwz
  have ra := ra.below hq
  have rb := rb.below hq
  clear hq
  obtain ⟨⟨p0, p1, p2⟩, -⟩ := ra.three
  obtain ⟨⟨r0, r1, r2⟩, ⟨f0, f1, f2⟩⟩ := rb.three
  cases e0 : diskB x
  · have HA := Lib.hid (replD_no (n := n) (d := d) e0)
    have RR := Lib.hid rb
    clear ra rb
    go_wp2_with fail
    have hr9 := (((RR.out).set 0 (.slice none 0 0)).set 1 (.slice none 0 0)).set 2 (.slice none 0 0)
    refine bodyPost_ret (results_cell_row2 (p := 6) (u := 7) (ty := 27) rfl _ _ (w.heap.size + 1) 27 #[.slice none 0 0, .slice none 0 0, .slice none 0 0] (0, 0) _ rfl rfl hr9 Try.underlying27 rfl HI.out) rfl ⟨⟨.agg #[.slice none 0 0, .slice none 0 0, .slice none 0 0], ?_, ?_⟩, ?_⟩
    · rw [HA.out.1]; rfl
    · refine DzA.mono (base := w.heap.size + 2) ?_ (by omega)
      rw [HA.out.2]
      refine DzA.set (DzA.set (DzA.set (DzA.nil _ _) ?_ _) ?_ _) ?_ _ <;> (exact Nat.lt_succ_self _)
    · exact ((hx.setCell (Nat.le_add_right _ 1) _).setCell (Nat.le_add_right _ 1) _).setCell (Nat.le_add_right _ 1) _
  have HP := Lib.hid (diskB_parts e0)
  have E0 := Lib.hid e0
  have HLC := Lib.hid (show n0 ≤ 1048576 ∧ n1 ≤ 1048576 ∧ n2 ≤ 1048576 from ⟨by rw [← h0.1]; exact HL.out.1, by rw [← h1.1]; exact HL.out.2.1, by rw [← h2.1]; exact HL.out.2.2⟩)
  have HRT := Lib.hid (show rightD x from ⟨HP.out.1, HL.out.2.1, HP.out.2.2⟩)
  clear e0
  have hal := (Below.refl w1.heap.size w1).alloc (Nat.le_refl _) (.cells #[.slice A0 n0 c0, .slice A1 n1 c1, .slice A2 n2 c2] 27)
  have rn := Row.new w1 27 #[.slice A0 n0 c0, .slice A1 n1 c1, .slice A2 n2 c2]
  have hx := hx.alloc hx.size (.cells #[.slice A0 n0 c0, .slice A1 n1 c1, .slice A2 n2 c2] 27)
  have ra := ra.below hal
  have rb := rb.below hal
  have HGN := Lib.hid (show w.heap.size + 2 ≤ w1.heap.size from hwz)
  have HZ := Lib.hid (Nat.le_trans hwz hal.size)
  clear r0 r1 r2 f0 f1 f2 hal hwz
  obtain ⟨⟨p0, p1, p2⟩, -⟩ := ra.three
  obtain ⟨⟨r0, r1, r2⟩, ⟨f0, f1, f2⟩⟩ := rb.three
  obtain ⟨⟨t0, t1, t2⟩, -⟩ := rn.three
  go_wp2_with fail
  generalize w1.alloc (.cells #[.slice A0 n0 c0, .slice A1 n1 c1, .slice A2 n2 c2] 27) = z1 at *
  generalize w1.heap.size = gn at *
  refine (specAt14 A0 n0 c0 x.live (n ++ (⟨#[46, 110, 101, 119]⟩ : ByteArray)) _ _ (h0.below FzR.stays hx) HLC.out.1).mono ?_
  rintro e w2 ⟨⟨r, rfl, hr⟩, rfl⟩
  rcases hr with ⟨rfl, hf⟩ | ⟨i, rfl, hi, hf, -⟩
  · have HOP := Lib.hid (show opsR x.live n d = [⟨1, (n ++ (⟨#[46, 110, 101, 119]⟩ : ByteArray)), ⟨#[]⟩, d⟩, ⟨2, (n ++ (⟨#[46, 110, 101, 119]⟩ : ByteArray)), n, ⟨#[]⟩⟩] by unfold opsR cutO freshN; rw [hf]; rfl)
    clear hf
    go_wp2_with fail
    refine (specAct x (⟨1, (n ++ (⟨#[46, 110, 101, 119]⟩ : ByteArray)), ⟨#[]⟩, d⟩ : Oz) A0 n0 c0 A1 n1 c1 A2 n2 c2 _ _ (h0.below FzR.stays hx) (h1.below FzR.stays hx) (h2.below OzR.stays hx) ⟨HRT.out.1, HRT.out.2.1, by have := HRT.out.2.2; omega⟩ (by first | (show d.size ≤ _; omega) | (show (⟨#[]⟩ : ByteArray).size ≤ _; exact Nat.zero_le _))).mono ?_
    rintro e w3 ⟨⟨v, rfl, hv⟩, hq⟩
    have hx := hx.trans (hq.mono hx.size)
    have HZ := Lib.hid (Nat.le_trans HZ.out hq.size)
    have ra := ra.below hq
    have rb := rb.below hq
    have rn := rn.below hq
    have HB0 := Lib.hid hq.size
    obtain ⟨v0, v1, v2, rfl, k0, k1, k2, -⟩ := id hv
    obtain ⟨B0, m0, d0, rfl⟩ := k0.len
    obtain ⟨B1, m1, d1, rfl⟩ := k1.len
    obtain ⟨B2, m2, d2, rfl⟩ := k2.len
    clear k0 k1 k2
    clear p0 p1 p2 r0 r1 r2 f0 f1 f2 t0 t1 t2
    obtain ⟨⟨q0, q1, q2⟩, ⟨u0, u1, u2⟩⟩ := rn.three
    have hv := ((hv.setRow rn rfl (.slice B0 m0 d0)).setRow (p := ⟨gn, 1, none⟩) (rn.set 0 (.slice B0 m0 d0)) rfl (.slice B1 m1 d1)).setRow (p := ⟨gn, 2, none⟩) ((rn.set 0 (.slice B0 m0 d0)).set 1 (.slice B1 m1 d1)) rfl (.slice B2 m2 d2)
    have hxs := Below.set3 hx (g := gn) (by have := HGN.out; omega) (.slice B0 m0 d0) (.slice B1 m1 d1) (.slice B2 m2 d2)
    have ra := ((ra.far (p := ⟨gn, 0, none⟩) (by have := HGN.out; simp; omega) (.slice B0 m0 d0)).far (p := ⟨gn, 1, none⟩) (by have := HGN.out; simp; omega) (.slice B1 m1 d1)).far (p := ⟨gn, 2, none⟩) (by have := HGN.out; simp; omega) (.slice B2 m2 d2)
    have rb := ((rb.far (p := ⟨gn, 0, none⟩) (by have := HGN.out; simp; omega) (.slice B0 m0 d0)).far (p := ⟨gn, 1, none⟩) (by have := HGN.out; simp; omega) (.slice B1 m1 d1)).far (p := ⟨gn, 2, none⟩) (by have := HGN.out; simp; omega) (.slice B2 m2 d2)
    have rn := show Row _ gn _ #[.slice B0 m0 d0, .slice B1 m1 d1, .slice B2 m2 d2] from ((rn.set 0 (.slice B0 m0 d0)).set 1 (.slice B1 m1 d1)).set 2 (.slice B2 m2 d2)
    have hx := hxs
    clear hxs hq
    have HZ := Lib.hid (show w.heap.size + 2 ≤ (((w3.setCell ⟨gn, 0, none⟩ (.slice B0 m0 d0)).setCell ⟨gn, 1, none⟩ (.slice B1 m1 d1)).setCell ⟨gn, 2, none⟩ (.slice B2 m2 d2)).heap.size by have := HZ.out; simp only [World.setCell, Array.size_modify]; omega)
    obtain ⟨⟨p0, p1, p2⟩, -⟩ := ra.three
    obtain ⟨⟨r0, r1, r2⟩, ⟨f0, f1, f2⟩⟩ := rb.three
    obtain ⟨⟨t0, t1, t2⟩, -⟩ := rn.three
    by_cases hc : codeD x (⟨1, (n ++ (⟨#[46, 110, 101, 119]⟩ : ByteArray)), ⟨#[]⟩, d⟩ : Oz) = 0
    case neg =>
      have HC := Lib.hid (replD_err (n := n) (d := d) E0.out (show (seqD (opsR x.live n d) x).2 = codeD x (⟨1, (n ++ (⟨#[46, 110, 101, 119]⟩ : ByteArray)), ⟨#[]⟩, d⟩ : Oz) by rw [HOP.out, seqD_stop hc]) hc)
      have hc' : (codeD x (⟨1, (n ++ (⟨#[46, 110, 101, 119]⟩ : ByteArray)), ⟨#[]⟩, d⟩ : Oz) == 0) = false := by simpa using hc
      have hc2 : decide (codeD x (⟨1, (n ++ (⟨#[46, 110, 101, 119]⟩ : ByteArray)), ⟨#[]⟩, d⟩ : Oz) = 0) = false := decide_eq_false hc
      generalize codeD x (⟨1, (n ++ (⟨#[46, 110, 101, 119]⟩ : ByteArray)), ⟨#[]⟩, d⟩ : Oz) = kc at *
      have hc3 : (kc != 0) = true := by simpa using hc
      go_wp2_with fail
      generalize ((w3.setCell ⟨gn, 0, none⟩ (.slice B0 m0 d0)).setCell ⟨gn, 1, none⟩ (.slice B1 m1 d1)).setCell ⟨gn, 2, none⟩ (.slice B2 m2 d2) = y at *
      refine (specCopy x A0 n0 c0 A1 n1 c1 A2 n2 c2 _ _ (h0.below FzR.stays hx) (h1.below FzR.stays hx) (h2.below OzR.stays hx) HLC.out).mono ?_
      rintro e w9 ⟨⟨v, rfl, hv⟩, hq9⟩
      have hxe := hx.trans (hq9.mono hx.size)
      have RR := Lib.hid (rb.below hq9)
      have HV := Lib.hid (hv.mono (base' := w.heap.size + 2) HZ.out)
      obtain ⟨v0, v1, v2, rfl, k0, k1, k2, -⟩ := hv
      obtain ⟨C0, m0, e0, rfl⟩ := k0.len
      obtain ⟨C1, m1, e1, rfl⟩ := k1.len
      obtain ⟨C2, m2, e2, rfl⟩ := k2.len
      clear p0 p1 p2 r0 r1 r2 f0 f1 f2 k0 k1 k2 hq9
      have rr := RR.out
      obtain ⟨⟨r0, r1, r2⟩, ⟨f0, f1, f2⟩⟩ := rr.three
      clear rr
      go_wp2_with fail
      have hr9 := (((RR.out).set 0 (.slice C0 m0 e0)).set 1 (.slice C1 m1 e1)).set 2 (.slice C2 m2 e2)
      refine bodyPost_ret (results_cell_row2 (p := 6) (u := 7) (ty := 27) rfl _ _ (w.heap.size + 1) 27 #[.slice C0 m0 e0, .slice C1 m1 e1, .slice C2 m2 e2] (0, 0) _ rfl rfl hr9 Try.underlying27 rfl HI.out) rfl ⟨⟨.agg #[.slice C0 m0 e0, .slice C1 m1 e1, .slice C2 m2 e2], ?_, ?_⟩, ?_⟩
      · rw [HC.out.1]; rfl
      · refine DzA.mono (base := w.heap.size + 2) ?_ (by omega)
        rw [HC.out.2]
        refine DzA.set (DzA.set (DzA.set (HV.out) ?_ _) ?_ _) ?_ _ <;> (exact Nat.lt_succ_self _)
      · exact ((hxe.setCell (Nat.le_add_right _ 1) _).setCell (Nat.le_add_right _ 1) _).setCell (Nat.le_add_right _ 1) _
    have HC0 := Lib.hid hc
    rw [hc]
    have RT0 := Lib.hid (actD_right HRT.out hc)
    clear hc
    go_wp2_with fail
    generalize ((w3.setCell ⟨gn, 0, none⟩ (.slice B0 m0 d0)).setCell ⟨gn, 1, none⟩ (.slice B1 m1 d1)).setCell ⟨gn, 2, none⟩ (.slice B2 m2 d2) = y3 at *
    obtain ⟨w0', w1', w2', ew, K0, K1, K2, -⟩ := hv
    injection ew with ew
    injection ew with ew
    injection ew with ea ew
    injection ew with eb ew
    injection ew with ec ew
    subst ea eb ec
    obtain ⟨D0, g0, ed, -, -, s0⟩ := (show OwnZ _ _ _ _ from K0).sl
    obtain ⟨D1, g1, ee, -, -, s1⟩ := (show OwnZ _ _ _ _ from K1).sl
    obtain ⟨D2, g2, ef, -, -, s2⟩ := (show OwnO _ _ _ _ from K2).sl
    injection ed with ed1 ed2 ed3
    injection ee with ee1 ee2 ee3
    injection ef with ef1 ef2 ef3
    subst ed1 ed2 ed3 ee1 ee2 ee3 ef1 ef2 ef3
    clear K0 K1 K2
    refine (specAct (actD x (⟨1, (n ++ (⟨#[46, 110, 101, 119]⟩ : ByteArray)), ⟨#[]⟩, d⟩ : Oz)) (⟨2, (n ++ (⟨#[46, 110, 101, 119]⟩ : ByteArray)), n, ⟨#[]⟩⟩ : Oz) _ _ _ _ _ _ _ _ _ _ _ s0 s1 s2 ⟨RT0.out.1, RT0.out.2.1, by have := RT0.out.2.2; omega⟩ (by first | (show d.size ≤ _; omega) | (show (⟨#[]⟩ : ByteArray).size ≤ _; exact Nat.zero_le _))).mono ?_
    rintro e w4 ⟨⟨v, rfl, hv⟩, hq⟩
    have hx := hx.trans (hq.mono hx.size)
    have HZ := Lib.hid (Nat.le_trans HZ.out hq.size)
    have ra := ra.below hq
    have rb := rb.below hq
    have rn := rn.below hq
    have HB1 := Lib.hid hq.size
    obtain ⟨v0, v1, v2, rfl, k0, k1, k2, -⟩ := id hv
    obtain ⟨B0, m0, d0, rfl⟩ := k0.len
    obtain ⟨B1, m1, d1, rfl⟩ := k1.len
    obtain ⟨B2, m2, d2, rfl⟩ := k2.len
    clear k0 k1 k2
    clear p0 p1 p2 r0 r1 r2 f0 f1 f2 t0 t1 t2 u0 u1 u2
    obtain ⟨⟨q0, q1, q2⟩, ⟨u0, u1, u2⟩⟩ := rn.three
    have hv := ((hv.setRow rn rfl (.slice B0 m0 d0)).setRow (p := ⟨gn, 1, none⟩) (rn.set 0 (.slice B0 m0 d0)) rfl (.slice B1 m1 d1)).setRow (p := ⟨gn, 2, none⟩) ((rn.set 0 (.slice B0 m0 d0)).set 1 (.slice B1 m1 d1)) rfl (.slice B2 m2 d2)
    have hxs := Below.set3 hx (g := gn) (by have := HGN.out; omega) (.slice B0 m0 d0) (.slice B1 m1 d1) (.slice B2 m2 d2)
    have ra := ((ra.far (p := ⟨gn, 0, none⟩) (by have := HGN.out; simp; omega) (.slice B0 m0 d0)).far (p := ⟨gn, 1, none⟩) (by have := HGN.out; simp; omega) (.slice B1 m1 d1)).far (p := ⟨gn, 2, none⟩) (by have := HGN.out; simp; omega) (.slice B2 m2 d2)
    have rb := ((rb.far (p := ⟨gn, 0, none⟩) (by have := HGN.out; simp; omega) (.slice B0 m0 d0)).far (p := ⟨gn, 1, none⟩) (by have := HGN.out; simp; omega) (.slice B1 m1 d1)).far (p := ⟨gn, 2, none⟩) (by have := HGN.out; simp; omega) (.slice B2 m2 d2)
    have rn := show Row _ gn _ #[.slice B0 m0 d0, .slice B1 m1 d1, .slice B2 m2 d2] from ((rn.set 0 (.slice B0 m0 d0)).set 1 (.slice B1 m1 d1)).set 2 (.slice B2 m2 d2)
    have hx := hxs
    clear hxs hq
    have HZ := Lib.hid (show w.heap.size + 2 ≤ (((w4.setCell ⟨gn, 0, none⟩ (.slice B0 m0 d0)).setCell ⟨gn, 1, none⟩ (.slice B1 m1 d1)).setCell ⟨gn, 2, none⟩ (.slice B2 m2 d2)).heap.size by have := HZ.out; simp only [World.setCell, Array.size_modify]; omega)
    obtain ⟨⟨p0, p1, p2⟩, -⟩ := ra.three
    obtain ⟨⟨r0, r1, r2⟩, ⟨f0, f1, f2⟩⟩ := rb.three
    obtain ⟨⟨t0, t1, t2⟩, -⟩ := rn.three
    by_cases hc : codeD (actD x (⟨1, (n ++ (⟨#[46, 110, 101, 119]⟩ : ByteArray)), ⟨#[]⟩, d⟩ : Oz)) (⟨2, (n ++ (⟨#[46, 110, 101, 119]⟩ : ByteArray)), n, ⟨#[]⟩⟩ : Oz) = 0
    case neg =>
      have HC := Lib.hid (replD_err (n := n) (d := d) E0.out (show (seqD (opsR x.live n d) x).2 = codeD (actD x (⟨1, (n ++ (⟨#[46, 110, 101, 119]⟩ : ByteArray)), ⟨#[]⟩, d⟩ : Oz)) (⟨2, (n ++ (⟨#[46, 110, 101, 119]⟩ : ByteArray)), n, ⟨#[]⟩⟩ : Oz) by rw [HOP.out, seqD_step HC0.out, seqD_stop hc]) hc)
      have hc' : (codeD (actD x (⟨1, (n ++ (⟨#[46, 110, 101, 119]⟩ : ByteArray)), ⟨#[]⟩, d⟩ : Oz)) (⟨2, (n ++ (⟨#[46, 110, 101, 119]⟩ : ByteArray)), n, ⟨#[]⟩⟩ : Oz) == 0) = false := by simpa using hc
      have hc2 : decide (codeD (actD x (⟨1, (n ++ (⟨#[46, 110, 101, 119]⟩ : ByteArray)), ⟨#[]⟩, d⟩ : Oz)) (⟨2, (n ++ (⟨#[46, 110, 101, 119]⟩ : ByteArray)), n, ⟨#[]⟩⟩ : Oz) = 0) = false := decide_eq_false hc
      generalize codeD (actD x (⟨1, (n ++ (⟨#[46, 110, 101, 119]⟩ : ByteArray)), ⟨#[]⟩, d⟩ : Oz)) (⟨2, (n ++ (⟨#[46, 110, 101, 119]⟩ : ByteArray)), n, ⟨#[]⟩⟩ : Oz) = kc at *
      have hc3 : (kc != 0) = true := by simpa using hc
      go_wp2_with fail
      generalize ((w4.setCell ⟨gn, 0, none⟩ (.slice B0 m0 d0)).setCell ⟨gn, 1, none⟩ (.slice B1 m1 d1)).setCell ⟨gn, 2, none⟩ (.slice B2 m2 d2) = y at *
      refine (specCopy x A0 n0 c0 A1 n1 c1 A2 n2 c2 _ _ (h0.below FzR.stays hx) (h1.below FzR.stays hx) (h2.below OzR.stays hx) HLC.out).mono ?_
      rintro e w9 ⟨⟨v, rfl, hv⟩, hq9⟩
      have hxe := hx.trans (hq9.mono hx.size)
      have RR := Lib.hid (rb.below hq9)
      have HV := Lib.hid (hv.mono (base' := w.heap.size + 2) HZ.out)
      obtain ⟨v0, v1, v2, rfl, k0, k1, k2, -⟩ := hv
      obtain ⟨C0, m0, e0, rfl⟩ := k0.len
      obtain ⟨C1, m1, e1, rfl⟩ := k1.len
      obtain ⟨C2, m2, e2, rfl⟩ := k2.len
      clear p0 p1 p2 r0 r1 r2 f0 f1 f2 k0 k1 k2 hq9
      have rr := RR.out
      obtain ⟨⟨r0, r1, r2⟩, ⟨f0, f1, f2⟩⟩ := rr.three
      clear rr
      go_wp2_with fail
      have hr9 := (((RR.out).set 0 (.slice C0 m0 e0)).set 1 (.slice C1 m1 e1)).set 2 (.slice C2 m2 e2)
      refine bodyPost_ret (results_cell_row2 (p := 6) (u := 7) (ty := 27) rfl _ _ (w.heap.size + 1) 27 #[.slice C0 m0 e0, .slice C1 m1 e1, .slice C2 m2 e2] (0, 0) _ rfl rfl hr9 Try.underlying27 rfl HI.out) rfl ⟨⟨.agg #[.slice C0 m0 e0, .slice C1 m1 e1, .slice C2 m2 e2], ?_, ?_⟩, ?_⟩
      · rw [HC.out.1]; rfl
      · refine DzA.mono (base := w.heap.size + 2) ?_ (by omega)
        rw [HC.out.2]
        refine DzA.set (DzA.set (DzA.set (HV.out) ?_ _) ?_ _) ?_ _ <;> (exact Nat.lt_succ_self _)
      · exact ((hxe.setCell (Nat.le_add_right _ 1) _).setCell (Nat.le_add_right _ 1) _).setCell (Nat.le_add_right _ 1) _
    have HC1 := Lib.hid hc
    rw [hc]
    have RT1 := Lib.hid (actD_right RT0.out hc)
    clear hc
    go_wp2_with fail
    generalize ((w4.setCell ⟨gn, 0, none⟩ (.slice B0 m0 d0)).setCell ⟨gn, 1, none⟩ (.slice B1 m1 d1)).setCell ⟨gn, 2, none⟩ (.slice B2 m2 d2) = y4 at *
    obtain ⟨w0', w1', w2', ew, K0, K1, K2, -⟩ := hv
    injection ew with ew
    injection ew with ew
    injection ew with ea ew
    injection ew with eb ew
    injection ew with ec ew
    subst ea eb ec
    obtain ⟨D0, g0, ed, -, -, s0⟩ := (show OwnZ _ _ _ _ from K0).sl
    obtain ⟨D1, g1, ee, -, -, s1⟩ := (show OwnZ _ _ _ _ from K1).sl
    obtain ⟨D2, g2, ef, -, -, s2⟩ := (show OwnO _ _ _ _ from K2).sl
    injection ed with ed1 ed2 ed3
    injection ee with ee1 ee2 ee3
    injection ef with ef1 ef2 ef3
    subst ed1 ed2 ed3 ee1 ee2 ee3 ef1 ef2 ef3
    clear K0 K1 K2
    have HC := Lib.hid (replD_ok (n := n) (d := d) E0.out (show seqD (opsR x.live n d) x = ((actD (actD x (⟨1, (n ++ (⟨#[46, 110, 101, 119]⟩ : ByteArray)), ⟨#[]⟩, d⟩ : Oz)) (⟨2, (n ++ (⟨#[46, 110, 101, 119]⟩ : ByteArray)), n, ⟨#[]⟩⟩ : Oz)), 0) by rw [HOP.out, seqD_step HC0.out, seqD_step HC1.out]; rfl))
    refine (specCopy (actD (actD x (⟨1, (n ++ (⟨#[46, 110, 101, 119]⟩ : ByteArray)), ⟨#[]⟩, d⟩ : Oz)) (⟨2, (n ++ (⟨#[46, 110, 101, 119]⟩ : ByteArray)), n, ⟨#[]⟩⟩ : Oz)) _ _ _ _ _ _ _ _ _ _ _ s0 s1 s2 ⟨by have := (filesB_bytes RT1.out.1).1; omega, RT1.out.2.1, by have := RT1.out.2.2; omega⟩).mono ?_
    rintro e w9 ⟨⟨v, rfl, hv⟩, hq9⟩
    have hxe := hx.trans (hq9.mono hx.size)
    have RR := Lib.hid (rb.below hq9)
    have HV := Lib.hid (hv.mono (base' := w.heap.size + 2) HZ.out)
    obtain ⟨v0, v1, v2, rfl, k0, k1, k2, -⟩ := hv
    obtain ⟨C0, m0, e0, rfl⟩ := k0.len
    obtain ⟨C1, m1, e1, rfl⟩ := k1.len
    obtain ⟨C2, m2, e2, rfl⟩ := k2.len
    clear p0 p1 p2 r0 r1 r2 f0 f1 f2 k0 k1 k2 hq9
    have rr := RR.out
    obtain ⟨⟨r0, r1, r2⟩, ⟨f0, f1, f2⟩⟩ := rr.three
    clear rr
    go_wp2_with fail
    have hr9 := (((RR.out).set 0 (.slice C0 m0 e0)).set 1 (.slice C1 m1 e1)).set 2 (.slice C2 m2 e2)
    refine bodyPost_ret (results_cell_row2 (p := 6) (u := 7) (ty := 27) rfl _ _ (w.heap.size + 1) 27 #[.slice C0 m0 e0, .slice C1 m1 e1, .slice C2 m2 e2] (0, 0) _ rfl rfl hr9 Try.underlying27 rfl HI.out) rfl ⟨⟨.agg #[.slice C0 m0 e0, .slice C1 m1 e1, .slice C2 m2 e2], ?_, ?_⟩, ?_⟩
    · rw [HC.out.1]; rfl
    · refine DzA.mono (base := w.heap.size + 2) ?_ (by omega)
      rw [HC.out.2]
      refine DzA.set (DzA.set (DzA.set (HV.out) ?_ _) ?_ _) ?_ _ <;> (exact Nat.lt_succ_self _)
    · exact ((hxe.setCell (Nat.le_add_right _ 1) _).setCell (Nat.le_add_right _ 1) _).setCell (Nat.le_add_right _ 1) _
  · have HOP := Lib.hid (show opsR x.live n d = [⟨3, (n ++ (⟨#[46, 110, 101, 119]⟩ : ByteArray)), ⟨#[]⟩, ⟨#[]⟩⟩, ⟨1, (n ++ (⟨#[46, 110, 101, 119]⟩ : ByteArray)), ⟨#[]⟩, d⟩, ⟨2, (n ++ (⟨#[46, 110, 101, 119]⟩ : ByteArray)), n, ⟨#[]⟩⟩] by unfold opsR cutO freshN; rw [hf]; rfl)
    clear hf
    have hi0 : decide ((0 : Int) ≤ (i : Int)) = true := decide_eq_true (by omega)
    clear hi
    go_wp2_with fail
    refine (specAct x (⟨3, (n ++ (⟨#[46, 110, 101, 119]⟩ : ByteArray)), ⟨#[]⟩, ⟨#[]⟩⟩ : Oz) A0 n0 c0 A1 n1 c1 A2 n2 c2 _ _ (h0.below FzR.stays hx) (h1.below FzR.stays hx) (h2.below OzR.stays hx) ⟨HRT.out.1, HRT.out.2.1, by have := HRT.out.2.2; omega⟩ (by first | (show d.size ≤ _; omega) | (show (⟨#[]⟩ : ByteArray).size ≤ _; exact Nat.zero_le _))).mono ?_
    rintro e w3 ⟨⟨v, rfl, hv⟩, hq⟩
    have hx := hx.trans (hq.mono hx.size)
    have HZ := Lib.hid (Nat.le_trans HZ.out hq.size)
    have ra := ra.below hq
    have rb := rb.below hq
    have rn := rn.below hq
    have HB0 := Lib.hid hq.size
    obtain ⟨v0, v1, v2, rfl, k0, k1, k2, -⟩ := id hv
    obtain ⟨B0, m0, d0, rfl⟩ := k0.len
    obtain ⟨B1, m1, d1, rfl⟩ := k1.len
    obtain ⟨B2, m2, d2, rfl⟩ := k2.len
    clear k0 k1 k2
    clear p0 p1 p2 r0 r1 r2 f0 f1 f2 t0 t1 t2
    obtain ⟨⟨q0, q1, q2⟩, ⟨u0, u1, u2⟩⟩ := rn.three
    have hv := ((hv.setRow rn rfl (.slice B0 m0 d0)).setRow (p := ⟨gn, 1, none⟩) (rn.set 0 (.slice B0 m0 d0)) rfl (.slice B1 m1 d1)).setRow (p := ⟨gn, 2, none⟩) ((rn.set 0 (.slice B0 m0 d0)).set 1 (.slice B1 m1 d1)) rfl (.slice B2 m2 d2)
    have hxs := Below.set3 hx (g := gn) (by have := HGN.out; omega) (.slice B0 m0 d0) (.slice B1 m1 d1) (.slice B2 m2 d2)
    have ra := ((ra.far (p := ⟨gn, 0, none⟩) (by have := HGN.out; simp; omega) (.slice B0 m0 d0)).far (p := ⟨gn, 1, none⟩) (by have := HGN.out; simp; omega) (.slice B1 m1 d1)).far (p := ⟨gn, 2, none⟩) (by have := HGN.out; simp; omega) (.slice B2 m2 d2)
    have rb := ((rb.far (p := ⟨gn, 0, none⟩) (by have := HGN.out; simp; omega) (.slice B0 m0 d0)).far (p := ⟨gn, 1, none⟩) (by have := HGN.out; simp; omega) (.slice B1 m1 d1)).far (p := ⟨gn, 2, none⟩) (by have := HGN.out; simp; omega) (.slice B2 m2 d2)
    have rn := show Row _ gn _ #[.slice B0 m0 d0, .slice B1 m1 d1, .slice B2 m2 d2] from ((rn.set 0 (.slice B0 m0 d0)).set 1 (.slice B1 m1 d1)).set 2 (.slice B2 m2 d2)
    have hx := hxs
    clear hxs hq
    have HZ := Lib.hid (show w.heap.size + 2 ≤ (((w3.setCell ⟨gn, 0, none⟩ (.slice B0 m0 d0)).setCell ⟨gn, 1, none⟩ (.slice B1 m1 d1)).setCell ⟨gn, 2, none⟩ (.slice B2 m2 d2)).heap.size by have := HZ.out; simp only [World.setCell, Array.size_modify]; omega)
    obtain ⟨⟨p0, p1, p2⟩, -⟩ := ra.three
    obtain ⟨⟨r0, r1, r2⟩, ⟨f0, f1, f2⟩⟩ := rb.three
    obtain ⟨⟨t0, t1, t2⟩, -⟩ := rn.three
    by_cases hc : codeD x (⟨3, (n ++ (⟨#[46, 110, 101, 119]⟩ : ByteArray)), ⟨#[]⟩, ⟨#[]⟩⟩ : Oz) = 0
    case neg =>
      have HC := Lib.hid (replD_err (n := n) (d := d) E0.out (show (seqD (opsR x.live n d) x).2 = codeD x (⟨3, (n ++ (⟨#[46, 110, 101, 119]⟩ : ByteArray)), ⟨#[]⟩, ⟨#[]⟩⟩ : Oz) by rw [HOP.out, seqD_stop hc]) hc)
      have hc' : (codeD x (⟨3, (n ++ (⟨#[46, 110, 101, 119]⟩ : ByteArray)), ⟨#[]⟩, ⟨#[]⟩⟩ : Oz) == 0) = false := by simpa using hc
      have hc2 : decide (codeD x (⟨3, (n ++ (⟨#[46, 110, 101, 119]⟩ : ByteArray)), ⟨#[]⟩, ⟨#[]⟩⟩ : Oz) = 0) = false := decide_eq_false hc
      generalize codeD x (⟨3, (n ++ (⟨#[46, 110, 101, 119]⟩ : ByteArray)), ⟨#[]⟩, ⟨#[]⟩⟩ : Oz) = kc at *
      have hc3 : (kc != 0) = true := by simpa using hc
      go_wp2_with fail
      generalize ((w3.setCell ⟨gn, 0, none⟩ (.slice B0 m0 d0)).setCell ⟨gn, 1, none⟩ (.slice B1 m1 d1)).setCell ⟨gn, 2, none⟩ (.slice B2 m2 d2) = y at *
      refine (specCopy x A0 n0 c0 A1 n1 c1 A2 n2 c2 _ _ (h0.below FzR.stays hx) (h1.below FzR.stays hx) (h2.below OzR.stays hx) HLC.out).mono ?_
      rintro e w9 ⟨⟨v, rfl, hv⟩, hq9⟩
      have hxe := hx.trans (hq9.mono hx.size)
      have RR := Lib.hid (rb.below hq9)
      have HV := Lib.hid (hv.mono (base' := w.heap.size + 2) HZ.out)
      obtain ⟨v0, v1, v2, rfl, k0, k1, k2, -⟩ := hv
      obtain ⟨C0, m0, e0, rfl⟩ := k0.len
      obtain ⟨C1, m1, e1, rfl⟩ := k1.len
      obtain ⟨C2, m2, e2, rfl⟩ := k2.len
      clear p0 p1 p2 r0 r1 r2 f0 f1 f2 k0 k1 k2 hq9
      have rr := RR.out
      obtain ⟨⟨r0, r1, r2⟩, ⟨f0, f1, f2⟩⟩ := rr.three
      clear rr
      go_wp2_with fail
      have hr9 := (((RR.out).set 0 (.slice C0 m0 e0)).set 1 (.slice C1 m1 e1)).set 2 (.slice C2 m2 e2)
      refine bodyPost_ret (results_cell_row2 (p := 6) (u := 7) (ty := 27) rfl _ _ (w.heap.size + 1) 27 #[.slice C0 m0 e0, .slice C1 m1 e1, .slice C2 m2 e2] (0, 0) _ rfl rfl hr9 Try.underlying27 rfl HI.out) rfl ⟨⟨.agg #[.slice C0 m0 e0, .slice C1 m1 e1, .slice C2 m2 e2], ?_, ?_⟩, ?_⟩
      · rw [HC.out.1]; rfl
      · refine DzA.mono (base := w.heap.size + 2) ?_ (by omega)
        rw [HC.out.2]
        refine DzA.set (DzA.set (DzA.set (HV.out) ?_ _) ?_ _) ?_ _ <;> (exact Nat.lt_succ_self _)
      · exact ((hxe.setCell (Nat.le_add_right _ 1) _).setCell (Nat.le_add_right _ 1) _).setCell (Nat.le_add_right _ 1) _
    have HC0 := Lib.hid hc
    rw [hc]
    have RT0 := Lib.hid (actD_right HRT.out hc)
    clear hc
    go_wp2_with fail
    generalize ((w3.setCell ⟨gn, 0, none⟩ (.slice B0 m0 d0)).setCell ⟨gn, 1, none⟩ (.slice B1 m1 d1)).setCell ⟨gn, 2, none⟩ (.slice B2 m2 d2) = y3 at *
    obtain ⟨w0', w1', w2', ew, K0, K1, K2, -⟩ := hv
    injection ew with ew
    injection ew with ew
    injection ew with ea ew
    injection ew with eb ew
    injection ew with ec ew
    subst ea eb ec
    obtain ⟨D0, g0, ed, -, -, s0⟩ := (show OwnZ _ _ _ _ from K0).sl
    obtain ⟨D1, g1, ee, -, -, s1⟩ := (show OwnZ _ _ _ _ from K1).sl
    obtain ⟨D2, g2, ef, -, -, s2⟩ := (show OwnO _ _ _ _ from K2).sl
    injection ed with ed1 ed2 ed3
    injection ee with ee1 ee2 ee3
    injection ef with ef1 ef2 ef3
    subst ed1 ed2 ed3 ee1 ee2 ee3 ef1 ef2 ef3
    clear K0 K1 K2
    refine (specAct (actD x (⟨3, (n ++ (⟨#[46, 110, 101, 119]⟩ : ByteArray)), ⟨#[]⟩, ⟨#[]⟩⟩ : Oz)) (⟨1, (n ++ (⟨#[46, 110, 101, 119]⟩ : ByteArray)), ⟨#[]⟩, d⟩ : Oz) _ _ _ _ _ _ _ _ _ _ _ s0 s1 s2 ⟨RT0.out.1, RT0.out.2.1, by have := RT0.out.2.2; omega⟩ (by first | (show d.size ≤ _; omega) | (show (⟨#[]⟩ : ByteArray).size ≤ _; exact Nat.zero_le _))).mono ?_
    rintro e w4 ⟨⟨v, rfl, hv⟩, hq⟩
    have hx := hx.trans (hq.mono hx.size)
    have HZ := Lib.hid (Nat.le_trans HZ.out hq.size)
    have ra := ra.below hq
    have rb := rb.below hq
    have rn := rn.below hq
    have HB1 := Lib.hid hq.size
    obtain ⟨v0, v1, v2, rfl, k0, k1, k2, -⟩ := id hv
    obtain ⟨B0, m0, d0, rfl⟩ := k0.len
    obtain ⟨B1, m1, d1, rfl⟩ := k1.len
    obtain ⟨B2, m2, d2, rfl⟩ := k2.len
    clear k0 k1 k2
    clear p0 p1 p2 r0 r1 r2 f0 f1 f2 t0 t1 t2 u0 u1 u2
    obtain ⟨⟨q0, q1, q2⟩, ⟨u0, u1, u2⟩⟩ := rn.three
    have hv := ((hv.setRow rn rfl (.slice B0 m0 d0)).setRow (p := ⟨gn, 1, none⟩) (rn.set 0 (.slice B0 m0 d0)) rfl (.slice B1 m1 d1)).setRow (p := ⟨gn, 2, none⟩) ((rn.set 0 (.slice B0 m0 d0)).set 1 (.slice B1 m1 d1)) rfl (.slice B2 m2 d2)
    have hxs := Below.set3 hx (g := gn) (by have := HGN.out; omega) (.slice B0 m0 d0) (.slice B1 m1 d1) (.slice B2 m2 d2)
    have ra := ((ra.far (p := ⟨gn, 0, none⟩) (by have := HGN.out; simp; omega) (.slice B0 m0 d0)).far (p := ⟨gn, 1, none⟩) (by have := HGN.out; simp; omega) (.slice B1 m1 d1)).far (p := ⟨gn, 2, none⟩) (by have := HGN.out; simp; omega) (.slice B2 m2 d2)
    have rb := ((rb.far (p := ⟨gn, 0, none⟩) (by have := HGN.out; simp; omega) (.slice B0 m0 d0)).far (p := ⟨gn, 1, none⟩) (by have := HGN.out; simp; omega) (.slice B1 m1 d1)).far (p := ⟨gn, 2, none⟩) (by have := HGN.out; simp; omega) (.slice B2 m2 d2)
    have rn := show Row _ gn _ #[.slice B0 m0 d0, .slice B1 m1 d1, .slice B2 m2 d2] from ((rn.set 0 (.slice B0 m0 d0)).set 1 (.slice B1 m1 d1)).set 2 (.slice B2 m2 d2)
    have hx := hxs
    clear hxs hq
    have HZ := Lib.hid (show w.heap.size + 2 ≤ (((w4.setCell ⟨gn, 0, none⟩ (.slice B0 m0 d0)).setCell ⟨gn, 1, none⟩ (.slice B1 m1 d1)).setCell ⟨gn, 2, none⟩ (.slice B2 m2 d2)).heap.size by have := HZ.out; simp only [World.setCell, Array.size_modify]; omega)
    obtain ⟨⟨p0, p1, p2⟩, -⟩ := ra.three
    obtain ⟨⟨r0, r1, r2⟩, ⟨f0, f1, f2⟩⟩ := rb.three
    obtain ⟨⟨t0, t1, t2⟩, -⟩ := rn.three
    by_cases hc : codeD (actD x (⟨3, (n ++ (⟨#[46, 110, 101, 119]⟩ : ByteArray)), ⟨#[]⟩, ⟨#[]⟩⟩ : Oz)) (⟨1, (n ++ (⟨#[46, 110, 101, 119]⟩ : ByteArray)), ⟨#[]⟩, d⟩ : Oz) = 0
    case neg =>
      have HC := Lib.hid (replD_err (n := n) (d := d) E0.out (show (seqD (opsR x.live n d) x).2 = codeD (actD x (⟨3, (n ++ (⟨#[46, 110, 101, 119]⟩ : ByteArray)), ⟨#[]⟩, ⟨#[]⟩⟩ : Oz)) (⟨1, (n ++ (⟨#[46, 110, 101, 119]⟩ : ByteArray)), ⟨#[]⟩, d⟩ : Oz) by rw [HOP.out, seqD_step HC0.out, seqD_stop hc]) hc)
      have hc' : (codeD (actD x (⟨3, (n ++ (⟨#[46, 110, 101, 119]⟩ : ByteArray)), ⟨#[]⟩, ⟨#[]⟩⟩ : Oz)) (⟨1, (n ++ (⟨#[46, 110, 101, 119]⟩ : ByteArray)), ⟨#[]⟩, d⟩ : Oz) == 0) = false := by simpa using hc
      have hc2 : decide (codeD (actD x (⟨3, (n ++ (⟨#[46, 110, 101, 119]⟩ : ByteArray)), ⟨#[]⟩, ⟨#[]⟩⟩ : Oz)) (⟨1, (n ++ (⟨#[46, 110, 101, 119]⟩ : ByteArray)), ⟨#[]⟩, d⟩ : Oz) = 0) = false := decide_eq_false hc
      generalize codeD (actD x (⟨3, (n ++ (⟨#[46, 110, 101, 119]⟩ : ByteArray)), ⟨#[]⟩, ⟨#[]⟩⟩ : Oz)) (⟨1, (n ++ (⟨#[46, 110, 101, 119]⟩ : ByteArray)), ⟨#[]⟩, d⟩ : Oz) = kc at *
      have hc3 : (kc != 0) = true := by simpa using hc
      go_wp2_with fail
      generalize ((w4.setCell ⟨gn, 0, none⟩ (.slice B0 m0 d0)).setCell ⟨gn, 1, none⟩ (.slice B1 m1 d1)).setCell ⟨gn, 2, none⟩ (.slice B2 m2 d2) = y at *
      refine (specCopy x A0 n0 c0 A1 n1 c1 A2 n2 c2 _ _ (h0.below FzR.stays hx) (h1.below FzR.stays hx) (h2.below OzR.stays hx) HLC.out).mono ?_
      rintro e w9 ⟨⟨v, rfl, hv⟩, hq9⟩
      have hxe := hx.trans (hq9.mono hx.size)
      have RR := Lib.hid (rb.below hq9)
      have HV := Lib.hid (hv.mono (base' := w.heap.size + 2) HZ.out)
      obtain ⟨v0, v1, v2, rfl, k0, k1, k2, -⟩ := hv
      obtain ⟨C0, m0, e0, rfl⟩ := k0.len
      obtain ⟨C1, m1, e1, rfl⟩ := k1.len
      obtain ⟨C2, m2, e2, rfl⟩ := k2.len
      clear p0 p1 p2 r0 r1 r2 f0 f1 f2 k0 k1 k2 hq9
      have rr := RR.out
      obtain ⟨⟨r0, r1, r2⟩, ⟨f0, f1, f2⟩⟩ := rr.three
      clear rr
      go_wp2_with fail
      have hr9 := (((RR.out).set 0 (.slice C0 m0 e0)).set 1 (.slice C1 m1 e1)).set 2 (.slice C2 m2 e2)
      refine bodyPost_ret (results_cell_row2 (p := 6) (u := 7) (ty := 27) rfl _ _ (w.heap.size + 1) 27 #[.slice C0 m0 e0, .slice C1 m1 e1, .slice C2 m2 e2] (0, 0) _ rfl rfl hr9 Try.underlying27 rfl HI.out) rfl ⟨⟨.agg #[.slice C0 m0 e0, .slice C1 m1 e1, .slice C2 m2 e2], ?_, ?_⟩, ?_⟩
      · rw [HC.out.1]; rfl
      · refine DzA.mono (base := w.heap.size + 2) ?_ (by omega)
        rw [HC.out.2]
        refine DzA.set (DzA.set (DzA.set (HV.out) ?_ _) ?_ _) ?_ _ <;> (exact Nat.lt_succ_self _)
      · exact ((hxe.setCell (Nat.le_add_right _ 1) _).setCell (Nat.le_add_right _ 1) _).setCell (Nat.le_add_right _ 1) _
    have HC1 := Lib.hid hc
    rw [hc]
    have RT1 := Lib.hid (actD_right RT0.out hc)
    clear hc
    go_wp2_with fail
    generalize ((w4.setCell ⟨gn, 0, none⟩ (.slice B0 m0 d0)).setCell ⟨gn, 1, none⟩ (.slice B1 m1 d1)).setCell ⟨gn, 2, none⟩ (.slice B2 m2 d2) = y4 at *
    obtain ⟨w0', w1', w2', ew, K0, K1, K2, -⟩ := hv
    injection ew with ew
    injection ew with ew
    injection ew with ea ew
    injection ew with eb ew
    injection ew with ec ew
    subst ea eb ec
    obtain ⟨D0, g0, ed, -, -, s0⟩ := (show OwnZ _ _ _ _ from K0).sl
    obtain ⟨D1, g1, ee, -, -, s1⟩ := (show OwnZ _ _ _ _ from K1).sl
    obtain ⟨D2, g2, ef, -, -, s2⟩ := (show OwnO _ _ _ _ from K2).sl
    injection ed with ed1 ed2 ed3
    injection ee with ee1 ee2 ee3
    injection ef with ef1 ef2 ef3
    subst ed1 ed2 ed3 ee1 ee2 ee3 ef1 ef2 ef3
    clear K0 K1 K2
    refine (specAct (actD (actD x (⟨3, (n ++ (⟨#[46, 110, 101, 119]⟩ : ByteArray)), ⟨#[]⟩, ⟨#[]⟩⟩ : Oz)) (⟨1, (n ++ (⟨#[46, 110, 101, 119]⟩ : ByteArray)), ⟨#[]⟩, d⟩ : Oz)) (⟨2, (n ++ (⟨#[46, 110, 101, 119]⟩ : ByteArray)), n, ⟨#[]⟩⟩ : Oz) _ _ _ _ _ _ _ _ _ _ _ s0 s1 s2 ⟨RT1.out.1, RT1.out.2.1, by have := RT1.out.2.2; omega⟩ (by first | (show d.size ≤ _; omega) | (show (⟨#[]⟩ : ByteArray).size ≤ _; exact Nat.zero_le _))).mono ?_
    rintro e w5 ⟨⟨v, rfl, hv⟩, hq⟩
    have hx := hx.trans (hq.mono hx.size)
    have HZ := Lib.hid (Nat.le_trans HZ.out hq.size)
    have ra := ra.below hq
    have rb := rb.below hq
    have rn := rn.below hq
    have HB2 := Lib.hid hq.size
    obtain ⟨v0, v1, v2, rfl, k0, k1, k2, -⟩ := id hv
    obtain ⟨B0, m0, d0, rfl⟩ := k0.len
    obtain ⟨B1, m1, d1, rfl⟩ := k1.len
    obtain ⟨B2, m2, d2, rfl⟩ := k2.len
    clear k0 k1 k2
    clear p0 p1 p2 r0 r1 r2 f0 f1 f2 t0 t1 t2 u0 u1 u2
    obtain ⟨⟨q0, q1, q2⟩, ⟨u0, u1, u2⟩⟩ := rn.three
    have hv := ((hv.setRow rn rfl (.slice B0 m0 d0)).setRow (p := ⟨gn, 1, none⟩) (rn.set 0 (.slice B0 m0 d0)) rfl (.slice B1 m1 d1)).setRow (p := ⟨gn, 2, none⟩) ((rn.set 0 (.slice B0 m0 d0)).set 1 (.slice B1 m1 d1)) rfl (.slice B2 m2 d2)
    have hxs := Below.set3 hx (g := gn) (by have := HGN.out; omega) (.slice B0 m0 d0) (.slice B1 m1 d1) (.slice B2 m2 d2)
    have ra := ((ra.far (p := ⟨gn, 0, none⟩) (by have := HGN.out; simp; omega) (.slice B0 m0 d0)).far (p := ⟨gn, 1, none⟩) (by have := HGN.out; simp; omega) (.slice B1 m1 d1)).far (p := ⟨gn, 2, none⟩) (by have := HGN.out; simp; omega) (.slice B2 m2 d2)
    have rb := ((rb.far (p := ⟨gn, 0, none⟩) (by have := HGN.out; simp; omega) (.slice B0 m0 d0)).far (p := ⟨gn, 1, none⟩) (by have := HGN.out; simp; omega) (.slice B1 m1 d1)).far (p := ⟨gn, 2, none⟩) (by have := HGN.out; simp; omega) (.slice B2 m2 d2)
    have rn := show Row _ gn _ #[.slice B0 m0 d0, .slice B1 m1 d1, .slice B2 m2 d2] from ((rn.set 0 (.slice B0 m0 d0)).set 1 (.slice B1 m1 d1)).set 2 (.slice B2 m2 d2)
    have hx := hxs
    clear hxs hq
    have HZ := Lib.hid (show w.heap.size + 2 ≤ (((w5.setCell ⟨gn, 0, none⟩ (.slice B0 m0 d0)).setCell ⟨gn, 1, none⟩ (.slice B1 m1 d1)).setCell ⟨gn, 2, none⟩ (.slice B2 m2 d2)).heap.size by have := HZ.out; simp only [World.setCell, Array.size_modify]; omega)
    obtain ⟨⟨p0, p1, p2⟩, -⟩ := ra.three
    obtain ⟨⟨r0, r1, r2⟩, ⟨f0, f1, f2⟩⟩ := rb.three
    obtain ⟨⟨t0, t1, t2⟩, -⟩ := rn.three
    by_cases hc : codeD (actD (actD x (⟨3, (n ++ (⟨#[46, 110, 101, 119]⟩ : ByteArray)), ⟨#[]⟩, ⟨#[]⟩⟩ : Oz)) (⟨1, (n ++ (⟨#[46, 110, 101, 119]⟩ : ByteArray)), ⟨#[]⟩, d⟩ : Oz)) (⟨2, (n ++ (⟨#[46, 110, 101, 119]⟩ : ByteArray)), n, ⟨#[]⟩⟩ : Oz) = 0
    case neg =>
      have HC := Lib.hid (replD_err (n := n) (d := d) E0.out (show (seqD (opsR x.live n d) x).2 = codeD (actD (actD x (⟨3, (n ++ (⟨#[46, 110, 101, 119]⟩ : ByteArray)), ⟨#[]⟩, ⟨#[]⟩⟩ : Oz)) (⟨1, (n ++ (⟨#[46, 110, 101, 119]⟩ : ByteArray)), ⟨#[]⟩, d⟩ : Oz)) (⟨2, (n ++ (⟨#[46, 110, 101, 119]⟩ : ByteArray)), n, ⟨#[]⟩⟩ : Oz) by rw [HOP.out, seqD_step HC0.out, seqD_step HC1.out, seqD_stop hc]) hc)
      have hc' : (codeD (actD (actD x (⟨3, (n ++ (⟨#[46, 110, 101, 119]⟩ : ByteArray)), ⟨#[]⟩, ⟨#[]⟩⟩ : Oz)) (⟨1, (n ++ (⟨#[46, 110, 101, 119]⟩ : ByteArray)), ⟨#[]⟩, d⟩ : Oz)) (⟨2, (n ++ (⟨#[46, 110, 101, 119]⟩ : ByteArray)), n, ⟨#[]⟩⟩ : Oz) == 0) = false := by simpa using hc
      have hc2 : decide (codeD (actD (actD x (⟨3, (n ++ (⟨#[46, 110, 101, 119]⟩ : ByteArray)), ⟨#[]⟩, ⟨#[]⟩⟩ : Oz)) (⟨1, (n ++ (⟨#[46, 110, 101, 119]⟩ : ByteArray)), ⟨#[]⟩, d⟩ : Oz)) (⟨2, (n ++ (⟨#[46, 110, 101, 119]⟩ : ByteArray)), n, ⟨#[]⟩⟩ : Oz) = 0) = false := decide_eq_false hc
      generalize codeD (actD (actD x (⟨3, (n ++ (⟨#[46, 110, 101, 119]⟩ : ByteArray)), ⟨#[]⟩, ⟨#[]⟩⟩ : Oz)) (⟨1, (n ++ (⟨#[46, 110, 101, 119]⟩ : ByteArray)), ⟨#[]⟩, d⟩ : Oz)) (⟨2, (n ++ (⟨#[46, 110, 101, 119]⟩ : ByteArray)), n, ⟨#[]⟩⟩ : Oz) = kc at *
      have hc3 : (kc != 0) = true := by simpa using hc
      go_wp2_with fail
      generalize ((w5.setCell ⟨gn, 0, none⟩ (.slice B0 m0 d0)).setCell ⟨gn, 1, none⟩ (.slice B1 m1 d1)).setCell ⟨gn, 2, none⟩ (.slice B2 m2 d2) = y at *
      refine (specCopy x A0 n0 c0 A1 n1 c1 A2 n2 c2 _ _ (h0.below FzR.stays hx) (h1.below FzR.stays hx) (h2.below OzR.stays hx) HLC.out).mono ?_
      rintro e w9 ⟨⟨v, rfl, hv⟩, hq9⟩
      have hxe := hx.trans (hq9.mono hx.size)
      have RR := Lib.hid (rb.below hq9)
      have HV := Lib.hid (hv.mono (base' := w.heap.size + 2) HZ.out)
      obtain ⟨v0, v1, v2, rfl, k0, k1, k2, -⟩ := hv
      obtain ⟨C0, m0, e0, rfl⟩ := k0.len
      obtain ⟨C1, m1, e1, rfl⟩ := k1.len
      obtain ⟨C2, m2, e2, rfl⟩ := k2.len
      clear p0 p1 p2 r0 r1 r2 f0 f1 f2 k0 k1 k2 hq9
      have rr := RR.out
      obtain ⟨⟨r0, r1, r2⟩, ⟨f0, f1, f2⟩⟩ := rr.three
      clear rr
      go_wp2_with fail
      have hr9 := (((RR.out).set 0 (.slice C0 m0 e0)).set 1 (.slice C1 m1 e1)).set 2 (.slice C2 m2 e2)
      refine bodyPost_ret (results_cell_row2 (p := 6) (u := 7) (ty := 27) rfl _ _ (w.heap.size + 1) 27 #[.slice C0 m0 e0, .slice C1 m1 e1, .slice C2 m2 e2] (0, 0) _ rfl rfl hr9 Try.underlying27 rfl HI.out) rfl ⟨⟨.agg #[.slice C0 m0 e0, .slice C1 m1 e1, .slice C2 m2 e2], ?_, ?_⟩, ?_⟩
      · rw [HC.out.1]; rfl
      · refine DzA.mono (base := w.heap.size + 2) ?_ (by omega)
        rw [HC.out.2]
        refine DzA.set (DzA.set (DzA.set (HV.out) ?_ _) ?_ _) ?_ _ <;> (exact Nat.lt_succ_self _)
      · exact ((hxe.setCell (Nat.le_add_right _ 1) _).setCell (Nat.le_add_right _ 1) _).setCell (Nat.le_add_right _ 1) _
    have HC2 := Lib.hid hc
    rw [hc]
    have RT2 := Lib.hid (actD_right RT1.out hc)
    clear hc
    go_wp2_with fail
    generalize ((w5.setCell ⟨gn, 0, none⟩ (.slice B0 m0 d0)).setCell ⟨gn, 1, none⟩ (.slice B1 m1 d1)).setCell ⟨gn, 2, none⟩ (.slice B2 m2 d2) = y5 at *
    obtain ⟨w0', w1', w2', ew, K0, K1, K2, -⟩ := hv
    injection ew with ew
    injection ew with ew
    injection ew with ea ew
    injection ew with eb ew
    injection ew with ec ew
    subst ea eb ec
    obtain ⟨D0, g0, ed, -, -, s0⟩ := (show OwnZ _ _ _ _ from K0).sl
    obtain ⟨D1, g1, ee, -, -, s1⟩ := (show OwnZ _ _ _ _ from K1).sl
    obtain ⟨D2, g2, ef, -, -, s2⟩ := (show OwnO _ _ _ _ from K2).sl
    injection ed with ed1 ed2 ed3
    injection ee with ee1 ee2 ee3
    injection ef with ef1 ef2 ef3
    subst ed1 ed2 ed3 ee1 ee2 ee3 ef1 ef2 ef3
    clear K0 K1 K2
    have HC := Lib.hid (replD_ok (n := n) (d := d) E0.out (show seqD (opsR x.live n d) x = ((actD (actD (actD x (⟨3, (n ++ (⟨#[46, 110, 101, 119]⟩ : ByteArray)), ⟨#[]⟩, ⟨#[]⟩⟩ : Oz)) (⟨1, (n ++ (⟨#[46, 110, 101, 119]⟩ : ByteArray)), ⟨#[]⟩, d⟩ : Oz)) (⟨2, (n ++ (⟨#[46, 110, 101, 119]⟩ : ByteArray)), n, ⟨#[]⟩⟩ : Oz)), 0) by rw [HOP.out, seqD_step HC0.out, seqD_step HC1.out, seqD_step HC2.out]; rfl))
    refine (specCopy (actD (actD (actD x (⟨3, (n ++ (⟨#[46, 110, 101, 119]⟩ : ByteArray)), ⟨#[]⟩, ⟨#[]⟩⟩ : Oz)) (⟨1, (n ++ (⟨#[46, 110, 101, 119]⟩ : ByteArray)), ⟨#[]⟩, d⟩ : Oz)) (⟨2, (n ++ (⟨#[46, 110, 101, 119]⟩ : ByteArray)), n, ⟨#[]⟩⟩ : Oz)) _ _ _ _ _ _ _ _ _ _ _ s0 s1 s2 ⟨by have := (filesB_bytes RT2.out.1).1; omega, RT2.out.2.1, by have := RT2.out.2.2; omega⟩).mono ?_
    rintro e w9 ⟨⟨v, rfl, hv⟩, hq9⟩
    have hxe := hx.trans (hq9.mono hx.size)
    have RR := Lib.hid (rb.below hq9)
    have HV := Lib.hid (hv.mono (base' := w.heap.size + 2) HZ.out)
    obtain ⟨v0, v1, v2, rfl, k0, k1, k2, -⟩ := hv
    obtain ⟨C0, m0, e0, rfl⟩ := k0.len
    obtain ⟨C1, m1, e1, rfl⟩ := k1.len
    obtain ⟨C2, m2, e2, rfl⟩ := k2.len
    clear p0 p1 p2 r0 r1 r2 f0 f1 f2 k0 k1 k2 hq9
    have rr := RR.out
    obtain ⟨⟨r0, r1, r2⟩, ⟨f0, f1, f2⟩⟩ := rr.three
    clear rr
    go_wp2_with fail
    have hr9 := (((RR.out).set 0 (.slice C0 m0 e0)).set 1 (.slice C1 m1 e1)).set 2 (.slice C2 m2 e2)
    refine bodyPost_ret (results_cell_row2 (p := 6) (u := 7) (ty := 27) rfl _ _ (w.heap.size + 1) 27 #[.slice C0 m0 e0, .slice C1 m1 e1, .slice C2 m2 e2] (0, 0) _ rfl rfl hr9 Try.underlying27 rfl HI.out) rfl ⟨⟨.agg #[.slice C0 m0 e0, .slice C1 m1 e1, .slice C2 m2 e2], ?_, ?_⟩, ?_⟩
    · rw [HC.out.1]; rfl
    · refine DzA.mono (base := w.heap.size + 2) ?_ (by omega)
      rw [HC.out.2]
      refine DzA.set (DzA.set (DzA.set (HV.out) ?_ _) ?_ _) ?_ _ <;> (exact Nat.lt_succ_self _)
    · exact ((hxe.setCell (Nat.le_add_right _ 1) _).setCell (Nat.le_add_right _ 1) _).setCell (Nat.le_add_right _ 1) _

/-- The cells of a disk that can be read. -/
def ReadsD (w : World) (v0 v1 v2 : Value) (x : Dz) : Prop := ∃ (A0 : Option Addr) (n0 c0 : Nat) (A1 : Option Addr) (n1 c1 : Nat) (A2 : Option Addr) (n2 c2 : Nat), v0 = .slice A0 n0 c0 ∧ v1 = .slice A1 n1 c1 ∧ v2 = .slice A2 n2 c2 ∧ Sl FzR 2 (fun _ => True) w A0 n0 x.live ∧ Sl FzR 2 (fun _ => True) w A1 n1 x.safe ∧ Sl OzR 4 (fun _ => True) w A2 n2 x.ops
theorem ReadsD.below {w w' : World} {v0 v1 v2 : Value} {x : Dz} (h : ReadsD w v0 v1 v2 x) (hb : Below w.heap.size w w') : ReadsD w' v0 v1 v2 x := by
  obtain ⟨A0, n0, c0, A1, n1, c1, A2, n2, c2, e0, e1, e2, s0, s1, s2⟩ := h
  exact ⟨A0, n0, c0, A1, n1, c1, A2, n2, c2, e0, e1, e2, s0.below FzR.stays hb, s1.below FzR.stays hb, s2.below OzR.stays hb⟩
theorem DzA.reads {w : World} {base : Nat} {v0 v1 v2 : Value} {x : Dz} (h : DzA w base (.agg #[v0, v1, v2]) x) : ReadsD w v0 v1 v2 x := by
  obtain ⟨u0, u1, u2, e, k0, k1, k2, -⟩ := h
  injection e with e; injection e with e
  injection e with ea e; injection e with eb e; injection e with ec e
  subst ea eb ec
  obtain ⟨A0, c0, e0, -, -, s0⟩ := (show OwnZ _ _ _ _ from k0).sl
  obtain ⟨A1, c1, e1, -, -, s1⟩ := (show OwnZ _ _ _ _ from k1).sl
  obtain ⟨A2, c2, e2, -, -, s2⟩ := (show OwnO _ _ _ _ from k2).sl
  exact ⟨A0, _, c0, A1, _, c1, A2, _, c2, e0, e1, e2, s0.stays FzR.stays (fun _ _ => trivial) (fun _ _ _ h => h), s1.stays FzR.stays (fun _ _ => trivial) (fun _ _ _ h => h), s2.stays OzR.stays (fun _ _ => trivial) (fun _ _ _ h => h)⟩
theorem OwnO.setRow {w : World} {base : Nat} {v : Value} {xs : List Oz} (h : OwnO w base v xs) {g : Nat} {cs : Array Value} (hr : Row w g 27 cs) {p : Addr} (hp : p.block = g) (u : Value) : OwnO (w.setCell p u) base v xs := by
  subst hp
  exact OwnG.setNe h (OwnG.neRow h hr (by decide)) u
theorem opsR_data {l : List Fz} {n d : ByteArray} (h : d.size ≤ 1048576) : ∀ o ∈ opsR l n d, o.data.size ≤ 1048576 := by
  intro o ho
  unfold opsR putO at ho
  rcases List.mem_append.1 ho with ho | ho
  · unfold cutO at ho
    split at ho
    · rw [List.mem_singleton.1 ho]; exact Nat.zero_le _
    · cases ho
  · rcases List.mem_cons.1 ho with rfl | ho
    · exact h
    · rw [List.mem_singleton.1 ho]; exact Nat.zero_le _
theorem opsR_len (l : List Fz) (n d : ByteArray) : 2 ≤ (opsR l n d).length ∧ (opsR l n d).length ≤ 3 := by
  unfold opsR putO cutO
  rw [List.length_append]
  split <;> simp
theorem seqD_end {L : List Oz} {k : Nat} (h : k = L.length) (x : Dz) : seqD (L.drop k) x = (x, 0) := by subst h; rw [List.drop_length]; rfl
theorem seqD_go {L : List Oz} {k : Nat} (h : k < L.length) {x : Dz} (hc : codeD x L[k] = 0) : seqD (L.drop k) x = seqD (L.drop (k + 1)) (actD x L[k]) := by rw [seqD_at h, if_pos hc]
theorem seqD_no {L : List Oz} {k : Nat} (h : k < L.length) {x : Dz} (hc : codeD x L[k] ≠ 0) : seqD (L.drop k) x = (x, codeD x L[k]) := by rw [seqD_at h, if_neg hc]

set_option maxRecDepth 100000 in
set_option maxHeartbeats 4000000 in
theorem implReplace (x : Dz) (n d : ByteArray) (A0 : Option Addr) (n0 c0 : Nat) (A1 : Option Addr) (n1 c1 : Nat) (A2 : Option Addr) (n2 c2 : Nat) (ok : Nat → Prop) (w : World) (h0 : Sl FzR 2 ok w A0 n0 x.live) (h1 : Sl FzR 2 ok w A1 n1 x.safe) (h2 : Sl OzR 4 ok w A2 n2 x.ops) (hs : x.sz ≤ 1048576) (hn : n.size ≤ 1048576) (hd : d.size ≤ 1048576) :
    Calls Try.prog 24 #[.agg #[.slice A0 n0 c0, .slice A1 n1 c1, .slice A2 n2 c2], .string n, .string d] w fun e w' => (∃ v, e = .returned (.tuple #[v, .int .i64 (codeR x n d)]) ∧ DzA w' w.heap.size v (replD x n d)) ∧ Below w.heap.size w w' := by
  obtain ⟨hx, hwz⟩ := box2 w (.cells #[.slice A0 n0 c0, .slice A1 n1 c1, .slice A2 n2 c2] 27) (.cells #[.slice none 0 0, .slice none 0 0, .slice none 0 0] 27)
  have ra := (Row.new w 27 #[.slice A0 n0 c0, .slice A1 n1 c1, .slice A2 n2 c2]).alloc (.cells #[.slice none 0 0, .slice none 0 0, .slice none 0 0] 27)
  have rb := Row.newAt (w.alloc (.cells #[.slice A0 n0 c0, .slice A1 n1 c1, .slice A2 n2 c2] 27)) 27 #[.slice none 0 0, .slice none 0 0, .slice none 0 0] (w.heap.size + 1) (by simp)
  have HI := Lib.hid infoDisk
  have HL := Lib.hid (sz_lens hs)
  have hns : n.size + 4 ≤ 9223372036854775807 := by omega
  go_enter Try.func24, Try.ntmps24
  go_wp2_with fail
  generalize (w.alloc (.cells #[.slice A0 n0 c0, .slice A1 n1 c1, .slice A2 n2 c2] 27)).alloc (.cells #[.slice none 0 0, .slice none 0 0, .slice none 0 0] 27) = z at *
  refine (implDiskOk x A0 n0 c0 A1 n1 c1 A2 n2 c2 _ _ (h0.below FzR.stays hx) (h1.below FzR.stays hx) (h2.below OzR.stays hx) hs).mono ?_
  rintro e w1 ⟨rfl, hq⟩
  have hx := hx.trans (hq.mono hx.size)
  have hwz := Nat.le_trans hwz hq.size
  have ra := ra.below hq
  have rb := rb.below hq
  clear hq
  obtain ⟨⟨p0, p1, p2⟩, -⟩ := ra.three
  obtain ⟨⟨r0, r1, r2⟩, ⟨f0, f1, f2⟩⟩ := rb.three
  cases e0 : diskB x
  · have HA := Lib.hid (replD_no (n := n) (d := d) e0)
    have RR := Lib.hid rb
    clear ra rb
    go_wp2_with fail
    have hr9 := (((RR.out).set 0 (.slice none 0 0)).set 1 (.slice none 0 0)).set 2 (.slice none 0 0)
    refine bodyPost_ret (results_cell_row2 (p := 6) (u := 7) (ty := 27) rfl _ _ (w.heap.size + 1) 27 #[.slice none 0 0, .slice none 0 0, .slice none 0 0] (0, 0) _ rfl rfl hr9 Try.underlying27 rfl HI.out) rfl ⟨⟨.agg #[.slice none 0 0, .slice none 0 0, .slice none 0 0], ?_, ?_⟩, ?_⟩
    · rw [HA.out.1]; rfl
    · refine DzA.mono (base := w.heap.size + 2) ?_ (by omega)
      rw [HA.out.2]
      refine DzA.set (DzA.set (DzA.set (DzA.nil _ _) ?_ _) ?_ _) ?_ _ <;> (exact Nat.lt_succ_self _)
    · exact ((hx.setCell (Nat.le_add_right _ 1) _).setCell (Nat.le_add_right _ 1) _).setCell (Nat.le_add_right _ 1) _
  have HP := Lib.hid (diskB_parts e0)
  have E0 := Lib.hid e0
  have HLC := Lib.hid (show n0 ≤ 1048576 ∧ n1 ≤ 1048576 ∧ n2 ≤ 1048576 from ⟨by rw [← h0.1]; exact HL.out.1, by rw [← h1.1]; exact HL.out.2.1, by rw [← h2.1]; exact HL.out.2.2⟩)
  have HRT := Lib.hid (show rightD x from ⟨HP.out.1, HL.out.2.1, HP.out.2.2⟩)
  clear e0
  have hal := (Below.refl w1.heap.size w1).alloc (Nat.le_refl _) (.cells #[.slice A0 n0 c0, .slice A1 n1 c1, .slice A2 n2 c2] 27)
  have rn := Row.new w1 27 #[.slice A0 n0 c0, .slice A1 n1 c1, .slice A2 n2 c2]
  have hx := hx.alloc hx.size (.cells #[.slice A0 n0 c0, .slice A1 n1 c1, .slice A2 n2 c2] 27)
  have ra := ra.below hal
  have rb := rb.below hal
  have HGN := Lib.hid (show w.heap.size + 2 ≤ w1.heap.size from hwz)
  have HZ := Lib.hid (Nat.le_trans hwz hal.size)
  clear r0 r1 r2 f0 f1 f2 hal hwz
  obtain ⟨⟨p0, p1, p2⟩, -⟩ := ra.three
  go_wp2_with fail
  generalize w1.alloc (.cells #[.slice A0 n0 c0, .slice A1 n1 c1, .slice A2 n2 c2] 27) = z1 at *
  generalize w1.heap.size = gn at *
  refine (implOpsToReplace A0 n0 c0 x.live n d _ _ (h0.below FzR.stays hx) HLC.out.1 hn).mono ?_
  rintro e w2 ⟨⟨vL, rfl, oL⟩, hq⟩
  have hx := hx.trans (hq.mono hx.size)
  have HBZ := Lib.hid (show w.heap.size + 2 ≤ z1.heap.size from HZ.out)
  have ra := ra.below hq
  have rb := rb.below hq
  have rn := rn.below hq
  have hLd := opsR_data (l := x.live) (n := n) hd
  have hLl := opsR_len x.live n d
  obtain ⟨L, hL⟩ : ∃ L, L = opsR x.live n d := ⟨_, rfl⟩
  rw [← hL] at oL hLd hLl
  have HOP := Lib.hid hL
  have HLD := Lib.hid hLd
  have HLL := Lib.hid hLl
  obtain ⟨AL, cL, rfl, -, -, -⟩ := (show OwnO w2 _ vL _ from oL).sl
  have OL := Lib.hid oL
  have RA := Lib.hid ra
  have RB := Lib.hid rb
  have RN := Lib.hid rn
  have HX := Lib.hid hx
  have RD := Lib.hid (show ReadsD w2 (.slice A0 n0 c0) (.slice A1 n1 c1) (.slice A2 n2 c2) x from ⟨_, _, _, _, _, _, _, _, _, rfl, rfl, rfl, (h0.below FzR.stays hx).stays FzR.stays (fun _ _ => trivial) (fun _ _ _ h => h), (h1.below FzR.stays hx).stays FzR.stays (fun _ _ => trivial) (fun _ _ _ h => h), (h2.below OzR.stays hx).stays OzR.stays (fun _ _ => trivial) (fun _ _ _ h => h)⟩)
  clear hq ra rb rn hLd hLl hL oL hx p0 p1 p2
  go_wp2_with fail
  go_loopw [24] (fun iv wr => ∃ (k : Nat) (y : Dz) (v0 v1 v2 : Value), k ≤ L.length ∧ iv = .int .i64 k ∧ Hid (Row wr gn 27 #[v0, v1, v2]) ∧ Hid (ReadsD wr v0 v1 v2 y) ∧ Hid (rightD y) ∧ Hid (seqD L x = seqD (L.drop k) y) ∧ Hid (k = 0 ∨ DzA wr (w.heap.size + 2) (.agg #[v0, v1, v2]) y) ∧ Hid (OwnO wr z1.heap.size (.slice AL L.length cL) L) ∧ Hid (Row wr w.heap.size 27 #[.slice A0 n0 c0, .slice A1 n1 c1, .slice A2 n2 c2]) ∧ Hid (Row wr (w.heap.size + 1) 27 #[.slice none 0 0, .slice none 0 0, .slice none 0 0]) ∧ Hid (Below w.heap.size w wr)) (fun iv _ => L.length - (intOf iv).toNat)
  case atStart => exact ⟨0, x, _, _, _, Nat.zero_le _, rfl, RN, RD, HRT, Lib.hid rfl, Lib.hid (Or.inl rfl), OL, RA, RB, HX⟩
  case round =>
    clear RN RD OL RA RB HX
    obtain ⟨k, y, v0, v1, v2, hk, rfl, RN, RD, RT, SQ, OD, OL, RA, RB, HX⟩ := hrel
    by_cases hlt : k < L.length
    · obtain ⟨Y0, a0, b0, Y1, a1, b1, Y2, a2, b2, rfl, rfl, rfl, s0, s1, s2⟩ := RD.out
      obtain ⟨-, -, -, -, -, hsL⟩ := (show OwnO wr _ _ _ from OL.out).sl
      obtain ⟨AL', cL', eL, -, -, hsL⟩ := (show OwnO wr _ _ _ from OL.out).sl
      injection eL with eL1 eL2 eL3
      subst eL1 eL3
      obtain ⟨b, off, -, rfl, q0, q1, q2, q3⟩ := OzR.at_ hsL hlt
      have i0 : (0 : Int) ≤ k := by omega
      have i1 : (k : Int) < L.length := by omega
      have i2 : L.length ≤ 3 := HLL.out.2
      have hal := (Below.refl wr.heap.size wr).alloc (Nat.le_refl _) (.cells #[.int .i64 L[k].kind, .string L[k].name, .string L[k].to, .string L[k].data] 36)
      have rn := RN.out.below hal
      have HX2 := Lib.hid (HX.out.alloc HX.out.size (.cells #[.int .i64 L[k].kind, .string L[k].name, .string L[k].to, .string L[k].data] 36))
      have S0 := Lib.hid (s0.below FzR.stays hal)
      have S1 := Lib.hid (s1.below FzR.stays hal)
      have S2 := Lib.hid (s2.below OzR.stays hal)
      have OL2 := Lib.hid (show OwnO _ _ _ _ from OwnG.below OL.out hal)
      have RA2 := Lib.hid (RA.out.below hal)
      have RB2 := Lib.hid (RB.out.below hal)
      have RN2 := Lib.hid rn
      have DK := Lib.hid (show L[k].data.size ≤ 268000000 by have := HLD.out _ (List.getElem_mem hlt); omega)
      obtain ⟨⟨t0, t1, t2⟩, -⟩ := rn.three
      clear hal rn s0 s1 s2 hsL
      go_wp2_with fail
      generalize wr.alloc (.cells #[.int .i64 L[k].kind, .string L[k].name, .string L[k].to, .string L[k].data] 36) = z2 at *
      refine (implDoOn y L[k] _ _ _ _ _ _ _ _ _ _ _ S0.out S1.out S2.out RT.out DK.out).mono ?_
      rintro e w3 ⟨⟨v, rfl, hv⟩, hq⟩
      have HX3 := Lib.hid (HX2.out.trans (hq.mono HX2.out.size))
      have hz3 : w.heap.size + 2 ≤ z2.heap.size := by have h1 := lt_of_block RB2.out; have h2 := HX2.out.size; omega
      have hv := hv.mono hz3
      obtain ⟨v0, v1, v2, rfl, k0, k1, k2, -⟩ := id hv
      obtain ⟨B0, m0, d0, rfl⟩ := k0.len
      obtain ⟨B1, m1, d1, rfl⟩ := k1.len
      obtain ⟨B2, m2, d2, rfl⟩ := k2.len
      have hal3 := (Below.refl w3.heap.size w3).alloc (Nat.le_refl _) (.cells #[.slice B0 m0 d0, .slice B1 m1 d1, .slice B2 m2 d2] 27)
      have HV := Lib.hid (hv.below hal3)
      have OL3 := Lib.hid (show OwnO _ _ _ _ from OwnG.below (OwnG.below OL2.out hq) hal3)
      have RA3 := Lib.hid ((RA2.out.below hq).below hal3)
      have RB3 := Lib.hid ((RB2.out.below hq).below hal3)
      have RN3 := Lib.hid ((RN2.out.below hq).below hal3)
      have HX4 := Lib.hid (HX3.out.alloc HX3.out.size (.cells #[.slice B0 m0 d0, .slice B1 m1 d1, .slice B2 m2 d2] 27))
      have ra := RA3.out
      have rn := RN3.out
      clear k0 k1 k2 hq hal3 hv q0 q1 q2 q3 t0 t1 t2 hz3
      obtain ⟨⟨p0, p1, p2⟩, -⟩ := ra.three
      obtain ⟨⟨t0, t1, t2⟩, ⟨u0, u1, u2⟩⟩ := rn.three
      clear ra rn
      by_cases hc : codeD y L[k] = 0
      case neg =>
        have HC := Lib.hid (replD_err (n := n) (d := d) E0.out (show (seqD (opsR x.live n d) x).2 = codeD y L[k] by rw [← HOP.out, SQ.out, seqD_no hlt hc]) hc)
        have HZ := Lib.hid (show w.heap.size + 2 ≤ (w3.alloc (.cells #[.slice B0 m0 d0, .slice B1 m1 d1, .slice B2 m2 d2] 27)).heap.size by have h1 := lt_of_block RB3.out; have h2 := HX4.out.size; omega)
        have hc' : (codeD y L[k] == 0) = false := by simpa using hc
        have hc2 : decide (codeD y L[k] = 0) = false := decide_eq_false hc
        generalize codeD y L[k] = kc at *
        have hc3 : (kc != 0) = true := by simpa using hc
        clear t0 t1 t2 u0 u1 u2
        go_wp2_with fail
        generalize w3.alloc (.cells #[.slice B0 m0 d0, .slice B1 m1 d1, .slice B2 m2 d2] 27) = z3 at *
        refine (implCopyDisk x A0 n0 c0 A1 n1 c1 A2 n2 c2 _ _ (h0.below FzR.stays HX4.out) (h1.below FzR.stays HX4.out) (h2.below OzR.stays HX4.out) HLC.out).mono ?_
        rintro e w9 ⟨⟨v, rfl, hv⟩, hq9⟩
        have hxe := HX4.out.trans (hq9.mono HX4.out.size)
        have RR := Lib.hid (RB3.out.below hq9)
        have HV := Lib.hid (hv.mono (base' := w.heap.size + 2) HZ.out)
        obtain ⟨v0, v1, v2, rfl, k0, k1, k2, -⟩ := hv
        obtain ⟨C0, m0, e0, rfl⟩ := k0.len
        obtain ⟨C1, m1, e1, rfl⟩ := k1.len
        obtain ⟨C2, m2, e2, rfl⟩ := k2.len
        clear p0 p1 p2 k0 k1 k2 hq9
        have rr := RR.out
        obtain ⟨⟨r0, r1, r2⟩, ⟨f0, f1, f2⟩⟩ := rr.three
        clear rr
        go_wp2_with fail
        have hr9 := (((RR.out).set 0 (.slice C0 m0 e0)).set 1 (.slice C1 m1 e1)).set 2 (.slice C2 m2 e2)
        refine bodyPost_ret (results_cell_row2 (p := 6) (u := 7) (ty := 27) rfl _ _ (w.heap.size + 1) 27 #[.slice C0 m0 e0, .slice C1 m1 e1, .slice C2 m2 e2] (0, 0) _ rfl rfl hr9 Try.underlying27 rfl HI.out) rfl ⟨⟨.agg #[.slice C0 m0 e0, .slice C1 m1 e1, .slice C2 m2 e2], ?_, ?_⟩, ?_⟩
        · rw [HC.out.1]; rfl
        · refine DzA.mono (base := w.heap.size + 2) ?_ (by omega)
          rw [HC.out.2]
          refine DzA.set (DzA.set (DzA.set (HV.out) ?_ _) ?_ _) ?_ _ <;> (exact Nat.lt_succ_self _)
        · exact ((hxe.setCell (Nat.le_add_right _ 1) _).setCell (Nat.le_add_right _ 1) _).setCell (Nat.le_add_right _ 1) _
      have RT2 := Lib.hid (actD_right RT.out hc)
      have SQ2 := Lib.hid (show seqD L x = seqD (L.drop (k + 1)) (actD y L[k]) by rw [SQ.out, seqD_go hlt hc])
      have HV2 := Lib.hid (((HV.out.setRow RN3.out rfl (.slice B0 m0 d0)).setRow (p := ⟨gn, 1, none⟩) (RN3.out.set 0 (.slice B0 m0 d0)) rfl (.slice B1 m1 d1)).setRow (p := ⟨gn, 2, none⟩) ((RN3.out.set 0 (.slice B0 m0 d0)).set 1 (.slice B1 m1 d1)) rfl (.slice B2 m2 d2))
      have OL4 := Lib.hid (((OL3.out.setRow RN3.out (p := ⟨gn, 0, none⟩) rfl (.slice B0 m0 d0)).setRow (p := ⟨gn, 1, none⟩) (RN3.out.set 0 (.slice B0 m0 d0)) rfl (.slice B1 m1 d1)).setRow (p := ⟨gn, 2, none⟩) ((RN3.out.set 0 (.slice B0 m0 d0)).set 1 (.slice B1 m1 d1)) rfl (.slice B2 m2 d2))
      have HX5 := Lib.hid (Below.set3 HX4.out (g := gn) (by have := HGN.out; omega) (.slice B0 m0 d0) (.slice B1 m1 d1) (.slice B2 m2 d2))
      have RA4 := Lib.hid (((RA3.out.far (p := ⟨gn, 0, none⟩) (by have := HGN.out; simp; omega) (.slice B0 m0 d0)).far (p := ⟨gn, 1, none⟩) (by have := HGN.out; simp; omega) (.slice B1 m1 d1)).far (p := ⟨gn, 2, none⟩) (by have := HGN.out; simp; omega) (.slice B2 m2 d2))
      have RB4 := Lib.hid (((RB3.out.far (p := ⟨gn, 0, none⟩) (by have := HGN.out; simp; omega) (.slice B0 m0 d0)).far (p := ⟨gn, 1, none⟩) (by have := HGN.out; simp; omega) (.slice B1 m1 d1)).far (p := ⟨gn, 2, none⟩) (by have := HGN.out; simp; omega) (.slice B2 m2 d2))
      have RN4 := Lib.hid (show Row _ gn _ #[.slice B0 m0 d0, .slice B1 m1 d1, .slice B2 m2 d2] from ((RN3.out.set 0 (.slice B0 m0 d0)).set 1 (.slice B1 m1 d1)).set 2 (.slice B2 m2 d2))
      have RD4 := Lib.hid HV2.out.reads
      have OD4 := Lib.hid (show k + 1 = 0 ∨ DzA ((((w3.alloc (.cells #[.slice B0 m0 d0, .slice B1 m1 d1, .slice B2 m2 d2] 27)).setCell ⟨gn, 0, none⟩ (.slice B0 m0 d0)).setCell ⟨gn, 1, none⟩ (.slice B1 m1 d1)).setCell ⟨gn, 2, none⟩ (.slice B2 m2 d2)) (w.heap.size + 2) (.agg #[.slice B0 m0 d0, .slice B1 m1 d1, .slice B2 m2 d2]) (actD y L[k]) from Or.inr HV2.out)
      rw [hc]
      clear hc OD
      go_wp2_with fail
      go_roundw
      case rel => exact ⟨k + 1, actD y L[k], _, _, _, by omega, by go_num, RN4, RD4, RT2, SQ2, OD4, OL4, RA4, RB4, HX5⟩
      case measure => simp [intOf]; omega
    · have hke : k = L.length := by omega
      have HC := Lib.hid (replD_ok (y := y) (n := n) (d := d) E0.out (by rw [← HOP.out, SQ.out, seqD_end hke]))
      have hD : DzA wr (w.heap.size + 2) (.agg #[v0, v1, v2]) y := by
        rcases OD.out with h | h
        · have := HLL.out; omega
        · exact h
      obtain ⟨u0', u1', u2', ew, k0, k1, k2, -⟩ := id hD
      injection ew with ew
      injection ew with ew
      injection ew with ea ew
      injection ew with eb ew
      injection ew with ec ew
      subst ea eb ec
      obtain ⟨C0, m0, e0, rfl⟩ := k0.len
      obtain ⟨C1, m1, e1, rfl⟩ := k1.len
      obtain ⟨C2, m2, e2, rfl⟩ := k2.len
      have HV := Lib.hid hD
      have rn := RN.out
      have rr := RB.out
      obtain ⟨⟨t0, t1, t2⟩, -⟩ := rn.three
      obtain ⟨⟨r0, r1, r2⟩, ⟨f0, f1, f2⟩⟩ := rr.three
      clear hD k0 k1 k2 rn rr hke
      go_wp2_with fail
      have hr9 := (((RB.out).set 0 (.slice C0 m0 e0)).set 1 (.slice C1 m1 e1)).set 2 (.slice C2 m2 e2)
      refine bodyPost_ret (results_cell_row2 (p := 6) (u := 7) (ty := 27) rfl _ _ (w.heap.size + 1) 27 #[.slice C0 m0 e0, .slice C1 m1 e1, .slice C2 m2 e2] (0, 0) _ rfl rfl hr9 Try.underlying27 rfl HI.out) rfl ⟨⟨.agg #[.slice C0 m0 e0, .slice C1 m1 e1, .slice C2 m2 e2], ?_, ?_⟩, ?_⟩
      · rw [HC.out.1]; rfl
      · refine DzA.mono (base := w.heap.size + 2) ?_ (by omega)
        rw [HC.out.2]
        refine DzA.set (DzA.set (DzA.set (HV.out) ?_ _) ?_ _) ?_ _ <;> (exact Nat.lt_succ_self _)
      · exact ((HX.out.setCell (Nat.le_add_right _ 1) _).setCell (Nat.le_add_right _ 1) _).setCell (Nat.le_add_right _ 1) _
end Go.Proofs.Ytkinegapnknhiaa
namespace Go.Proofs.Ytkinegapnknhiaa
open Go.RowKit
set_option linter.unusedVariables false
set_option linter.unusedSimpArgs false

def OpP (o : Oz) : Prop := (o.to.size ≤ 100 ∨ o.kind = 2) ∧ (o.kind = 1 ∨ o.data.size = 0)
theorem codeD_formed {x : Dz} {o : Oz} (h : codeD x o = 0) : formB o = true := by
  unfold codeD at h
  cases hf : formB o
  · rw [hf] at h; cases h
  · rfl
theorem op_sz {x : Dz} {o : Oz} (h : codeD x o = 0) (hp : OpP o) : o.sz ≤ 1048576 := by
  obtain ⟨h1, h2⟩ := form_kinds (codeD_formed h)
  have h3 := filesB_bytes (codeD_zero h)
  have hnm : ∀ s : ByteArray, nameB s = true → s.size ≤ 100 := fun s hs => by simp only [nameB, Bool.and_eq_true, decide_eq_true_eq] at hs; exact hs.2
  have hto : o.to.size ≤ 100 := by
    rcases hp.1 with ht | ht
    · exact ht
    · rcases h2 with h2 | ⟨-, h2⟩ | h2
      · omega
      · exact hnm _ h2
      · omega
  have hda : o.data.size ≤ 200000 := by
    rcases hp.2 with hk | hk
    · rw [doF_app hk] at h3
      have h4 := findF_put (l := x.live) o.name ((findF x.live o.name.toList).elim o.data (· ++ o.data)) o.name.toList
      rw [if_pos rfl] at h4
      have h5 := findF_size h4
      have h6 : o.data.size ≤ ((findF x.live o.name.toList).elim o.data (· ++ o.data)).size := by
        cases findF x.live o.name.toList with
        | none => exact Nat.le_refl _
        | some e => simp
      have h7 := h3.2
      simp only at h7
      omega
    · omega
  have := hnm _ h1
  unfold Oz.sz
  omega
theorem seqD_fits : ∀ (ops : List Oz) (x : Dz), x.fits → rightD x → (∀ o ∈ ops, OpP o) → (seqD ops x).1.fits
  | [], x, h, _, _ => h
  | o :: r, x, h, hr, hp => by
    by_cases hc : codeD x o = 0
    · rw [seqD_step hc]
      exact seqD_fits r _ (flat_fits h (op_sz hc (hp o (by simp))) (by have := hr.2.2; omega)) (actD_right hr hc) fun p hm => hp p (by simp [hm])
    · rw [seqD_stop hc]; exact h
theorem opsR_P (l : List Fz) (n d : ByteArray) : ∀ o ∈ opsR l n d, OpP o := by
  have h0 : (⟨#[]⟩ : ByteArray).size = 0 := rfl
  intro o ho
  unfold opsR putO at ho
  rcases List.mem_append.1 ho with ho | ho
  · unfold cutO at ho
    split at ho
    · rw [List.mem_singleton.1 ho]; exact ⟨.inl (by show (⟨#[]⟩ : ByteArray).size ≤ 100; omega), .inr h0⟩
    · cases ho
  · rcases List.mem_cons.1 ho with rfl | ho
    · exact ⟨.inl (by show (⟨#[]⟩ : ByteArray).size ≤ 100; omega), .inl rfl⟩
    · rw [List.mem_singleton.1 ho]; exact ⟨.inr rfl, .inr h0⟩
theorem replD_fits {x : Dz} {n d : ByteArray} (h : x.sz ≤ 1048576) : (replD x n d).fits := by
  have h1 := Dz.fits_of h
  unfold replD
  split
  · rename_i hd
    have hp := diskB_parts hd
    split
    · exact seqD_fits _ _ h1 ⟨hp.1, h1.2.1.1, hp.2.2⟩ (opsR_P _ _ _)
    · exact h1
  · exact ⟨by simp, by simp, by simp⟩
end Go.Proofs.Ytkinegapnknhiaa
