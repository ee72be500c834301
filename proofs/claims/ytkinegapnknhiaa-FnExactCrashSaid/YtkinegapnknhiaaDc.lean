/-
  Several texts in one: DiskCopy, DiskAct, OwnLaw, DiskLaw, DiskBox, CrashMath, CrashRise, CrashKept, CrashImpl, CrashSpec, CrashFit.
-/
import Derived.Test.YtkinegapnknhiaaDiskSync
import Derived.Test.YtkinegapnknhiaaDiskMarks
import Derived.Test.YtkinegapnknhiaaOwnMarks
import Derived.StillTailTactics
import Derived.Deep.QuietTactic
import Derived.BigQuiet
namespace Go.Proofs.Ytkinegapnknhiaa
open Go.RowKit
set_option linter.unusedVariables false
set_option linter.unusedSimpArgs false

set_option maxRecDepth 100000 in
set_option maxHeartbeats 1000000 in
theorem specCopy (x : Dz) (A0 : Option Addr) (n0 c0 : Nat) (A1 : Option Addr) (n1 c1 : Nat) (A2 : Option Addr) (n2 c2 : Nat) (ok : Nat → Prop) (w : World) (h0 : Sl FzR 2 ok w A0 n0 x.live) (h1 : Sl FzR 2 ok w A1 n1 x.safe) (h2 : Sl OzR 4 ok w A2 n2 x.ops) (hl : n0 ≤ 1048576 ∧ n1 ≤ 1048576 ∧ n2 ≤ 1048576) :
    Calls Try.prog 65 #[.agg #[.slice A0 n0 c0, .slice A1 n1 c1, .slice A2 n2 c2]] w fun e w' => (∃ v, e = .returned v ∧ DzA w' w.heap.size v (x)) ∧ Below w.heap.size w w' := by
  obtain ⟨hx, hwz⟩ := box2 w (.cells #[.slice A0 n0 c0, .slice A1 n1 c1, .slice A2 n2 c2] 27) (.cells #[.slice none 0 0, .slice none 0 0, .slice none 0 0] 27)
  have ra := (Row.new w 27 #[.slice A0 n0 c0, .slice A1 n1 c1, .slice A2 n2 c2]).alloc (.cells #[.slice none 0 0, .slice none 0 0, .slice none 0 0] 27)
  have rb := Row.newAt (w.alloc (.cells #[.slice A0 n0 c0, .slice A1 n1 c1, .slice A2 n2 c2] 27)) 27 #[.slice none 0 0, .slice none 0 0, .slice none 0 0] (w.heap.size + 1) (by simp)
  have HI := Lib.hid infoDisk
  obtain ⟨i0, hi, hz0, hz1, hz2⟩ := info_parts infoFileT
  have H1 := Lib.hid hi
  have H2 := Lib.hid hz0
  have H3 := Lib.hid hz1
  have H4 := Lib.hid hz2
  clear hi hz0 hz1 hz2
  obtain ⟨j0, hi, hz0, hz1, hz2⟩ := info_parts infoDOpT
  have J1 := Lib.hid hi
  have J2 := Lib.hid hz0
  have J3 := Lib.hid hz1
  have J4 := Lib.hid hz2
  clear hi hz0 hz1 hz2
  go_enter Try.func65, Try.ntmps65
  go_wp2_with fail
  generalize (w.alloc (.cells #[.slice A0 n0 c0, .slice A1 n1 c1, .slice A2 n2 c2] 27)).alloc (.cells #[.slice none 0 0, .slice none 0 0, .slice none 0 0] 27) = z at *
  have hln0 := hl.1
  have hln1 := hl.2.1
  have hln2 := hl.2.2
  clear hl
  obtain ⟨⟨p0, p1, p2⟩, -⟩ := ra.three
  obtain ⟨⟨r0, r1, r2⟩, ⟨f0, f1, f2⟩⟩ := rb.three
  clear r0 r1 r2 f0 f1 f2
  have hb0 : Below z.heap.size z z.drew := (Below.refl _ z).drew
  refine wp_region_noPanic ?_
  refine wp_region_held_drew (S := (fun w' => w'.cell? ⟨w.heap.size, 0, none⟩ = some (.slice A0 n0 c0) ∧ w'.cell? ⟨w.heap.size, 1, none⟩ = some (.slice A1 n1 c1) ∧ w'.cell? ⟨w.heap.size, 2, none⟩ = some (.slice A2 n2 c2))) (by kernel_rfl) ⟨p0, p1, p2⟩ (fun hHeld => ?_)
  generalize z.drew = u0 at *
  refine wpAnyH_take (i := 1) (v := ?v1) rfl (by kernel_rfl) (by kernel_rfl) (by kernel_rfl) (fun _ _ _ h => h) (Or.inl ⟨by rfl, ?hy1⟩) hHeld ?rest1
  case hy1 => (intro w' hSw; (try dsimp only at hSw); first | (go_simp; done) | (go_simp; with_reducible rfl))
  simp only [Act.put, List.getElem_toArray, List.getElem_cons_zero, List.getElem_cons_succ, List.setIfInBounds_toArray, List.set_cons_zero, List.set_cons_succ]
  refine wpAnyH_take (i := 2) (v := ?v2) rfl (by kernel_rfl) (by kernel_rfl) (by kernel_rfl) (fun _ _ _ h => h) (Or.inl ⟨by rfl, ?hy2⟩) hHeld ?rest2
  case hy2 => (intro w' hSw; (try dsimp only at hSw); first | (go_simp; done) | (go_simp; with_reducible rfl))
  simp only [Act.put, List.getElem_toArray, List.getElem_cons_zero, List.getElem_cons_succ, List.setIfInBounds_toArray, List.set_cons_zero, List.set_cons_succ]
  refine wpAnyH_take (i := 5) (v := ?v3) rfl (by kernel_rfl) (by kernel_rfl) (by kernel_rfl) (fun _ _ _ h => h) (Or.inl ⟨by rfl, ?hy3⟩) hHeld ?rest3
  case hy3 => (intro w' hSw; (try dsimp only at hSw); first | (go_simp; done) | (go_simp; with_reducible rfl))
  simp only [Act.put, List.getElem_toArray, List.getElem_cons_zero, List.getElem_cons_succ, List.setIfInBounds_toArray, List.set_cons_zero, List.set_cons_succ]
  refine wpAnyH_take (i := 6) (v := ?v4) rfl (by kernel_rfl) (by kernel_rfl) (by kernel_rfl) (fun _ _ _ h => h) (Or.inl ⟨by rfl, ?hy4⟩) hHeld ?rest4
  case hy4 => (intro w' hSw; (try dsimp only at hSw); first | (go_simp; done) | (go_simp; with_reducible rfl))
  simp only [Act.put, List.getElem_toArray, List.getElem_cons_zero, List.getElem_cons_succ, List.setIfInBounds_toArray, List.set_cons_zero, List.set_cons_succ]
  refine wpAnyH_take (i := 9) (v := ?v5) rfl (by kernel_rfl) (by kernel_rfl) (by kernel_rfl) (fun _ _ _ h => h) (Or.inl ⟨by rfl, ?hy5⟩) hHeld ?rest5
  case hy5 => (intro w' hSw; (try dsimp only at hSw); first | (go_simp; done) | (go_simp; with_reducible rfl))
  simp only [Act.put, List.getElem_toArray, List.getElem_cons_zero, List.getElem_cons_succ, List.setIfInBounds_toArray, List.set_cons_zero, List.set_cons_succ]
  refine wpAnyH_take (i := 10) (v := ?v6) rfl (by kernel_rfl) (by kernel_rfl) (by kernel_rfl) (fun _ _ _ h => h) (Or.inl ⟨by rfl, ?hy6⟩) hHeld ?rest6
  case hy6 => (intro w' hSw; (try dsimp only at hSw); first | (go_simp; done) | (go_simp; with_reducible rfl))
  simp only [Act.put, List.getElem_toArray, List.getElem_cons_zero, List.getElem_cons_succ, List.setIfInBounds_toArray, List.set_cons_zero, List.set_cons_succ]
  refine wpAnyH_ready (rs := [0, 4, 8]) (by kernel_rfl) (by simp) ?_
  refine AllReadyH.cons rfl (fun K hK => ?_) ?_
  · go_simp
    have hal : Below (u0).heap.size u0 ((u0).alloc (.cells #[] 75)) := (Below.refl _ _).alloc (Nat.le_refl _) _
    have O0_1 := Lib.hid (OwnG.lit (T := 75) (sz := 2) (f := Fz.cells) (u0) (base := z.heap.size) hb0.size)
    have hb1 := hb0.alloc hb0.size (.cells #[] 75)
    clear hal
    generalize (u0).alloc (.cells #[] 75) = u1 at *
    refine hK.out _ _ ⟨below_keep hb1 _ _ p0, below_keep hb1 _ _ p1, below_keep hb1 _ _ p2⟩ (fun hHeld => ?_)
    clear hK K
    (try simp only [Act.put, List.getElem_toArray, List.getElem_cons_zero, List.getElem_cons_succ, List.setIfInBounds_toArray, List.set_cons_zero, List.set_cons_succ])
    refine wpAnyH_ready (rs := [3, 4, 8]) (by kernel_rfl) (by simp) ?_
    refine AllReadyH.cons rfl (fun K hK => ?_) ?_
    · obtain ⟨v0, u2, hr0, o0, hg0, hl0⟩ := run_app_all fz_cells fz_one (by omega) Try.underlying24 H1.out H2.out H3.out H4.out rfl (u1) 24 O0_1.out hb1.size (c := c0) (h0.below FzR.stays (hx.trans (hb1.mono hx.size))) hln0 (by omega)
      refine step_append_run rfl (.tmp 3) (.tmp 5) 24 24 rfl rfl rfl hr0 ?_
      have hb2 := hb1.grown hg0 hb1.size (fun k hk => (OwnG.block_lt O0_1.out k hk).1)
      have O0_2 := Lib.hid o0
      obtain ⟨B0, d0, e0, -, -, -⟩ := (show OwnZ u2 z.heap.size v0 _ from o0).sl
      subst e0
      clear o0 hr0 hg0 hl0
      refine hK.out _ _ ⟨below_keep hb2 _ _ p0, below_keep hb2 _ _ p1, below_keep hb2 _ _ p2⟩ (fun hHeld => ?_)
      clear hK K
      (try simp only [Act.put, List.getElem_toArray, List.getElem_cons_zero, List.getElem_cons_succ, List.setIfInBounds_toArray, List.set_cons_zero, List.set_cons_succ])
      refine wpAnyH_ready (rs := [4, 8]) (by kernel_rfl) (by simp) ?_
      refine AllReadyH.cons rfl (fun K hK => ?_) ?_
      · go_simp
        have hal : Below (u2).heap.size u2 ((u2).alloc (.cells #[] 75)) := (Below.refl _ _).alloc (Nat.le_refl _) _
        have O1_3 := Lib.hid (OwnG.lit (T := 75) (sz := 2) (f := Fz.cells) (u2) (base := z.heap.size) hb2.size)
        have D1_0_3 := Lib.hid (Dis.fresh O0_2.out 0 0)
        have O0_3 := Lib.hid (OwnG.below O0_2.out hal)
        have hb3 := hb2.alloc hb2.size (.cells #[] 75)
        clear hal
        generalize (u2).alloc (.cells #[] 75) = u3 at *
        refine hK.out _ _ ⟨below_keep hb3 _ _ p0, below_keep hb3 _ _ p1, below_keep hb3 _ _ p2⟩ (fun hHeld => ?_)
        clear hK K
        (try simp only [Act.put, List.getElem_toArray, List.getElem_cons_zero, List.getElem_cons_succ, List.setIfInBounds_toArray, List.set_cons_zero, List.set_cons_succ])
        refine wpAnyH_ready (rs := [7, 8]) (by kernel_rfl) (by simp) ?_
        refine AllReadyH.cons rfl (fun K hK => ?_) ?_
        · obtain ⟨v1, u4, hr1, o1, hg1, hl1⟩ := run_app_all fz_cells fz_one (by omega) Try.underlying24 H1.out H2.out H3.out H4.out rfl (u3) 24 O1_3.out hb3.size (c := c1) (h1.below FzR.stays (hx.trans (hb3.mono hx.size))) hln1 (by omega)
          refine step_append_run rfl (.tmp 7) (.tmp 9) 24 24 rfl rfl rfl hr1 ?_
          have hb4 := hb3.grown hg1 hb3.size (fun k hk => (OwnG.block_lt O1_3.out k hk).1)
          have D1_0_4 := Lib.hid (Dis.app O0_3.out (D1_0_3.out) hl1)
          have O0_4 := Lib.hid (OwnG.keptD O0_3.out hg1 (D1_0_3.out))
          have O1_4 := Lib.hid o1
          obtain ⟨B1, d1, e1, -, -, -⟩ := (show OwnZ u4 z.heap.size v1 _ from o1).sl
          subst e1
          clear o1 hr1 hg1 hl1
          refine hK.out _ _ ⟨below_keep hb4 _ _ p0, below_keep hb4 _ _ p1, below_keep hb4 _ _ p2⟩ (fun hHeld => ?_)
          clear hK K
          (try simp only [Act.put, List.getElem_toArray, List.getElem_cons_zero, List.getElem_cons_succ, List.setIfInBounds_toArray, List.set_cons_zero, List.set_cons_succ])
          refine wpAnyH_ready (rs := [8]) (by kernel_rfl) (by simp) ?_
          refine AllReadyH.cons rfl (fun K hK => ?_) AllReadyH.nil
          go_simp
          have hal : Below (u4).heap.size u4 ((u4).alloc (.cells #[] 36)) := (Below.refl _ _).alloc (Nat.le_refl _) _
          have O2_5 := Lib.hid (OwnG.lit (T := 36) (sz := 4) (f := Oz.cells) (u4) (base := z.heap.size) hb4.size)
          have D2_0_5 := Lib.hid (Dis.fresh O0_4.out 0 0)
          have O0_5 := Lib.hid (OwnG.below O0_4.out hal)
          have D2_1_5 := Lib.hid (Dis.fresh O1_4.out 0 0)
          have O1_5 := Lib.hid (OwnG.below O1_4.out hal)
          have hb5 := hb4.alloc hb4.size (.cells #[] 36)
          clear hal
          generalize (u4).alloc (.cells #[] 36) = u5 at *
          refine hK.out _ _ ⟨below_keep hb5 _ _ p0, below_keep hb5 _ _ p1, below_keep hb5 _ _ p2⟩ (fun hHeld => ?_)
          clear hK K
          (try simp only [Act.put, List.getElem_toArray, List.getElem_cons_zero, List.getElem_cons_succ, List.setIfInBounds_toArray, List.set_cons_zero, List.set_cons_succ])
          refine wpAnyH_ready (rs := [11]) (by kernel_rfl) (by simp) ?_
          refine AllReadyH.cons rfl (fun K hK => ?_) AllReadyH.nil
          obtain ⟨v2, u6, hr2, o2, hg2, hl2⟩ := run_app_all oz_cells oz_one (by omega) Try.underlying25 J1.out J2.out J3.out J4.out rfl (u5) 25 O2_5.out hb5.size (c := c2) (h2.below OzR.stays (hx.trans (hb5.mono hx.size))) hln2 (by omega)
          refine step_append_run rfl (.tmp 11) (.tmp 13) 25 25 rfl rfl rfl hr2 ?_
          have hb6 := hb5.grown hg2 hb5.size (fun k hk => (OwnG.block_lt O2_5.out k hk).1)
          have D2_0_6 := Lib.hid (Dis.app O0_5.out (D2_0_5.out) hl2)
          have O0_6 := Lib.hid (OwnG.keptD O0_5.out hg2 (D2_0_5.out))
          have D2_1_6 := Lib.hid (Dis.app O1_5.out (D2_1_5.out) hl2)
          have O1_6 := Lib.hid (OwnG.keptD O1_5.out hg2 (D2_1_5.out))
          have O2_6 := Lib.hid o2
          obtain ⟨B2, d2, e2, -, -, -⟩ := (show OwnO u6 z.heap.size v2 _ from o2).sl
          subst e2
          clear o2 hr2 hg2 hl2
          have rr := rb.below hb6
          obtain ⟨⟨r0, r1, r2⟩, ⟨f0, f1, f2⟩⟩ := rr.three
          have RR := Lib.hid rr
          clear rr
          refine hK.out _ _ ⟨below_keep hb6 _ _ p0, below_keep hb6 _ _ p1, below_keep hb6 _ _ p2⟩ (fun hHeld => ?_)
          clear hK K
          (try simp only [Act.put, List.getElem_toArray, List.getElem_cons_zero, List.getElem_cons_succ, List.setIfInBounds_toArray, List.set_cons_zero, List.set_cons_succ])
          refine wpAnyH_take (i := 12) (v := ?v7) rfl (by kernel_rfl) (by kernel_rfl) (by kernel_rfl) (fun _ _ _ h => h) (Or.inl ⟨by rfl, ?hy7⟩) hHeld ?rest7
          case hy7 => (intro w' hSw; (try dsimp only at hSw); first | (go_simp; done) | (go_simp; with_reducible rfl))
          simp only [Act.put, List.getElem_toArray, List.getElem_cons_zero, List.getElem_cons_succ, List.setIfInBounds_toArray, List.set_cons_zero, List.set_cons_succ]
          refine wpAnyH_ready (rs := [13]) (by kernel_rfl) (by simp) ?_
          refine AllReadyH.cons rfl (fun K hK => ?_) AllReadyH.nil
          go_simp
          refine hK.out _ _ ⟨cellOff (cellOff (cellOff (below_keep hb6 _ _ p0) (by simp)) (by simp)) (by simp), cellOff (cellOff (cellOff (below_keep hb6 _ _ p1) (by simp)) (by simp)) (by simp), cellOff (cellOff (cellOff (below_keep hb6 _ _ p2) (by simp)) (by simp)) (by simp)⟩ (fun hHeld => ?_)
          clear hK K
          (try simp only [Act.put, List.getElem_toArray, List.getElem_cons_zero, List.getElem_cons_succ, List.setIfInBounds_toArray, List.set_cons_zero, List.set_cons_succ])
          refine wpAnyH_done (by kernel_rfl) ?_ _
          refine NoPanic.normal ?_
          clear hHeld
          have hbn : Below w.heap.size w u6 := hx.trans (hb6.mono hx.size)
          clear r0 r1 r2 f0 f1 f2
          go_wp2_with fail
          have hr9 := (((RR.out).set 0 (.slice B0 x.live.length d0)).set 1 (.slice B1 x.safe.length d1)).set 2 (.slice B2 x.ops.length d2)
          refine bodyPost_ret (results_cell_row (p := 2) (ty := 27) rfl _ _ (w.heap.size + 1) 27 #[.slice B0 x.live.length d0, .slice B1 x.safe.length d1, .slice B2 x.ops.length d2] (0, 0) _ rfl hr9 Try.underlying27 rfl HI.out) rfl ⟨⟨_, rfl, ?_⟩, ?_⟩
          · refine DzA.mono (base := z.heap.size) ?_ (by omega)
            refine DzA.set (DzA.set (DzA.set (show DzA _ z.heap.size _ x from ⟨_, _, _, rfl, O0_6.out, O1_6.out, O2_6.out, D1_0_4.out.symm⟩) ?_ _) ?_ _) ?_ _ <;> (show w.heap.size + 1 < z.heap.size; omega)
          · exact ((hbn.setCell (Nat.le_succ _) _).setCell (Nat.le_succ _) _).setCell (Nat.le_succ _) _
        refine AllReadyH.cons rfl (fun K hK => ?_) AllReadyH.nil
        go_simp
        have hal : Below (u3).heap.size u3 ((u3).alloc (.cells #[] 36)) := (Below.refl _ _).alloc (Nat.le_refl _) _
        have O2_4 := Lib.hid (OwnG.lit (T := 36) (sz := 4) (f := Oz.cells) (u3) (base := z.heap.size) hb3.size)
        have D2_0_4 := Lib.hid (Dis.fresh O0_3.out 0 0)
        have O0_4 := Lib.hid (OwnG.below O0_3.out hal)
        have D2_1_4 := Lib.hid (Dis.fresh O1_3.out 0 0)
        have O1_4 := Lib.hid (OwnG.below O1_3.out hal)
        have hb4 := hb3.alloc hb3.size (.cells #[] 36)
        clear hal
        generalize (u3).alloc (.cells #[] 36) = u4 at *
        refine hK.out _ _ ⟨below_keep hb4 _ _ p0, below_keep hb4 _ _ p1, below_keep hb4 _ _ p2⟩ (fun hHeld => ?_)
        clear hK K
        (try simp only [Act.put, List.getElem_toArray, List.getElem_cons_zero, List.getElem_cons_succ, List.setIfInBounds_toArray, List.set_cons_zero, List.set_cons_succ])
        refine wpAnyH_ready (rs := [7]) (by kernel_rfl) (by simp) ?_
        refine AllReadyH.cons rfl (fun K hK => ?_) AllReadyH.nil
        obtain ⟨v1, u5, hr1, o1, hg1, hl1⟩ := run_app_all fz_cells fz_one (by omega) Try.underlying24 H1.out H2.out H3.out H4.out rfl (u4) 24 O1_4.out hb4.size (c := c1) (h1.below FzR.stays (hx.trans (hb4.mono hx.size))) hln1 (by omega)
        refine step_append_run rfl (.tmp 7) (.tmp 9) 24 24 rfl rfl rfl hr1 ?_
        have hb5 := hb4.grown hg1 hb4.size (fun k hk => (OwnG.block_lt O1_4.out k hk).1)
        have D1_0_5 := Lib.hid (Dis.app O0_4.out (D1_0_3.out) hl1)
        have O0_5 := Lib.hid (OwnG.keptD O0_4.out hg1 (D1_0_3.out))
        have D1_2_5 := Lib.hid (Dis.app O2_4.out (D2_1_4.out.symm) hl1)
        have O2_5 := Lib.hid (OwnG.keptD O2_4.out hg1 (D2_1_4.out.symm))
        have O1_5 := Lib.hid o1
        obtain ⟨B1, d1, e1, -, -, -⟩ := (show OwnZ u5 z.heap.size v1 _ from o1).sl
        subst e1
        clear o1 hr1 hg1 hl1
        refine hK.out _ _ ⟨below_keep hb5 _ _ p0, below_keep hb5 _ _ p1, below_keep hb5 _ _ p2⟩ (fun hHeld => ?_)
        clear hK K
        (try simp only [Act.put, List.getElem_toArray, List.getElem_cons_zero, List.getElem_cons_succ, List.setIfInBounds_toArray, List.set_cons_zero, List.set_cons_succ])
        refine wpAnyH_ready (rs := [11]) (by kernel_rfl) (by simp) ?_
        refine AllReadyH.cons rfl (fun K hK => ?_) AllReadyH.nil
        obtain ⟨v2, u6, hr2, o2, hg2, hl2⟩ := run_app_all oz_cells oz_one (by omega) Try.underlying25 J1.out J2.out J3.out J4.out rfl (u5) 25 O2_5.out hb5.size (c := c2) (h2.below OzR.stays (hx.trans (hb5.mono hx.size))) hln2 (by omega)
        refine step_append_run rfl (.tmp 11) (.tmp 13) 25 25 rfl rfl rfl hr2 ?_
        have hb6 := hb5.grown hg2 hb5.size (fun k hk => (OwnG.block_lt O2_5.out k hk).1)
        have D2_0_6 := Lib.hid (Dis.app O0_5.out (D2_0_4.out) hl2)
        have O0_6 := Lib.hid (OwnG.keptD O0_5.out hg2 (D2_0_4.out))
        have D2_1_6 := Lib.hid (Dis.app O1_5.out (D1_2_5.out.symm) hl2)
        have O1_6 := Lib.hid (OwnG.keptD O1_5.out hg2 (D1_2_5.out.symm))
        have O2_6 := Lib.hid o2
        obtain ⟨B2, d2, e2, -, -, -⟩ := (show OwnO u6 z.heap.size v2 _ from o2).sl
        subst e2
        clear o2 hr2 hg2 hl2
        have rr := rb.below hb6
        obtain ⟨⟨r0, r1, r2⟩, ⟨f0, f1, f2⟩⟩ := rr.three
        have RR := Lib.hid rr
        clear rr
        refine hK.out _ _ ⟨below_keep hb6 _ _ p0, below_keep hb6 _ _ p1, below_keep hb6 _ _ p2⟩ (fun hHeld => ?_)
        clear hK K
        (try simp only [Act.put, List.getElem_toArray, List.getElem_cons_zero, List.getElem_cons_succ, List.setIfInBounds_toArray, List.set_cons_zero, List.set_cons_succ])
        refine wpAnyH_take (i := 12) (v := ?v8) rfl (by kernel_rfl) (by kernel_rfl) (by kernel_rfl) (fun _ _ _ h => h) (Or.inl ⟨by rfl, ?hy8⟩) hHeld ?rest8
        case hy8 => (intro w' hSw; (try dsimp only at hSw); first | (go_simp; done) | (go_simp; with_reducible rfl))
        simp only [Act.put, List.getElem_toArray, List.getElem_cons_zero, List.getElem_cons_succ, List.setIfInBounds_toArray, List.set_cons_zero, List.set_cons_succ]
        refine wpAnyH_ready (rs := [13]) (by kernel_rfl) (by simp) ?_
        refine AllReadyH.cons rfl (fun K hK => ?_) AllReadyH.nil
        go_simp
        refine hK.out _ _ ⟨cellOff (cellOff (cellOff (below_keep hb6 _ _ p0) (by simp)) (by simp)) (by simp), cellOff (cellOff (cellOff (below_keep hb6 _ _ p1) (by simp)) (by simp)) (by simp), cellOff (cellOff (cellOff (below_keep hb6 _ _ p2) (by simp)) (by simp)) (by simp)⟩ (fun hHeld => ?_)
        clear hK K
        (try simp only [Act.put, List.getElem_toArray, List.getElem_cons_zero, List.getElem_cons_succ, List.setIfInBounds_toArray, List.set_cons_zero, List.set_cons_succ])
        refine wpAnyH_done (by kernel_rfl) ?_ _
        refine NoPanic.normal ?_
        clear hHeld
        have hbn : Below w.heap.size w u6 := hx.trans (hb6.mono hx.size)
        clear r0 r1 r2 f0 f1 f2
        go_wp2_with fail
        have hr9 := (((RR.out).set 0 (.slice B0 x.live.length d0)).set 1 (.slice B1 x.safe.length d1)).set 2 (.slice B2 x.ops.length d2)
        refine bodyPost_ret (results_cell_row (p := 2) (ty := 27) rfl _ _ (w.heap.size + 1) 27 #[.slice B0 x.live.length d0, .slice B1 x.safe.length d1, .slice B2 x.ops.length d2] (0, 0) _ rfl hr9 Try.underlying27 rfl HI.out) rfl ⟨⟨_, rfl, ?_⟩, ?_⟩
        · refine DzA.mono (base := z.heap.size) ?_ (by omega)
          refine DzA.set (DzA.set (DzA.set (show DzA _ z.heap.size _ x from ⟨_, _, _, rfl, O0_6.out, O1_6.out, O2_6.out, D1_0_5.out.symm⟩) ?_ _) ?_ _) ?_ _ <;> (show w.heap.size + 1 < z.heap.size; omega)
        · exact ((hbn.setCell (Nat.le_succ _) _).setCell (Nat.le_succ _) _).setCell (Nat.le_succ _) _
      refine AllReadyH.cons rfl (fun K hK => ?_) AllReadyH.nil
      go_simp
      have hal : Below (u2).heap.size u2 ((u2).alloc (.cells #[] 36)) := (Below.refl _ _).alloc (Nat.le_refl _) _
      have O2_3 := Lib.hid (OwnG.lit (T := 36) (sz := 4) (f := Oz.cells) (u2) (base := z.heap.size) hb2.size)
      have D2_0_3 := Lib.hid (Dis.fresh O0_2.out 0 0)
      have O0_3 := Lib.hid (OwnG.below O0_2.out hal)
      have hb3 := hb2.alloc hb2.size (.cells #[] 36)
      clear hal
      generalize (u2).alloc (.cells #[] 36) = u3 at *
      refine hK.out _ _ ⟨below_keep hb3 _ _ p0, below_keep hb3 _ _ p1, below_keep hb3 _ _ p2⟩ (fun hHeld => ?_)
      clear hK K
      (try simp only [Act.put, List.getElem_toArray, List.getElem_cons_zero, List.getElem_cons_succ, List.setIfInBounds_toArray, List.set_cons_zero, List.set_cons_succ])
      refine wpAnyH_ready (rs := [4]) (by kernel_rfl) (by simp) ?_
      refine AllReadyH.cons rfl (fun K hK => ?_) AllReadyH.nil
      go_simp
      have hal : Below (u3).heap.size u3 ((u3).alloc (.cells #[] 75)) := (Below.refl _ _).alloc (Nat.le_refl _) _
      have O1_4 := Lib.hid (OwnG.lit (T := 75) (sz := 2) (f := Fz.cells) (u3) (base := z.heap.size) hb3.size)
      have D1_0_4 := Lib.hid (Dis.fresh O0_3.out 0 0)
      have O0_4 := Lib.hid (OwnG.below O0_3.out hal)
      have D1_2_4 := Lib.hid (Dis.fresh O2_3.out 0 0)
      have O2_4 := Lib.hid (OwnG.below O2_3.out hal)
      have hb4 := hb3.alloc hb3.size (.cells #[] 75)
      clear hal
      generalize (u3).alloc (.cells #[] 75) = u4 at *
      refine hK.out _ _ ⟨below_keep hb4 _ _ p0, below_keep hb4 _ _ p1, below_keep hb4 _ _ p2⟩ (fun hHeld => ?_)
      clear hK K
      (try simp only [Act.put, List.getElem_toArray, List.getElem_cons_zero, List.getElem_cons_succ, List.setIfInBounds_toArray, List.set_cons_zero, List.set_cons_succ])
      refine wpAnyH_ready (rs := [7]) (by kernel_rfl) (by simp) ?_
      refine AllReadyH.cons rfl (fun K hK => ?_) AllReadyH.nil
      obtain ⟨v1, u5, hr1, o1, hg1, hl1⟩ := run_app_all fz_cells fz_one (by omega) Try.underlying24 H1.out H2.out H3.out H4.out rfl (u4) 24 O1_4.out hb4.size (c := c1) (h1.below FzR.stays (hx.trans (hb4.mono hx.size))) hln1 (by omega)
      refine step_append_run rfl (.tmp 7) (.tmp 9) 24 24 rfl rfl rfl hr1 ?_
      have hb5 := hb4.grown hg1 hb4.size (fun k hk => (OwnG.block_lt O1_4.out k hk).1)
      have D1_0_5 := Lib.hid (Dis.app O0_4.out (D1_0_4.out) hl1)
      have O0_5 := Lib.hid (OwnG.keptD O0_4.out hg1 (D1_0_4.out))
      have D1_2_5 := Lib.hid (Dis.app O2_4.out (D1_2_4.out) hl1)
      have O2_5 := Lib.hid (OwnG.keptD O2_4.out hg1 (D1_2_4.out))
      have O1_5 := Lib.hid o1
      obtain ⟨B1, d1, e1, -, -, -⟩ := (show OwnZ u5 z.heap.size v1 _ from o1).sl
      subst e1
      clear o1 hr1 hg1 hl1
      refine hK.out _ _ ⟨below_keep hb5 _ _ p0, below_keep hb5 _ _ p1, below_keep hb5 _ _ p2⟩ (fun hHeld => ?_)
      clear hK K
      (try simp only [Act.put, List.getElem_toArray, List.getElem_cons_zero, List.getElem_cons_succ, List.setIfInBounds_toArray, List.set_cons_zero, List.set_cons_succ])
      refine wpAnyH_ready (rs := [11]) (by kernel_rfl) (by simp) ?_
      refine AllReadyH.cons rfl (fun K hK => ?_) AllReadyH.nil
      obtain ⟨v2, u6, hr2, o2, hg2, hl2⟩ := run_app_all oz_cells oz_one (by omega) Try.underlying25 J1.out J2.out J3.out J4.out rfl (u5) 25 O2_5.out hb5.size (c := c2) (h2.below OzR.stays (hx.trans (hb5.mono hx.size))) hln2 (by omega)
      refine step_append_run rfl (.tmp 11) (.tmp 13) 25 25 rfl rfl rfl hr2 ?_
      have hb6 := hb5.grown hg2 hb5.size (fun k hk => (OwnG.block_lt O2_5.out k hk).1)
      have D2_0_6 := Lib.hid (Dis.app O0_5.out (D2_0_3.out) hl2)
      have O0_6 := Lib.hid (OwnG.keptD O0_5.out hg2 (D2_0_3.out))
      have D2_1_6 := Lib.hid (Dis.app O1_5.out (D1_2_5.out.symm) hl2)
      have O1_6 := Lib.hid (OwnG.keptD O1_5.out hg2 (D1_2_5.out.symm))
      have O2_6 := Lib.hid o2
      obtain ⟨B2, d2, e2, -, -, -⟩ := (show OwnO u6 z.heap.size v2 _ from o2).sl
      subst e2
      clear o2 hr2 hg2 hl2
      have rr := rb.below hb6
      obtain ⟨⟨r0, r1, r2⟩, ⟨f0, f1, f2⟩⟩ := rr.three
      have RR := Lib.hid rr
      clear rr
      refine hK.out _ _ ⟨below_keep hb6 _ _ p0, below_keep hb6 _ _ p1, below_keep hb6 _ _ p2⟩ (fun hHeld => ?_)
      clear hK K
      (try simp only [Act.put, List.getElem_toArray, List.getElem_cons_zero, List.getElem_cons_succ, List.setIfInBounds_toArray, List.set_cons_zero, List.set_cons_succ])
      refine wpAnyH_take (i := 12) (v := ?v9) rfl (by kernel_rfl) (by kernel_rfl) (by kernel_rfl) (fun _ _ _ h => h) (Or.inl ⟨by rfl, ?hy9⟩) hHeld ?rest9
      case hy9 => (intro w' hSw; (try dsimp only at hSw); first | (go_simp; done) | (go_simp; with_reducible rfl))
      simp only [Act.put, List.getElem_toArray, List.getElem_cons_zero, List.getElem_cons_succ, List.setIfInBounds_toArray, List.set_cons_zero, List.set_cons_succ]
      refine wpAnyH_ready (rs := [13]) (by kernel_rfl) (by simp) ?_
      refine AllReadyH.cons rfl (fun K hK => ?_) AllReadyH.nil
      go_simp
      refine hK.out _ _ ⟨cellOff (cellOff (cellOff (below_keep hb6 _ _ p0) (by simp)) (by simp)) (by simp), cellOff (cellOff (cellOff (below_keep hb6 _ _ p1) (by simp)) (by simp)) (by simp), cellOff (cellOff (cellOff (below_keep hb6 _ _ p2) (by simp)) (by simp)) (by simp)⟩ (fun hHeld => ?_)
      clear hK K
      (try simp only [Act.put, List.getElem_toArray, List.getElem_cons_zero, List.getElem_cons_succ, List.setIfInBounds_toArray, List.set_cons_zero, List.set_cons_succ])
      refine wpAnyH_done (by kernel_rfl) ?_ _
      refine NoPanic.normal ?_
      clear hHeld
      have hbn : Below w.heap.size w u6 := hx.trans (hb6.mono hx.size)
      clear r0 r1 r2 f0 f1 f2
      go_wp2_with fail
      have hr9 := (((RR.out).set 0 (.slice B0 x.live.length d0)).set 1 (.slice B1 x.safe.length d1)).set 2 (.slice B2 x.ops.length d2)
      refine bodyPost_ret (results_cell_row (p := 2) (ty := 27) rfl _ _ (w.heap.size + 1) 27 #[.slice B0 x.live.length d0, .slice B1 x.safe.length d1, .slice B2 x.ops.length d2] (0, 0) _ rfl hr9 Try.underlying27 rfl HI.out) rfl ⟨⟨_, rfl, ?_⟩, ?_⟩
      · refine DzA.mono (base := z.heap.size) ?_ (by omega)
        refine DzA.set (DzA.set (DzA.set (show DzA _ z.heap.size _ x from ⟨_, _, _, rfl, O0_6.out, O1_6.out, O2_6.out, D1_0_5.out.symm⟩) ?_ _) ?_ _) ?_ _ <;> (show w.heap.size + 1 < z.heap.size; omega)
      · exact ((hbn.setCell (Nat.le_succ _) _).setCell (Nat.le_succ _) _).setCell (Nat.le_succ _) _
    refine AllReadyH.cons rfl (fun K hK => ?_) ?_
    · go_simp
      have hal : Below (u1).heap.size u1 ((u1).alloc (.cells #[] 75)) := (Below.refl _ _).alloc (Nat.le_refl _) _
      have O1_2 := Lib.hid (OwnG.lit (T := 75) (sz := 2) (f := Fz.cells) (u1) (base := z.heap.size) hb1.size)
      have D1_0_2 := Lib.hid (Dis.fresh O0_1.out 0 0)
      have O0_2 := Lib.hid (OwnG.below O0_1.out hal)
      have hb2 := hb1.alloc hb1.size (.cells #[] 75)
      clear hal
      generalize (u1).alloc (.cells #[] 75) = u2 at *
      refine hK.out _ _ ⟨below_keep hb2 _ _ p0, below_keep hb2 _ _ p1, below_keep hb2 _ _ p2⟩ (fun hHeld => ?_)
      clear hK K
      (try simp only [Act.put, List.getElem_toArray, List.getElem_cons_zero, List.getElem_cons_succ, List.setIfInBounds_toArray, List.set_cons_zero, List.set_cons_succ])
      refine wpAnyH_ready (rs := [3, 8]) (by kernel_rfl) (by simp) ?_
      refine AllReadyH.cons rfl (fun K hK => ?_) ?_
      · obtain ⟨v0, u3, hr0, o0, hg0, hl0⟩ := run_app_all fz_cells fz_one (by omega) Try.underlying24 H1.out H2.out H3.out H4.out rfl (u2) 24 O0_2.out hb2.size (c := c0) (h0.below FzR.stays (hx.trans (hb2.mono hx.size))) hln0 (by omega)
        refine step_append_run rfl (.tmp 3) (.tmp 5) 24 24 rfl rfl rfl hr0 ?_
        have hb3 := hb2.grown hg0 hb2.size (fun k hk => (OwnG.block_lt O0_2.out k hk).1)
        have D0_1_3 := Lib.hid (Dis.app O1_2.out (D1_0_2.out.symm) hl0)
        have O1_3 := Lib.hid (OwnG.keptD O1_2.out hg0 (D1_0_2.out.symm))
        have O0_3 := Lib.hid o0
        obtain ⟨B0, d0, e0, -, -, -⟩ := (show OwnZ u3 z.heap.size v0 _ from o0).sl
        subst e0
        clear o0 hr0 hg0 hl0
        refine hK.out _ _ ⟨below_keep hb3 _ _ p0, below_keep hb3 _ _ p1, below_keep hb3 _ _ p2⟩ (fun hHeld => ?_)
        clear hK K
        (try simp only [Act.put, List.getElem_toArray, List.getElem_cons_zero, List.getElem_cons_succ, List.setIfInBounds_toArray, List.set_cons_zero, List.set_cons_succ])
        refine wpAnyH_ready (rs := [7, 8]) (by kernel_rfl) (by simp) ?_
        refine AllReadyH.cons rfl (fun K hK => ?_) ?_
        · obtain ⟨v1, u4, hr1, o1, hg1, hl1⟩ := run_app_all fz_cells fz_one (by omega) Try.underlying24 H1.out H2.out H3.out H4.out rfl (u3) 24 O1_3.out hb3.size (c := c1) (h1.below FzR.stays (hx.trans (hb3.mono hx.size))) hln1 (by omega)
          refine step_append_run rfl (.tmp 7) (.tmp 9) 24 24 rfl rfl rfl hr1 ?_
          have hb4 := hb3.grown hg1 hb3.size (fun k hk => (OwnG.block_lt O1_3.out k hk).1)
          have D1_0_4 := Lib.hid (Dis.app O0_3.out (D0_1_3.out.symm) hl1)
          have O0_4 := Lib.hid (OwnG.keptD O0_3.out hg1 (D0_1_3.out.symm))
          have O1_4 := Lib.hid o1
          obtain ⟨B1, d1, e1, -, -, -⟩ := (show OwnZ u4 z.heap.size v1 _ from o1).sl
          subst e1
          clear o1 hr1 hg1 hl1
          refine hK.out _ _ ⟨below_keep hb4 _ _ p0, below_keep hb4 _ _ p1, below_keep hb4 _ _ p2⟩ (fun hHeld => ?_)
          clear hK K
          (try simp only [Act.put, List.getElem_toArray, List.getElem_cons_zero, List.getElem_cons_succ, List.setIfInBounds_toArray, List.set_cons_zero, List.set_cons_succ])
          refine wpAnyH_ready (rs := [8]) (by kernel_rfl) (by simp) ?_
          refine AllReadyH.cons rfl (fun K hK => ?_) AllReadyH.nil
          go_simp
          have hal : Below (u4).heap.size u4 ((u4).alloc (.cells #[] 36)) := (Below.refl _ _).alloc (Nat.le_refl _) _
          have O2_5 := Lib.hid (OwnG.lit (T := 36) (sz := 4) (f := Oz.cells) (u4) (base := z.heap.size) hb4.size)
          have D2_0_5 := Lib.hid (Dis.fresh O0_4.out 0 0)
          have O0_5 := Lib.hid (OwnG.below O0_4.out hal)
          have D2_1_5 := Lib.hid (Dis.fresh O1_4.out 0 0)
          have O1_5 := Lib.hid (OwnG.below O1_4.out hal)
          have hb5 := hb4.alloc hb4.size (.cells #[] 36)
          clear hal
          generalize (u4).alloc (.cells #[] 36) = u5 at *
          refine hK.out _ _ ⟨below_keep hb5 _ _ p0, below_keep hb5 _ _ p1, below_keep hb5 _ _ p2⟩ (fun hHeld => ?_)
          clear hK K
          (try simp only [Act.put, List.getElem_toArray, List.getElem_cons_zero, List.getElem_cons_succ, List.setIfInBounds_toArray, List.set_cons_zero, List.set_cons_succ])
          refine wpAnyH_ready (rs := [11]) (by kernel_rfl) (by simp) ?_
          refine AllReadyH.cons rfl (fun K hK => ?_) AllReadyH.nil
          obtain ⟨v2, u6, hr2, o2, hg2, hl2⟩ := run_app_all oz_cells oz_one (by omega) Try.underlying25 J1.out J2.out J3.out J4.out rfl (u5) 25 O2_5.out hb5.size (c := c2) (h2.below OzR.stays (hx.trans (hb5.mono hx.size))) hln2 (by omega)
          refine step_append_run rfl (.tmp 11) (.tmp 13) 25 25 rfl rfl rfl hr2 ?_
          have hb6 := hb5.grown hg2 hb5.size (fun k hk => (OwnG.block_lt O2_5.out k hk).1)
          have D2_0_6 := Lib.hid (Dis.app O0_5.out (D2_0_5.out) hl2)
          have O0_6 := Lib.hid (OwnG.keptD O0_5.out hg2 (D2_0_5.out))
          have D2_1_6 := Lib.hid (Dis.app O1_5.out (D2_1_5.out) hl2)
          have O1_6 := Lib.hid (OwnG.keptD O1_5.out hg2 (D2_1_5.out))
          have O2_6 := Lib.hid o2
          obtain ⟨B2, d2, e2, -, -, -⟩ := (show OwnO u6 z.heap.size v2 _ from o2).sl
          subst e2
          clear o2 hr2 hg2 hl2
          have rr := rb.below hb6
          obtain ⟨⟨r0, r1, r2⟩, ⟨f0, f1, f2⟩⟩ := rr.three
          have RR := Lib.hid rr
          clear rr
          refine hK.out _ _ ⟨below_keep hb6 _ _ p0, below_keep hb6 _ _ p1, below_keep hb6 _ _ p2⟩ (fun hHeld => ?_)
          clear hK K
          (try simp only [Act.put, List.getElem_toArray, List.getElem_cons_zero, List.getElem_cons_succ, List.setIfInBounds_toArray, List.set_cons_zero, List.set_cons_succ])
          refine wpAnyH_take (i := 12) (v := ?v10) rfl (by kernel_rfl) (by kernel_rfl) (by kernel_rfl) (fun _ _ _ h => h) (Or.inl ⟨by rfl, ?hy10⟩) hHeld ?rest10
          case hy10 => (intro w' hSw; (try dsimp only at hSw); first | (go_simp; done) | (go_simp; with_reducible rfl))
          simp only [Act.put, List.getElem_toArray, List.getElem_cons_zero, List.getElem_cons_succ, List.setIfInBounds_toArray, List.set_cons_zero, List.set_cons_succ]
          refine wpAnyH_ready (rs := [13]) (by kernel_rfl) (by simp) ?_
          refine AllReadyH.cons rfl (fun K hK => ?_) AllReadyH.nil
          go_simp
          refine hK.out _ _ ⟨cellOff (cellOff (cellOff (below_keep hb6 _ _ p0) (by simp)) (by simp)) (by simp), cellOff (cellOff (cellOff (below_keep hb6 _ _ p1) (by simp)) (by simp)) (by simp), cellOff (cellOff (cellOff (below_keep hb6 _ _ p2) (by simp)) (by simp)) (by simp)⟩ (fun hHeld => ?_)
          clear hK K
          (try simp only [Act.put, List.getElem_toArray, List.getElem_cons_zero, List.getElem_cons_succ, List.setIfInBounds_toArray, List.set_cons_zero, List.set_cons_succ])
          refine wpAnyH_done (by kernel_rfl) ?_ _
          refine NoPanic.normal ?_
          clear hHeld
          have hbn : Below w.heap.size w u6 := hx.trans (hb6.mono hx.size)
          clear r0 r1 r2 f0 f1 f2
          go_wp2_with fail
          have hr9 := (((RR.out).set 0 (.slice B0 x.live.length d0)).set 1 (.slice B1 x.safe.length d1)).set 2 (.slice B2 x.ops.length d2)
          refine bodyPost_ret (results_cell_row (p := 2) (ty := 27) rfl _ _ (w.heap.size + 1) 27 #[.slice B0 x.live.length d0, .slice B1 x.safe.length d1, .slice B2 x.ops.length d2] (0, 0) _ rfl hr9 Try.underlying27 rfl HI.out) rfl ⟨⟨_, rfl, ?_⟩, ?_⟩
          · refine DzA.mono (base := z.heap.size) ?_ (by omega)
            refine DzA.set (DzA.set (DzA.set (show DzA _ z.heap.size _ x from ⟨_, _, _, rfl, O0_6.out, O1_6.out, O2_6.out, D1_0_4.out.symm⟩) ?_ _) ?_ _) ?_ _ <;> (show w.heap.size + 1 < z.heap.size; omega)
          · exact ((hbn.setCell (Nat.le_succ _) _).setCell (Nat.le_succ _) _).setCell (Nat.le_succ _) _
        refine AllReadyH.cons rfl (fun K hK => ?_) AllReadyH.nil
        go_simp
        have hal : Below (u3).heap.size u3 ((u3).alloc (.cells #[] 36)) := (Below.refl _ _).alloc (Nat.le_refl _) _
        have O2_4 := Lib.hid (OwnG.lit (T := 36) (sz := 4) (f := Oz.cells) (u3) (base := z.heap.size) hb3.size)
        have D2_0_4 := Lib.hid (Dis.fresh O0_3.out 0 0)
        have O0_4 := Lib.hid (OwnG.below O0_3.out hal)
        have D2_1_4 := Lib.hid (Dis.fresh O1_3.out 0 0)
        have O1_4 := Lib.hid (OwnG.below O1_3.out hal)
        have hb4 := hb3.alloc hb3.size (.cells #[] 36)
        clear hal
        generalize (u3).alloc (.cells #[] 36) = u4 at *
        refine hK.out _ _ ⟨below_keep hb4 _ _ p0, below_keep hb4 _ _ p1, below_keep hb4 _ _ p2⟩ (fun hHeld => ?_)
        clear hK K
        (try simp only [Act.put, List.getElem_toArray, List.getElem_cons_zero, List.getElem_cons_succ, List.setIfInBounds_toArray, List.set_cons_zero, List.set_cons_succ])
        refine wpAnyH_ready (rs := [7]) (by kernel_rfl) (by simp) ?_
        refine AllReadyH.cons rfl (fun K hK => ?_) AllReadyH.nil
        obtain ⟨v1, u5, hr1, o1, hg1, hl1⟩ := run_app_all fz_cells fz_one (by omega) Try.underlying24 H1.out H2.out H3.out H4.out rfl (u4) 24 O1_4.out hb4.size (c := c1) (h1.below FzR.stays (hx.trans (hb4.mono hx.size))) hln1 (by omega)
        refine step_append_run rfl (.tmp 7) (.tmp 9) 24 24 rfl rfl rfl hr1 ?_
        have hb5 := hb4.grown hg1 hb4.size (fun k hk => (OwnG.block_lt O1_4.out k hk).1)
        have D1_0_5 := Lib.hid (Dis.app O0_4.out (D0_1_3.out.symm) hl1)
        have O0_5 := Lib.hid (OwnG.keptD O0_4.out hg1 (D0_1_3.out.symm))
        have D1_2_5 := Lib.hid (Dis.app O2_4.out (D2_1_4.out.symm) hl1)
        have O2_5 := Lib.hid (OwnG.keptD O2_4.out hg1 (D2_1_4.out.symm))
        have O1_5 := Lib.hid o1
        obtain ⟨B1, d1, e1, -, -, -⟩ := (show OwnZ u5 z.heap.size v1 _ from o1).sl
        subst e1
        clear o1 hr1 hg1 hl1
        refine hK.out _ _ ⟨below_keep hb5 _ _ p0, below_keep hb5 _ _ p1, below_keep hb5 _ _ p2⟩ (fun hHeld => ?_)
        clear hK K
        (try simp only [Act.put, List.getElem_toArray, List.getElem_cons_zero, List.getElem_cons_succ, List.setIfInBounds_toArray, List.set_cons_zero, List.set_cons_succ])
        refine wpAnyH_ready (rs := [11]) (by kernel_rfl) (by simp) ?_
        refine AllReadyH.cons rfl (fun K hK => ?_) AllReadyH.nil
        obtain ⟨v2, u6, hr2, o2, hg2, hl2⟩ := run_app_all oz_cells oz_one (by omega) Try.underlying25 J1.out J2.out J3.out J4.out rfl (u5) 25 O2_5.out hb5.size (c := c2) (h2.below OzR.stays (hx.trans (hb5.mono hx.size))) hln2 (by omega)
        refine step_append_run rfl (.tmp 11) (.tmp 13) 25 25 rfl rfl rfl hr2 ?_
        have hb6 := hb5.grown hg2 hb5.size (fun k hk => (OwnG.block_lt O2_5.out k hk).1)
        have D2_0_6 := Lib.hid (Dis.app O0_5.out (D2_0_4.out) hl2)
        have O0_6 := Lib.hid (OwnG.keptD O0_5.out hg2 (D2_0_4.out))
        have D2_1_6 := Lib.hid (Dis.app O1_5.out (D1_2_5.out.symm) hl2)
        have O1_6 := Lib.hid (OwnG.keptD O1_5.out hg2 (D1_2_5.out.symm))
        have O2_6 := Lib.hid o2
        obtain ⟨B2, d2, e2, -, -, -⟩ := (show OwnO u6 z.heap.size v2 _ from o2).sl
        subst e2
        clear o2 hr2 hg2 hl2
        have rr := rb.below hb6
        obtain ⟨⟨r0, r1, r2⟩, ⟨f0, f1, f2⟩⟩ := rr.three
        have RR := Lib.hid rr
        clear rr
        refine hK.out _ _ ⟨below_keep hb6 _ _ p0, below_keep hb6 _ _ p1, below_keep hb6 _ _ p2⟩ (fun hHeld => ?_)
        clear hK K
        (try simp only [Act.put, List.getElem_toArray, List.getElem_cons_zero, List.getElem_cons_succ, List.setIfInBounds_toArray, List.set_cons_zero, List.set_cons_succ])
        refine wpAnyH_take (i := 12) (v := ?v11) rfl (by kernel_rfl) (by kernel_rfl) (by kernel_rfl) (fun _ _ _ h => h) (Or.inl ⟨by rfl, ?hy11⟩) hHeld ?rest11
        case hy11 => (intro w' hSw; (try dsimp only at hSw); first | (go_simp; done) | (go_simp; with_reducible rfl))
        simp only [Act.put, List.getElem_toArray, List.getElem_cons_zero, List.getElem_cons_succ, List.setIfInBounds_toArray, List.set_cons_zero, List.set_cons_succ]
        refine wpAnyH_ready (rs := [13]) (by kernel_rfl) (by simp) ?_
        refine AllReadyH.cons rfl (fun K hK => ?_) AllReadyH.nil
        go_simp
        refine hK.out _ _ ⟨cellOff (cellOff (cellOff (below_keep hb6 _ _ p0) (by simp)) (by simp)) (by simp), cellOff (cellOff (cellOff (below_keep hb6 _ _ p1) (by simp)) (by simp)) (by simp), cellOff (cellOff (cellOff (below_keep hb6 _ _ p2) (by simp)) (by simp)) (by simp)⟩ (fun hHeld => ?_)
        clear hK K
        (try simp only [Act.put, List.getElem_toArray, List.getElem_cons_zero, List.getElem_cons_succ, List.setIfInBounds_toArray, List.set_cons_zero, List.set_cons_succ])
        refine wpAnyH_done (by kernel_rfl) ?_ _
        refine NoPanic.normal ?_
        clear hHeld
        have hbn : Below w.heap.size w u6 := hx.trans (hb6.mono hx.size)
        clear r0 r1 r2 f0 f1 f2
        go_wp2_with fail
        have hr9 := (((RR.out).set 0 (.slice B0 x.live.length d0)).set 1 (.slice B1 x.safe.length d1)).set 2 (.slice B2 x.ops.length d2)
        refine bodyPost_ret (results_cell_row (p := 2) (ty := 27) rfl _ _ (w.heap.size + 1) 27 #[.slice B0 x.live.length d0, .slice B1 x.safe.length d1, .slice B2 x.ops.length d2] (0, 0) _ rfl hr9 Try.underlying27 rfl HI.out) rfl ⟨⟨_, rfl, ?_⟩, ?_⟩
        · refine DzA.mono (base := z.heap.size) ?_ (by omega)
          refine DzA.set (DzA.set (DzA.set (show DzA _ z.heap.size _ x from ⟨_, _, _, rfl, O0_6.out, O1_6.out, O2_6.out, D1_0_5.out.symm⟩) ?_ _) ?_ _) ?_ _ <;> (show w.heap.size + 1 < z.heap.size; omega)
        · exact ((hbn.setCell (Nat.le_succ _) _).setCell (Nat.le_succ _) _).setCell (Nat.le_succ _) _
      refine AllReadyH.cons rfl (fun K hK => ?_) AllReadyH.nil
      go_simp
      have hal : Below (u2).heap.size u2 ((u2).alloc (.cells #[] 36)) := (Below.refl _ _).alloc (Nat.le_refl _) _
      have O2_3 := Lib.hid (OwnG.lit (T := 36) (sz := 4) (f := Oz.cells) (u2) (base := z.heap.size) hb2.size)
      have D2_0_3 := Lib.hid (Dis.fresh O0_2.out 0 0)
      have O0_3 := Lib.hid (OwnG.below O0_2.out hal)
      have D2_1_3 := Lib.hid (Dis.fresh O1_2.out 0 0)
      have O1_3 := Lib.hid (OwnG.below O1_2.out hal)
      have hb3 := hb2.alloc hb2.size (.cells #[] 36)
      clear hal
      generalize (u2).alloc (.cells #[] 36) = u3 at *
      refine hK.out _ _ ⟨below_keep hb3 _ _ p0, below_keep hb3 _ _ p1, below_keep hb3 _ _ p2⟩ (fun hHeld => ?_)
      clear hK K
      (try simp only [Act.put, List.getElem_toArray, List.getElem_cons_zero, List.getElem_cons_succ, List.setIfInBounds_toArray, List.set_cons_zero, List.set_cons_succ])
      refine wpAnyH_ready (rs := [3]) (by kernel_rfl) (by simp) ?_
      refine AllReadyH.cons rfl (fun K hK => ?_) AllReadyH.nil
      obtain ⟨v0, u4, hr0, o0, hg0, hl0⟩ := run_app_all fz_cells fz_one (by omega) Try.underlying24 H1.out H2.out H3.out H4.out rfl (u3) 24 O0_3.out hb3.size (c := c0) (h0.below FzR.stays (hx.trans (hb3.mono hx.size))) hln0 (by omega)
      refine step_append_run rfl (.tmp 3) (.tmp 5) 24 24 rfl rfl rfl hr0 ?_
      have hb4 := hb3.grown hg0 hb3.size (fun k hk => (OwnG.block_lt O0_3.out k hk).1)
      have D0_1_4 := Lib.hid (Dis.app O1_3.out (D1_0_2.out.symm) hl0)
      have O1_4 := Lib.hid (OwnG.keptD O1_3.out hg0 (D1_0_2.out.symm))
      have D0_2_4 := Lib.hid (Dis.app O2_3.out (D2_0_3.out.symm) hl0)
      have O2_4 := Lib.hid (OwnG.keptD O2_3.out hg0 (D2_0_3.out.symm))
      have O0_4 := Lib.hid o0
      obtain ⟨B0, d0, e0, -, -, -⟩ := (show OwnZ u4 z.heap.size v0 _ from o0).sl
      subst e0
      clear o0 hr0 hg0 hl0
      refine hK.out _ _ ⟨below_keep hb4 _ _ p0, below_keep hb4 _ _ p1, below_keep hb4 _ _ p2⟩ (fun hHeld => ?_)
      clear hK K
      (try simp only [Act.put, List.getElem_toArray, List.getElem_cons_zero, List.getElem_cons_succ, List.setIfInBounds_toArray, List.set_cons_zero, List.set_cons_succ])
      refine wpAnyH_ready (rs := [7]) (by kernel_rfl) (by simp) ?_
      refine AllReadyH.cons rfl (fun K hK => ?_) AllReadyH.nil
      obtain ⟨v1, u5, hr1, o1, hg1, hl1⟩ := run_app_all fz_cells fz_one (by omega) Try.underlying24 H1.out H2.out H3.out H4.out rfl (u4) 24 O1_4.out hb4.size (c := c1) (h1.below FzR.stays (hx.trans (hb4.mono hx.size))) hln1 (by omega)
      refine step_append_run rfl (.tmp 7) (.tmp 9) 24 24 rfl rfl rfl hr1 ?_
      have hb5 := hb4.grown hg1 hb4.size (fun k hk => (OwnG.block_lt O1_4.out k hk).1)
      have D1_0_5 := Lib.hid (Dis.app O0_4.out (D0_1_4.out.symm) hl1)
      have O0_5 := Lib.hid (OwnG.keptD O0_4.out hg1 (D0_1_4.out.symm))
      have D1_2_5 := Lib.hid (Dis.app O2_4.out (D2_1_3.out.symm) hl1)
      have O2_5 := Lib.hid (OwnG.keptD O2_4.out hg1 (D2_1_3.out.symm))
      have O1_5 := Lib.hid o1
      obtain ⟨B1, d1, e1, -, -, -⟩ := (show OwnZ u5 z.heap.size v1 _ from o1).sl
      subst e1
      clear o1 hr1 hg1 hl1
      refine hK.out _ _ ⟨below_keep hb5 _ _ p0, below_keep hb5 _ _ p1, below_keep hb5 _ _ p2⟩ (fun hHeld => ?_)
      clear hK K
      (try simp only [Act.put, List.getElem_toArray, List.getElem_cons_zero, List.getElem_cons_succ, List.setIfInBounds_toArray, List.set_cons_zero, List.set_cons_succ])
      refine wpAnyH_ready (rs := [11]) (by kernel_rfl) (by simp) ?_
      refine AllReadyH.cons rfl (fun K hK => ?_) AllReadyH.nil
      obtain ⟨v2, u6, hr2, o2, hg2, hl2⟩ := run_app_all oz_cells oz_one (by omega) Try.underlying25 J1.out J2.out J3.out J4.out rfl (u5) 25 O2_5.out hb5.size (c := c2) (h2.below OzR.stays (hx.trans (hb5.mono hx.size))) hln2 (by omega)
      refine step_append_run rfl (.tmp 11) (.tmp 13) 25 25 rfl rfl rfl hr2 ?_
      have hb6 := hb5.grown hg2 hb5.size (fun k hk => (OwnG.block_lt O2_5.out k hk).1)
      have D2_0_6 := Lib.hid (Dis.app O0_5.out (D0_2_4.out.symm) hl2)
      have O0_6 := Lib.hid (OwnG.keptD O0_5.out hg2 (D0_2_4.out.symm))
      have D2_1_6 := Lib.hid (Dis.app O1_5.out (D1_2_5.out.symm) hl2)
      have O1_6 := Lib.hid (OwnG.keptD O1_5.out hg2 (D1_2_5.out.symm))
      have O2_6 := Lib.hid o2
      obtain ⟨B2, d2, e2, -, -, -⟩ := (show OwnO u6 z.heap.size v2 _ from o2).sl
      subst e2
      clear o2 hr2 hg2 hl2
      have rr := rb.below hb6
      obtain ⟨⟨r0, r1, r2⟩, ⟨f0, f1, f2⟩⟩ := rr.three
      have RR := Lib.hid rr
      clear rr
      refine hK.out _ _ ⟨below_keep hb6 _ _ p0, below_keep hb6 _ _ p1, below_keep hb6 _ _ p2⟩ (fun hHeld => ?_)
      clear hK K
      (try simp only [Act.put, List.getElem_toArray, List.getElem_cons_zero, List.getElem_cons_succ, List.setIfInBounds_toArray, List.set_cons_zero, List.set_cons_succ])
      refine wpAnyH_take (i := 12) (v := ?v12) rfl (by kernel_rfl) (by kernel_rfl) (by kernel_rfl) (fun _ _ _ h => h) (Or.inl ⟨by rfl, ?hy12⟩) hHeld ?rest12
      case hy12 => (intro w' hSw; (try dsimp only at hSw); first | (go_simp; done) | (go_simp; with_reducible rfl))
      simp only [Act.put, List.getElem_toArray, List.getElem_cons_zero, List.getElem_cons_succ, List.setIfInBounds_toArray, List.set_cons_zero, List.set_cons_succ]
      refine wpAnyH_ready (rs := [13]) (by kernel_rfl) (by simp) ?_
      refine AllReadyH.cons rfl (fun K hK => ?_) AllReadyH.nil
      go_simp
      refine hK.out _ _ ⟨cellOff (cellOff (cellOff (below_keep hb6 _ _ p0) (by simp)) (by simp)) (by simp), cellOff (cellOff (cellOff (below_keep hb6 _ _ p1) (by simp)) (by simp)) (by simp), cellOff (cellOff (cellOff (below_keep hb6 _ _ p2) (by simp)) (by simp)) (by simp)⟩ (fun hHeld => ?_)
      clear hK K
      (try simp only [Act.put, List.getElem_toArray, List.getElem_cons_zero, List.getElem_cons_succ, List.setIfInBounds_toArray, List.set_cons_zero, List.set_cons_succ])
      refine wpAnyH_done (by kernel_rfl) ?_ _
      refine NoPanic.normal ?_
      clear hHeld
      have hbn : Below w.heap.size w u6 := hx.trans (hb6.mono hx.size)
      clear r0 r1 r2 f0 f1 f2
      go_wp2_with fail
      have hr9 := (((RR.out).set 0 (.slice B0 x.live.length d0)).set 1 (.slice B1 x.safe.length d1)).set 2 (.slice B2 x.ops.length d2)
      refine bodyPost_ret (results_cell_row (p := 2) (ty := 27) rfl _ _ (w.heap.size + 1) 27 #[.slice B0 x.live.length d0, .slice B1 x.safe.length d1, .slice B2 x.ops.length d2] (0, 0) _ rfl hr9 Try.underlying27 rfl HI.out) rfl ⟨⟨_, rfl, ?_⟩, ?_⟩
      · refine DzA.mono (base := z.heap.size) ?_ (by omega)
        refine DzA.set (DzA.set (DzA.set (show DzA _ z.heap.size _ x from ⟨_, _, _, rfl, O0_6.out, O1_6.out, O2_6.out, D1_0_5.out.symm⟩) ?_ _) ?_ _) ?_ _ <;> (show w.heap.size + 1 < z.heap.size; omega)
      · exact ((hbn.setCell (Nat.le_succ _) _).setCell (Nat.le_succ _) _).setCell (Nat.le_succ _) _
    refine AllReadyH.cons rfl (fun K hK => ?_) AllReadyH.nil
    go_simp
    have hal : Below (u1).heap.size u1 ((u1).alloc (.cells #[] 36)) := (Below.refl _ _).alloc (Nat.le_refl _) _
    have O2_2 := Lib.hid (OwnG.lit (T := 36) (sz := 4) (f := Oz.cells) (u1) (base := z.heap.size) hb1.size)
    have D2_0_2 := Lib.hid (Dis.fresh O0_1.out 0 0)
    have O0_2 := Lib.hid (OwnG.below O0_1.out hal)
    have hb2 := hb1.alloc hb1.size (.cells #[] 36)
    clear hal
    generalize (u1).alloc (.cells #[] 36) = u2 at *
    refine hK.out _ _ ⟨below_keep hb2 _ _ p0, below_keep hb2 _ _ p1, below_keep hb2 _ _ p2⟩ (fun hHeld => ?_)
    clear hK K
    (try simp only [Act.put, List.getElem_toArray, List.getElem_cons_zero, List.getElem_cons_succ, List.setIfInBounds_toArray, List.set_cons_zero, List.set_cons_succ])
    refine wpAnyH_ready (rs := [3, 4]) (by kernel_rfl) (by simp) ?_
    refine AllReadyH.cons rfl (fun K hK => ?_) ?_
    · obtain ⟨v0, u3, hr0, o0, hg0, hl0⟩ := run_app_all fz_cells fz_one (by omega) Try.underlying24 H1.out H2.out H3.out H4.out rfl (u2) 24 O0_2.out hb2.size (c := c0) (h0.below FzR.stays (hx.trans (hb2.mono hx.size))) hln0 (by omega)
      refine step_append_run rfl (.tmp 3) (.tmp 5) 24 24 rfl rfl rfl hr0 ?_
      have hb3 := hb2.grown hg0 hb2.size (fun k hk => (OwnG.block_lt O0_2.out k hk).1)
      have D0_2_3 := Lib.hid (Dis.app O2_2.out (D2_0_2.out.symm) hl0)
      have O2_3 := Lib.hid (OwnG.keptD O2_2.out hg0 (D2_0_2.out.symm))
      have O0_3 := Lib.hid o0
      obtain ⟨B0, d0, e0, -, -, -⟩ := (show OwnZ u3 z.heap.size v0 _ from o0).sl
      subst e0
      clear o0 hr0 hg0 hl0
      refine hK.out _ _ ⟨below_keep hb3 _ _ p0, below_keep hb3 _ _ p1, below_keep hb3 _ _ p2⟩ (fun hHeld => ?_)
      clear hK K
      (try simp only [Act.put, List.getElem_toArray, List.getElem_cons_zero, List.getElem_cons_succ, List.setIfInBounds_toArray, List.set_cons_zero, List.set_cons_succ])
      refine wpAnyH_ready (rs := [4]) (by kernel_rfl) (by simp) ?_
      refine AllReadyH.cons rfl (fun K hK => ?_) AllReadyH.nil
      go_simp
      have hal : Below (u3).heap.size u3 ((u3).alloc (.cells #[] 75)) := (Below.refl _ _).alloc (Nat.le_refl _) _
      have O1_4 := Lib.hid (OwnG.lit (T := 75) (sz := 2) (f := Fz.cells) (u3) (base := z.heap.size) hb3.size)
      have D1_0_4 := Lib.hid (Dis.fresh O0_3.out 0 0)
      have O0_4 := Lib.hid (OwnG.below O0_3.out hal)
      have D1_2_4 := Lib.hid (Dis.fresh O2_3.out 0 0)
      have O2_4 := Lib.hid (OwnG.below O2_3.out hal)
      have hb4 := hb3.alloc hb3.size (.cells #[] 75)
      clear hal
      generalize (u3).alloc (.cells #[] 75) = u4 at *
      refine hK.out _ _ ⟨below_keep hb4 _ _ p0, below_keep hb4 _ _ p1, below_keep hb4 _ _ p2⟩ (fun hHeld => ?_)
      clear hK K
      (try simp only [Act.put, List.getElem_toArray, List.getElem_cons_zero, List.getElem_cons_succ, List.setIfInBounds_toArray, List.set_cons_zero, List.set_cons_succ])
      refine wpAnyH_ready (rs := [7]) (by kernel_rfl) (by simp) ?_
      refine AllReadyH.cons rfl (fun K hK => ?_) AllReadyH.nil
      obtain ⟨v1, u5, hr1, o1, hg1, hl1⟩ := run_app_all fz_cells fz_one (by omega) Try.underlying24 H1.out H2.out H3.out H4.out rfl (u4) 24 O1_4.out hb4.size (c := c1) (h1.below FzR.stays (hx.trans (hb4.mono hx.size))) hln1 (by omega)
      refine step_append_run rfl (.tmp 7) (.tmp 9) 24 24 rfl rfl rfl hr1 ?_
      have hb5 := hb4.grown hg1 hb4.size (fun k hk => (OwnG.block_lt O1_4.out k hk).1)
      have D1_0_5 := Lib.hid (Dis.app O0_4.out (D1_0_4.out) hl1)
      have O0_5 := Lib.hid (OwnG.keptD O0_4.out hg1 (D1_0_4.out))
      have D1_2_5 := Lib.hid (Dis.app O2_4.out (D1_2_4.out) hl1)
      have O2_5 := Lib.hid (OwnG.keptD O2_4.out hg1 (D1_2_4.out))
      have O1_5 := Lib.hid o1
      obtain ⟨B1, d1, e1, -, -, -⟩ := (show OwnZ u5 z.heap.size v1 _ from o1).sl
      subst e1
      clear o1 hr1 hg1 hl1
      refine hK.out _ _ ⟨below_keep hb5 _ _ p0, below_keep hb5 _ _ p1, below_keep hb5 _ _ p2⟩ (fun hHeld => ?_)
      clear hK K
      (try simp only [Act.put, List.getElem_toArray, List.getElem_cons_zero, List.getElem_cons_succ, List.setIfInBounds_toArray, List.set_cons_zero, List.set_cons_succ])
      refine wpAnyH_ready (rs := [11]) (by kernel_rfl) (by simp) ?_
      refine AllReadyH.cons rfl (fun K hK => ?_) AllReadyH.nil
      obtain ⟨v2, u6, hr2, o2, hg2, hl2⟩ := run_app_all oz_cells oz_one (by omega) Try.underlying25 J1.out J2.out J3.out J4.out rfl (u5) 25 O2_5.out hb5.size (c := c2) (h2.below OzR.stays (hx.trans (hb5.mono hx.size))) hln2 (by omega)
      refine step_append_run rfl (.tmp 11) (.tmp 13) 25 25 rfl rfl rfl hr2 ?_
      have hb6 := hb5.grown hg2 hb5.size (fun k hk => (OwnG.block_lt O2_5.out k hk).1)
      have D2_0_6 := Lib.hid (Dis.app O0_5.out (D0_2_3.out.symm) hl2)
      have O0_6 := Lib.hid (OwnG.keptD O0_5.out hg2 (D0_2_3.out.symm))
      have D2_1_6 := Lib.hid (Dis.app O1_5.out (D1_2_5.out.symm) hl2)
      have O1_6 := Lib.hid (OwnG.keptD O1_5.out hg2 (D1_2_5.out.symm))
      have O2_6 := Lib.hid o2
      obtain ⟨B2, d2, e2, -, -, -⟩ := (show OwnO u6 z.heap.size v2 _ from o2).sl
      subst e2
      clear o2 hr2 hg2 hl2
      have rr := rb.below hb6
      obtain ⟨⟨r0, r1, r2⟩, ⟨f0, f1, f2⟩⟩ := rr.three
      have RR := Lib.hid rr
      clear rr
      refine hK.out _ _ ⟨below_keep hb6 _ _ p0, below_keep hb6 _ _ p1, below_keep hb6 _ _ p2⟩ (fun hHeld => ?_)
      clear hK K
      (try simp only [Act.put, List.getElem_toArray, List.getElem_cons_zero, List.getElem_cons_succ, List.setIfInBounds_toArray, List.set_cons_zero, List.set_cons_succ])
      refine wpAnyH_take (i := 12) (v := ?v13) rfl (by kernel_rfl) (by kernel_rfl) (by kernel_rfl) (fun _ _ _ h => h) (Or.inl ⟨by rfl, ?hy13⟩) hHeld ?rest13
      case hy13 => (intro w' hSw; (try dsimp only at hSw); first | (go_simp; done) | (go_simp; with_reducible rfl))
      simp only [Act.put, List.getElem_toArray, List.getElem_cons_zero, List.getElem_cons_succ, List.setIfInBounds_toArray, List.set_cons_zero, List.set_cons_succ]
      refine wpAnyH_ready (rs := [13]) (by kernel_rfl) (by simp) ?_
      refine AllReadyH.cons rfl (fun K hK => ?_) AllReadyH.nil
      go_simp
      refine hK.out _ _ ⟨cellOff (cellOff (cellOff (below_keep hb6 _ _ p0) (by simp)) (by simp)) (by simp), cellOff (cellOff (cellOff (below_keep hb6 _ _ p1) (by simp)) (by simp)) (by simp), cellOff (cellOff (cellOff (below_keep hb6 _ _ p2) (by simp)) (by simp)) (by simp)⟩ (fun hHeld => ?_)
      clear hK K
      (try simp only [Act.put, List.getElem_toArray, List.getElem_cons_zero, List.getElem_cons_succ, List.setIfInBounds_toArray, List.set_cons_zero, List.set_cons_succ])
      refine wpAnyH_done (by kernel_rfl) ?_ _
      refine NoPanic.normal ?_
      clear hHeld
      have hbn : Below w.heap.size w u6 := hx.trans (hb6.mono hx.size)
      clear r0 r1 r2 f0 f1 f2
      go_wp2_with fail
      have hr9 := (((RR.out).set 0 (.slice B0 x.live.length d0)).set 1 (.slice B1 x.safe.length d1)).set 2 (.slice B2 x.ops.length d2)
      refine bodyPost_ret (results_cell_row (p := 2) (ty := 27) rfl _ _ (w.heap.size + 1) 27 #[.slice B0 x.live.length d0, .slice B1 x.safe.length d1, .slice B2 x.ops.length d2] (0, 0) _ rfl hr9 Try.underlying27 rfl HI.out) rfl ⟨⟨_, rfl, ?_⟩, ?_⟩
      · refine DzA.mono (base := z.heap.size) ?_ (by omega)
        refine DzA.set (DzA.set (DzA.set (show DzA _ z.heap.size _ x from ⟨_, _, _, rfl, O0_6.out, O1_6.out, O2_6.out, D1_0_5.out.symm⟩) ?_ _) ?_ _) ?_ _ <;> (show w.heap.size + 1 < z.heap.size; omega)
      · exact ((hbn.setCell (Nat.le_succ _) _).setCell (Nat.le_succ _) _).setCell (Nat.le_succ _) _
    refine AllReadyH.cons rfl (fun K hK => ?_) AllReadyH.nil
    go_simp
    have hal : Below (u2).heap.size u2 ((u2).alloc (.cells #[] 75)) := (Below.refl _ _).alloc (Nat.le_refl _) _
    have O1_3 := Lib.hid (OwnG.lit (T := 75) (sz := 2) (f := Fz.cells) (u2) (base := z.heap.size) hb2.size)
    have D1_0_3 := Lib.hid (Dis.fresh O0_2.out 0 0)
    have O0_3 := Lib.hid (OwnG.below O0_2.out hal)
    have D1_2_3 := Lib.hid (Dis.fresh O2_2.out 0 0)
    have O2_3 := Lib.hid (OwnG.below O2_2.out hal)
    have hb3 := hb2.alloc hb2.size (.cells #[] 75)
    clear hal
    generalize (u2).alloc (.cells #[] 75) = u3 at *
    refine hK.out _ _ ⟨below_keep hb3 _ _ p0, below_keep hb3 _ _ p1, below_keep hb3 _ _ p2⟩ (fun hHeld => ?_)
    clear hK K
    (try simp only [Act.put, List.getElem_toArray, List.getElem_cons_zero, List.getElem_cons_succ, List.setIfInBounds_toArray, List.set_cons_zero, List.set_cons_succ])
    refine wpAnyH_ready (rs := [3]) (by kernel_rfl) (by simp) ?_
    refine AllReadyH.cons rfl (fun K hK => ?_) AllReadyH.nil
    obtain ⟨v0, u4, hr0, o0, hg0, hl0⟩ := run_app_all fz_cells fz_one (by omega) Try.underlying24 H1.out H2.out H3.out H4.out rfl (u3) 24 O0_3.out hb3.size (c := c0) (h0.below FzR.stays (hx.trans (hb3.mono hx.size))) hln0 (by omega)
    refine step_append_run rfl (.tmp 3) (.tmp 5) 24 24 rfl rfl rfl hr0 ?_
    have hb4 := hb3.grown hg0 hb3.size (fun k hk => (OwnG.block_lt O0_3.out k hk).1)
    have D0_2_4 := Lib.hid (Dis.app O2_3.out (D2_0_2.out.symm) hl0)
    have O2_4 := Lib.hid (OwnG.keptD O2_3.out hg0 (D2_0_2.out.symm))
    have D0_1_4 := Lib.hid (Dis.app O1_3.out (D1_0_3.out.symm) hl0)
    have O1_4 := Lib.hid (OwnG.keptD O1_3.out hg0 (D1_0_3.out.symm))
    have O0_4 := Lib.hid o0
    obtain ⟨B0, d0, e0, -, -, -⟩ := (show OwnZ u4 z.heap.size v0 _ from o0).sl
    subst e0
    clear o0 hr0 hg0 hl0
    refine hK.out _ _ ⟨below_keep hb4 _ _ p0, below_keep hb4 _ _ p1, below_keep hb4 _ _ p2⟩ (fun hHeld => ?_)
    clear hK K
    (try simp only [Act.put, List.getElem_toArray, List.getElem_cons_zero, List.getElem_cons_succ, List.setIfInBounds_toArray, List.set_cons_zero, List.set_cons_succ])
    refine wpAnyH_ready (rs := [7]) (by kernel_rfl) (by simp) ?_
    refine AllReadyH.cons rfl (fun K hK => ?_) AllReadyH.nil
    obtain ⟨v1, u5, hr1, o1, hg1, hl1⟩ := run_app_all fz_cells fz_one (by omega) Try.underlying24 H1.out H2.out H3.out H4.out rfl (u4) 24 O1_4.out hb4.size (c := c1) (h1.below FzR.stays (hx.trans (hb4.mono hx.size))) hln1 (by omega)
    refine step_append_run rfl (.tmp 7) (.tmp 9) 24 24 rfl rfl rfl hr1 ?_
    have hb5 := hb4.grown hg1 hb4.size (fun k hk => (OwnG.block_lt O1_4.out k hk).1)
    have D1_0_5 := Lib.hid (Dis.app O0_4.out (D0_1_4.out.symm) hl1)
    have O0_5 := Lib.hid (OwnG.keptD O0_4.out hg1 (D0_1_4.out.symm))
    have D1_2_5 := Lib.hid (Dis.app O2_4.out (D1_2_3.out) hl1)
    have O2_5 := Lib.hid (OwnG.keptD O2_4.out hg1 (D1_2_3.out))
    have O1_5 := Lib.hid o1
    obtain ⟨B1, d1, e1, -, -, -⟩ := (show OwnZ u5 z.heap.size v1 _ from o1).sl
    subst e1
    clear o1 hr1 hg1 hl1
    refine hK.out _ _ ⟨below_keep hb5 _ _ p0, below_keep hb5 _ _ p1, below_keep hb5 _ _ p2⟩ (fun hHeld => ?_)
    clear hK K
    (try simp only [Act.put, List.getElem_toArray, List.getElem_cons_zero, List.getElem_cons_succ, List.setIfInBounds_toArray, List.set_cons_zero, List.set_cons_succ])
    refine wpAnyH_ready (rs := [11]) (by kernel_rfl) (by simp) ?_
    refine AllReadyH.cons rfl (fun K hK => ?_) AllReadyH.nil
    obtain ⟨v2, u6, hr2, o2, hg2, hl2⟩ := run_app_all oz_cells oz_one (by omega) Try.underlying25 J1.out J2.out J3.out J4.out rfl (u5) 25 O2_5.out hb5.size (c := c2) (h2.below OzR.stays (hx.trans (hb5.mono hx.size))) hln2 (by omega)
    refine step_append_run rfl (.tmp 11) (.tmp 13) 25 25 rfl rfl rfl hr2 ?_
    have hb6 := hb5.grown hg2 hb5.size (fun k hk => (OwnG.block_lt O2_5.out k hk).1)
    have D2_0_6 := Lib.hid (Dis.app O0_5.out (D0_2_4.out.symm) hl2)
    have O0_6 := Lib.hid (OwnG.keptD O0_5.out hg2 (D0_2_4.out.symm))
    have D2_1_6 := Lib.hid (Dis.app O1_5.out (D1_2_5.out.symm) hl2)
    have O1_6 := Lib.hid (OwnG.keptD O1_5.out hg2 (D1_2_5.out.symm))
    have O2_6 := Lib.hid o2
    obtain ⟨B2, d2, e2, -, -, -⟩ := (show OwnO u6 z.heap.size v2 _ from o2).sl
    subst e2
    clear o2 hr2 hg2 hl2
    have rr := rb.below hb6
    obtain ⟨⟨r0, r1, r2⟩, ⟨f0, f1, f2⟩⟩ := rr.three
    have RR := Lib.hid rr
    clear rr
    refine hK.out _ _ ⟨below_keep hb6 _ _ p0, below_keep hb6 _ _ p1, below_keep hb6 _ _ p2⟩ (fun hHeld => ?_)
    clear hK K
    (try simp only [Act.put, List.getElem_toArray, List.getElem_cons_zero, List.getElem_cons_succ, List.setIfInBounds_toArray, List.set_cons_zero, List.set_cons_succ])
    refine wpAnyH_take (i := 12) (v := ?v14) rfl (by kernel_rfl) (by kernel_rfl) (by kernel_rfl) (fun _ _ _ h => h) (Or.inl ⟨by rfl, ?hy14⟩) hHeld ?rest14
    case hy14 => (intro w' hSw; (try dsimp only at hSw); first | (go_simp; done) | (go_simp; with_reducible rfl))
    simp only [Act.put, List.getElem_toArray, List.getElem_cons_zero, List.getElem_cons_succ, List.setIfInBounds_toArray, List.set_cons_zero, List.set_cons_succ]
    refine wpAnyH_ready (rs := [13]) (by kernel_rfl) (by simp) ?_
    refine AllReadyH.cons rfl (fun K hK => ?_) AllReadyH.nil
    go_simp
    refine hK.out _ _ ⟨cellOff (cellOff (cellOff (below_keep hb6 _ _ p0) (by simp)) (by simp)) (by simp), cellOff (cellOff (cellOff (below_keep hb6 _ _ p1) (by simp)) (by simp)) (by simp), cellOff (cellOff (cellOff (below_keep hb6 _ _ p2) (by simp)) (by simp)) (by simp)⟩ (fun hHeld => ?_)
    clear hK K
    (try simp only [Act.put, List.getElem_toArray, List.getElem_cons_zero, List.getElem_cons_succ, List.setIfInBounds_toArray, List.set_cons_zero, List.set_cons_succ])
    refine wpAnyH_done (by kernel_rfl) ?_ _
    refine NoPanic.normal ?_
    clear hHeld
    have hbn : Below w.heap.size w u6 := hx.trans (hb6.mono hx.size)
    clear r0 r1 r2 f0 f1 f2
    go_wp2_with fail
    have hr9 := (((RR.out).set 0 (.slice B0 x.live.length d0)).set 1 (.slice B1 x.safe.length d1)).set 2 (.slice B2 x.ops.length d2)
    refine bodyPost_ret (results_cell_row (p := 2) (ty := 27) rfl _ _ (w.heap.size + 1) 27 #[.slice B0 x.live.length d0, .slice B1 x.safe.length d1, .slice B2 x.ops.length d2] (0, 0) _ rfl hr9 Try.underlying27 rfl HI.out) rfl ⟨⟨_, rfl, ?_⟩, ?_⟩
    · refine DzA.mono (base := z.heap.size) ?_ (by omega)
      refine DzA.set (DzA.set (DzA.set (show DzA _ z.heap.size _ x from ⟨_, _, _, rfl, O0_6.out, O1_6.out, O2_6.out, D1_0_5.out.symm⟩) ?_ _) ?_ _) ?_ _ <;> (show w.heap.size + 1 < z.heap.size; omega)
    · exact ((hbn.setCell (Nat.le_succ _) _).setCell (Nat.le_succ _) _).setCell (Nat.le_succ _) _
  refine AllReadyH.cons rfl (fun K hK => ?_) ?_
  · go_simp
    have hal : Below (u0).heap.size u0 ((u0).alloc (.cells #[] 75)) := (Below.refl _ _).alloc (Nat.le_refl _) _
    have O1_1 := Lib.hid (OwnG.lit (T := 75) (sz := 2) (f := Fz.cells) (u0) (base := z.heap.size) hb0.size)
    have hb1 := hb0.alloc hb0.size (.cells #[] 75)
    clear hal
    generalize (u0).alloc (.cells #[] 75) = u1 at *
    refine hK.out _ _ ⟨below_keep hb1 _ _ p0, below_keep hb1 _ _ p1, below_keep hb1 _ _ p2⟩ (fun hHeld => ?_)
    clear hK K
    (try simp only [Act.put, List.getElem_toArray, List.getElem_cons_zero, List.getElem_cons_succ, List.setIfInBounds_toArray, List.set_cons_zero, List.set_cons_succ])
    refine wpAnyH_ready (rs := [0, 8]) (by kernel_rfl) (by simp) ?_
    refine AllReadyH.cons rfl (fun K hK => ?_) ?_
    · go_simp
      have hal : Below (u1).heap.size u1 ((u1).alloc (.cells #[] 75)) := (Below.refl _ _).alloc (Nat.le_refl _) _
      have O0_2 := Lib.hid (OwnG.lit (T := 75) (sz := 2) (f := Fz.cells) (u1) (base := z.heap.size) hb1.size)
      have D0_1_2 := Lib.hid (Dis.fresh O1_1.out 0 0)
      have O1_2 := Lib.hid (OwnG.below O1_1.out hal)
      have hb2 := hb1.alloc hb1.size (.cells #[] 75)
      clear hal
      generalize (u1).alloc (.cells #[] 75) = u2 at *
      refine hK.out _ _ ⟨below_keep hb2 _ _ p0, below_keep hb2 _ _ p1, below_keep hb2 _ _ p2⟩ (fun hHeld => ?_)
      clear hK K
      (try simp only [Act.put, List.getElem_toArray, List.getElem_cons_zero, List.getElem_cons_succ, List.setIfInBounds_toArray, List.set_cons_zero, List.set_cons_succ])
      refine wpAnyH_ready (rs := [3, 8]) (by kernel_rfl) (by simp) ?_
      refine AllReadyH.cons rfl (fun K hK => ?_) ?_
      · obtain ⟨v0, u3, hr0, o0, hg0, hl0⟩ := run_app_all fz_cells fz_one (by omega) Try.underlying24 H1.out H2.out H3.out H4.out rfl (u2) 24 O0_2.out hb2.size (c := c0) (h0.below FzR.stays (hx.trans (hb2.mono hx.size))) hln0 (by omega)
        refine step_append_run rfl (.tmp 3) (.tmp 5) 24 24 rfl rfl rfl hr0 ?_
        have hb3 := hb2.grown hg0 hb2.size (fun k hk => (OwnG.block_lt O0_2.out k hk).1)
        have D0_1_3 := Lib.hid (Dis.app O1_2.out (D0_1_2.out) hl0)
        have O1_3 := Lib.hid (OwnG.keptD O1_2.out hg0 (D0_1_2.out))
        have O0_3 := Lib.hid o0
        obtain ⟨B0, d0, e0, -, -, -⟩ := (show OwnZ u3 z.heap.size v0 _ from o0).sl
        subst e0
        clear o0 hr0 hg0 hl0
        refine hK.out _ _ ⟨below_keep hb3 _ _ p0, below_keep hb3 _ _ p1, below_keep hb3 _ _ p2⟩ (fun hHeld => ?_)
        clear hK K
        (try simp only [Act.put, List.getElem_toArray, List.getElem_cons_zero, List.getElem_cons_succ, List.setIfInBounds_toArray, List.set_cons_zero, List.set_cons_succ])
        refine wpAnyH_ready (rs := [7, 8]) (by kernel_rfl) (by simp) ?_
        refine AllReadyH.cons rfl (fun K hK => ?_) ?_
        · obtain ⟨v1, u4, hr1, o1, hg1, hl1⟩ := run_app_all fz_cells fz_one (by omega) Try.underlying24 H1.out H2.out H3.out H4.out rfl (u3) 24 O1_3.out hb3.size (c := c1) (h1.below FzR.stays (hx.trans (hb3.mono hx.size))) hln1 (by omega)
          refine step_append_run rfl (.tmp 7) (.tmp 9) 24 24 rfl rfl rfl hr1 ?_
          have hb4 := hb3.grown hg1 hb3.size (fun k hk => (OwnG.block_lt O1_3.out k hk).1)
          have D1_0_4 := Lib.hid (Dis.app O0_3.out (D0_1_3.out.symm) hl1)
          have O0_4 := Lib.hid (OwnG.keptD O0_3.out hg1 (D0_1_3.out.symm))
          have O1_4 := Lib.hid o1
          obtain ⟨B1, d1, e1, -, -, -⟩ := (show OwnZ u4 z.heap.size v1 _ from o1).sl
          subst e1
          clear o1 hr1 hg1 hl1
          refine hK.out _ _ ⟨below_keep hb4 _ _ p0, below_keep hb4 _ _ p1, below_keep hb4 _ _ p2⟩ (fun hHeld => ?_)
          clear hK K
          (try simp only [Act.put, List.getElem_toArray, List.getElem_cons_zero, List.getElem_cons_succ, List.setIfInBounds_toArray, List.set_cons_zero, List.set_cons_succ])
          refine wpAnyH_ready (rs := [8]) (by kernel_rfl) (by simp) ?_
          refine AllReadyH.cons rfl (fun K hK => ?_) AllReadyH.nil
          go_simp
          have hal : Below (u4).heap.size u4 ((u4).alloc (.cells #[] 36)) := (Below.refl _ _).alloc (Nat.le_refl _) _
          have O2_5 := Lib.hid (OwnG.lit (T := 36) (sz := 4) (f := Oz.cells) (u4) (base := z.heap.size) hb4.size)
          have D2_1_5 := Lib.hid (Dis.fresh O1_4.out 0 0)
          have O1_5 := Lib.hid (OwnG.below O1_4.out hal)
          have D2_0_5 := Lib.hid (Dis.fresh O0_4.out 0 0)
          have O0_5 := Lib.hid (OwnG.below O0_4.out hal)
          have hb5 := hb4.alloc hb4.size (.cells #[] 36)
          clear hal
          generalize (u4).alloc (.cells #[] 36) = u5 at *
          refine hK.out _ _ ⟨below_keep hb5 _ _ p0, below_keep hb5 _ _ p1, below_keep hb5 _ _ p2⟩ (fun hHeld => ?_)
          clear hK K
          (try simp only [Act.put, List.getElem_toArray, List.getElem_cons_zero, List.getElem_cons_succ, List.setIfInBounds_toArray, List.set_cons_zero, List.set_cons_succ])
          refine wpAnyH_ready (rs := [11]) (by kernel_rfl) (by simp) ?_
          refine AllReadyH.cons rfl (fun K hK => ?_) AllReadyH.nil
          obtain ⟨v2, u6, hr2, o2, hg2, hl2⟩ := run_app_all oz_cells oz_one (by omega) Try.underlying25 J1.out J2.out J3.out J4.out rfl (u5) 25 O2_5.out hb5.size (c := c2) (h2.below OzR.stays (hx.trans (hb5.mono hx.size))) hln2 (by omega)
          refine step_append_run rfl (.tmp 11) (.tmp 13) 25 25 rfl rfl rfl hr2 ?_
          have hb6 := hb5.grown hg2 hb5.size (fun k hk => (OwnG.block_lt O2_5.out k hk).1)
          have D2_1_6 := Lib.hid (Dis.app O1_5.out (D2_1_5.out) hl2)
          have O1_6 := Lib.hid (OwnG.keptD O1_5.out hg2 (D2_1_5.out))
          have D2_0_6 := Lib.hid (Dis.app O0_5.out (D2_0_5.out) hl2)
          have O0_6 := Lib.hid (OwnG.keptD O0_5.out hg2 (D2_0_5.out))
          have O2_6 := Lib.hid o2
          obtain ⟨B2, d2, e2, -, -, -⟩ := (show OwnO u6 z.heap.size v2 _ from o2).sl
          subst e2
          clear o2 hr2 hg2 hl2
          have rr := rb.below hb6
          obtain ⟨⟨r0, r1, r2⟩, ⟨f0, f1, f2⟩⟩ := rr.three
          have RR := Lib.hid rr
          clear rr
          refine hK.out _ _ ⟨below_keep hb6 _ _ p0, below_keep hb6 _ _ p1, below_keep hb6 _ _ p2⟩ (fun hHeld => ?_)
          clear hK K
          (try simp only [Act.put, List.getElem_toArray, List.getElem_cons_zero, List.getElem_cons_succ, List.setIfInBounds_toArray, List.set_cons_zero, List.set_cons_succ])
          refine wpAnyH_take (i := 12) (v := ?v15) rfl (by kernel_rfl) (by kernel_rfl) (by kernel_rfl) (fun _ _ _ h => h) (Or.inl ⟨by rfl, ?hy15⟩) hHeld ?rest15
          case hy15 => (intro w' hSw; (try dsimp only at hSw); first | (go_simp; done) | (go_simp; with_reducible rfl))
          simp only [Act.put, List.getElem_toArray, List.getElem_cons_zero, List.getElem_cons_succ, List.setIfInBounds_toArray, List.set_cons_zero, List.set_cons_succ]
          refine wpAnyH_ready (rs := [13]) (by kernel_rfl) (by simp) ?_
          refine AllReadyH.cons rfl (fun K hK => ?_) AllReadyH.nil
          go_simp
          refine hK.out _ _ ⟨cellOff (cellOff (cellOff (below_keep hb6 _ _ p0) (by simp)) (by simp)) (by simp), cellOff (cellOff (cellOff (below_keep hb6 _ _ p1) (by simp)) (by simp)) (by simp), cellOff (cellOff (cellOff (below_keep hb6 _ _ p2) (by simp)) (by simp)) (by simp)⟩ (fun hHeld => ?_)
          clear hK K
          (try simp only [Act.put, List.getElem_toArray, List.getElem_cons_zero, List.getElem_cons_succ, List.setIfInBounds_toArray, List.set_cons_zero, List.set_cons_succ])
          refine wpAnyH_done (by kernel_rfl) ?_ _
          refine NoPanic.normal ?_
          clear hHeld
          have hbn : Below w.heap.size w u6 := hx.trans (hb6.mono hx.size)
          clear r0 r1 r2 f0 f1 f2
          go_wp2_with fail
          have hr9 := (((RR.out).set 0 (.slice B0 x.live.length d0)).set 1 (.slice B1 x.safe.length d1)).set 2 (.slice B2 x.ops.length d2)
          refine bodyPost_ret (results_cell_row (p := 2) (ty := 27) rfl _ _ (w.heap.size + 1) 27 #[.slice B0 x.live.length d0, .slice B1 x.safe.length d1, .slice B2 x.ops.length d2] (0, 0) _ rfl hr9 Try.underlying27 rfl HI.out) rfl ⟨⟨_, rfl, ?_⟩, ?_⟩
          · refine DzA.mono (base := z.heap.size) ?_ (by omega)
            refine DzA.set (DzA.set (DzA.set (show DzA _ z.heap.size _ x from ⟨_, _, _, rfl, O0_6.out, O1_6.out, O2_6.out, D1_0_4.out.symm⟩) ?_ _) ?_ _) ?_ _ <;> (show w.heap.size + 1 < z.heap.size; omega)
          · exact ((hbn.setCell (Nat.le_succ _) _).setCell (Nat.le_succ _) _).setCell (Nat.le_succ _) _
        refine AllReadyH.cons rfl (fun K hK => ?_) AllReadyH.nil
        go_simp
        have hal : Below (u3).heap.size u3 ((u3).alloc (.cells #[] 36)) := (Below.refl _ _).alloc (Nat.le_refl _) _
        have O2_4 := Lib.hid (OwnG.lit (T := 36) (sz := 4) (f := Oz.cells) (u3) (base := z.heap.size) hb3.size)
        have D2_1_4 := Lib.hid (Dis.fresh O1_3.out 0 0)
        have O1_4 := Lib.hid (OwnG.below O1_3.out hal)
        have D2_0_4 := Lib.hid (Dis.fresh O0_3.out 0 0)
        have O0_4 := Lib.hid (OwnG.below O0_3.out hal)
        have hb4 := hb3.alloc hb3.size (.cells #[] 36)
        clear hal
        generalize (u3).alloc (.cells #[] 36) = u4 at *
        refine hK.out _ _ ⟨below_keep hb4 _ _ p0, below_keep hb4 _ _ p1, below_keep hb4 _ _ p2⟩ (fun hHeld => ?_)
        clear hK K
        (try simp only [Act.put, List.getElem_toArray, List.getElem_cons_zero, List.getElem_cons_succ, List.setIfInBounds_toArray, List.set_cons_zero, List.set_cons_succ])
        refine wpAnyH_ready (rs := [7]) (by kernel_rfl) (by simp) ?_
        refine AllReadyH.cons rfl (fun K hK => ?_) AllReadyH.nil
        obtain ⟨v1, u5, hr1, o1, hg1, hl1⟩ := run_app_all fz_cells fz_one (by omega) Try.underlying24 H1.out H2.out H3.out H4.out rfl (u4) 24 O1_4.out hb4.size (c := c1) (h1.below FzR.stays (hx.trans (hb4.mono hx.size))) hln1 (by omega)
        refine step_append_run rfl (.tmp 7) (.tmp 9) 24 24 rfl rfl rfl hr1 ?_
        have hb5 := hb4.grown hg1 hb4.size (fun k hk => (OwnG.block_lt O1_4.out k hk).1)
        have D1_0_5 := Lib.hid (Dis.app O0_4.out (D0_1_3.out.symm) hl1)
        have O0_5 := Lib.hid (OwnG.keptD O0_4.out hg1 (D0_1_3.out.symm))
        have D1_2_5 := Lib.hid (Dis.app O2_4.out (D2_1_4.out.symm) hl1)
        have O2_5 := Lib.hid (OwnG.keptD O2_4.out hg1 (D2_1_4.out.symm))
        have O1_5 := Lib.hid o1
        obtain ⟨B1, d1, e1, -, -, -⟩ := (show OwnZ u5 z.heap.size v1 _ from o1).sl
        subst e1
        clear o1 hr1 hg1 hl1
        refine hK.out _ _ ⟨below_keep hb5 _ _ p0, below_keep hb5 _ _ p1, below_keep hb5 _ _ p2⟩ (fun hHeld => ?_)
        clear hK K
        (try simp only [Act.put, List.getElem_toArray, List.getElem_cons_zero, List.getElem_cons_succ, List.setIfInBounds_toArray, List.set_cons_zero, List.set_cons_succ])
        refine wpAnyH_ready (rs := [11]) (by kernel_rfl) (by simp) ?_
        refine AllReadyH.cons rfl (fun K hK => ?_) AllReadyH.nil
        obtain ⟨v2, u6, hr2, o2, hg2, hl2⟩ := run_app_all oz_cells oz_one (by omega) Try.underlying25 J1.out J2.out J3.out J4.out rfl (u5) 25 O2_5.out hb5.size (c := c2) (h2.below OzR.stays (hx.trans (hb5.mono hx.size))) hln2 (by omega)
        refine step_append_run rfl (.tmp 11) (.tmp 13) 25 25 rfl rfl rfl hr2 ?_
        have hb6 := hb5.grown hg2 hb5.size (fun k hk => (OwnG.block_lt O2_5.out k hk).1)
        have D2_1_6 := Lib.hid (Dis.app O1_5.out (D1_2_5.out.symm) hl2)
        have O1_6 := Lib.hid (OwnG.keptD O1_5.out hg2 (D1_2_5.out.symm))
        have D2_0_6 := Lib.hid (Dis.app O0_5.out (D2_0_4.out) hl2)
        have O0_6 := Lib.hid (OwnG.keptD O0_5.out hg2 (D2_0_4.out))
        have O2_6 := Lib.hid o2
        obtain ⟨B2, d2, e2, -, -, -⟩ := (show OwnO u6 z.heap.size v2 _ from o2).sl
        subst e2
        clear o2 hr2 hg2 hl2
        have rr := rb.below hb6
        obtain ⟨⟨r0, r1, r2⟩, ⟨f0, f1, f2⟩⟩ := rr.three
        have RR := Lib.hid rr
        clear rr
        refine hK.out _ _ ⟨below_keep hb6 _ _ p0, below_keep hb6 _ _ p1, below_keep hb6 _ _ p2⟩ (fun hHeld => ?_)
        clear hK K
        (try simp only [Act.put, List.getElem_toArray, List.getElem_cons_zero, List.getElem_cons_succ, List.setIfInBounds_toArray, List.set_cons_zero, List.set_cons_succ])
        refine wpAnyH_take (i := 12) (v := ?v16) rfl (by kernel_rfl) (by kernel_rfl) (by kernel_rfl) (fun _ _ _ h => h) (Or.inl ⟨by rfl, ?hy16⟩) hHeld ?rest16
        case hy16 => (intro w' hSw; (try dsimp only at hSw); first | (go_simp; done) | (go_simp; with_reducible rfl))
        simp only [Act.put, List.getElem_toArray, List.getElem_cons_zero, List.getElem_cons_succ, List.setIfInBounds_toArray, List.set_cons_zero, List.set_cons_succ]
        refine wpAnyH_ready (rs := [13]) (by kernel_rfl) (by simp) ?_
        refine AllReadyH.cons rfl (fun K hK => ?_) AllReadyH.nil
        go_simp
        refine hK.out _ _ ⟨cellOff (cellOff (cellOff (below_keep hb6 _ _ p0) (by simp)) (by simp)) (by simp), cellOff (cellOff (cellOff (below_keep hb6 _ _ p1) (by simp)) (by simp)) (by simp), cellOff (cellOff (cellOff (below_keep hb6 _ _ p2) (by simp)) (by simp)) (by simp)⟩ (fun hHeld => ?_)
        clear hK K
        (try simp only [Act.put, List.getElem_toArray, List.getElem_cons_zero, List.getElem_cons_succ, List.setIfInBounds_toArray, List.set_cons_zero, List.set_cons_succ])
        refine wpAnyH_done (by kernel_rfl) ?_ _
        refine NoPanic.normal ?_
        clear hHeld
        have hbn : Below w.heap.size w u6 := hx.trans (hb6.mono hx.size)
        clear r0 r1 r2 f0 f1 f2
        go_wp2_with fail
        have hr9 := (((RR.out).set 0 (.slice B0 x.live.length d0)).set 1 (.slice B1 x.safe.length d1)).set 2 (.slice B2 x.ops.length d2)
        refine bodyPost_ret (results_cell_row (p := 2) (ty := 27) rfl _ _ (w.heap.size + 1) 27 #[.slice B0 x.live.length d0, .slice B1 x.safe.length d1, .slice B2 x.ops.length d2] (0, 0) _ rfl hr9 Try.underlying27 rfl HI.out) rfl ⟨⟨_, rfl, ?_⟩, ?_⟩
        · refine DzA.mono (base := z.heap.size) ?_ (by omega)
          refine DzA.set (DzA.set (DzA.set (show DzA _ z.heap.size _ x from ⟨_, _, _, rfl, O0_6.out, O1_6.out, O2_6.out, D1_0_5.out.symm⟩) ?_ _) ?_ _) ?_ _ <;> (show w.heap.size + 1 < z.heap.size; omega)
        · exact ((hbn.setCell (Nat.le_succ _) _).setCell (Nat.le_succ _) _).setCell (Nat.le_succ _) _
      refine AllReadyH.cons rfl (fun K hK => ?_) AllReadyH.nil
      go_simp
      have hal : Below (u2).heap.size u2 ((u2).alloc (.cells #[] 36)) := (Below.refl _ _).alloc (Nat.le_refl _) _
      have O2_3 := Lib.hid (OwnG.lit (T := 36) (sz := 4) (f := Oz.cells) (u2) (base := z.heap.size) hb2.size)
      have D2_1_3 := Lib.hid (Dis.fresh O1_2.out 0 0)
      have O1_3 := Lib.hid (OwnG.below O1_2.out hal)
      have D2_0_3 := Lib.hid (Dis.fresh O0_2.out 0 0)
      have O0_3 := Lib.hid (OwnG.below O0_2.out hal)
      have hb3 := hb2.alloc hb2.size (.cells #[] 36)
      clear hal
      generalize (u2).alloc (.cells #[] 36) = u3 at *
      refine hK.out _ _ ⟨below_keep hb3 _ _ p0, below_keep hb3 _ _ p1, below_keep hb3 _ _ p2⟩ (fun hHeld => ?_)
      clear hK K
      (try simp only [Act.put, List.getElem_toArray, List.getElem_cons_zero, List.getElem_cons_succ, List.setIfInBounds_toArray, List.set_cons_zero, List.set_cons_succ])
      refine wpAnyH_ready (rs := [3]) (by kernel_rfl) (by simp) ?_
      refine AllReadyH.cons rfl (fun K hK => ?_) AllReadyH.nil
      obtain ⟨v0, u4, hr0, o0, hg0, hl0⟩ := run_app_all fz_cells fz_one (by omega) Try.underlying24 H1.out H2.out H3.out H4.out rfl (u3) 24 O0_3.out hb3.size (c := c0) (h0.below FzR.stays (hx.trans (hb3.mono hx.size))) hln0 (by omega)
      refine step_append_run rfl (.tmp 3) (.tmp 5) 24 24 rfl rfl rfl hr0 ?_
      have hb4 := hb3.grown hg0 hb3.size (fun k hk => (OwnG.block_lt O0_3.out k hk).1)
      have D0_1_4 := Lib.hid (Dis.app O1_3.out (D0_1_2.out) hl0)
      have O1_4 := Lib.hid (OwnG.keptD O1_3.out hg0 (D0_1_2.out))
      have D0_2_4 := Lib.hid (Dis.app O2_3.out (D2_0_3.out.symm) hl0)
      have O2_4 := Lib.hid (OwnG.keptD O2_3.out hg0 (D2_0_3.out.symm))
      have O0_4 := Lib.hid o0
      obtain ⟨B0, d0, e0, -, -, -⟩ := (show OwnZ u4 z.heap.size v0 _ from o0).sl
      subst e0
      clear o0 hr0 hg0 hl0
      refine hK.out _ _ ⟨below_keep hb4 _ _ p0, below_keep hb4 _ _ p1, below_keep hb4 _ _ p2⟩ (fun hHeld => ?_)
      clear hK K
      (try simp only [Act.put, List.getElem_toArray, List.getElem_cons_zero, List.getElem_cons_succ, List.setIfInBounds_toArray, List.set_cons_zero, List.set_cons_succ])
      refine wpAnyH_ready (rs := [7]) (by kernel_rfl) (by simp) ?_
      refine AllReadyH.cons rfl (fun K hK => ?_) AllReadyH.nil
      obtain ⟨v1, u5, hr1, o1, hg1, hl1⟩ := run_app_all fz_cells fz_one (by omega) Try.underlying24 H1.out H2.out H3.out H4.out rfl (u4) 24 O1_4.out hb4.size (c := c1) (h1.below FzR.stays (hx.trans (hb4.mono hx.size))) hln1 (by omega)
      refine step_append_run rfl (.tmp 7) (.tmp 9) 24 24 rfl rfl rfl hr1 ?_
      have hb5 := hb4.grown hg1 hb4.size (fun k hk => (OwnG.block_lt O1_4.out k hk).1)
      have D1_0_5 := Lib.hid (Dis.app O0_4.out (D0_1_4.out.symm) hl1)
      have O0_5 := Lib.hid (OwnG.keptD O0_4.out hg1 (D0_1_4.out.symm))
      have D1_2_5 := Lib.hid (Dis.app O2_4.out (D2_1_3.out.symm) hl1)
      have O2_5 := Lib.hid (OwnG.keptD O2_4.out hg1 (D2_1_3.out.symm))
      have O1_5 := Lib.hid o1
      obtain ⟨B1, d1, e1, -, -, -⟩ := (show OwnZ u5 z.heap.size v1 _ from o1).sl
      subst e1
      clear o1 hr1 hg1 hl1
      refine hK.out _ _ ⟨below_keep hb5 _ _ p0, below_keep hb5 _ _ p1, below_keep hb5 _ _ p2⟩ (fun hHeld => ?_)
      clear hK K
      (try simp only [Act.put, List.getElem_toArray, List.getElem_cons_zero, List.getElem_cons_succ, List.setIfInBounds_toArray, List.set_cons_zero, List.set_cons_succ])
      refine wpAnyH_ready (rs := [11]) (by kernel_rfl) (by simp) ?_
      refine AllReadyH.cons rfl (fun K hK => ?_) AllReadyH.nil
      obtain ⟨v2, u6, hr2, o2, hg2, hl2⟩ := run_app_all oz_cells oz_one (by omega) Try.underlying25 J1.out J2.out J3.out J4.out rfl (u5) 25 O2_5.out hb5.size (c := c2) (h2.below OzR.stays (hx.trans (hb5.mono hx.size))) hln2 (by omega)
      refine step_append_run rfl (.tmp 11) (.tmp 13) 25 25 rfl rfl rfl hr2 ?_
      have hb6 := hb5.grown hg2 hb5.size (fun k hk => (OwnG.block_lt O2_5.out k hk).1)
      have D2_1_6 := Lib.hid (Dis.app O1_5.out (D1_2_5.out.symm) hl2)
      have O1_6 := Lib.hid (OwnG.keptD O1_5.out hg2 (D1_2_5.out.symm))
      have D2_0_6 := Lib.hid (Dis.app O0_5.out (D0_2_4.out.symm) hl2)
      have O0_6 := Lib.hid (OwnG.keptD O0_5.out hg2 (D0_2_4.out.symm))
      have O2_6 := Lib.hid o2
      obtain ⟨B2, d2, e2, -, -, -⟩ := (show OwnO u6 z.heap.size v2 _ from o2).sl
      subst e2
      clear o2 hr2 hg2 hl2
      have rr := rb.below hb6
      obtain ⟨⟨r0, r1, r2⟩, ⟨f0, f1, f2⟩⟩ := rr.three
      have RR := Lib.hid rr
      clear rr
      refine hK.out _ _ ⟨below_keep hb6 _ _ p0, below_keep hb6 _ _ p1, below_keep hb6 _ _ p2⟩ (fun hHeld => ?_)
      clear hK K
      (try simp only [Act.put, List.getElem_toArray, List.getElem_cons_zero, List.getElem_cons_succ, List.setIfInBounds_toArray, List.set_cons_zero, List.set_cons_succ])
      refine wpAnyH_take (i := 12) (v := ?v17) rfl (by kernel_rfl) (by kernel_rfl) (by kernel_rfl) (fun _ _ _ h => h) (Or.inl ⟨by rfl, ?hy17⟩) hHeld ?rest17
      case hy17 => (intro w' hSw; (try dsimp only at hSw); first | (go_simp; done) | (go_simp; with_reducible rfl))
      simp only [Act.put, List.getElem_toArray, List.getElem_cons_zero, List.getElem_cons_succ, List.setIfInBounds_toArray, List.set_cons_zero, List.set_cons_succ]
      refine wpAnyH_ready (rs := [13]) (by kernel_rfl) (by simp) ?_
      refine AllReadyH.cons rfl (fun K hK => ?_) AllReadyH.nil
      go_simp
      refine hK.out _ _ ⟨cellOff (cellOff (cellOff (below_keep hb6 _ _ p0) (by simp)) (by simp)) (by simp), cellOff (cellOff (cellOff (below_keep hb6 _ _ p1) (by simp)) (by simp)) (by simp), cellOff (cellOff (cellOff (below_keep hb6 _ _ p2) (by simp)) (by simp)) (by simp)⟩ (fun hHeld => ?_)
      clear hK K
      (try simp only [Act.put, List.getElem_toArray, List.getElem_cons_zero, List.getElem_cons_succ, List.setIfInBounds_toArray, List.set_cons_zero, List.set_cons_succ])
      refine wpAnyH_done (by kernel_rfl) ?_ _
      refine NoPanic.normal ?_
      clear hHeld
      have hbn : Below w.heap.size w u6 := hx.trans (hb6.mono hx.size)
      clear r0 r1 r2 f0 f1 f2
      go_wp2_with fail
      have hr9 := (((RR.out).set 0 (.slice B0 x.live.length d0)).set 1 (.slice B1 x.safe.length d1)).set 2 (.slice B2 x.ops.length d2)
      refine bodyPost_ret (results_cell_row (p := 2) (ty := 27) rfl _ _ (w.heap.size + 1) 27 #[.slice B0 x.live.length d0, .slice B1 x.safe.length d1, .slice B2 x.ops.length d2] (0, 0) _ rfl hr9 Try.underlying27 rfl HI.out) rfl ⟨⟨_, rfl, ?_⟩, ?_⟩
      · refine DzA.mono (base := z.heap.size) ?_ (by omega)
        refine DzA.set (DzA.set (DzA.set (show DzA _ z.heap.size _ x from ⟨_, _, _, rfl, O0_6.out, O1_6.out, O2_6.out, D1_0_5.out.symm⟩) ?_ _) ?_ _) ?_ _ <;> (show w.heap.size + 1 < z.heap.size; omega)
      · exact ((hbn.setCell (Nat.le_succ _) _).setCell (Nat.le_succ _) _).setCell (Nat.le_succ _) _
    refine AllReadyH.cons rfl (fun K hK => ?_) AllReadyH.nil
    go_simp
    have hal : Below (u1).heap.size u1 ((u1).alloc (.cells #[] 36)) := (Below.refl _ _).alloc (Nat.le_refl _) _
    have O2_2 := Lib.hid (OwnG.lit (T := 36) (sz := 4) (f := Oz.cells) (u1) (base := z.heap.size) hb1.size)
    have D2_1_2 := Lib.hid (Dis.fresh O1_1.out 0 0)
    have O1_2 := Lib.hid (OwnG.below O1_1.out hal)
    have hb2 := hb1.alloc hb1.size (.cells #[] 36)
    clear hal
    generalize (u1).alloc (.cells #[] 36) = u2 at *
    refine hK.out _ _ ⟨below_keep hb2 _ _ p0, below_keep hb2 _ _ p1, below_keep hb2 _ _ p2⟩ (fun hHeld => ?_)
    clear hK K
    (try simp only [Act.put, List.getElem_toArray, List.getElem_cons_zero, List.getElem_cons_succ, List.setIfInBounds_toArray, List.set_cons_zero, List.set_cons_succ])
    refine wpAnyH_ready (rs := [0]) (by kernel_rfl) (by simp) ?_
    refine AllReadyH.cons rfl (fun K hK => ?_) AllReadyH.nil
    go_simp
    have hal : Below (u2).heap.size u2 ((u2).alloc (.cells #[] 75)) := (Below.refl _ _).alloc (Nat.le_refl _) _
    have O0_3 := Lib.hid (OwnG.lit (T := 75) (sz := 2) (f := Fz.cells) (u2) (base := z.heap.size) hb2.size)
    have D0_1_3 := Lib.hid (Dis.fresh O1_2.out 0 0)
    have O1_3 := Lib.hid (OwnG.below O1_2.out hal)
    have D0_2_3 := Lib.hid (Dis.fresh O2_2.out 0 0)
    have O2_3 := Lib.hid (OwnG.below O2_2.out hal)
    have hb3 := hb2.alloc hb2.size (.cells #[] 75)
    clear hal
    generalize (u2).alloc (.cells #[] 75) = u3 at *
    refine hK.out _ _ ⟨below_keep hb3 _ _ p0, below_keep hb3 _ _ p1, below_keep hb3 _ _ p2⟩ (fun hHeld => ?_)
    clear hK K
    (try simp only [Act.put, List.getElem_toArray, List.getElem_cons_zero, List.getElem_cons_succ, List.setIfInBounds_toArray, List.set_cons_zero, List.set_cons_succ])
    refine wpAnyH_ready (rs := [3]) (by kernel_rfl) (by simp) ?_
    refine AllReadyH.cons rfl (fun K hK => ?_) AllReadyH.nil
    obtain ⟨v0, u4, hr0, o0, hg0, hl0⟩ := run_app_all fz_cells fz_one (by omega) Try.underlying24 H1.out H2.out H3.out H4.out rfl (u3) 24 O0_3.out hb3.size (c := c0) (h0.below FzR.stays (hx.trans (hb3.mono hx.size))) hln0 (by omega)
    refine step_append_run rfl (.tmp 3) (.tmp 5) 24 24 rfl rfl rfl hr0 ?_
    have hb4 := hb3.grown hg0 hb3.size (fun k hk => (OwnG.block_lt O0_3.out k hk).1)
    have D0_1_4 := Lib.hid (Dis.app O1_3.out (D0_1_3.out) hl0)
    have O1_4 := Lib.hid (OwnG.keptD O1_3.out hg0 (D0_1_3.out))
    have D0_2_4 := Lib.hid (Dis.app O2_3.out (D0_2_3.out) hl0)
    have O2_4 := Lib.hid (OwnG.keptD O2_3.out hg0 (D0_2_3.out))
    have O0_4 := Lib.hid o0
    obtain ⟨B0, d0, e0, -, -, -⟩ := (show OwnZ u4 z.heap.size v0 _ from o0).sl
    subst e0
    clear o0 hr0 hg0 hl0
    refine hK.out _ _ ⟨below_keep hb4 _ _ p0, below_keep hb4 _ _ p1, below_keep hb4 _ _ p2⟩ (fun hHeld => ?_)
    clear hK K
    (try simp only [Act.put, List.getElem_toArray, List.getElem_cons_zero, List.getElem_cons_succ, List.setIfInBounds_toArray, List.set_cons_zero, List.set_cons_succ])
    refine wpAnyH_ready (rs := [7]) (by kernel_rfl) (by simp) ?_
    refine AllReadyH.cons rfl (fun K hK => ?_) AllReadyH.nil
    obtain ⟨v1, u5, hr1, o1, hg1, hl1⟩ := run_app_all fz_cells fz_one (by omega) Try.underlying24 H1.out H2.out H3.out H4.out rfl (u4) 24 O1_4.out hb4.size (c := c1) (h1.below FzR.stays (hx.trans (hb4.mono hx.size))) hln1 (by omega)
    refine step_append_run rfl (.tmp 7) (.tmp 9) 24 24 rfl rfl rfl hr1 ?_
    have hb5 := hb4.grown hg1 hb4.size (fun k hk => (OwnG.block_lt O1_4.out k hk).1)
    have D1_2_5 := Lib.hid (Dis.app O2_4.out (D2_1_2.out.symm) hl1)
    have O2_5 := Lib.hid (OwnG.keptD O2_4.out hg1 (D2_1_2.out.symm))
    have D1_0_5 := Lib.hid (Dis.app O0_4.out (D0_1_4.out.symm) hl1)
    have O0_5 := Lib.hid (OwnG.keptD O0_4.out hg1 (D0_1_4.out.symm))
    have O1_5 := Lib.hid o1
    obtain ⟨B1, d1, e1, -, -, -⟩ := (show OwnZ u5 z.heap.size v1 _ from o1).sl
    subst e1
    clear o1 hr1 hg1 hl1
    refine hK.out _ _ ⟨below_keep hb5 _ _ p0, below_keep hb5 _ _ p1, below_keep hb5 _ _ p2⟩ (fun hHeld => ?_)
    clear hK K
    (try simp only [Act.put, List.getElem_toArray, List.getElem_cons_zero, List.getElem_cons_succ, List.setIfInBounds_toArray, List.set_cons_zero, List.set_cons_succ])
    refine wpAnyH_ready (rs := [11]) (by kernel_rfl) (by simp) ?_
    refine AllReadyH.cons rfl (fun K hK => ?_) AllReadyH.nil
    obtain ⟨v2, u6, hr2, o2, hg2, hl2⟩ := run_app_all oz_cells oz_one (by omega) Try.underlying25 J1.out J2.out J3.out J4.out rfl (u5) 25 O2_5.out hb5.size (c := c2) (h2.below OzR.stays (hx.trans (hb5.mono hx.size))) hln2 (by omega)
    refine step_append_run rfl (.tmp 11) (.tmp 13) 25 25 rfl rfl rfl hr2 ?_
    have hb6 := hb5.grown hg2 hb5.size (fun k hk => (OwnG.block_lt O2_5.out k hk).1)
    have D2_1_6 := Lib.hid (Dis.app O1_5.out (D1_2_5.out.symm) hl2)
    have O1_6 := Lib.hid (OwnG.keptD O1_5.out hg2 (D1_2_5.out.symm))
    have D2_0_6 := Lib.hid (Dis.app O0_5.out (D0_2_4.out.symm) hl2)
    have O0_6 := Lib.hid (OwnG.keptD O0_5.out hg2 (D0_2_4.out.symm))
    have O2_6 := Lib.hid o2
    obtain ⟨B2, d2, e2, -, -, -⟩ := (show OwnO u6 z.heap.size v2 _ from o2).sl
    subst e2
    clear o2 hr2 hg2 hl2
    have rr := rb.below hb6
    obtain ⟨⟨r0, r1, r2⟩, ⟨f0, f1, f2⟩⟩ := rr.three
    have RR := Lib.hid rr
    clear rr
    refine hK.out _ _ ⟨below_keep hb6 _ _ p0, below_keep hb6 _ _ p1, below_keep hb6 _ _ p2⟩ (fun hHeld => ?_)
    clear hK K
    (try simp only [Act.put, List.getElem_toArray, List.getElem_cons_zero, List.getElem_cons_succ, List.setIfInBounds_toArray, List.set_cons_zero, List.set_cons_succ])
    refine wpAnyH_take (i := 12) (v := ?v18) rfl (by kernel_rfl) (by kernel_rfl) (by kernel_rfl) (fun _ _ _ h => h) (Or.inl ⟨by rfl, ?hy18⟩) hHeld ?rest18
    case hy18 => (intro w' hSw; (try dsimp only at hSw); first | (go_simp; done) | (go_simp; with_reducible rfl))
    simp only [Act.put, List.getElem_toArray, List.getElem_cons_zero, List.getElem_cons_succ, List.setIfInBounds_toArray, List.set_cons_zero, List.set_cons_succ]
    refine wpAnyH_ready (rs := [13]) (by kernel_rfl) (by simp) ?_
    refine AllReadyH.cons rfl (fun K hK => ?_) AllReadyH.nil
    go_simp
    refine hK.out _ _ ⟨cellOff (cellOff (cellOff (below_keep hb6 _ _ p0) (by simp)) (by simp)) (by simp), cellOff (cellOff (cellOff (below_keep hb6 _ _ p1) (by simp)) (by simp)) (by simp), cellOff (cellOff (cellOff (below_keep hb6 _ _ p2) (by simp)) (by simp)) (by simp)⟩ (fun hHeld => ?_)
    clear hK K
    (try simp only [Act.put, List.getElem_toArray, List.getElem_cons_zero, List.getElem_cons_succ, List.setIfInBounds_toArray, List.set_cons_zero, List.set_cons_succ])
    refine wpAnyH_done (by kernel_rfl) ?_ _
    refine NoPanic.normal ?_
    clear hHeld
    have hbn : Below w.heap.size w u6 := hx.trans (hb6.mono hx.size)
    clear r0 r1 r2 f0 f1 f2
    go_wp2_with fail
    have hr9 := (((RR.out).set 0 (.slice B0 x.live.length d0)).set 1 (.slice B1 x.safe.length d1)).set 2 (.slice B2 x.ops.length d2)
    refine bodyPost_ret (results_cell_row (p := 2) (ty := 27) rfl _ _ (w.heap.size + 1) 27 #[.slice B0 x.live.length d0, .slice B1 x.safe.length d1, .slice B2 x.ops.length d2] (0, 0) _ rfl hr9 Try.underlying27 rfl HI.out) rfl ⟨⟨_, rfl, ?_⟩, ?_⟩
    · refine DzA.mono (base := z.heap.size) ?_ (by omega)
      refine DzA.set (DzA.set (DzA.set (show DzA _ z.heap.size _ x from ⟨_, _, _, rfl, O0_6.out, O1_6.out, O2_6.out, D1_0_5.out.symm⟩) ?_ _) ?_ _) ?_ _ <;> (show w.heap.size + 1 < z.heap.size; omega)
    · exact ((hbn.setCell (Nat.le_succ _) _).setCell (Nat.le_succ _) _).setCell (Nat.le_succ _) _
  refine AllReadyH.cons rfl (fun K hK => ?_) AllReadyH.nil
  go_simp
  have hal : Below (u0).heap.size u0 ((u0).alloc (.cells #[] 36)) := (Below.refl _ _).alloc (Nat.le_refl _) _
  have O2_1 := Lib.hid (OwnG.lit (T := 36) (sz := 4) (f := Oz.cells) (u0) (base := z.heap.size) hb0.size)
  have hb1 := hb0.alloc hb0.size (.cells #[] 36)
  clear hal
  generalize (u0).alloc (.cells #[] 36) = u1 at *
  refine hK.out _ _ ⟨below_keep hb1 _ _ p0, below_keep hb1 _ _ p1, below_keep hb1 _ _ p2⟩ (fun hHeld => ?_)
  clear hK K
  (try simp only [Act.put, List.getElem_toArray, List.getElem_cons_zero, List.getElem_cons_succ, List.setIfInBounds_toArray, List.set_cons_zero, List.set_cons_succ])
  refine wpAnyH_ready (rs := [0, 4]) (by kernel_rfl) (by simp) ?_
  refine AllReadyH.cons rfl (fun K hK => ?_) ?_
  · go_simp
    have hal : Below (u1).heap.size u1 ((u1).alloc (.cells #[] 75)) := (Below.refl _ _).alloc (Nat.le_refl _) _
    have O0_2 := Lib.hid (OwnG.lit (T := 75) (sz := 2) (f := Fz.cells) (u1) (base := z.heap.size) hb1.size)
    have D0_2_2 := Lib.hid (Dis.fresh O2_1.out 0 0)
    have O2_2 := Lib.hid (OwnG.below O2_1.out hal)
    have hb2 := hb1.alloc hb1.size (.cells #[] 75)
    clear hal
    generalize (u1).alloc (.cells #[] 75) = u2 at *
    refine hK.out _ _ ⟨below_keep hb2 _ _ p0, below_keep hb2 _ _ p1, below_keep hb2 _ _ p2⟩ (fun hHeld => ?_)
    clear hK K
    (try simp only [Act.put, List.getElem_toArray, List.getElem_cons_zero, List.getElem_cons_succ, List.setIfInBounds_toArray, List.set_cons_zero, List.set_cons_succ])
    refine wpAnyH_ready (rs := [3, 4]) (by kernel_rfl) (by simp) ?_
    refine AllReadyH.cons rfl (fun K hK => ?_) ?_
    · obtain ⟨v0, u3, hr0, o0, hg0, hl0⟩ := run_app_all fz_cells fz_one (by omega) Try.underlying24 H1.out H2.out H3.out H4.out rfl (u2) 24 O0_2.out hb2.size (c := c0) (h0.below FzR.stays (hx.trans (hb2.mono hx.size))) hln0 (by omega)
      refine step_append_run rfl (.tmp 3) (.tmp 5) 24 24 rfl rfl rfl hr0 ?_
      have hb3 := hb2.grown hg0 hb2.size (fun k hk => (OwnG.block_lt O0_2.out k hk).1)
      have D0_2_3 := Lib.hid (Dis.app O2_2.out (D0_2_2.out) hl0)
      have O2_3 := Lib.hid (OwnG.keptD O2_2.out hg0 (D0_2_2.out))
      have O0_3 := Lib.hid o0
      obtain ⟨B0, d0, e0, -, -, -⟩ := (show OwnZ u3 z.heap.size v0 _ from o0).sl
      subst e0
      clear o0 hr0 hg0 hl0
      refine hK.out _ _ ⟨below_keep hb3 _ _ p0, below_keep hb3 _ _ p1, below_keep hb3 _ _ p2⟩ (fun hHeld => ?_)
      clear hK K
      (try simp only [Act.put, List.getElem_toArray, List.getElem_cons_zero, List.getElem_cons_succ, List.setIfInBounds_toArray, List.set_cons_zero, List.set_cons_succ])
      refine wpAnyH_ready (rs := [4]) (by kernel_rfl) (by simp) ?_
      refine AllReadyH.cons rfl (fun K hK => ?_) AllReadyH.nil
      go_simp
      have hal : Below (u3).heap.size u3 ((u3).alloc (.cells #[] 75)) := (Below.refl _ _).alloc (Nat.le_refl _) _
      have O1_4 := Lib.hid (OwnG.lit (T := 75) (sz := 2) (f := Fz.cells) (u3) (base := z.heap.size) hb3.size)
      have D1_2_4 := Lib.hid (Dis.fresh O2_3.out 0 0)
      have O2_4 := Lib.hid (OwnG.below O2_3.out hal)
      have D1_0_4 := Lib.hid (Dis.fresh O0_3.out 0 0)
      have O0_4 := Lib.hid (OwnG.below O0_3.out hal)
      have hb4 := hb3.alloc hb3.size (.cells #[] 75)
      clear hal
      generalize (u3).alloc (.cells #[] 75) = u4 at *
      refine hK.out _ _ ⟨below_keep hb4 _ _ p0, below_keep hb4 _ _ p1, below_keep hb4 _ _ p2⟩ (fun hHeld => ?_)
      clear hK K
      (try simp only [Act.put, List.getElem_toArray, List.getElem_cons_zero, List.getElem_cons_succ, List.setIfInBounds_toArray, List.set_cons_zero, List.set_cons_succ])
      refine wpAnyH_ready (rs := [7]) (by kernel_rfl) (by simp) ?_
      refine AllReadyH.cons rfl (fun K hK => ?_) AllReadyH.nil
      obtain ⟨v1, u5, hr1, o1, hg1, hl1⟩ := run_app_all fz_cells fz_one (by omega) Try.underlying24 H1.out H2.out H3.out H4.out rfl (u4) 24 O1_4.out hb4.size (c := c1) (h1.below FzR.stays (hx.trans (hb4.mono hx.size))) hln1 (by omega)
      refine step_append_run rfl (.tmp 7) (.tmp 9) 24 24 rfl rfl rfl hr1 ?_
      have hb5 := hb4.grown hg1 hb4.size (fun k hk => (OwnG.block_lt O1_4.out k hk).1)
      have D1_2_5 := Lib.hid (Dis.app O2_4.out (D1_2_4.out) hl1)
      have O2_5 := Lib.hid (OwnG.keptD O2_4.out hg1 (D1_2_4.out))
      have D1_0_5 := Lib.hid (Dis.app O0_4.out (D1_0_4.out) hl1)
      have O0_5 := Lib.hid (OwnG.keptD O0_4.out hg1 (D1_0_4.out))
      have O1_5 := Lib.hid o1
      obtain ⟨B1, d1, e1, -, -, -⟩ := (show OwnZ u5 z.heap.size v1 _ from o1).sl
      subst e1
      clear o1 hr1 hg1 hl1
      refine hK.out _ _ ⟨below_keep hb5 _ _ p0, below_keep hb5 _ _ p1, below_keep hb5 _ _ p2⟩ (fun hHeld => ?_)
      clear hK K
      (try simp only [Act.put, List.getElem_toArray, List.getElem_cons_zero, List.getElem_cons_succ, List.setIfInBounds_toArray, List.set_cons_zero, List.set_cons_succ])
      refine wpAnyH_ready (rs := [11]) (by kernel_rfl) (by simp) ?_
      refine AllReadyH.cons rfl (fun K hK => ?_) AllReadyH.nil
      obtain ⟨v2, u6, hr2, o2, hg2, hl2⟩ := run_app_all oz_cells oz_one (by omega) Try.underlying25 J1.out J2.out J3.out J4.out rfl (u5) 25 O2_5.out hb5.size (c := c2) (h2.below OzR.stays (hx.trans (hb5.mono hx.size))) hln2 (by omega)
      refine step_append_run rfl (.tmp 11) (.tmp 13) 25 25 rfl rfl rfl hr2 ?_
      have hb6 := hb5.grown hg2 hb5.size (fun k hk => (OwnG.block_lt O2_5.out k hk).1)
      have D2_0_6 := Lib.hid (Dis.app O0_5.out (D0_2_3.out.symm) hl2)
      have O0_6 := Lib.hid (OwnG.keptD O0_5.out hg2 (D0_2_3.out.symm))
      have D2_1_6 := Lib.hid (Dis.app O1_5.out (D1_2_5.out.symm) hl2)
      have O1_6 := Lib.hid (OwnG.keptD O1_5.out hg2 (D1_2_5.out.symm))
      have O2_6 := Lib.hid o2
      obtain ⟨B2, d2, e2, -, -, -⟩ := (show OwnO u6 z.heap.size v2 _ from o2).sl
      subst e2
      clear o2 hr2 hg2 hl2
      have rr := rb.below hb6
      obtain ⟨⟨r0, r1, r2⟩, ⟨f0, f1, f2⟩⟩ := rr.three
      have RR := Lib.hid rr
      clear rr
      refine hK.out _ _ ⟨below_keep hb6 _ _ p0, below_keep hb6 _ _ p1, below_keep hb6 _ _ p2⟩ (fun hHeld => ?_)
      clear hK K
      (try simp only [Act.put, List.getElem_toArray, List.getElem_cons_zero, List.getElem_cons_succ, List.setIfInBounds_toArray, List.set_cons_zero, List.set_cons_succ])
      refine wpAnyH_take (i := 12) (v := ?v19) rfl (by kernel_rfl) (by kernel_rfl) (by kernel_rfl) (fun _ _ _ h => h) (Or.inl ⟨by rfl, ?hy19⟩) hHeld ?rest19
      case hy19 => (intro w' hSw; (try dsimp only at hSw); first | (go_simp; done) | (go_simp; with_reducible rfl))
      simp only [Act.put, List.getElem_toArray, List.getElem_cons_zero, List.getElem_cons_succ, List.setIfInBounds_toArray, List.set_cons_zero, List.set_cons_succ]
      refine wpAnyH_ready (rs := [13]) (by kernel_rfl) (by simp) ?_
      refine AllReadyH.cons rfl (fun K hK => ?_) AllReadyH.nil
      go_simp
      refine hK.out _ _ ⟨cellOff (cellOff (cellOff (below_keep hb6 _ _ p0) (by simp)) (by simp)) (by simp), cellOff (cellOff (cellOff (below_keep hb6 _ _ p1) (by simp)) (by simp)) (by simp), cellOff (cellOff (cellOff (below_keep hb6 _ _ p2) (by simp)) (by simp)) (by simp)⟩ (fun hHeld => ?_)
      clear hK K
      (try simp only [Act.put, List.getElem_toArray, List.getElem_cons_zero, List.getElem_cons_succ, List.setIfInBounds_toArray, List.set_cons_zero, List.set_cons_succ])
      refine wpAnyH_done (by kernel_rfl) ?_ _
      refine NoPanic.normal ?_
      clear hHeld
      have hbn : Below w.heap.size w u6 := hx.trans (hb6.mono hx.size)
      clear r0 r1 r2 f0 f1 f2
      go_wp2_with fail
      have hr9 := (((RR.out).set 0 (.slice B0 x.live.length d0)).set 1 (.slice B1 x.safe.length d1)).set 2 (.slice B2 x.ops.length d2)
      refine bodyPost_ret (results_cell_row (p := 2) (ty := 27) rfl _ _ (w.heap.size + 1) 27 #[.slice B0 x.live.length d0, .slice B1 x.safe.length d1, .slice B2 x.ops.length d2] (0, 0) _ rfl hr9 Try.underlying27 rfl HI.out) rfl ⟨⟨_, rfl, ?_⟩, ?_⟩
      · refine DzA.mono (base := z.heap.size) ?_ (by omega)
        refine DzA.set (DzA.set (DzA.set (show DzA _ z.heap.size _ x from ⟨_, _, _, rfl, O0_6.out, O1_6.out, O2_6.out, D1_0_5.out.symm⟩) ?_ _) ?_ _) ?_ _ <;> (show w.heap.size + 1 < z.heap.size; omega)
      · exact ((hbn.setCell (Nat.le_succ _) _).setCell (Nat.le_succ _) _).setCell (Nat.le_succ _) _
    refine AllReadyH.cons rfl (fun K hK => ?_) AllReadyH.nil
    go_simp
    have hal : Below (u2).heap.size u2 ((u2).alloc (.cells #[] 75)) := (Below.refl _ _).alloc (Nat.le_refl _) _
    have O1_3 := Lib.hid (OwnG.lit (T := 75) (sz := 2) (f := Fz.cells) (u2) (base := z.heap.size) hb2.size)
    have D1_2_3 := Lib.hid (Dis.fresh O2_2.out 0 0)
    have O2_3 := Lib.hid (OwnG.below O2_2.out hal)
    have D1_0_3 := Lib.hid (Dis.fresh O0_2.out 0 0)
    have O0_3 := Lib.hid (OwnG.below O0_2.out hal)
    have hb3 := hb2.alloc hb2.size (.cells #[] 75)
    clear hal
    generalize (u2).alloc (.cells #[] 75) = u3 at *
    refine hK.out _ _ ⟨below_keep hb3 _ _ p0, below_keep hb3 _ _ p1, below_keep hb3 _ _ p2⟩ (fun hHeld => ?_)
    clear hK K
    (try simp only [Act.put, List.getElem_toArray, List.getElem_cons_zero, List.getElem_cons_succ, List.setIfInBounds_toArray, List.set_cons_zero, List.set_cons_succ])
    refine wpAnyH_ready (rs := [3]) (by kernel_rfl) (by simp) ?_
    refine AllReadyH.cons rfl (fun K hK => ?_) AllReadyH.nil
    obtain ⟨v0, u4, hr0, o0, hg0, hl0⟩ := run_app_all fz_cells fz_one (by omega) Try.underlying24 H1.out H2.out H3.out H4.out rfl (u3) 24 O0_3.out hb3.size (c := c0) (h0.below FzR.stays (hx.trans (hb3.mono hx.size))) hln0 (by omega)
    refine step_append_run rfl (.tmp 3) (.tmp 5) 24 24 rfl rfl rfl hr0 ?_
    have hb4 := hb3.grown hg0 hb3.size (fun k hk => (OwnG.block_lt O0_3.out k hk).1)
    have D0_2_4 := Lib.hid (Dis.app O2_3.out (D0_2_2.out) hl0)
    have O2_4 := Lib.hid (OwnG.keptD O2_3.out hg0 (D0_2_2.out))
    have D0_1_4 := Lib.hid (Dis.app O1_3.out (D1_0_3.out.symm) hl0)
    have O1_4 := Lib.hid (OwnG.keptD O1_3.out hg0 (D1_0_3.out.symm))
    have O0_4 := Lib.hid o0
    obtain ⟨B0, d0, e0, -, -, -⟩ := (show OwnZ u4 z.heap.size v0 _ from o0).sl
    subst e0
    clear o0 hr0 hg0 hl0
    refine hK.out _ _ ⟨below_keep hb4 _ _ p0, below_keep hb4 _ _ p1, below_keep hb4 _ _ p2⟩ (fun hHeld => ?_)
    clear hK K
    (try simp only [Act.put, List.getElem_toArray, List.getElem_cons_zero, List.getElem_cons_succ, List.setIfInBounds_toArray, List.set_cons_zero, List.set_cons_succ])
    refine wpAnyH_ready (rs := [7]) (by kernel_rfl) (by simp) ?_
    refine AllReadyH.cons rfl (fun K hK => ?_) AllReadyH.nil
    obtain ⟨v1, u5, hr1, o1, hg1, hl1⟩ := run_app_all fz_cells fz_one (by omega) Try.underlying24 H1.out H2.out H3.out H4.out rfl (u4) 24 O1_4.out hb4.size (c := c1) (h1.below FzR.stays (hx.trans (hb4.mono hx.size))) hln1 (by omega)
    refine step_append_run rfl (.tmp 7) (.tmp 9) 24 24 rfl rfl rfl hr1 ?_
    have hb5 := hb4.grown hg1 hb4.size (fun k hk => (OwnG.block_lt O1_4.out k hk).1)
    have D1_2_5 := Lib.hid (Dis.app O2_4.out (D1_2_3.out) hl1)
    have O2_5 := Lib.hid (OwnG.keptD O2_4.out hg1 (D1_2_3.out))
    have D1_0_5 := Lib.hid (Dis.app O0_4.out (D0_1_4.out.symm) hl1)
    have O0_5 := Lib.hid (OwnG.keptD O0_4.out hg1 (D0_1_4.out.symm))
    have O1_5 := Lib.hid o1
    obtain ⟨B1, d1, e1, -, -, -⟩ := (show OwnZ u5 z.heap.size v1 _ from o1).sl
    subst e1
    clear o1 hr1 hg1 hl1
    refine hK.out _ _ ⟨below_keep hb5 _ _ p0, below_keep hb5 _ _ p1, below_keep hb5 _ _ p2⟩ (fun hHeld => ?_)
    clear hK K
    (try simp only [Act.put, List.getElem_toArray, List.getElem_cons_zero, List.getElem_cons_succ, List.setIfInBounds_toArray, List.set_cons_zero, List.set_cons_succ])
    refine wpAnyH_ready (rs := [11]) (by kernel_rfl) (by simp) ?_
    refine AllReadyH.cons rfl (fun K hK => ?_) AllReadyH.nil
    obtain ⟨v2, u6, hr2, o2, hg2, hl2⟩ := run_app_all oz_cells oz_one (by omega) Try.underlying25 J1.out J2.out J3.out J4.out rfl (u5) 25 O2_5.out hb5.size (c := c2) (h2.below OzR.stays (hx.trans (hb5.mono hx.size))) hln2 (by omega)
    refine step_append_run rfl (.tmp 11) (.tmp 13) 25 25 rfl rfl rfl hr2 ?_
    have hb6 := hb5.grown hg2 hb5.size (fun k hk => (OwnG.block_lt O2_5.out k hk).1)
    have D2_0_6 := Lib.hid (Dis.app O0_5.out (D0_2_4.out.symm) hl2)
    have O0_6 := Lib.hid (OwnG.keptD O0_5.out hg2 (D0_2_4.out.symm))
    have D2_1_6 := Lib.hid (Dis.app O1_5.out (D1_2_5.out.symm) hl2)
    have O1_6 := Lib.hid (OwnG.keptD O1_5.out hg2 (D1_2_5.out.symm))
    have O2_6 := Lib.hid o2
    obtain ⟨B2, d2, e2, -, -, -⟩ := (show OwnO u6 z.heap.size v2 _ from o2).sl
    subst e2
    clear o2 hr2 hg2 hl2
    have rr := rb.below hb6
    obtain ⟨⟨r0, r1, r2⟩, ⟨f0, f1, f2⟩⟩ := rr.three
    have RR := Lib.hid rr
    clear rr
    refine hK.out _ _ ⟨below_keep hb6 _ _ p0, below_keep hb6 _ _ p1, below_keep hb6 _ _ p2⟩ (fun hHeld => ?_)
    clear hK K
    (try simp only [Act.put, List.getElem_toArray, List.getElem_cons_zero, List.getElem_cons_succ, List.setIfInBounds_toArray, List.set_cons_zero, List.set_cons_succ])
    refine wpAnyH_take (i := 12) (v := ?v20) rfl (by kernel_rfl) (by kernel_rfl) (by kernel_rfl) (fun _ _ _ h => h) (Or.inl ⟨by rfl, ?hy20⟩) hHeld ?rest20
    case hy20 => (intro w' hSw; (try dsimp only at hSw); first | (go_simp; done) | (go_simp; with_reducible rfl))
    simp only [Act.put, List.getElem_toArray, List.getElem_cons_zero, List.getElem_cons_succ, List.setIfInBounds_toArray, List.set_cons_zero, List.set_cons_succ]
    refine wpAnyH_ready (rs := [13]) (by kernel_rfl) (by simp) ?_
    refine AllReadyH.cons rfl (fun K hK => ?_) AllReadyH.nil
    go_simp
    refine hK.out _ _ ⟨cellOff (cellOff (cellOff (below_keep hb6 _ _ p0) (by simp)) (by simp)) (by simp), cellOff (cellOff (cellOff (below_keep hb6 _ _ p1) (by simp)) (by simp)) (by simp), cellOff (cellOff (cellOff (below_keep hb6 _ _ p2) (by simp)) (by simp)) (by simp)⟩ (fun hHeld => ?_)
    clear hK K
    (try simp only [Act.put, List.getElem_toArray, List.getElem_cons_zero, List.getElem_cons_succ, List.setIfInBounds_toArray, List.set_cons_zero, List.set_cons_succ])
    refine wpAnyH_done (by kernel_rfl) ?_ _
    refine NoPanic.normal ?_
    clear hHeld
    have hbn : Below w.heap.size w u6 := hx.trans (hb6.mono hx.size)
    clear r0 r1 r2 f0 f1 f2
    go_wp2_with fail
    have hr9 := (((RR.out).set 0 (.slice B0 x.live.length d0)).set 1 (.slice B1 x.safe.length d1)).set 2 (.slice B2 x.ops.length d2)
    refine bodyPost_ret (results_cell_row (p := 2) (ty := 27) rfl _ _ (w.heap.size + 1) 27 #[.slice B0 x.live.length d0, .slice B1 x.safe.length d1, .slice B2 x.ops.length d2] (0, 0) _ rfl hr9 Try.underlying27 rfl HI.out) rfl ⟨⟨_, rfl, ?_⟩, ?_⟩
    · refine DzA.mono (base := z.heap.size) ?_ (by omega)
      refine DzA.set (DzA.set (DzA.set (show DzA _ z.heap.size _ x from ⟨_, _, _, rfl, O0_6.out, O1_6.out, O2_6.out, D1_0_5.out.symm⟩) ?_ _) ?_ _) ?_ _ <;> (show w.heap.size + 1 < z.heap.size; omega)
    · exact ((hbn.setCell (Nat.le_succ _) _).setCell (Nat.le_succ _) _).setCell (Nat.le_succ _) _
  refine AllReadyH.cons rfl (fun K hK => ?_) AllReadyH.nil
  go_simp
  have hal : Below (u1).heap.size u1 ((u1).alloc (.cells #[] 75)) := (Below.refl _ _).alloc (Nat.le_refl _) _
  have O1_2 := Lib.hid (OwnG.lit (T := 75) (sz := 2) (f := Fz.cells) (u1) (base := z.heap.size) hb1.size)
  have D1_2_2 := Lib.hid (Dis.fresh O2_1.out 0 0)
  have O2_2 := Lib.hid (OwnG.below O2_1.out hal)
  have hb2 := hb1.alloc hb1.size (.cells #[] 75)
  clear hal
  generalize (u1).alloc (.cells #[] 75) = u2 at *
  refine hK.out _ _ ⟨below_keep hb2 _ _ p0, below_keep hb2 _ _ p1, below_keep hb2 _ _ p2⟩ (fun hHeld => ?_)
  clear hK K
  (try simp only [Act.put, List.getElem_toArray, List.getElem_cons_zero, List.getElem_cons_succ, List.setIfInBounds_toArray, List.set_cons_zero, List.set_cons_succ])
  refine wpAnyH_ready (rs := [0]) (by kernel_rfl) (by simp) ?_
  refine AllReadyH.cons rfl (fun K hK => ?_) AllReadyH.nil
  go_simp
  have hal : Below (u2).heap.size u2 ((u2).alloc (.cells #[] 75)) := (Below.refl _ _).alloc (Nat.le_refl _) _
  have O0_3 := Lib.hid (OwnG.lit (T := 75) (sz := 2) (f := Fz.cells) (u2) (base := z.heap.size) hb2.size)
  have D0_2_3 := Lib.hid (Dis.fresh O2_2.out 0 0)
  have O2_3 := Lib.hid (OwnG.below O2_2.out hal)
  have D0_1_3 := Lib.hid (Dis.fresh O1_2.out 0 0)
  have O1_3 := Lib.hid (OwnG.below O1_2.out hal)
  have hb3 := hb2.alloc hb2.size (.cells #[] 75)
  clear hal
  generalize (u2).alloc (.cells #[] 75) = u3 at *
  refine hK.out _ _ ⟨below_keep hb3 _ _ p0, below_keep hb3 _ _ p1, below_keep hb3 _ _ p2⟩ (fun hHeld => ?_)
  clear hK K
  (try simp only [Act.put, List.getElem_toArray, List.getElem_cons_zero, List.getElem_cons_succ, List.setIfInBounds_toArray, List.set_cons_zero, List.set_cons_succ])
  refine wpAnyH_ready (rs := [3]) (by kernel_rfl) (by simp) ?_
  refine AllReadyH.cons rfl (fun K hK => ?_) AllReadyH.nil
  obtain ⟨v0, u4, hr0, o0, hg0, hl0⟩ := run_app_all fz_cells fz_one (by omega) Try.underlying24 H1.out H2.out H3.out H4.out rfl (u3) 24 O0_3.out hb3.size (c := c0) (h0.below FzR.stays (hx.trans (hb3.mono hx.size))) hln0 (by omega)
  refine step_append_run rfl (.tmp 3) (.tmp 5) 24 24 rfl rfl rfl hr0 ?_
  have hb4 := hb3.grown hg0 hb3.size (fun k hk => (OwnG.block_lt O0_3.out k hk).1)
  have D0_2_4 := Lib.hid (Dis.app O2_3.out (D0_2_3.out) hl0)
  have O2_4 := Lib.hid (OwnG.keptD O2_3.out hg0 (D0_2_3.out))
  have D0_1_4 := Lib.hid (Dis.app O1_3.out (D0_1_3.out) hl0)
  have O1_4 := Lib.hid (OwnG.keptD O1_3.out hg0 (D0_1_3.out))
  have O0_4 := Lib.hid o0
  obtain ⟨B0, d0, e0, -, -, -⟩ := (show OwnZ u4 z.heap.size v0 _ from o0).sl
  subst e0
  clear o0 hr0 hg0 hl0
  refine hK.out _ _ ⟨below_keep hb4 _ _ p0, below_keep hb4 _ _ p1, below_keep hb4 _ _ p2⟩ (fun hHeld => ?_)
  clear hK K
  (try simp only [Act.put, List.getElem_toArray, List.getElem_cons_zero, List.getElem_cons_succ, List.setIfInBounds_toArray, List.set_cons_zero, List.set_cons_succ])
  refine wpAnyH_ready (rs := [7]) (by kernel_rfl) (by simp) ?_
  refine AllReadyH.cons rfl (fun K hK => ?_) AllReadyH.nil
  obtain ⟨v1, u5, hr1, o1, hg1, hl1⟩ := run_app_all fz_cells fz_one (by omega) Try.underlying24 H1.out H2.out H3.out H4.out rfl (u4) 24 O1_4.out hb4.size (c := c1) (h1.below FzR.stays (hx.trans (hb4.mono hx.size))) hln1 (by omega)
  refine step_append_run rfl (.tmp 7) (.tmp 9) 24 24 rfl rfl rfl hr1 ?_
  have hb5 := hb4.grown hg1 hb4.size (fun k hk => (OwnG.block_lt O1_4.out k hk).1)
  have D1_2_5 := Lib.hid (Dis.app O2_4.out (D1_2_2.out) hl1)
  have O2_5 := Lib.hid (OwnG.keptD O2_4.out hg1 (D1_2_2.out))
  have D1_0_5 := Lib.hid (Dis.app O0_4.out (D0_1_4.out.symm) hl1)
  have O0_5 := Lib.hid (OwnG.keptD O0_4.out hg1 (D0_1_4.out.symm))
  have O1_5 := Lib.hid o1
  obtain ⟨B1, d1, e1, -, -, -⟩ := (show OwnZ u5 z.heap.size v1 _ from o1).sl
  subst e1
  clear o1 hr1 hg1 hl1
  refine hK.out _ _ ⟨below_keep hb5 _ _ p0, below_keep hb5 _ _ p1, below_keep hb5 _ _ p2⟩ (fun hHeld => ?_)
  clear hK K
  (try simp only [Act.put, List.getElem_toArray, List.getElem_cons_zero, List.getElem_cons_succ, List.setIfInBounds_toArray, List.set_cons_zero, List.set_cons_succ])
  refine wpAnyH_ready (rs := [11]) (by kernel_rfl) (by simp) ?_
  refine AllReadyH.cons rfl (fun K hK => ?_) AllReadyH.nil
  obtain ⟨v2, u6, hr2, o2, hg2, hl2⟩ := run_app_all oz_cells oz_one (by omega) Try.underlying25 J1.out J2.out J3.out J4.out rfl (u5) 25 O2_5.out hb5.size (c := c2) (h2.below OzR.stays (hx.trans (hb5.mono hx.size))) hln2 (by omega)
  refine step_append_run rfl (.tmp 11) (.tmp 13) 25 25 rfl rfl rfl hr2 ?_
  have hb6 := hb5.grown hg2 hb5.size (fun k hk => (OwnG.block_lt O2_5.out k hk).1)
  have D2_1_6 := Lib.hid (Dis.app O1_5.out (D1_2_5.out.symm) hl2)
  have O1_6 := Lib.hid (OwnG.keptD O1_5.out hg2 (D1_2_5.out.symm))
  have D2_0_6 := Lib.hid (Dis.app O0_5.out (D0_2_4.out.symm) hl2)
  have O0_6 := Lib.hid (OwnG.keptD O0_5.out hg2 (D0_2_4.out.symm))
  have O2_6 := Lib.hid o2
  obtain ⟨B2, d2, e2, -, -, -⟩ := (show OwnO u6 z.heap.size v2 _ from o2).sl
  subst e2
  clear o2 hr2 hg2 hl2
  have rr := rb.below hb6
  obtain ⟨⟨r0, r1, r2⟩, ⟨f0, f1, f2⟩⟩ := rr.three
  have RR := Lib.hid rr
  clear rr
  refine hK.out _ _ ⟨below_keep hb6 _ _ p0, below_keep hb6 _ _ p1, below_keep hb6 _ _ p2⟩ (fun hHeld => ?_)
  clear hK K
  (try simp only [Act.put, List.getElem_toArray, List.getElem_cons_zero, List.getElem_cons_succ, List.setIfInBounds_toArray, List.set_cons_zero, List.set_cons_succ])
  refine wpAnyH_take (i := 12) (v := ?v21) rfl (by kernel_rfl) (by kernel_rfl) (by kernel_rfl) (fun _ _ _ h => h) (Or.inl ⟨by rfl, ?hy21⟩) hHeld ?rest21
  case hy21 => (intro w' hSw; (try dsimp only at hSw); first | (go_simp; done) | (go_simp; with_reducible rfl))
  simp only [Act.put, List.getElem_toArray, List.getElem_cons_zero, List.getElem_cons_succ, List.setIfInBounds_toArray, List.set_cons_zero, List.set_cons_succ]
  refine wpAnyH_ready (rs := [13]) (by kernel_rfl) (by simp) ?_
  refine AllReadyH.cons rfl (fun K hK => ?_) AllReadyH.nil
  go_simp
  refine hK.out _ _ ⟨cellOff (cellOff (cellOff (below_keep hb6 _ _ p0) (by simp)) (by simp)) (by simp), cellOff (cellOff (cellOff (below_keep hb6 _ _ p1) (by simp)) (by simp)) (by simp), cellOff (cellOff (cellOff (below_keep hb6 _ _ p2) (by simp)) (by simp)) (by simp)⟩ (fun hHeld => ?_)
  clear hK K
  (try simp only [Act.put, List.getElem_toArray, List.getElem_cons_zero, List.getElem_cons_succ, List.setIfInBounds_toArray, List.set_cons_zero, List.set_cons_succ])
  refine wpAnyH_done (by kernel_rfl) ?_ _
  refine NoPanic.normal ?_
  clear hHeld
  have hbn : Below w.heap.size w u6 := hx.trans (hb6.mono hx.size)
  clear r0 r1 r2 f0 f1 f2
  go_wp2_with fail
  have hr9 := (((RR.out).set 0 (.slice B0 x.live.length d0)).set 1 (.slice B1 x.safe.length d1)).set 2 (.slice B2 x.ops.length d2)
  refine bodyPost_ret (results_cell_row (p := 2) (ty := 27) rfl _ _ (w.heap.size + 1) 27 #[.slice B0 x.live.length d0, .slice B1 x.safe.length d1, .slice B2 x.ops.length d2] (0, 0) _ rfl hr9 Try.underlying27 rfl HI.out) rfl ⟨⟨_, rfl, ?_⟩, ?_⟩
  · refine DzA.mono (base := z.heap.size) ?_ (by omega)
    refine DzA.set (DzA.set (DzA.set (show DzA _ z.heap.size _ x from ⟨_, _, _, rfl, O0_6.out, O1_6.out, O2_6.out, D1_0_5.out.symm⟩) ?_ _) ?_ _) ?_ _ <;> (show w.heap.size + 1 < z.heap.size; omega)
  · exact ((hbn.setCell (Nat.le_succ _) _).setCell (Nat.le_succ _) _).setCell (Nat.le_succ _) _

set_option maxRecDepth 100000 in
set_option maxHeartbeats 1000000 in
theorem implCopyDisk (x : Dz) (A0 : Option Addr) (n0 c0 : Nat) (A1 : Option Addr) (n1 c1 : Nat) (A2 : Option Addr) (n2 c2 : Nat) (ok : Nat → Prop) (w : World) (h0 : Sl FzR 2 ok w A0 n0 x.live) (h1 : Sl FzR 2 ok w A1 n1 x.safe) (h2 : Sl OzR 4 ok w A2 n2 x.ops) (hl : n0 ≤ 1048576 ∧ n1 ≤ 1048576 ∧ n2 ≤ 1048576) :
    Calls Try.prog 63 #[.agg #[.slice A0 n0 c0, .slice A1 n1 c1, .slice A2 n2 c2]] w fun e w' => (∃ v, e = .returned v ∧ DzA w' w.heap.size v (x)) ∧ Below w.heap.size w w' := by
  obtain ⟨hx, hwz⟩ := box2 w (.cells #[.slice A0 n0 c0, .slice A1 n1 c1, .slice A2 n2 c2] 27) (.cells #[.slice none 0 0, .slice none 0 0, .slice none 0 0] 27)
  have ra := (Row.new w 27 #[.slice A0 n0 c0, .slice A1 n1 c1, .slice A2 n2 c2]).alloc (.cells #[.slice none 0 0, .slice none 0 0, .slice none 0 0] 27)
  have rb := Row.newAt (w.alloc (.cells #[.slice A0 n0 c0, .slice A1 n1 c1, .slice A2 n2 c2] 27)) 27 #[.slice none 0 0, .slice none 0 0, .slice none 0 0] (w.heap.size + 1) (by simp)
  have HI := Lib.hid infoDisk
  go_enter Try.func63, Try.ntmps63
  go_wp2_with fail
  generalize (w.alloc (.cells #[.slice A0 n0 c0, .slice A1 n1 c1, .slice A2 n2 c2] 27)).alloc (.cells #[.slice none 0 0, .slice none 0 0, .slice none 0 0] 27) = z at *
  obtain ⟨⟨p0, p1, p2⟩, -⟩ := ra.three
  have hb0 : Below z.heap.size z z.drew := (Below.refl _ z).drew
  refine wp_region_noPanic ?_
  refine wp_region_held_drew (S := (fun w' => w'.cell? ⟨w.heap.size, 0, none⟩ = some (.slice A0 n0 c0) ∧ w'.cell? ⟨w.heap.size, 1, none⟩ = some (.slice A1 n1 c1) ∧ w'.cell? ⟨w.heap.size, 2, none⟩ = some (.slice A2 n2 c2))) (by kernel_rfl) ⟨p0, p1, p2⟩ (fun hHeld => ?_)
  generalize z.drew = u0 at *
  refine wpAnyH_take (i := 0) (v := ?v22) rfl (by kernel_rfl) (by kernel_rfl) (by kernel_rfl) (fun _ _ _ h => h) (Or.inl ⟨by rfl, ?hy22⟩) hHeld ?rest22
  case hy22 => (intro w' hSw; (try dsimp only at hSw); first | (go_simp; done) | (go_simp; with_reducible rfl))
  simp only [Act.put, List.getElem_toArray, List.getElem_cons_zero, List.getElem_cons_succ, List.setIfInBounds_toArray, List.set_cons_zero, List.set_cons_succ]
  refine wpAnyH_take (i := 1) (v := ?v23) rfl (by kernel_rfl) (by kernel_rfl) (by kernel_rfl) (fun _ _ _ h => h) (Or.inl ⟨by rfl, ?hy23⟩) hHeld ?rest23
  case hy23 => (intro w' hSw; (try dsimp only at hSw); first | (go_simp; done) | (go_simp; with_reducible rfl))
  simp only [Act.put, List.getElem_toArray, List.getElem_cons_zero, List.getElem_cons_succ, List.setIfInBounds_toArray, List.set_cons_zero, List.set_cons_succ]
  refine wpAnyH_take (i := 3) (v := ?v24) rfl (by kernel_rfl) (by kernel_rfl) (by kernel_rfl) (fun _ _ _ h => h) (Or.inl ⟨by rfl, ?hy24⟩) hHeld ?rest24
  case hy24 => (intro w' hSw; (try dsimp only at hSw); first | (go_simp; done) | (go_simp; with_reducible rfl))
  simp only [Act.put, List.getElem_toArray, List.getElem_cons_zero, List.getElem_cons_succ, List.setIfInBounds_toArray, List.set_cons_zero, List.set_cons_succ]
  refine wpAnyH_take (i := 4) (v := ?v25) rfl (by kernel_rfl) (by kernel_rfl) (by kernel_rfl) (fun _ _ _ h => h) (Or.inl ⟨by rfl, ?hy25⟩) hHeld ?rest25
  case hy25 => (intro w' hSw; (try dsimp only at hSw); first | (go_simp; done) | (go_simp; with_reducible rfl))
  simp only [Act.put, List.getElem_toArray, List.getElem_cons_zero, List.getElem_cons_succ, List.setIfInBounds_toArray, List.set_cons_zero, List.set_cons_succ]
  refine wpAnyH_take (i := 6) (v := ?v26) rfl (by kernel_rfl) (by kernel_rfl) (by kernel_rfl) (fun _ _ _ h => h) (Or.inl ⟨by rfl, ?hy26⟩) hHeld ?rest26
  case hy26 => (intro w' hSw; (try dsimp only at hSw); first | (go_simp; done) | (go_simp; with_reducible rfl))
  simp only [Act.put, List.getElem_toArray, List.getElem_cons_zero, List.getElem_cons_succ, List.setIfInBounds_toArray, List.set_cons_zero, List.set_cons_succ]
  refine wpAnyH_take (i := 7) (v := ?v27) rfl (by kernel_rfl) (by kernel_rfl) (by kernel_rfl) (fun _ _ _ h => h) (Or.inl ⟨by rfl, ?hy27⟩) hHeld ?rest27
  case hy27 => (intro w' hSw; (try dsimp only at hSw); first | (go_simp; done) | (go_simp; with_reducible rfl))
  simp only [Act.put, List.getElem_toArray, List.getElem_cons_zero, List.getElem_cons_succ, List.setIfInBounds_toArray, List.set_cons_zero, List.set_cons_succ]
  refine wpAnyH_ready (rs := [2]) (by kernel_rfl) (by simp) ?_
  refine AllReadyH.cons rfl (fun K hK => ?_) AllReadyH.nil
  go_simp
  go_at_call 86
  refine (implCloneFiles A0 n0 c0 x.live _ _ (h0.below FzR.stays (hx.trans (hb0.mono hx.size))) hl.1).mono ?_
  rintro e u1 ⟨⟨v0, rfl, o0⟩, hq0⟩
  have O0_1 := Lib.hid o0
  have hb1 := hb0.trans (hq0.mono hb0.size)
  obtain ⟨B0, d0, e0, -, -, -⟩ := (show OwnZ u1 _ v0 _ from o0).sl
  subst e0
  clear o0
  refine hK.out _ _ (keep3 hHeld hq0) (fun hHeld => ?_)
  clear hK K
  (try simp only [Act.put, List.getElem_toArray, List.getElem_cons_zero, List.getElem_cons_succ, List.setIfInBounds_toArray, List.set_cons_zero, List.set_cons_succ])
  refine wpAnyH_ready (rs := [5]) (by kernel_rfl) (by simp) ?_
  refine AllReadyH.cons rfl (fun K hK => ?_) AllReadyH.nil
  go_simp
  go_at_call 86
  refine (implCloneFiles A1 n1 c1 x.safe _ _ (h1.below FzR.stays (hx.trans (hb1.mono hx.size))) hl.2.1).mono ?_
  rintro e u2 ⟨⟨v1, rfl, o1⟩, hq1⟩
  have O1_2 := Lib.hid o1
  have O0_2 := Lib.hid (OwnG.below O0_1.out hq1)
  have HD := Lib.hid (show Dis (.slice B0 x.live.length d0) v1 from fun k hk e => by have h1 := (OwnG.block_lt O0_1.out k hk).2; have h2 := (OwnG.block_lt O1_2.out k e).1; omega)
  have hb2 := hb1.trans (hq1.mono hb1.size)
  obtain ⟨B1, d1, e1, -, -, -⟩ := (show OwnZ u2 _ v1 _ from o1).sl
  subst e1
  clear o1
  refine hK.out _ _ (keep3 hHeld hq1) (fun hHeld => ?_)
  clear hK K
  (try simp only [Act.put, List.getElem_toArray, List.getElem_cons_zero, List.getElem_cons_succ, List.setIfInBounds_toArray, List.set_cons_zero, List.set_cons_succ])
  refine wpAnyH_ready (rs := [8]) (by kernel_rfl) (by simp) ?_
  refine AllReadyH.cons rfl (fun K hK => ?_) AllReadyH.nil
  go_simp
  go_at_call 91
  refine (implCloneDOps A2 n2 c2 x.ops _ _ (h2.below OzR.stays (hx.trans (hb2.mono hx.size))) hl.2.2).mono ?_
  rintro e u3 ⟨⟨v2, rfl, o2⟩, hq2⟩
  have O2_3 := Lib.hid o2
  have O0_3 := Lib.hid (OwnG.below O0_2.out hq2)
  have O1_3 := Lib.hid (OwnG.below O1_2.out hq2)
  have hb3 := hb2.trans (hq2.mono hb2.size)
  obtain ⟨B2, d2, e2, -, -, -⟩ := (show OwnO u3 _ v2 _ from o2).sl
  subst e2
  clear o2
  have rr := rb.below hb3
  obtain ⟨⟨r0, r1, r2⟩, ⟨f0, f1, f2⟩⟩ := rr.three
  have RR := Lib.hid rr
  clear rr
  refine hK.out _ _ (keep3 hHeld hq2) (fun hHeld => ?_)
  clear hK K
  (try simp only [Act.put, List.getElem_toArray, List.getElem_cons_zero, List.getElem_cons_succ, List.setIfInBounds_toArray, List.set_cons_zero, List.set_cons_succ])
  refine wpAnyH_take (i := 9) (v := ?v28) rfl (by kernel_rfl) (by kernel_rfl) (by kernel_rfl) (fun _ _ _ h => h) (Or.inl ⟨by rfl, ?hy28⟩) hHeld ?rest28
  case hy28 => (intro w' hSw; (try dsimp only at hSw); first | (go_simp; done) | (go_simp; with_reducible rfl))
  simp only [Act.put, List.getElem_toArray, List.getElem_cons_zero, List.getElem_cons_succ, List.setIfInBounds_toArray, List.set_cons_zero, List.set_cons_succ]
  refine wpAnyH_ready (rs := [10]) (by kernel_rfl) (by simp) ?_
  refine AllReadyH.cons rfl (fun K hK => ?_) AllReadyH.nil
  go_simp
  refine hK.out _ _ ⟨cellOff (cellOff (cellOff (below_keep hb3 _ _ p0) (by simp)) (by simp)) (by simp), cellOff (cellOff (cellOff (below_keep hb3 _ _ p1) (by simp)) (by simp)) (by simp), cellOff (cellOff (cellOff (below_keep hb3 _ _ p2) (by simp)) (by simp)) (by simp)⟩ (fun hHeld => ?_)
  clear hK K
  (try simp only [Act.put, List.getElem_toArray, List.getElem_cons_zero, List.getElem_cons_succ, List.setIfInBounds_toArray, List.set_cons_zero, List.set_cons_succ])
  refine wpAnyH_done (by kernel_rfl) ?_ _
  refine NoPanic.normal ?_
  clear hHeld
  have hbn : Below w.heap.size w u3 := hx.trans (hb3.mono hx.size)
  clear r0 r1 r2 f0 f1 f2
  go_wp2_with fail
  have hr9 := (((RR.out).set 0 (.slice B0 x.live.length d0)).set 1 (.slice B1 x.safe.length d1)).set 2 (.slice B2 x.ops.length d2)
  refine bodyPost_ret (results_cell_row (p := 2) (ty := 27) rfl _ _ (w.heap.size + 1) 27 #[.slice B0 x.live.length d0, .slice B1 x.safe.length d1, .slice B2 x.ops.length d2] (0, 0) _ rfl hr9 Try.underlying27 rfl HI.out) rfl ⟨⟨_, rfl, ?_⟩, ?_⟩
  · refine DzA.mono (base := z.heap.size) ?_ (by omega)
    refine DzA.set (DzA.set (DzA.set (show DzA _ z.heap.size _ x from ⟨_, _, _, rfl, OwnZ.mono O0_3.out hb0.size, OwnZ.mono O1_3.out hb1.size, OwnO.mono O2_3.out hb2.size, HD.out⟩) ?_ _) ?_ _) ?_ _ <;> (show w.heap.size + 1 < z.heap.size; omega)
  · exact ((hbn.setCell (Nat.le_succ _) _).setCell (Nat.le_succ _) _).setCell (Nat.le_succ _) _
end Go.Proofs.Ytkinegapnknhiaa
namespace Go.Proofs.Ytkinegapnknhiaa
open Go.RowKit Go.Maps
set_option linter.unusedVariables false
set_option linter.unusedSimpArgs false

/-- What an op on a right disk is refused for. -/
def codeD (x : Dz) (o : Oz) : Int := if formB o then (if (doF x.live o).2 then (if x.ops.length = 200 then 4 else if filesB (doF x.live o).1 then 0 else 4) else 3) else 2
/-- The disk behind an op. -/
def actD (x : Dz) (o : Oz) : Dz := if codeD x o = 0 then ⟨(doF x.live o).1, x.safe, x.ops ++ [o]⟩ else x
theorem codeD_form {x : Dz} {o : Oz} (h : formB o = false) : codeD x o = 2 ∧ actD x o = x := by
  have e : codeD x o = 2 := by unfold codeD; rw [h]; rfl
  exact ⟨e, by unfold actD; rw [e]; rfl⟩
theorem codeD_none {x : Dz} {o : Oz} (h : formB o = true) (hd : (doF x.live o).2 = false) : codeD x o = 3 ∧ actD x o = x := by
  have e : codeD x o = 3 := by unfold codeD; rw [h, hd]; rfl
  exact ⟨e, by unfold actD; rw [e]; rfl⟩
theorem codeD_many {x : Dz} {o : Oz} (h : formB o = true) (hd : (doF x.live o).2 = true) (hm : x.ops.length = 200) : codeD x o = 4 ∧ actD x o = x := by
  have e : codeD x o = 4 := by unfold codeD; rw [h, hd, if_pos hm]; rfl
  exact ⟨e, by unfold actD; rw [e]; rfl⟩
theorem codeD_full {x : Dz} {o : Oz} (h : formB o = true) (hd : (doF x.live o).2 = true) (hr : filesB (doF x.live o).1 = false) : codeD x o = 4 ∧ actD x o = x := by
  have e : codeD x o = 4 := by unfold codeD; rw [h, hd, hr]; simp
  exact ⟨e, by unfold actD; rw [e]; rfl⟩
theorem codeD_ok {x : Dz} {o : Oz} (h : formB o = true) (hd : (doF x.live o).2 = true) (hm : x.ops.length ≠ 200) (hr : filesB (doF x.live o).1 = true) : codeD x o = 0 ∧ actD x o = ⟨(doF x.live o).1, x.safe, x.ops ++ [o]⟩ := by
  have e : codeD x o = 0 := by unfold codeD; rw [h, hd, hr, if_neg hm]; rfl
  exact ⟨e, by unfold actD; rw [if_pos e]⟩
theorem results_cell_row2 {P : Program} {fn : Func} {p u : Tmp} {ty : TypeId} (h : fn.results = #[.cell p ty, .tmp u]) (tmps : Array Value) (w : World) (g : Nat) (t : TypeId) (cs : Array Value) (fr : Nat × Nat) (d : TypeDesc)
    (hp : tmps.getD p undef = .pointer (some ⟨g, 0, none⟩)) {r : Value} (hr : tmps.getD u undef = r) (hg : w.heap[g]? = some (.cells cs t fr))
    (hu : P.underlying ty = some d) (hd : (match d with | .struct _ | .array _ _ => true | _ => false) = true) (hi : (P.info? ty).map (·.size) = some cs.size) :
    (results fn tmps).run P w = .ok (.tuple #[.agg cs, r]) w := by
  rw [results_cell_tmp h, hp, hr]
  simp [asAddr, run_loadVar_row w g t ty cs fr d hg hu hd hi]
theorem OwnG.setNe {α : Type} {T : TypeId} {sz : Nat} {f : α → List Value} {w : World} {base : Nat} {v : Value} {xs : List α} (h : OwnG T sz f w base v xs) {p : Addr} (hp : v.ownBlock ≠ some p.block) (u : Value) : OwnG T sz f (w.setCell p u) base v xs :=
  World.ownsRow.kept h (row := some p.block) ⟨rfl, rfl, rfl, by simp [World.setCell], fun k _ hne => Below.heap_setCell _ _ _ _ (fun e => hne (by rw [e]))⟩ (Or.inr hp)
theorem OwnG.far {α : Type} {T : TypeId} {sz : Nat} {f : α → List Value} {w : World} {base : Nat} {v : Value} {xs : List α} (h : OwnG T sz f w base v xs) {g : Nat} (hg : w.heap.size ≤ g) : v.ownBlock ≠ some g := fun e => by
  have := (OwnG.block_lt h g e).2; omega
theorem box3 (w : World) (a b c : Obj) : Below w.heap.size w (((w.alloc a).alloc b).alloc c) ∧ w.heap.size + 3 ≤ (((w.alloc a).alloc b).alloc c).heap.size := ⟨(((Below.refl w.heap.size w).alloc (Nat.le_refl _) a).alloc (by simp) b).alloc (by simp <;> omega) c, by simp⟩

set_option maxRecDepth 100000 in
set_option maxHeartbeats 2000000 in
theorem specAct (x : Dz) (o : Oz) (A0 : Option Addr) (n0 c0 : Nat) (A1 : Option Addr) (n1 c1 : Nat) (A2 : Option Addr) (n2 c2 : Nat) (ok : Nat → Prop) (w : World) (h0 : Sl FzR 2 ok w A0 n0 x.live) (h1 : Sl FzR 2 ok w A1 n1 x.safe) (h2 : Sl OzR 4 ok w A2 n2 x.ops) (hr : filesB x.live = true ∧ x.safe.length ≤ 1048576 ∧ x.ops.length ≤ 1048575) (ho : o.data.size ≤ 268435456) :
    Calls Try.prog 58 #[.agg #[.slice A0 n0 c0, .slice A1 n1 c1, .slice A2 n2 c2], .agg #[.int .i64 o.kind, .string o.name, .string o.to, .string o.data]] w fun e w' => (∃ v, e = .returned (.tuple #[v, .int .i64 (codeD x o)]) ∧ DzA w' w.heap.size v (actD x o)) ∧ Below w.heap.size w w' := by
  obtain ⟨hx, hwz⟩ := box3 w (.cells #[.slice A0 n0 c0, .slice A1 n1 c1, .slice A2 n2 c2] 27) (.cells #[.int .i64 o.kind, .string o.name, .string o.to, .string o.data] 36) (.cells #[.slice none 0 0, .slice none 0 0, .slice none 0 0] 27)
  have ra := ((Row.new w 27 #[.slice A0 n0 c0, .slice A1 n1 c1, .slice A2 n2 c2]).alloc (.cells #[.int .i64 o.kind, .string o.name, .string o.to, .string o.data] 36)).alloc (.cells #[.slice none 0 0, .slice none 0 0, .slice none 0 0] 27)
  have ro := (Row.newAt (w.alloc (.cells #[.slice A0 n0 c0, .slice A1 n1 c1, .slice A2 n2 c2] 27)) 36 #[.int .i64 o.kind, .string o.name, .string o.to, .string o.data] (w.heap.size + 1) (by simp)).alloc (.cells #[.slice none 0 0, .slice none 0 0, .slice none 0 0] 27)
  have rb := Row.newAt ((w.alloc (.cells #[.slice A0 n0 c0, .slice A1 n1 c1, .slice A2 n2 c2] 27)).alloc (.cells #[.int .i64 o.kind, .string o.name, .string o.to, .string o.data] 36)) 27 #[.slice none 0 0, .slice none 0 0, .slice none 0 0] (w.heap.size + 2) (by simp)
  have HI := Lib.hid infoDisk
  obtain ⟨j0, hi, hz0, hz1, hz2⟩ := info_parts infoDOpT
  have J1 := Lib.hid hi
  have J2 := Lib.hid hz0
  have J3 := Lib.hid hz1
  have J4 := Lib.hid hz2
  clear hi hz0 hz1 hz2
  go_enter Try.func58, Try.ntmps58
  go_wp2_with fail
  generalize ((w.alloc (.cells #[.slice A0 n0 c0, .slice A1 n1 c1, .slice A2 n2 c2] 27)).alloc (.cells #[.int .i64 o.kind, .string o.name, .string o.to, .string o.data] 36)).alloc (.cells #[.slice none 0 0, .slice none 0 0, .slice none 0 0] 27) = z at *
  obtain rfl : x.live.length = n0 := h0.1
  obtain rfl : x.safe.length = n1 := h1.1
  obtain rfl : x.ops.length = n2 := h2.1
  have hfl := filesB_bytes hr.1
  have HL := Lib.hid (show x.live.length ≤ 1048576 ∧ x.safe.length ≤ 1048576 ∧ x.ops.length ≤ 1048576 from ⟨by omega, hr.2.1, by have := hr.2.2; omega⟩)
  have HBY := Lib.hid (doF_bytes x.live o)
  have HOL := Lib.hid hr.2.2
  have HFL := Lib.hid hfl
  clear hr hfl
  obtain ⟨⟨s0, s1, s2, s3⟩, -⟩ := ro.all4
  refine (specForm14 o _).mono ?_
  rintro e w1 ⟨rfl, hq⟩
  clear s0 s1 s2 s3
  have hx := hx.trans (hq.mono hx.size)
  have hwz := Nat.le_trans hwz hq.size
  have ra := ra.below hq
  have ro := ro.below hq
  have rb := rb.below hq
  obtain ⟨⟨p0, p1, p2⟩, -⟩ := ra.three
  obtain ⟨⟨s0, s1, s2, s3⟩, -⟩ := ro.all4
  obtain ⟨⟨r0, r1, r2⟩, ⟨f0, f1, f2⟩⟩ := rb.three
  cases e0 : formB o
  · have HA := Lib.hid (codeD_form (x := x) e0)
    go_wp2_with fail
    refine (specCopy x A0 _ c0 A1 _ c1 A2 _ c2 _ _ (h0.below FzR.stays hx) (h1.below FzR.stays hx) (h2.below OzR.stays hx) HL.out).mono ?_
    rintro e w9 ⟨⟨v, rfl, hv⟩, hb⟩
    have hxe := hx.trans (hb.mono hx.size)
    have RR := Lib.hid (rb.below hb)
    have HV := Lib.hid (hv.mono (base' := w.heap.size + 3) hwz)
    obtain ⟨v0, v1, v2, rfl, k0, k1, k2, -⟩ := hv
    obtain ⟨B0, d0, rfl, -⟩ := k0.sl
    obtain ⟨B1, d1, rfl, -⟩ := k1.sl
    obtain ⟨B2, d2, rfl, -⟩ := k2.sl
    clear p0 p1 p2 s0 s1 s2 s3 r0 r1 r2 f0 f1 f2 k0 k1 k2 hb
    have rr := RR.out
    obtain ⟨⟨r0, r1, r2⟩, ⟨f0, f1, f2⟩⟩ := rr.three
    clear rr
    go_wp2_with fail
    have hr9 := (((RR.out).set 0 (.slice B0 x.live.length d0)).set 1 (.slice B1 x.safe.length d1)).set 2 (.slice B2 x.ops.length d2)
    refine bodyPost_ret (results_cell_row2 (p := 4) (u := 5) (ty := 27) rfl _ _ (w.heap.size + 2) 27 #[.slice B0 x.live.length d0, .slice B1 x.safe.length d1, .slice B2 x.ops.length d2] (0, 0) _ rfl rfl hr9 Try.underlying27 rfl HI.out) rfl ⟨⟨.agg #[.slice B0 x.live.length d0, .slice B1 x.safe.length d1, .slice B2 x.ops.length d2], ?_, ?_⟩, ?_⟩
    · rw [HA.out.1]; rfl
    · refine DzA.mono (base := w.heap.size + 3) ?_ (by omega)
      rw [HA.out.2]
      refine DzA.set (DzA.set (DzA.set (HV.out) ?_ _) ?_ _) ?_ _ <;> (exact Nat.lt_succ_self _)
    · exact ((hxe.setCell (Nat.le_add_right _ 2) _).setCell (Nat.le_add_right _ 2) _).setCell (Nat.le_add_right _ 2) _
  have E0 := Lib.hid e0
  have HZ1 := Lib.hid hwz
  clear e0
  go_wp2_with fail
  refine (specDo14 A0 _ c0 x.live o _ _ (h0.below FzR.stays hx) (by have := HFL.out; omega) (by have := HFL.out; omega) ho).mono ?_
  rintro e w2 ⟨v, rfl, hv, hq2⟩
  obtain ⟨N0, e0, rfl, -, -, hsl⟩ := (show OwnZ w2 _ v _ from hv).sl
  have HN := Lib.hid hv
  clear hv
  have hx := hx.trans (hq2.mono hx.size)
  have hwz := Nat.le_trans hwz hq2.size
  have ra := ra.below hq2
  have ro := ro.below hq2
  have rb := rb.below hq2
  clear p0 p1 p2 s0 s1 s2 s3 r0 r1 r2 f0 f1 f2
  obtain ⟨⟨p0, p1, p2⟩, -⟩ := ra.three
  obtain ⟨⟨s0, s1, s2, s3⟩, -⟩ := ro.all4
  obtain ⟨⟨r0, r1, r2⟩, ⟨f0, f1, f2⟩⟩ := rb.three
  cases e1 : (doF x.live o).2
  · have HA := Lib.hid (codeD_none (x := x) E0.out e1)
    go_wp2_with fail
    refine (specCopy x A0 _ c0 A1 _ c1 A2 _ c2 _ _ (h0.below FzR.stays hx) (h1.below FzR.stays hx) (h2.below OzR.stays hx) HL.out).mono ?_
    rintro e w9 ⟨⟨v, rfl, hv⟩, hb⟩
    have hxe := hx.trans (hb.mono hx.size)
    have RR := Lib.hid (rb.below hb)
    have HV := Lib.hid (hv.mono (base' := w.heap.size + 3) hwz)
    obtain ⟨v0, v1, v2, rfl, k0, k1, k2, -⟩ := hv
    obtain ⟨B0, d0, rfl, -⟩ := k0.sl
    obtain ⟨B1, d1, rfl, -⟩ := k1.sl
    obtain ⟨B2, d2, rfl, -⟩ := k2.sl
    clear p0 p1 p2 s0 s1 s2 s3 r0 r1 r2 f0 f1 f2 k0 k1 k2 hb
    have rr := RR.out
    obtain ⟨⟨r0, r1, r2⟩, ⟨f0, f1, f2⟩⟩ := rr.three
    clear rr
    go_wp2_with fail
    have hr9 := (((RR.out).set 0 (.slice B0 x.live.length d0)).set 1 (.slice B1 x.safe.length d1)).set 2 (.slice B2 x.ops.length d2)
    refine bodyPost_ret (results_cell_row2 (p := 4) (u := 5) (ty := 27) rfl _ _ (w.heap.size + 2) 27 #[.slice B0 x.live.length d0, .slice B1 x.safe.length d1, .slice B2 x.ops.length d2] (0, 0) _ rfl rfl hr9 Try.underlying27 rfl HI.out) rfl ⟨⟨.agg #[.slice B0 x.live.length d0, .slice B1 x.safe.length d1, .slice B2 x.ops.length d2], ?_, ?_⟩, ?_⟩
    · rw [HA.out.1]; rfl
    · refine DzA.mono (base := w.heap.size + 3) ?_ (by omega)
      rw [HA.out.2]
      refine DzA.set (DzA.set (DzA.set (HV.out) ?_ _) ?_ _) ?_ _ <;> (exact Nat.lt_succ_self _)
    · exact ((hxe.setCell (Nat.le_add_right _ 2) _).setCell (Nat.le_add_right _ 2) _).setCell (Nat.le_add_right _ 2) _
  have E1 := Lib.hid e1
  clear e1
  by_cases h200 : x.ops.length = 200
  · have h200' : decide ((x.ops.length : Int) = 200) = true := decide_eq_true (by omega)
    have h2b : ((x.ops.length : Int) == 200) = true := by simpa using (show (x.ops.length : Int) = 200 by omega)
    have HA := Lib.hid (codeD_many (x := x) E0.out E1.out h200)
    clear h200
    go_wp2_with fail
    refine (specCopy x A0 _ c0 A1 _ c1 A2 _ c2 _ _ (h0.below FzR.stays hx) (h1.below FzR.stays hx) (h2.below OzR.stays hx) HL.out).mono ?_
    rintro e w9 ⟨⟨v, rfl, hv⟩, hb⟩
    have hxe := hx.trans (hb.mono hx.size)
    have RR := Lib.hid (rb.below hb)
    have HV := Lib.hid (hv.mono (base' := w.heap.size + 3) hwz)
    obtain ⟨v0, v1, v2, rfl, k0, k1, k2, -⟩ := hv
    obtain ⟨B0, d0, rfl, -⟩ := k0.sl
    obtain ⟨B1, d1, rfl, -⟩ := k1.sl
    obtain ⟨B2, d2, rfl, -⟩ := k2.sl
    clear p0 p1 p2 s0 s1 s2 s3 r0 r1 r2 f0 f1 f2 k0 k1 k2 hb
    have rr := RR.out
    obtain ⟨⟨r0, r1, r2⟩, ⟨f0, f1, f2⟩⟩ := rr.three
    clear rr
    go_wp2_with fail
    have hr9 := (((RR.out).set 0 (.slice B0 x.live.length d0)).set 1 (.slice B1 x.safe.length d1)).set 2 (.slice B2 x.ops.length d2)
    refine bodyPost_ret (results_cell_row2 (p := 4) (u := 5) (ty := 27) rfl _ _ (w.heap.size + 2) 27 #[.slice B0 x.live.length d0, .slice B1 x.safe.length d1, .slice B2 x.ops.length d2] (0, 0) _ rfl rfl hr9 Try.underlying27 rfl HI.out) rfl ⟨⟨.agg #[.slice B0 x.live.length d0, .slice B1 x.safe.length d1, .slice B2 x.ops.length d2], ?_, ?_⟩, ?_⟩
    · rw [HA.out.1]; rfl
    · refine DzA.mono (base := w.heap.size + 3) ?_ (by omega)
      rw [HA.out.2]
      refine DzA.set (DzA.set (DzA.set (HV.out) ?_ _) ?_ _) ?_ _ <;> (exact Nat.lt_succ_self _)
    · exact ((hxe.setCell (Nat.le_add_right _ 2) _).setCell (Nat.le_add_right _ 2) _).setCell (Nat.le_add_right _ 2) _
  have H200 := Lib.hid h200
  have h2a : decide ((x.ops.length : Int) = 200) = false := decide_eq_false (by omega)
  have h2b : ((x.ops.length : Int) == 200) = false := by simpa using (show ¬ (x.ops.length : Int) = 200 by omega)
  clear h200
  go_wp2_with fail
  refine (specFiles14 N0 _ e0 (doF x.live o).1 _ _ hsl (by have := HBY.out; have := HFL.out; omega)).mono ?_
  rintro e w3 ⟨rfl, hq3⟩
  have HN := Lib.hid (OwnG.below HN.out hq3)
  clear hsl
  have hx := hx.trans (hq3.mono hx.size)
  have hwz := Nat.le_trans hwz hq3.size
  have ra := ra.below hq3
  have ro := ro.below hq3
  have rb := rb.below hq3
  clear p0 p1 p2 s0 s1 s2 s3 r0 r1 r2 f0 f1 f2
  obtain ⟨⟨p0, p1, p2⟩, -⟩ := ra.three
  obtain ⟨⟨s0, s1, s2, s3⟩, -⟩ := ro.all4
  obtain ⟨⟨r0, r1, r2⟩, ⟨f0, f1, f2⟩⟩ := rb.three
  cases e2 : filesB (doF x.live o).1
  · have HA := Lib.hid (codeD_full (x := x) E0.out E1.out e2)
    go_wp2_with fail
    refine (specCopy x A0 _ c0 A1 _ c1 A2 _ c2 _ _ (h0.below FzR.stays hx) (h1.below FzR.stays hx) (h2.below OzR.stays hx) HL.out).mono ?_
    rintro e w9 ⟨⟨v, rfl, hv⟩, hb⟩
    have hxe := hx.trans (hb.mono hx.size)
    have RR := Lib.hid (rb.below hb)
    have HV := Lib.hid (hv.mono (base' := w.heap.size + 3) hwz)
    obtain ⟨v0, v1, v2, rfl, k0, k1, k2, -⟩ := hv
    obtain ⟨B0, d0, rfl, -⟩ := k0.sl
    obtain ⟨B1, d1, rfl, -⟩ := k1.sl
    obtain ⟨B2, d2, rfl, -⟩ := k2.sl
    clear p0 p1 p2 s0 s1 s2 s3 r0 r1 r2 f0 f1 f2 k0 k1 k2 hb
    have rr := RR.out
    obtain ⟨⟨r0, r1, r2⟩, ⟨f0, f1, f2⟩⟩ := rr.three
    clear rr
    go_wp2_with fail
    have hr9 := (((RR.out).set 0 (.slice B0 x.live.length d0)).set 1 (.slice B1 x.safe.length d1)).set 2 (.slice B2 x.ops.length d2)
    refine bodyPost_ret (results_cell_row2 (p := 4) (u := 5) (ty := 27) rfl _ _ (w.heap.size + 2) 27 #[.slice B0 x.live.length d0, .slice B1 x.safe.length d1, .slice B2 x.ops.length d2] (0, 0) _ rfl rfl hr9 Try.underlying27 rfl HI.out) rfl ⟨⟨.agg #[.slice B0 x.live.length d0, .slice B1 x.safe.length d1, .slice B2 x.ops.length d2], ?_, ?_⟩, ?_⟩
    · rw [HA.out.1]; rfl
    · refine DzA.mono (base := w.heap.size + 3) ?_ (by omega)
      rw [HA.out.2]
      refine DzA.set (DzA.set (DzA.set (HV.out) ?_ _) ?_ _) ?_ _ <;> (exact Nat.lt_succ_self _)
    · exact ((hxe.setCell (Nat.le_add_right _ 2) _).setCell (Nat.le_add_right _ 2) _).setCell (Nat.le_add_right _ 2) _
  have HA := Lib.hid (codeD_ok (x := x) E0.out E1.out H200.out e2)
  clear e2
  have LTN0 := (OwnG.block_lt HN.out)
  have HZ3 := Lib.hid hwz
  go_wp2_with fail
  refine (specCopy x A0 _ c0 A1 _ c1 A2 _ c2 _ _ (h0.below FzR.stays hx) (h1.below FzR.stays hx) (h2.below OzR.stays hx) HL.out).mono ?_
  rintro e w4 ⟨⟨v, rfl, hv⟩, hq⟩
  have HN := Lib.hid (OwnG.below HN.out hq)
  have LTN := Lib.hid LTN0
  have hx := hx.trans (hq.mono hx.size)
  have hwz := Nat.le_trans hwz hq.size
  have ro := ro.below hq
  have rb := rb.below hq
  obtain ⟨v0, v1, v2, rfl, k0, k1, k2, -⟩ := hv
  obtain ⟨B0, d0, rfl, -⟩ := k0.sl
  have K1 := Lib.hid k1
  have K2 := Lib.hid k2
  obtain ⟨B1, d1, rfl, -⟩ := k1.sl
  obtain ⟨B2, d2, rfl, -⟩ := k2.sl
  have hal5 := (Below.refl w4.heap.size w4).alloc (Nat.le_refl _) (.cells #[.slice N0 (doF x.live o).1.length e0, .slice B1 x.safe.length d1, .slice B2 x.ops.length d2] 27)
  have hal6 := hal5.alloc hal5.size (.cells #[.int .i64 o.kind, .string o.name, .string o.to, .string o.data] 36)
  have hsz5 : w4.heap.size < (w4.alloc (.cells #[.slice N0 (doF x.live o).1.length e0, .slice B1 x.safe.length d1, .slice B2 x.ops.length d2] 27)).heap.size := by simp
  have hsz6 : w4.heap.size < ((w4.alloc (.cells #[.slice N0 (doF x.live o).1.length e0, .slice B1 x.safe.length d1, .slice B2 x.ops.length d2] 27)).alloc (.cells #[.int .i64 o.kind, .string o.name, .string o.to, .string o.data] 36)).heap.size := by simp; omega
  have ro := ro.alloc (.cells #[.slice N0 (doF x.live o).1.length e0, .slice B1 x.safe.length d1, .slice B2 x.ops.length d2] 27)
  have rt := (Row.new w4 27 #[.slice N0 (doF x.live o).1.length e0, .slice B1 x.safe.length d1, .slice B2 x.ops.length d2]).alloc (.cells #[.int .i64 o.kind, .string o.name, .string o.to, .string o.data] 36)
  have rb6 := (rb.alloc (.cells #[.slice N0 (doF x.live o).1.length e0, .slice B1 x.safe.length d1, .slice B2 x.ops.length d2] 27)).alloc (.cells #[.int .i64 o.kind, .string o.name, .string o.to, .string o.data] 36)
  have HN6 := Lib.hid (OwnG.below HN.out hal6)
  have K16 := Lib.hid (OwnG.below K1.out hal6)
  have K26 := Lib.hid (OwnG.below K2.out hal6)
  have K25 := Lib.hid (OwnG.below K2.out hal5)
  have D2N := Lib.hid (Dis.types K26.out HN6.out (by decide))
  have D21 := Lib.hid (Dis.types K26.out K16.out (by decide))
  have FN := Lib.hid (OwnG.far HN.out (Nat.le_refl _))
  have F1 := Lib.hid (OwnG.far K1.out (Nat.le_refl _))
  have F2 := Lib.hid (OwnG.far K2.out (Nat.le_refl _))
  have hdN : Dis (.slice N0 (doF x.live o).1.length e0) (.slice B1 x.safe.length d1) := fun k hk e => by have h1 := (LTN.out k hk).2; have h2 := (OwnG.block_lt K1.out k e).1; omega
  have HDN := Lib.hid hdN
  have hx6 := (hx.alloc hx.size (.cells #[.slice N0 (doF x.live o).1.length e0, .slice B1 x.safe.length d1, .slice B2 x.ops.length d2] 27)).alloc (Nat.le_trans hx.size hal5.size) (.cells #[.int .i64 o.kind, .string o.name, .string o.to, .string o.data] 36)
  have HX6 := Lib.hid hx6
  have HS4 := Lib.hid hq.size
  have HS6 := Lib.hid hsz6
  clear k0 k1 k2 p0 p1 p2 s0 s1 s2 s3 r0 r1 r2 f0 f1 f2 ra hdN hx6 hal5 hal6
  obtain ⟨⟨s0, s1, s2, s3⟩, -⟩ := ro.all4
  go_wp2_with (at_builtin; refine wpList_append_own_at _ rfl _ _ 25 rfl w3.heap.size 36 j0 (.agg #[.int .i64 0, .string ⟨#[]⟩, .string ⟨#[]⟩, .string ⟨#[]⟩]) 4 56 Try.underlying25 J1.out J2.out J3.out J4.out rfl (by decide) _ _ _ rfl (World.ownsRow.alloc K25.out _) ⟨_, 0, none⟩ 1 1 (Oz.cells o) rfl rfl ?c1 ?c2 ?c3 ?c4 ?c5 ?_)
  case c1 => exact cells_newAt _ (Oz.cells o) _ (by simp)
  case c2 => intro u hu; simp [Oz.cells] at hu; rcases hu with rfl | rfl | rfl | rfl <;> rfl
  case c3 => have := HOL.out; unfold maxLen; omega
  case c4 => have := HOL.out; omega
  case c5 => have := HS4.out; simp; omega
  intro v6 w6 hown6 hgrow _ hl6
  have R6 := OwnG.app K25.out (by have := HS4.out; simp; omega) hown6 hgrow
  have O6 := Lib.hid (show OwnO w6 w3.heap.size v6 (x.ops ++ [o]) from R6.1)
  have hne6 : v6.ownBlock ≠ some w4.heap.size := fun e => by
    rcases hl6 with h | h
    · exact F2.out (h ▸ e)
    · rw [e] at h
      injection h with h
      have := HS6.out
      omega
  have N6 := Lib.hid (OwnG.keptD HN6.out hgrow D2N.out)
  have S6 := Lib.hid (OwnG.keptD K16.out hgrow D21.out)
  have hx6 : Below w.heap.size w w6 := HX6.out.grown hgrow HX6.out.size (fun k hk => by have := (OwnG.block_lt K2.out k hk).1; omega)
  have kr : ∀ {g : Nat} {T : TypeId} {cs : Array Value}, Row ((w4.alloc (.cells #[.slice N0 (doF x.live o).1.length e0, .slice B1 x.safe.length d1, .slice B2 x.ops.length d2] 27)).alloc (.cells #[.int .i64 o.kind, .string o.name, .string o.to, .string o.data] 36)) g T cs → (Value.slice B2 x.ops.length d2).ownBlock ≠ some g → Row w6 g T cs := fun hr hne => (hgrow.block _ (lt_of_block hr) (fun e => hne e.symm)).trans hr
  have rt := kr rt F2.out
  have rb := kr rb6 (fun e => by have := (OwnG.block_lt K2.out _ e).1; omega)
  obtain ⟨C2, m2, dd, hm2, hv6⟩ : ∃ C2 m2 dd, m2 = (x.ops ++ [o]).length ∧ v6 = .slice C2 m2 dd := by obtain ⟨C2, dd, e, -⟩ := O6.out.sl; exact ⟨C2, _, dd, rfl, e⟩
  subst hv6
  have N7 := Lib.hid (OwnG.setNe N6.out (p := ⟨w4.heap.size, 2, none⟩) FN.out (.slice C2 m2 dd))
  have S7 := Lib.hid (OwnG.setNe S6.out (p := ⟨w4.heap.size, 2, none⟩) F1.out (.slice C2 m2 dd))
  have O7 := Lib.hid (OwnG.setNe O6.out (p := ⟨w4.heap.size, 2, none⟩) hne6 (.slice C2 m2 dd))
  have rt7 := rt.set 2 (.slice C2 m2 dd)
  have rb7 := rb.far (p := ⟨w4.heap.size, 2, none⟩) (by simp; omega) (.slice C2 m2 dd)
  have hx7 := hx6.setCell (p := ⟨w4.heap.size, 2, none⟩) (by simp; omega) (.slice C2 m2 dd)
  have RR := Lib.hid rb7
  have HX7 := Lib.hid hx7
  clear hown6 hgrow hl6 R6 hm2 kr s0 s1 s2 s3 hne6
  obtain ⟨⟨t0, t1, t2⟩, ⟨u0, u1, u2⟩⟩ := rt.three
  obtain ⟨⟨t3, t4, t5⟩, -⟩ := (show Row _ _ _ #[.slice N0 (doF x.live o).1.length e0, .slice B1 x.safe.length d1, .slice C2 m2 dd] from rt7).three
  obtain ⟨⟨r0, r1, r2⟩, ⟨f0, f1, f2⟩⟩ := rb7.three
  obtain ⟨⟨r3, r4, r5⟩, ⟨f3, f4, f5⟩⟩ := rb.three
  clear rb7 rt7 rt rb rb6 hx7 hx6
  go_wp2_with fail
  have hr9 := (((RR.out).set 0 (.slice N0 (doF x.live o).1.length e0)).set 1 (.slice B1 x.safe.length d1)).set 2 (.slice C2 m2 dd)
  refine bodyPost_ret (results_cell_row2 (p := 4) (u := 5) (ty := 27) rfl _ _ (w.heap.size + 2) 27 #[.slice N0 (doF x.live o).1.length e0, .slice B1 x.safe.length d1, .slice C2 m2 dd] (0, 0) _ rfl rfl hr9 Try.underlying27 rfl HI.out) rfl ⟨⟨.agg #[.slice N0 (doF x.live o).1.length e0, .slice B1 x.safe.length d1, .slice C2 m2 dd], ?_, ?_⟩, ?_⟩
  · rw [HA.out.1]; rfl
  · refine DzA.mono (base := w.heap.size + 3) ?_ (by omega)
    rw [HA.out.2]
    refine DzA.set (DzA.set (DzA.set (show DzA _ (w.heap.size + 3) _ ⟨(doF x.live o).1, x.safe, x.ops ++ [o]⟩ from ⟨_, _, _, rfl, OwnZ.mono N7.out HZ1.out, OwnZ.mono S7.out HZ3.out, OwnO.mono O7.out HZ3.out, HDN.out⟩) ?_ _) ?_ _) ?_ _ <;> (exact Nat.lt_succ_self _)
  · exact ((HX7.out.setCell (Nat.le_add_right _ 2) _).setCell (Nat.le_add_right _ 2) _).setCell (Nat.le_add_right _ 2) _

theorem codeD_F {x : Dz} {o : Oz} (hf : filesB x.live = true) : codeD x o = if codeF x.live o = 0 then (if x.ops.length = 200 then 4 else 0) else codeF x.live o := by
  unfold codeD codeF
  cases h1 : formB o
  · rfl
  cases h2 : (doF x.live o).2
  · rfl
  rw [doF_room hf h1]
  cases h3 : roomB (doF x.live o).1 <;> by_cases h4 : x.ops.length = 200 <;> simp [h4]
theorem codeF_z {l : List Fz} {o : Oz} (h : codeF l o = 0) : nextF l o = (doF l o).1 := by
  unfold codeF at h
  unfold nextF
  cases h1 : formB o
  · rw [h1] at h; cases h
  · rfl
theorem actD_no {x : Dz} {o : Oz} {k : Int} (h : codeD x o = k) (hk : k ≠ 0) : codeD x o = k ∧ actD x o = x := ⟨h, by unfold actD; rw [if_neg (by rw [h]; exact hk)]⟩
theorem actD_yes {x : Dz} {o : Oz} (h : codeD x o = 0) : codeD x o = 0 ∧ actD x o = ⟨(doF x.live o).1, x.safe, x.ops ++ [o]⟩ := ⟨h, by unfold actD; rw [if_pos h]⟩

set_option maxRecDepth 100000 in
set_option maxHeartbeats 2000000 in
theorem implDoOn (x : Dz) (o : Oz) (A0 : Option Addr) (n0 c0 : Nat) (A1 : Option Addr) (n1 c1 : Nat) (A2 : Option Addr) (n2 c2 : Nat) (ok : Nat → Prop) (w : World) (h0 : Sl FzR 2 ok w A0 n0 x.live) (h1 : Sl FzR 2 ok w A1 n1 x.safe) (h2 : Sl OzR 4 ok w A2 n2 x.ops) (hr : filesB x.live = true ∧ x.safe.length ≤ 1048576 ∧ x.ops.length ≤ 200) (ho : o.data.size ≤ 268000000) :
    Calls Try.prog 57 #[.agg #[.slice A0 n0 c0, .slice A1 n1 c1, .slice A2 n2 c2], .agg #[.int .i64 o.kind, .string o.name, .string o.to, .string o.data]] w fun e w' => (∃ v, e = .returned (.tuple #[v, .int .i64 (codeD x o)]) ∧ DzA w' w.heap.size v (actD x o)) ∧ Below w.heap.size w w' := by
  obtain ⟨hx, hwz⟩ := box3 w (.cells #[.slice A0 n0 c0, .slice A1 n1 c1, .slice A2 n2 c2] 27) (.cells #[.int .i64 o.kind, .string o.name, .string o.to, .string o.data] 36) (.cells #[.slice none 0 0, .slice none 0 0, .slice none 0 0] 27)
  have ra := ((Row.new w 27 #[.slice A0 n0 c0, .slice A1 n1 c1, .slice A2 n2 c2]).alloc (.cells #[.int .i64 o.kind, .string o.name, .string o.to, .string o.data] 36)).alloc (.cells #[.slice none 0 0, .slice none 0 0, .slice none 0 0] 27)
  have ro := (Row.newAt (w.alloc (.cells #[.slice A0 n0 c0, .slice A1 n1 c1, .slice A2 n2 c2] 27)) 36 #[.int .i64 o.kind, .string o.name, .string o.to, .string o.data] (w.heap.size + 1) (by simp)).alloc (.cells #[.slice none 0 0, .slice none 0 0, .slice none 0 0] 27)
  have rb := Row.newAt ((w.alloc (.cells #[.slice A0 n0 c0, .slice A1 n1 c1, .slice A2 n2 c2] 27)).alloc (.cells #[.int .i64 o.kind, .string o.name, .string o.to, .string o.data] 36)) 27 #[.slice none 0 0, .slice none 0 0, .slice none 0 0] (w.heap.size + 2) (by simp)
  have HI := Lib.hid infoDisk
  obtain ⟨j0, hi, hz0, hz1, hz2⟩ := info_parts infoDOpT
  have J1 := Lib.hid hi
  have J2 := Lib.hid hz0
  have J3 := Lib.hid hz1
  have J4 := Lib.hid hz2
  clear hi hz0 hz1 hz2
  go_enter Try.func57, Try.ntmps57
  go_wp2_with fail
  generalize ((w.alloc (.cells #[.slice A0 n0 c0, .slice A1 n1 c1, .slice A2 n2 c2] 27)).alloc (.cells #[.int .i64 o.kind, .string o.name, .string o.to, .string o.data] 36)).alloc (.cells #[.slice none 0 0, .slice none 0 0, .slice none 0 0] 27) = z at *
  obtain rfl : x.live.length = n0 := h0.1
  obtain rfl : x.safe.length = n1 := h1.1
  obtain rfl : x.ops.length = n2 := h2.1
  have hfl := filesB_bytes hr.1
  have HFB := Lib.hid hr.1
  have HL := Lib.hid (show x.live.length ≤ 1048576 ∧ x.safe.length ≤ 1048576 ∧ x.ops.length ≤ 1048576 from ⟨by omega, hr.2.1, by have := hr.2.2; omega⟩)
  have HBY := Lib.hid (doF_bytes x.live o)
  have HOL := Lib.hid hr.2.2
  have HFL := Lib.hid hfl
  have HCD := Lib.hid (codeD_F (x := x) (o := o) hr.1)
  have HZ0 := Lib.hid hwz
  clear hr hfl
  refine (implCopyDisk x A0 _ c0 A1 _ c1 A2 _ c2 _ _ (h0.below FzR.stays hx) (h1.below FzR.stays hx) (h2.below OzR.stays hx) HL.out).mono ?_
  rintro e w1 ⟨⟨v, rfl, hv⟩, hq⟩
  have hx := hx.trans (hq.mono hx.size)
  have HZ1 := Lib.hid (Nat.le_trans hwz hq.size)
  have HZW := Lib.hid hq.size
  have ra := ra.below hq
  have ro := ro.below hq
  have rb := rb.below hq
  obtain ⟨v0, v1, v2, rfl, k0, k1, k2, hd⟩ := hv
  have K0 := Lib.hid k0
  have K1 := Lib.hid k1
  have K2 := Lib.hid k2
  have HD01 := Lib.hid hd
  obtain ⟨B0, d0, rfl, -⟩ := k0.sl
  obtain ⟨B1, d1, rfl, -⟩ := k1.sl
  obtain ⟨B2, d2, rfl, -⟩ := k2.sl
  have F1 := Lib.hid (OwnG.far K1.out (Nat.le_refl _))
  have F2 := Lib.hid (OwnG.far K2.out (Nat.le_refl _))
  have hal := (Below.refl w1.heap.size w1).alloc (Nat.le_refl _) (.cells #[.slice B0 x.live.length d0, .slice B1 x.safe.length d1, .slice B2 x.ops.length d2] 27)
  have rt := Row.new w1 27 #[.slice B0 x.live.length d0, .slice B1 x.safe.length d1, .slice B2 x.ops.length d2]
  have HSO := Lib.hid (show w1.heap.size < (w1.alloc (.cells #[.slice B0 x.live.length d0, .slice B1 x.safe.length d1, .slice B2 x.ops.length d2] 27)).heap.size by simp)
  have hx := hx.alloc hx.size (.cells #[.slice B0 x.live.length d0, .slice B1 x.safe.length d1, .slice B2 x.ops.length d2] 27)
  have ra := ra.below hal
  have ro := ro.below hal
  have rb := rb.below hal
  have K0 := Lib.hid (OwnG.below K0.out hal)
  have K1 := Lib.hid (OwnG.below K1.out hal)
  have K2 := Lib.hid (OwnG.below K2.out hal)
  clear k0 k1 k2 hd hq hal
  obtain ⟨⟨p0, p1, p2⟩, -⟩ := ra.three
  go_wp2_with fail
  generalize w1.alloc (.cells #[.slice B0 x.live.length d0, .slice B1 x.safe.length d1, .slice B2 x.ops.length d2] 27) = z1 at *
  refine (implFilesOf A0 _ c0 x.live _ _ (h0.below FzR.stays hx) HFB.out).mono ?_
  rintro e w2 ⟨rfl, hf2, hq2⟩
  have ro2 := ro.below hq2
  obtain ⟨⟨s0, s1, s2, s3⟩, -⟩ := ro2.all4
  clear p0 p1 p2 ro2
  go_wp2_with fail
  refine (implFilesDo _ _ x.live o _ hf2 (by have := HFL.out; omega) (by have := HFL.out; omega)).mono ?_
  rintro e w3 ⟨rfl, hf3, hk3⟩
  have hq3 : Below z1.heap.size z1 w3 := hq2.trans hk3.low
  have HX := Lib.hid (hx.trans (hq3.mono hx.size))
  have HF3 := Lib.hid hf3
  have K0 := Lib.hid (OwnG.below K0.out hq3)
  have K1 := Lib.hid (OwnG.below K1.out hq3)
  have K2 := Lib.hid (OwnG.below K2.out hq3)
  have ra := ra.below hq3
  have ro := ro.below hq3
  have rb := rb.below hq3
  have rt := rt.below hq3
  have HS3 := Lib.hid hq3.size
  have RR := Lib.hid rb
  clear s0 s1 s2 s3 hf2 hf3 hq2 hk3 hq3 hx
  obtain ⟨⟨p0, p1, p2⟩, -⟩ := ra.three
  obtain ⟨⟨t0, t1, t2⟩, ⟨u0, u1, u2⟩⟩ := rt.three
  obtain ⟨⟨r0, r1, r2⟩, ⟨f0, f1, f2⟩⟩ := rb.three
  have HRT := Lib.hid rt
  have HRO := Lib.hid ro
  clear ra ro rb rt
  by_cases hc : codeF x.live o = 0
  case neg =>
    have HC := Lib.hid (show codeD x o = codeF x.live o by rw [HCD.out, if_neg hc])
    have HNZ := Lib.hid hc
    generalize codeF x.live o = k at *
    have hk1 : decide (k = 0) = false := decide_eq_false hc
    have hk2 : (k == 0) = false := by simpa using hc
    have hk3 : (k != 0) = true := by simpa using hc
    clear hc
    have HA := Lib.hid (actD_no HC.out HNZ.out)
    go_wp2_with fail
    have hr9 := (((RR.out).set 0 (.slice B0 x.live.length d0)).set 1 (.slice B1 x.safe.length d1)).set 2 (.slice B2 x.ops.length d2)
    refine bodyPost_ret (results_cell_row2 (p := 4) (u := 5) (ty := 27) rfl _ _ (w.heap.size + 2) 27 #[.slice B0 x.live.length d0, .slice B1 x.safe.length d1, .slice B2 x.ops.length d2] (0, 0) _ rfl rfl hr9 Try.underlying27 rfl HI.out) rfl ⟨⟨.agg #[.slice B0 x.live.length d0, .slice B1 x.safe.length d1, .slice B2 x.ops.length d2], ?_, ?_⟩, ?_⟩
    · rw [HA.out.1]; rfl
    · refine DzA.mono (base := w.heap.size + 3) ?_ (by omega)
      rw [HA.out.2]
      refine DzA.set (DzA.set (DzA.set (show DzA _ (w.heap.size + 3) _ x from ⟨_, _, _, rfl, OwnZ.mono K0.out HZ0.out, OwnZ.mono K1.out HZ0.out, OwnO.mono K2.out HZ0.out, HD01.out⟩) ?_ _) ?_ _) ?_ _ <;> (exact Nat.lt_succ_self _)
    · exact ((HX.out.setCell (Nat.le_add_right _ 2) _).setCell (Nat.le_add_right _ 2) _).setCell (Nat.le_add_right _ 2) _
  have HNX := Lib.hid (codeF_z hc)
  have HCD := Lib.hid (show codeD x o = if x.ops.length = 200 then 4 else 0 by rw [HCD.out, if_pos hc])
  rw [hc]
  clear hc
  by_cases h200 : x.ops.length = 200
  · have HC := Lib.hid (show codeD x o = 4 by rw [HCD.out, if_pos h200])
    have hg1 : decide ((200 : Int) ≤ x.ops.length) = true := decide_eq_true (by omega)
    clear h200
    have HA := Lib.hid (actD_no HC.out (by decide))
    go_wp2_with fail
    have hr9 := (((RR.out).set 0 (.slice B0 x.live.length d0)).set 1 (.slice B1 x.safe.length d1)).set 2 (.slice B2 x.ops.length d2)
    refine bodyPost_ret (results_cell_row2 (p := 4) (u := 5) (ty := 27) rfl _ _ (w.heap.size + 2) 27 #[.slice B0 x.live.length d0, .slice B1 x.safe.length d1, .slice B2 x.ops.length d2] (0, 0) _ rfl rfl hr9 Try.underlying27 rfl HI.out) rfl ⟨⟨.agg #[.slice B0 x.live.length d0, .slice B1 x.safe.length d1, .slice B2 x.ops.length d2], ?_, ?_⟩, ?_⟩
    · rw [HA.out.1]; rfl
    · refine DzA.mono (base := w.heap.size + 3) ?_ (by omega)
      rw [HA.out.2]
      refine DzA.set (DzA.set (DzA.set (show DzA _ (w.heap.size + 3) _ x from ⟨_, _, _, rfl, OwnZ.mono K0.out HZ0.out, OwnZ.mono K1.out HZ0.out, OwnO.mono K2.out HZ0.out, HD01.out⟩) ?_ _) ?_ _) ?_ _ <;> (exact Nat.lt_succ_self _)
    · exact ((HX.out.setCell (Nat.le_add_right _ 2) _).setCell (Nat.le_add_right _ 2) _).setCell (Nat.le_add_right _ 2) _
  have HA := Lib.hid (actD_yes (show codeD x o = 0 by rw [HCD.out, if_neg h200]))
  have hg1 : decide ((200 : Int) ≤ x.ops.length) = false := decide_eq_false (by have := HOL.out; omega)
  clear h200
  go_wp2_with fail
  refine (implList _ _ (doF x.live o).1 _ (by rw [← HNX.out]; exact HF3.out) (by have := HBY.out; have := HFL.out; omega)).mono ?_
  rintro e w4 ⟨⟨v, rfl, hv⟩, hq4⟩
  obtain ⟨N0, e0, rfl, -⟩ := (show OwnZ w4 _ v _ from hv).sl
  have hne : (Value.slice N0 (doF x.live o).1.length e0).ownBlock ≠ some w1.heap.size := fun e => by have h1 := (OwnG.block_lt hv _ e).1; have h2 := HS3.out; have h3 := HSO.out; omega
  have FN := Lib.hid hne
  have HN4 := Lib.hid (OwnG.setNe hv (p := ⟨w1.heap.size, 0, none⟩) hne (.slice N0 (doF x.live o).1.length e0))
  have K14 := Lib.hid (OwnG.setNe (OwnG.below K1.out hq4) (p := ⟨w1.heap.size, 0, none⟩) F1.out (.slice N0 (doF x.live o).1.length e0))
  have K24 := Lib.hid (OwnG.setNe (OwnG.below K2.out hq4) (p := ⟨w1.heap.size, 0, none⟩) F2.out (.slice N0 (doF x.live o).1.length e0))
  have hdN : Dis (.slice N0 (doF x.live o).1.length e0) (.slice B1 x.safe.length d1) := fun k hk e => by have h1 := (OwnG.block_lt hv k hk).1; have h2 := (OwnG.block_lt K1.out k e).2; omega
  have HDN := Lib.hid hdN
  have hx4 := (HX.out.trans (hq4.mono HX.out.size)).setCell (p := ⟨w1.heap.size, 0, none⟩) (by have := HZ1.out; simp; omega) (.slice N0 (doF x.live o).1.length e0)
  have rt4 := HRT.out.below hq4
  have rt5 := rt4.set 0 (.slice N0 (doF x.live o).1.length e0)
  have ro5 := (HRO.out.below hq4).far (p := ⟨w1.heap.size, 0, none⟩) (by have := HZ1.out; simp; omega) (.slice N0 (doF x.live o).1.length e0)
  have rb5 := (RR.out.below hq4).far (p := ⟨w1.heap.size, 0, none⟩) (by have := HZ1.out; simp; omega) (.slice N0 (doF x.live o).1.length e0)
  have HS4 := Lib.hid (show w1.heap.size < (w4.setCell ⟨w1.heap.size, 0, none⟩ (.slice N0 (doF x.live o).1.length e0)).heap.size by have h1 := hq4.size; have h2 := HS3.out; have h3 := HSO.out; simp only [World.setCell, Array.size_modify]; omega)
  clear p0 p1 p2 t0 t1 t2 u0 u1 u2 r0 r1 r2 f0 f1 f2 hv hne hdN RR
  obtain ⟨⟨t0, t1, t2⟩, ⟨u0, u1, u2⟩⟩ := rt4.three
  obtain ⟨⟨t3, t4, t5⟩, ⟨u3, u4, u5⟩⟩ := (show Row _ _ _ #[.slice N0 (doF x.live o).1.length e0, .slice B1 x.safe.length d1, .slice B2 x.ops.length d2] from rt5).three
  obtain ⟨⟨s0, s1, s2, s3⟩, -⟩ := ro5.all4
  have hal6 := (Below.refl (w4.setCell ⟨w1.heap.size, 0, none⟩ (.slice N0 (doF x.live o).1.length e0)).heap.size (w4.setCell ⟨w1.heap.size, 0, none⟩ (.slice N0 (doF x.live o).1.length e0))).alloc (Nat.le_refl _) (.cells #[.int .i64 o.kind, .string o.name, .string o.to, .string o.data] 36)
  have HN6 := Lib.hid (OwnG.below HN4.out hal6)
  have K16 := Lib.hid (OwnG.below K14.out hal6)
  have K26 := Lib.hid (OwnG.below K24.out hal6)
  have D2N := Lib.hid (Dis.types K26.out HN6.out (by decide))
  have D21 := Lib.hid (Dis.types K26.out K16.out (by decide))
  have rt6 := rt5.alloc (.cells #[.int .i64 o.kind, .string o.name, .string o.to, .string o.data] 36)
  have rb6 := rb5.alloc (.cells #[.int .i64 o.kind, .string o.name, .string o.to, .string o.data] 36)
  have HX6 := Lib.hid (hx4.alloc hx4.size (.cells #[.int .i64 o.kind, .string o.name, .string o.to, .string o.data] 36))
  have HW14 := Lib.hid (show w1.heap.size < w4.heap.size by have h1 := hq4.size; have h2 := HS3.out; have h3 := HSO.out; omega)
  have HBS := Lib.hid (show z.heap.size ≤ ((w4.setCell ⟨w1.heap.size, 0, none⟩ (.slice N0 (doF x.live o).1.length e0)).alloc (.cells #[.int .i64 o.kind, .string o.name, .string o.to, .string o.data] 36)).heap.size by have h1 := HZW.out; have h2 := HS4.out; have h3 := hal6.size; omega)
  have HS6 := Lib.hid (show w1.heap.size < ((w4.setCell ⟨w1.heap.size, 0, none⟩ (.slice N0 (doF x.live o).1.length e0)).alloc (.cells #[.int .i64 o.kind, .string o.name, .string o.to, .string o.data] 36)).heap.size by have h2 := HS4.out; have h3 := hal6.size; omega)
  clear hal6 rt4 rt5 ro5 rb5 hx4 hq4 HRT HRO
  go_wp2_with (at_builtin; refine wpList_append_own_at _ rfl _ _ 25 rfl z.heap.size 36 j0 (.agg #[.int .i64 0, .string ⟨#[]⟩, .string ⟨#[]⟩, .string ⟨#[]⟩]) 4 56 Try.underlying25 J1.out J2.out J3.out J4.out rfl (by decide) _ _ _ rfl (World.ownsRow.alloc K24.out _) ⟨_, 0, none⟩ 1 1 (Oz.cells o) rfl rfl ?c1 ?c2 ?c3 ?c4 ?c5 ?_)
  case c1 => exact cells_newAt _ (Oz.cells o) _ (by first | rfl | simp)
  case c2 => intro u hu; simp [Oz.cells] at hu; rcases hu with rfl | rfl | rfl | rfl <;> rfl
  case c3 => have := HOL.out; unfold maxLen; omega
  case c4 => have := HOL.out; omega
  case c5 => exact HBS.out
  intro v6 w6 hown6 hgrow _ hl6
  have R6 := OwnG.app K24.out (by have h1 := HZW.out; have h2 := HS4.out; omega) hown6 hgrow
  have O6 := Lib.hid (show OwnO w6 z.heap.size v6 (x.ops ++ [o]) from R6.1)
  have hne6 : v6.ownBlock ≠ some w1.heap.size := fun e => by
    rcases hl6 with h | h
    · exact F2.out (h ▸ e)
    · rw [e] at h
      injection h with h
      have h7 := HS6.out
      have h8 := HW14.out
      omega
  have N6 := Lib.hid (OwnG.keptD HN6.out hgrow D2N.out)
  have S6 := Lib.hid (OwnG.keptD K16.out hgrow D21.out)
  have hx6 : Below w.heap.size w w6 := HX6.out.grown hgrow HX6.out.size (fun k hk => by have h1 := (OwnG.block_lt K2.out k hk).1; have h2 := HZ0.out; omega)
  have rt := (hgrow.block _ (lt_of_block rt6) (fun e => F2.out e.symm)).trans rt6
  have rb := (hgrow.block _ (lt_of_block rb6) (fun e => by have h1 := (OwnG.block_lt K2.out _ e.symm).1; have h2 := HZ0.out; omega)).trans rb6
  obtain ⟨C2, m2, dd, hm2, hv6⟩ : ∃ C2 m2 dd, m2 = (x.ops ++ [o]).length ∧ v6 = .slice C2 m2 dd := by obtain ⟨C2, dd, e, -⟩ := O6.out.sl; exact ⟨C2, _, dd, rfl, e⟩
  subst hv6
  have N7 := Lib.hid (OwnG.setNe N6.out (p := ⟨w1.heap.size, 2, none⟩) FN.out (.slice C2 m2 dd))
  have S7 := Lib.hid (OwnG.setNe S6.out (p := ⟨w1.heap.size, 2, none⟩) F1.out (.slice C2 m2 dd))
  have O7 := Lib.hid (OwnG.setNe O6.out (p := ⟨w1.heap.size, 2, none⟩) hne6 (.slice C2 m2 dd))
  have rt7 := Row.set (show Row w6 w1.heap.size _ #[.slice N0 (doF x.live o).1.length e0, .slice B1 x.safe.length d1, .slice B2 x.ops.length d2] from rt) 2 (.slice C2 m2 dd)
  have rb7 := Row.far (show Row w6 (w.heap.size + 2) _ #[.slice none 0 0, .slice none 0 0, .slice none 0 0] from rb) (p := ⟨w1.heap.size, 2, none⟩) (by have := HZ1.out; simp; omega) (.slice C2 m2 dd)
  have hx7 := hx6.setCell (p := ⟨w1.heap.size, 2, none⟩) (by have := HZ1.out; simp; omega) (.slice C2 m2 dd)
  have RR := Lib.hid rb7
  have HX7 := Lib.hid hx7
  clear hown6 hgrow hl6 R6 hm2 s0 s1 s2 s3 hne6 t0 t1 t2 u0 u1 u2 t3 t4 t5 u3 u4 u5
  obtain ⟨⟨t0, t1, t2⟩, ⟨u0, u1, u2⟩⟩ := (show Row w6 w1.heap.size _ #[.slice N0 (doF x.live o).1.length e0, .slice B1 x.safe.length d1, .slice B2 x.ops.length d2] from rt).three
  obtain ⟨⟨t3, t4, t5⟩, -⟩ := (show Row _ _ _ #[.slice N0 (doF x.live o).1.length e0, .slice B1 x.safe.length d1, .slice C2 m2 dd] from rt7).three
  obtain ⟨⟨r0, r1, r2⟩, ⟨f0, f1, f2⟩⟩ := rb7.three
  clear rb7 rt7 rt rb rb6 rt6 hx7 hx6
  go_wp2_with fail
  have hr9 := (((RR.out).set 0 (.slice N0 (doF x.live o).1.length e0)).set 1 (.slice B1 x.safe.length d1)).set 2 (.slice C2 m2 dd)
  refine bodyPost_ret (results_cell_row2 (p := 4) (u := 5) (ty := 27) rfl _ _ (w.heap.size + 2) 27 #[.slice N0 (doF x.live o).1.length e0, .slice B1 x.safe.length d1, .slice C2 m2 dd] (0, 0) _ rfl rfl hr9 Try.underlying27 rfl HI.out) rfl ⟨⟨.agg #[.slice N0 (doF x.live o).1.length e0, .slice B1 x.safe.length d1, .slice C2 m2 dd], ?_, ?_⟩, ?_⟩
  · rw [HA.out.1]; rfl
  · refine DzA.mono (base := w.heap.size + 3) ?_ (by omega)
    rw [HA.out.2]
    refine DzA.set (DzA.set (DzA.set (show DzA _ (w.heap.size + 3) _ ⟨(doF x.live o).1, x.safe, x.ops ++ [o]⟩ from ⟨_, _, _, rfl, OwnZ.mono N7.out (by have h1 := HZ1.out; have h2 := HSO.out; have h3 := HS3.out; omega), OwnZ.mono S7.out HZ0.out, OwnO.mono O7.out HZ0.out, HDN.out⟩) ?_ _) ?_ _) ?_ _ <;> (exact Nat.lt_succ_self _)
  · exact ((HX7.out.setCell (Nat.le_add_right _ 2) _).setCell (Nat.le_add_right _ 2) _).setCell (Nat.le_add_right _ 2) _

def codeDo (x : Dz) (o : Oz) : Int := if diskB x then codeD x o else 1
def actDo (x : Dz) (o : Oz) : Dz := if diskB x then actD x o else ⟨[], [], []⟩
theorem doD_no {x : Dz} {o : Oz} (h : diskB x = false) : codeDo x o = 1 ∧ actDo x o = ⟨[], [], []⟩ := by unfold codeDo actDo; rw [h]; exact ⟨rfl, rfl⟩
theorem doD_yes {x : Dz} {o : Oz} (h : diskB x = true) : codeDo x o = codeD x o ∧ actDo x o = actD x o := by unfold codeDo actDo; rw [h]; exact ⟨rfl, rfl⟩
theorem diskB_parts {x : Dz} (h : diskB x = true) : filesB x.live = true ∧ filesB x.safe = true ∧ x.ops.length ≤ 200 := by
  unfold diskB at h
  simp only [Bool.and_eq_true, decide_eq_true_eq] at h
  exact ⟨h.1.1.1, h.1.1.2, h.1.2⟩
theorem OwnO.len {w : World} {base : Nat} {v : Value} {xs : List Oz} (h : OwnO w base v xs) : ∃ A n c, v = .slice A n c := by obtain ⟨A, c, e, -⟩ := h.sl; exact ⟨A, _, c, e⟩
theorem OwnZ.len {w : World} {base : Nat} {v : Value} {xs : List Fz} (h : OwnZ w base v xs) : ∃ A n c, v = .slice A n c := by obtain ⟨A, c, e, -⟩ := h.sl; exact ⟨A, _, c, e⟩

set_option maxRecDepth 100000 in
set_option maxHeartbeats 2000000 in
theorem specDo (x : Dz) (o : Oz) (A0 : Option Addr) (n0 c0 : Nat) (A1 : Option Addr) (n1 c1 : Nat) (A2 : Option Addr) (n2 c2 : Nat) (ok : Nat → Prop) (w : World) (h0 : Sl FzR 2 ok w A0 n0 x.live) (h1 : Sl FzR 2 ok w A1 n1 x.safe) (h2 : Sl OzR 4 ok w A2 n2 x.ops) (hs : x.sz ≤ 1048576) (ho : o.data.size ≤ 268435456) :
    Calls Try.prog 21 #[.agg #[.slice A0 n0 c0, .slice A1 n1 c1, .slice A2 n2 c2], .agg #[.int .i64 o.kind, .string o.name, .string o.to, .string o.data]] w fun e w' => (∃ v, e = .returned (.tuple #[v, .int .i64 (codeDo x o)]) ∧ DzA w' w.heap.size v (actDo x o)) ∧ Below w.heap.size w w' := by
  obtain ⟨hx, hwz⟩ := box3 w (.cells #[.slice A0 n0 c0, .slice A1 n1 c1, .slice A2 n2 c2] 27) (.cells #[.int .i64 o.kind, .string o.name, .string o.to, .string o.data] 36) (.cells #[.slice none 0 0, .slice none 0 0, .slice none 0 0] 27)
  have ra := ((Row.new w 27 #[.slice A0 n0 c0, .slice A1 n1 c1, .slice A2 n2 c2]).alloc (.cells #[.int .i64 o.kind, .string o.name, .string o.to, .string o.data] 36)).alloc (.cells #[.slice none 0 0, .slice none 0 0, .slice none 0 0] 27)
  have ro := (Row.newAt (w.alloc (.cells #[.slice A0 n0 c0, .slice A1 n1 c1, .slice A2 n2 c2] 27)) 36 #[.int .i64 o.kind, .string o.name, .string o.to, .string o.data] (w.heap.size + 1) (by simp)).alloc (.cells #[.slice none 0 0, .slice none 0 0, .slice none 0 0] 27)
  have rb := Row.newAt ((w.alloc (.cells #[.slice A0 n0 c0, .slice A1 n1 c1, .slice A2 n2 c2] 27)).alloc (.cells #[.int .i64 o.kind, .string o.name, .string o.to, .string o.data] 36)) 27 #[.slice none 0 0, .slice none 0 0, .slice none 0 0] (w.heap.size + 2) (by simp)
  have HI := Lib.hid infoDisk
  obtain ⟨j0, hi, hz0, hz1, hz2⟩ := info_parts infoDOpT
  have J1 := Lib.hid hi
  have J2 := Lib.hid hz0
  have J3 := Lib.hid hz1
  have J4 := Lib.hid hz2
  clear hi hz0 hz1 hz2
  go_enter Try.func21, Try.ntmps21
  go_wp2_with fail
  generalize ((w.alloc (.cells #[.slice A0 n0 c0, .slice A1 n1 c1, .slice A2 n2 c2] 27)).alloc (.cells #[.int .i64 o.kind, .string o.name, .string o.to, .string o.data] 36)).alloc (.cells #[.slice none 0 0, .slice none 0 0, .slice none 0 0] 27) = z at *
  have HL := Lib.hid (sz_lens hs)
  refine (specDiskOk x A0 n0 c0 A1 n1 c1 A2 n2 c2 _ _ (h0.below FzR.stays hx) (h1.below FzR.stays hx) (h2.below OzR.stays hx) hs).mono ?_
  rintro e w1 ⟨rfl, hq⟩
  have hx := hx.trans (hq.mono hx.size)
  have hwz := Nat.le_trans hwz hq.size
  have ra := ra.below hq
  have ro := ro.below hq
  have rb := rb.below hq
  obtain ⟨⟨p0, p1, p2⟩, -⟩ := ra.three
  obtain ⟨⟨s0, s1, s2, s3⟩, -⟩ := ro.all4
  obtain ⟨⟨r0, r1, r2⟩, ⟨f0, f1, f2⟩⟩ := rb.three
  clear hq
  cases e0 : diskB x
  · have HA := Lib.hid (doD_no (o := o) e0)
    have RR := Lib.hid rb
    clear ra rb ro
    go_wp2_with fail
    have hr9 := (((RR.out).set 0 (.slice none 0 0)).set 1 (.slice none 0 0)).set 2 (.slice none 0 0)
    refine bodyPost_ret (results_cell_row2 (p := 4) (u := 5) (ty := 27) rfl _ _ (w.heap.size + 2) 27 #[.slice none 0 0, .slice none 0 0, .slice none 0 0] (0, 0) _ rfl rfl hr9 Try.underlying27 rfl HI.out) rfl ⟨⟨.agg #[.slice none 0 0, .slice none 0 0, .slice none 0 0], ?_, ?_⟩, ?_⟩
    · rw [HA.out.1]; rfl
    · refine DzA.mono (base := w.heap.size + 3) ?_ (by omega)
      rw [HA.out.2]
      refine DzA.set (DzA.set (DzA.set (DzA.nil _ _) ?_ _) ?_ _) ?_ _ <;> (exact Nat.lt_succ_self _)
    · exact ((hx.setCell (Nat.le_add_right _ 2) _).setCell (Nat.le_add_right _ 2) _).setCell (Nat.le_add_right _ 2) _
  have HA := Lib.hid (doD_yes (o := o) e0)
  have HP := Lib.hid (diskB_parts e0)
  clear e0
  go_wp2_with fail
  refine (specAct x o A0 n0 c0 A1 n1 c1 A2 n2 c2 _ _ (h0.below FzR.stays hx) (h1.below FzR.stays hx) (h2.below OzR.stays hx) ⟨HP.out.1, HL.out.2.1, by have := HP.out.2.2; omega⟩ ho).mono ?_
  rintro e w2 ⟨⟨v, rfl, hv⟩, hb⟩
  have HX := Lib.hid (hx.trans (hb.mono hx.size))
  have RR := Lib.hid (rb.below hb)
  have HV := Lib.hid (hv.mono (base' := w.heap.size + 3) hwz)
  obtain ⟨v0, v1, v2, rfl, k0, k1, k2, -⟩ := hv
  obtain ⟨B0, m0, d0, rfl⟩ := k0.len
  obtain ⟨B1, m1, d1, rfl⟩ := k1.len
  obtain ⟨B2, m2, d2, rfl⟩ := k2.len
  clear r0 r1 r2 f0 f1 f2 p0 p1 p2 s0 s1 s2 s3 k0 k1 k2 hb
  have rr := RR.out
  obtain ⟨⟨r0, r1, r2⟩, ⟨f0, f1, f2⟩⟩ := rr.three
  clear rr
  have HC := Lib.hid HA.out.1
  generalize codeD x o = kc at *
  go_wp2_with fail
  have hr9 := (((RR.out).set 0 (.slice B0 m0 d0)).set 1 (.slice B1 m1 d1)).set 2 (.slice B2 m2 d2)
  refine bodyPost_ret (results_cell_row2 (p := 4) (u := 5) (ty := 27) rfl _ _ (w.heap.size + 2) 27 #[.slice B0 m0 d0, .slice B1 m1 d1, .slice B2 m2 d2] (0, 0) _ rfl rfl hr9 Try.underlying27 rfl HI.out) rfl ⟨⟨.agg #[.slice B0 m0 d0, .slice B1 m1 d1, .slice B2 m2 d2], ?_, ?_⟩, ?_⟩
  · rw [HA.out.1]; rfl
  · refine DzA.mono (base := w.heap.size + 3) ?_ (by omega)
    rw [HA.out.2]
    refine DzA.set (DzA.set (DzA.set (HV.out) ?_ _) ?_ _) ?_ _ <;> (exact Nat.lt_succ_self _)
  · exact ((HX.out.setCell (Nat.le_add_right _ 2) _).setCell (Nat.le_add_right _ 2) _).setCell (Nat.le_add_right _ 2) _

set_option maxRecDepth 100000 in
set_option maxHeartbeats 2000000 in
theorem implDo (x : Dz) (o : Oz) (A0 : Option Addr) (n0 c0 : Nat) (A1 : Option Addr) (n1 c1 : Nat) (A2 : Option Addr) (n2 c2 : Nat) (ok : Nat → Prop) (w : World) (h0 : Sl FzR 2 ok w A0 n0 x.live) (h1 : Sl FzR 2 ok w A1 n1 x.safe) (h2 : Sl OzR 4 ok w A2 n2 x.ops) (hs : x.sz ≤ 1048576) (ho : o.data.size ≤ 268000000) :
    Calls Try.prog 20 #[.agg #[.slice A0 n0 c0, .slice A1 n1 c1, .slice A2 n2 c2], .agg #[.int .i64 o.kind, .string o.name, .string o.to, .string o.data]] w fun e w' => (∃ v, e = .returned (.tuple #[v, .int .i64 (codeDo x o)]) ∧ DzA w' w.heap.size v (actDo x o)) ∧ Below w.heap.size w w' := by
  obtain ⟨hx, hwz⟩ := box3 w (.cells #[.slice A0 n0 c0, .slice A1 n1 c1, .slice A2 n2 c2] 27) (.cells #[.int .i64 o.kind, .string o.name, .string o.to, .string o.data] 36) (.cells #[.slice none 0 0, .slice none 0 0, .slice none 0 0] 27)
  have ra := ((Row.new w 27 #[.slice A0 n0 c0, .slice A1 n1 c1, .slice A2 n2 c2]).alloc (.cells #[.int .i64 o.kind, .string o.name, .string o.to, .string o.data] 36)).alloc (.cells #[.slice none 0 0, .slice none 0 0, .slice none 0 0] 27)
  have ro := (Row.newAt (w.alloc (.cells #[.slice A0 n0 c0, .slice A1 n1 c1, .slice A2 n2 c2] 27)) 36 #[.int .i64 o.kind, .string o.name, .string o.to, .string o.data] (w.heap.size + 1) (by simp)).alloc (.cells #[.slice none 0 0, .slice none 0 0, .slice none 0 0] 27)
  have rb := Row.newAt ((w.alloc (.cells #[.slice A0 n0 c0, .slice A1 n1 c1, .slice A2 n2 c2] 27)).alloc (.cells #[.int .i64 o.kind, .string o.name, .string o.to, .string o.data] 36)) 27 #[.slice none 0 0, .slice none 0 0, .slice none 0 0] (w.heap.size + 2) (by simp)
  have HI := Lib.hid infoDisk
  obtain ⟨j0, hi, hz0, hz1, hz2⟩ := info_parts infoDOpT
  have J1 := Lib.hid hi
  have J2 := Lib.hid hz0
  have J3 := Lib.hid hz1
  have J4 := Lib.hid hz2
  clear hi hz0 hz1 hz2
  go_enter Try.func20, Try.ntmps20
  go_wp2_with fail
  generalize ((w.alloc (.cells #[.slice A0 n0 c0, .slice A1 n1 c1, .slice A2 n2 c2] 27)).alloc (.cells #[.int .i64 o.kind, .string o.name, .string o.to, .string o.data] 36)).alloc (.cells #[.slice none 0 0, .slice none 0 0, .slice none 0 0] 27) = z at *
  have HL := Lib.hid (sz_lens hs)
  refine (implDiskOk x A0 n0 c0 A1 n1 c1 A2 n2 c2 _ _ (h0.below FzR.stays hx) (h1.below FzR.stays hx) (h2.below OzR.stays hx) hs).mono ?_
  rintro e w1 ⟨rfl, hq⟩
  have hx := hx.trans (hq.mono hx.size)
  have hwz := Nat.le_trans hwz hq.size
  have ra := ra.below hq
  have ro := ro.below hq
  have rb := rb.below hq
  obtain ⟨⟨p0, p1, p2⟩, -⟩ := ra.three
  obtain ⟨⟨s0, s1, s2, s3⟩, -⟩ := ro.all4
  obtain ⟨⟨r0, r1, r2⟩, ⟨f0, f1, f2⟩⟩ := rb.three
  clear hq
  cases e0 : diskB x
  · have HA := Lib.hid (doD_no (o := o) e0)
    have RR := Lib.hid rb
    clear ra rb ro
    go_wp2_with fail
    have hr9 := (((RR.out).set 0 (.slice none 0 0)).set 1 (.slice none 0 0)).set 2 (.slice none 0 0)
    refine bodyPost_ret (results_cell_row2 (p := 4) (u := 5) (ty := 27) rfl _ _ (w.heap.size + 2) 27 #[.slice none 0 0, .slice none 0 0, .slice none 0 0] (0, 0) _ rfl rfl hr9 Try.underlying27 rfl HI.out) rfl ⟨⟨.agg #[.slice none 0 0, .slice none 0 0, .slice none 0 0], ?_, ?_⟩, ?_⟩
    · rw [HA.out.1]; rfl
    · refine DzA.mono (base := w.heap.size + 3) ?_ (by omega)
      rw [HA.out.2]
      refine DzA.set (DzA.set (DzA.set (DzA.nil _ _) ?_ _) ?_ _) ?_ _ <;> (exact Nat.lt_succ_self _)
    · exact ((hx.setCell (Nat.le_add_right _ 2) _).setCell (Nat.le_add_right _ 2) _).setCell (Nat.le_add_right _ 2) _
  have HA := Lib.hid (doD_yes (o := o) e0)
  have HP := Lib.hid (diskB_parts e0)
  clear e0
  go_wp2_with fail
  refine (implDoOn x o A0 n0 c0 A1 n1 c1 A2 n2 c2 _ _ (h0.below FzR.stays hx) (h1.below FzR.stays hx) (h2.below OzR.stays hx) ⟨HP.out.1, HL.out.2.1, by have := HP.out.2.2; omega⟩ ho).mono ?_
  rintro e w2 ⟨⟨v, rfl, hv⟩, hb⟩
  have HX := Lib.hid (hx.trans (hb.mono hx.size))
  have RR := Lib.hid (rb.below hb)
  have HV := Lib.hid (hv.mono (base' := w.heap.size + 3) hwz)
  obtain ⟨v0, v1, v2, rfl, k0, k1, k2, -⟩ := hv
  obtain ⟨B0, m0, d0, rfl⟩ := k0.len
  obtain ⟨B1, m1, d1, rfl⟩ := k1.len
  obtain ⟨B2, m2, d2, rfl⟩ := k2.len
  clear r0 r1 r2 f0 f1 f2 p0 p1 p2 s0 s1 s2 s3 k0 k1 k2 hb
  have rr := RR.out
  obtain ⟨⟨r0, r1, r2⟩, ⟨f0, f1, f2⟩⟩ := rr.three
  clear rr
  have HC := Lib.hid HA.out.1
  generalize codeD x o = kc at *
  go_wp2_with fail
  have hr9 := (((RR.out).set 0 (.slice B0 m0 d0)).set 1 (.slice B1 m1 d1)).set 2 (.slice B2 m2 d2)
  refine bodyPost_ret (results_cell_row2 (p := 4) (u := 5) (ty := 27) rfl _ _ (w.heap.size + 2) 27 #[.slice B0 m0 d0, .slice B1 m1 d1, .slice B2 m2 d2] (0, 0) _ rfl rfl hr9 Try.underlying27 rfl HI.out) rfl ⟨⟨.agg #[.slice B0 m0 d0, .slice B1 m1 d1, .slice B2 m2 d2], ?_, ?_⟩, ?_⟩
  · rw [HA.out.1]; rfl
  · refine DzA.mono (base := w.heap.size + 3) ?_ (by omega)
    rw [HA.out.2]
    refine DzA.set (DzA.set (DzA.set (HV.out) ?_ _) ?_ _) ?_ _ <;> (exact Nat.lt_succ_self _)
  · exact ((HX.out.setCell (Nat.le_add_right _ 2) _).setCell (Nat.le_add_right _ 2) _).setCell (Nat.le_add_right _ 2) _
end Go.Proofs.Ytkinegapnknhiaa
namespace Go.Proofs.Ytkinegapnknhiaa
open Go.RowKit
set_option linter.unusedVariables false
set_option linter.unusedSimpArgs false

theorem KeptL.range {B E : Nat} {w w' : World} (h : Kept B E w w') : KeptL (List.range' B (E - B)) w w' :=
  ⟨h.os, h.tape, h.output, h.size, fun k hk ho => h.block k hk (by
    rw [List.mem_range'_1] at ho
    omega), h.frozen⟩
theorem not_range {B E : Nat} {bs : List Nat} (h : ∀ b ∈ bs, E ≤ b) : ∀ x ∈ bs, x ∉ List.range' B (E - B) := fun x hx hh => by
  have h1 := h x hx
  rw [List.mem_range'_1] at hh
  omega
theorem Sl.keptL {α : Type} {R : Rd α} {sz : Nat} {ok : Nat → Prop} {w w' : World} {A : Option Addr} {n : Nat} {xs : List α} {bs : List Nat} (h : Sl R sz ok w A n xs) (hR : Stays R) (hk : KeptL bs w w') (hd : ∀ b, ok b → b ∉ bs) : Sl R sz ok w' A n xs :=
  h.stays hR (fun _ h => h) fun p v hb hp => hk.far (hd _ hb) hp
theorem Row.keptL {w w' : World} {g : Nat} {T : TypeId} {cs : Array Value} {bs : List Nat} (h : Row w g T cs) (hk : KeptL bs w w') (hg : g ∉ bs) : Row w' g T cs := (hk.block g (lt_of_block h) hg).trans h
end Go.Proofs.Ytkinegapnknhiaa
namespace Go.Proofs.Ytkinegapnknhiaa
open Go.RowKit
set_option linter.unusedVariables false
set_option linter.unusedSimpArgs false

theorem Row.keptB {B E : Nat} {w w' : World} {g : Nat} {T : TypeId} {cs : Array Value} (h : Row w g T cs) (k : Kept B E w w') (hg : g < B ∨ E ≤ g) : Row w' g T cs := (k.block g (lt_of_block h) hg).trans h
theorem syncD_fits {x : Dz} (h : x.sz ≤ 1048576) : (syncD x).fits := by
  have h1 := Dz.fits_of h
  unfold syncD
  split
  · exact ⟨h1.1, h1.1, by simp⟩
  · exact ⟨by simp, by simp, by simp⟩
end Go.Proofs.Ytkinegapnknhiaa
namespace Go.Proofs.Ytkinegapnknhiaa
open Go.RowKit
set_option linter.unusedVariables false
set_option linter.unusedSimpArgs false

theorem OwnG.neRow {α : Type} {T T' : TypeId} {sz : Nat} {f : α → List Value} {w : World} {base : Nat} {v : Value} {xs : List α} (h : OwnG T sz f w base v xs) {g : Nat} {cs : Array Value} (hr : Row w g T' cs) (hT : T ≠ T') : v.ownBlock ≠ some g := fun e => by
  rcases h.2 with ⟨rfl, -⟩ | ⟨k, cap, cur, rfl, h1, h2, -⟩
  · cases e
  have e1 : k = g := by simpa [Value.ownBlock] using e
  subst e1
  have h3 : w.heap[k]? = some (.cells cs T' (0, 0)) := hr
  rw [h2] at h3
  injection h3 with h4
  injection h4 with _ h5 _
  exact hT h5
/-- A disk of a call's own, in a box of its own. -/
def DzBox (w : World) (base : Nat) (p : Value) (x : Dz) : Prop := ∃ (g : Nat) (v0 v1 v2 : Value), p = .pointer (some ⟨g, 0, none⟩) ∧ base ≤ g ∧ Row w g 27 #[v0, v1, v2] ∧ DzA w base (.agg #[v0, v1, v2]) x
theorem DzA.setRow {w : World} {base : Nat} {v : Value} {x : Dz} (h : DzA w base v x) {g : Nat} {cs : Array Value} (hr : Row w g 27 cs) {p : Addr} (hp : p.block = g) (u : Value) : DzA (w.setCell p u) base v x := by
  obtain ⟨v0, v1, v2, rfl, k0, k1, k2, hd⟩ := h
  subst hp
  exact ⟨v0, v1, v2, rfl, OwnG.setNe k0 (OwnG.neRow k0 hr (by decide)) u, OwnG.setNe k1 (OwnG.neRow k1 hr (by decide)) u, OwnG.setNe k2 (OwnG.neRow k2 hr (by decide)) u, hd⟩
theorem DzBox.store {w : World} {base g : Nat} {v0 v1 v2 a b c : Value} {x : Dz} (h : DzA w base (.agg #[v0, v1, v2]) x) (hr : Row w g 27 #[a, b, c]) (hg : base ≤ g) :
    DzBox (((w.setCell ⟨g, 0, none⟩ v0).setCell ⟨g, 1, none⟩ v1).setCell ⟨g, 2, none⟩ v2) base (.pointer (some ⟨g, 0, none⟩)) x :=
  ⟨g, v0, v1, v2, rfl, hg, ((hr.set 0 v0).set 1 v1).set 2 v2, ((h.setRow hr rfl v0).setRow (hr.set 0 v0) rfl v1).setRow ((hr.set 0 v0).set 1 v1) rfl v2⟩
theorem Below.set3 {w u : World} {G g : Nat} (h : Below G w u) (hg : G ≤ g) (v0 v1 v2 : Value) : Below G w (((u.setCell ⟨g, 0, none⟩ v0).setCell ⟨g, 1, none⟩ v1).setCell ⟨g, 2, none⟩ v2) := ((h.setCell hg _).setCell hg _).setCell hg _
/-- As DzA.open_; and no box lies in the blocks. -/
theorem DzA.openT {w : World} {base : Nat} {v : Value} {x : Dz} (h : DzA w base v x) (hf : x.fits) : ∃ (A0 : Option Addr) (c0 : Nat) (A1 : Option Addr) (c1 : Nat) (A2 : Option Addr) (c2 : Nat) (b0 b1 b2 : List Nat), v = .agg #[.slice A0 x.live.length c0, .slice A1 x.safe.length c1, .slice A2 x.ops.length c2] ∧
    Sl FzR 2 (okF base w) w A0 x.live.length x.live ∧ Sl FzR 2 (okF base w) w A1 x.safe.length x.safe ∧ Sl OzR 4 (okF base w) w A2 x.ops.length x.ops ∧
    FlS 2 w A0 x.live.length b0 ∧ FlS 2 w A1 x.safe.length b1 ∧ FlS 4 w A2 x.ops.length b2 ∧ (b0 ++ b1 ++ b2).Nodup ∧ (∀ b ∈ b0 ++ b1 ++ b2, base ≤ b ∧ b < w.heap.size) ∧ ∀ b ∈ b0 ++ b1 ++ b2, ∀ cs, ¬ Row w b 27 cs := by
  obtain ⟨v0, v1, v2, rfl, k0, k1, k2, hd⟩ := h
  have d02 : Dis v0 v2 := Dis.types k0 k2 (by decide)
  have d12 : Dis v1 v2 := Dis.types k1 k2 (by decide)
  obtain ⟨A0, c0, e0, s0, f0⟩ := OwnG.fl fz_cells fz_nosl k0 hf.1.1
  obtain ⟨A1, c1, e1, s1, f1⟩ := OwnG.fl fz_cells fz_nosl k1 hf.2.1.1
  obtain ⟨A2, c2, e2, s2, f2⟩ := OwnG.fl oz_cells oz_nosl k2 hf.2.2.1
  have hb : ∀ v, (blkL v).Nodup := fun v => by unfold blkL; split <;> simp
  have hm : ∀ b ∈ blkL v0 ++ blkL v1 ++ blkL v2, v0.ownBlock = some b ∨ v1.ownBlock = some b ∨ v2.ownBlock = some b := fun b hb => by
    rcases List.mem_append.1 hb with hb | hb
    · rcases List.mem_append.1 hb with hb | hb
      · exact .inl (mem_blkL.1 hb)
      · exact .inr (.inl (mem_blkL.1 hb))
    · exact .inr (.inr (mem_blkL.1 hb))
  refine ⟨A0, c0, A1, c1, A2, c2, blkL v0, blkL v1, blkL v2, by rw [e0, e1, e2], s0, s1, s2, f0, f1, f2, ?_, fun b hb => ?_, fun b hb cs hr => ?_⟩
  · rw [List.append_assoc, List.nodup_append]
    refine ⟨hb _, List.nodup_append.2 ⟨hb _, hb _, fun a ha b hb e => ?_⟩, fun a ha b hb e => ?_⟩
    · subst e; exact d12 _ (mem_blkL.1 ha) (mem_blkL.1 hb)
    · subst e
      rcases List.mem_append.1 hb with hb | hb
      · exact hd _ (mem_blkL.1 ha) (mem_blkL.1 hb)
      · exact d02 _ (mem_blkL.1 ha) (mem_blkL.1 hb)
  · rcases hm b hb with h | h | h
    · exact OwnG.block_lt k0 b h
    · exact OwnG.block_lt k1 b h
    · exact OwnG.block_lt k2 b h
  · rcases hm b hb with h | h | h
    · exact OwnG.neRow k0 hr (by decide) h
    · exact OwnG.neRow k1 hr (by decide) h
    · exact OwnG.neRow k2 hr (by decide) h
theorem mem_bytes {l : List Fz} {y : Fz} (h : y ∈ l) : y.data.size ≤ bytesF l := by
  unfold bytesF
  induction l with
  | nil => cases h
  | cons z r ih =>
    rw [List.map_cons, List.sum_cons]
    rcases List.mem_cons.1 h with rfl | h
    · omega
    · have := ih h; omega
theorem filesB_sz {l : List Fz} (h : filesB l = true) : l.length ≤ 1048576 ∧ ∀ y ∈ l, y.sz ≤ 1048576 := by
  have h1 := filesB_bytes h
  refine ⟨by omega, fun y hy => ?_⟩
  have h2 := mem_bytes hy
  have h3 := filesB_name h hy
  simp only [nameB, Bool.and_eq_true, decide_eq_true_eq] at h3
  unfold Fz.sz
  omega
theorem codeD_zero {x : Dz} {o : Oz} (h : codeD x o = 0) : filesB (doF x.live o).1 = true := by
  unfold codeD at h
  cases hf : filesB (doF x.live o).1
  · rw [hf] at h
    split at h
    · split at h
      · split at h <;> cases h
      · cases h
    · cases h
  · rfl
theorem actDo_fits {x : Dz} {o : Oz} (h : x.sz ≤ 1048576) (ho : o.sz ≤ 1048576) : (actDo x o).fits := by
  have h1 := Dz.fits_of h
  unfold actDo
  split
  · rename_i hd
    have hp := diskB_parts hd
    unfold actD
    split
    · rename_i hc
      refine ⟨filesB_sz (codeD_zero hc), h1.2.1, by simp only [List.length_append, List.length_cons, List.length_nil]; omega, fun y hy => ?_⟩
      · rcases List.mem_append.1 hy with hy | hy
        · exact h1.2.2.2 y hy
        · rw [List.mem_singleton.1 hy]; exact ho
    · exact h1
  · exact ⟨by simp, by simp, by simp⟩
end Go.Proofs.Ytkinegapnknhiaa
namespace Go.Proofs.Ytkinegapnknhiaa
open Go.RowKit
set_option linter.unusedVariables false
set_option linter.unusedSimpArgs false

/-- Places that rise, all behind the last one and below a count. -/
def risesB (count : Int) (last : Int) : List Int → Bool
  | [] => true
  | p :: r => !decide (p ≤ last) && (decide (0 ≤ p) && decide (p < count)) && risesB count p r
theorem risesB_at {count last : Int} {l : List Int} {k : Nat} (h : k < l.length) : risesB count last (l.drop k) = (!decide (l[k] ≤ last) && (decide (0 ≤ l[k]) && decide (l[k] < count)) && risesB count l[k] (l.drop (k + 1))) := by
  rw [List.drop_eq_getElem_cons h]; rfl
theorem risesB_in {count : Int} : ∀ {l : List Int} {last : Int}, risesB count last l = true → ∀ p ∈ l, 0 ≤ p ∧ p < count
  | [], _, _, p, hp => by cases hp
  | q :: r, last, h, p, hp => by
    simp only [risesB, Bool.and_eq_true, decide_eq_true_eq] at h
    rcases List.mem_cons.1 hp with rfl | hp
    · exact h.1.2
    · exact risesB_in h.2 p hp
theorem risesB_gt {count : Int} : ∀ {l : List Int} {last : Int}, risesB count last l = true → ∀ p ∈ l, last < p
  | [], _, _, p, hp => by cases hp
  | q :: r, last, h, p, hp => by
    simp only [risesB, Bool.and_eq_true, decide_eq_true_eq, Bool.not_eq_true', decide_eq_false_iff_not] at h
    rcases List.mem_cons.1 hp with rfl | hp
    · omega
    · have := risesB_gt h.2 p hp; omega
theorem risesB_len {count : Int} : ∀ {l : List Int} {last : Int}, -1 ≤ last → risesB count last l = true → last + l.length < count ∨ l = []
  | [], _, _, _ => .inr rfl
  | q :: r, last, h0, h => by
    have h1 := risesB_gt h q (by simp)
    simp only [risesB, Bool.and_eq_true, decide_eq_true_eq] at h
    left
    rcases risesB_len (by omega) h.2 with h3 | rfl
    · simp only [List.length_cons]; omega
    · simp only [List.length_cons, List.length_nil]; omega
/-- The bytes that an op puts in, cut short. -/
def tornO (o : Oz) (t : Int) : Oz := ⟨o.kind, o.name, o.to, o.data.extract 0 (min t.toNat o.data.size)⟩
def opAt (ops : List Oz) (p : Int) : Oz := ops.getD p.toNat ⟨0, ⟨#[]⟩, ⟨#[]⟩, ⟨#[]⟩⟩
/-- What is left of the ops. -/
def keptO (ops : List Oz) (torn : Int) : List Int → List Oz
  | [] => []
  | [p] => [tornO (opAt ops p) torn]
  | p :: q :: r => opAt ops p :: keptO ops torn (q :: r)
def runF (l : List Fz) (os : List Oz) : List Fz := os.foldl (fun l o => (doF l o).1) l
theorem runF_at {l : List Fz} {os : List Oz} {k : Nat} (h : k < os.length) : runF l (os.drop k) = runF (doF l os[k]).1 (os.drop (k + 1)) := by
  rw [List.drop_eq_getElem_cons h]; rfl
def crashOk (x : Dz) (keep : List Int) (torn : Int) : Bool := diskB x && risesB x.ops.length (-1) keep && decide (0 ≤ torn) && filesB (runF x.safe (keptO x.ops torn keep))
def crashD (x : Dz) (keep : List Int) (torn : Int) : Dz := if crashOk x keep torn then ⟨runF x.safe (keptO x.ops torn keep), runF x.safe (keptO x.ops torn keep), []⟩ else ⟨[], [], []⟩
theorem keptO_len (ops : List Oz) (torn : Int) : ∀ l : List Int, (keptO ops torn l).length = l.length
  | [] => rfl
  | [p] => rfl
  | p :: q :: r => by unfold keptO; rw [List.length_cons, keptO_len ops torn (q :: r)]; rfl
theorem keptO_get (ops : List Oz) (torn : Int) : ∀ (l : List Int) (k : Nat) (h : k < l.length), (keptO ops torn l)[k]? = some (if k + 1 = l.length then tornO (opAt ops l[k]) torn else opAt ops l[k])
  | [], k, h => by cases h
  | [p], k, h => by
    have : k = 0 := by simpa using h
    subst this
    rfl
  | p :: q :: r, 0, h => by
    unfold keptO
    rw [if_neg (by simp)]
    rfl
  | p :: q :: r, k + 1, h => by
    have h2 : k < (q :: r).length := by simpa using h
    have h1 := keptO_get ops torn (q :: r) k h2
    unfold keptO
    rw [List.getElem?_cons_succ, h1]
    simp only [List.length_cons, List.getElem_cons_succ]
    congr 1
    by_cases e : k + 1 = r.length + 1
    · rw [if_pos e, if_pos (by omega)]
    · rw [if_neg e, if_neg (by omega)]
theorem steps_form : ∀ {ops : List Oz} {l m : List Fz}, stepsF l ops = some m → ∀ o ∈ ops, formB o = true
  | [], _, _, _, o, ho => by cases ho
  | p :: r, l, m, h, o, ho => by
    unfold stepsF at h
    split at h
    · rename_i hc
      simp only [Bool.and_eq_true] at hc
      rcases List.mem_cons.1 ho with rfl | ho
      · exact hc.1.1
      · exact steps_form h o ho
    · cases h
theorem diskB_form {x : Dz} (h : diskB x = true) : ∀ o ∈ x.ops, formB o = true := by
  have hp := diskB_parts h
  rw [diskB_go hp.1 hp.2.1 hp.2.2] at h
  cases e : stepsF x.safe x.ops with
  | none => rw [e] at h; cases h
  | some m => exact steps_form e
theorem form_data {o : Oz} (h : formB o = true) (hk : o.kind ≠ 1) : o.data.toList = [] := by
  unfold formB at h
  rw [if_neg hk] at h
  by_cases k2 : o.kind = 2
  · rw [if_pos k2] at h
    simp only [Bool.and_eq_true, List.isEmpty_iff] at h
    exact h.2.2
  · rw [if_neg k2] at h
    by_cases k3 : o.kind = 3
    · rw [if_pos k3] at h
      simp only [Bool.and_eq_true, List.isEmpty_iff] at h
      exact h.2.2
    · rw [if_neg k3] at h; simp at h
theorem form_torn {o : Oz} (h : formB o = true) (t : Int) : formB (tornO o t) = true := by
  by_cases hk : o.kind = 1
  · unfold formB tornO at *
    simp only at *
    rw [if_pos hk] at h ⊢
    exact h
  · have hd := form_data h hk
    have he : o.data = ⟨#[]⟩ := bytes_ext (by rw [hd, ByteArray.toList_eq])
    unfold tornO
    rw [he]
    have : (⟨#[]⟩ : ByteArray).extract 0 (min t.toNat (⟨#[]⟩ : ByteArray).size) = ⟨#[]⟩ := by
      have e : min t.toNat (⟨#[]⟩ : ByteArray).size = 0 := Nat.min_eq_right (Nat.zero_le _)
      rw [e]; rfl
    rw [this]
    cases o
    simp only at he
    subst he
    exact h
theorem tornO_size (o : Oz) (t : Int) : (tornO o t).data.size ≤ o.data.size := by
  unfold tornO
  simp only [ByteArray.size_extract]
  omega

/-! ### How many bytes -/
theorem cutF_less : ∀ {l : List Fz}, SortedF l → ∀ s : List UInt8, bytesF (cutF l s) + ((findF l s).map ByteArray.size).getD 0 = bytesF l
  | [], _, s => by simp [cutF, findF, bytesF]
  | x :: r, h, s => by
    obtain ⟨h1, h2⟩ := List.pairwise_cons.1 h
    rw [findF_cons]
    by_cases e : x.nm = s
    · have hc : cutF (x :: r) s = r := by
        unfold cutF
        rw [List.filter_cons]
        simp only [e, beq_self_eq_true, Bool.not_true, Bool.false_eq_true, if_false]
        refine List.filter_eq_self.2 fun z hz => ?_
        have := h1 z hz
        simp only [Bool.not_eq_true', beq_eq_false_iff_ne]
        intro k; rw [e, k] at this; exact lt_irr _ this
      rw [hc]
      simp only [e, beq_self_eq_true, if_true, Option.map_some, Option.getD_some]
      unfold bytesF
      rw [List.map_cons, List.sum_cons]
      omega
    · have hne : (x.nm == s) = false := by simpa using e
      have ih := cutF_less h2 s
      rw [hne]
      simp only [Bool.false_eq_true, if_false]
      unfold cutF at ih ⊢
      rw [List.filter_cons]
      simp only [hne, Bool.not_false, if_true]
      unfold bytesF at ih ⊢
      rw [List.map_cons, List.sum_cons, List.map_cons, List.sum_cons]
      omega
theorem putF_less : ∀ {l : List Fz}, SortedF l → ∀ n d : ByteArray, bytesF (putF l n d) + ((findF l n.toList).map ByteArray.size).getD 0 = bytesF l + d.size
  | [], _, n, d => by simp [putF, putGo, findF, bytesF]
  | x :: r, h, n, d => by
    obtain ⟨h1, h2⟩ := List.pairwise_cons.1 h
    rw [putF_cons]
    split
    · rename_i hl
      have hne : (x.nm == n.toList) = false := by simp only [beq_eq_false_iff_ne]; intro e; rw [e] at hl; exact lt_irr _ hl
      have ih := putF_less h2 n d
      rw [findF_cons, hne]
      simp only [Bool.false_eq_true, if_false]
      unfold bytesF at ih ⊢
      rw [List.map_cons, List.sum_cons, List.map_cons, List.sum_cons]
      omega
    · have := cutF_less h n.toList
      unfold bytesF at this ⊢
      rw [List.map_cons, List.sum_cons]
      simp only
      omega
/-- An op puts in no more than its own bytes. -/
theorem doF_less {l : List Fz} (h : SortedF l) (o : Oz) : bytesF (doF l o).1 ≤ bytesF l + o.data.size := by
  unfold doF
  split
  · have h1 := putF_less h o.name ((findF l o.name.toList).elim o.data (· ++ o.data))
    simp only
    cases e : findF l o.name.toList with
    | none => rw [e] at h1; simp at h1 ⊢; omega
    | some d => rw [e] at h1; simp at h1 ⊢; omega
  · split
    · simp only; omega
    · rename_i d e
      have h1 := cutF_less h o.name.toList
      rw [e] at h1
      simp only [Option.map_some, Option.getD_some] at h1
      simp only
      split
      · have h2 := putF_less (cutF_sorted h o.name.toList) o.to d
        omega
      · omega
def NamesF (l : List Fz) : Prop := ∀ x ∈ l, nameB x.name = true
theorem doF_names {l : List Fz} (h : NamesF l) {o : Oz} (ho : formB o = true) : NamesF (doF l o).1 := by
  obtain ⟨h0, hk⟩ := form_kinds ho
  unfold doF
  split
  · intro x hx
    rcases putF_mem hx with rfl | ⟨hx, -⟩
    · exact h0
    · exact h x hx
  · split
    · exact h
    · simp only
      split
      · rename_i k2
        intro x hx
        rcases putF_mem hx with rfl | ⟨hx, -⟩
        · rcases hk with hk | ⟨-, hk⟩ | hk
          · omega
          · exact hk
          · omega
        · exact h x (cutF_mem hx).1
      · exact fun x hx => h x (cutF_mem hx).1
theorem room_files {l : List Fz} (h : SortedF l) (hn : NamesF l) : filesB l = roomB l := by
  unfold filesB roomB
  rw [okN_iff.2 ⟨h, hn⟩, Bool.and_true]
/-- The files on the way through the kept ops. -/
structure OnWay (x : Dz) (l : List Fz) (k : Nat) : Prop where
  srt : SortedF l
  nms : NamesF l
  bts : bytesF l ≤ 200000 + k * 1048576
  len : l.length ≤ 60 + k
theorem OnWay.start {x : Dz} (h : filesB x.safe = true) : OnWay x x.safe 0 :=
  ⟨filesB_sorted h, fun y hy => filesB_name h hy, by have := filesB_bytes h; omega, by have := filesB_bytes h; omega⟩
theorem OnWay.step {x : Dz} {l : List Fz} {k : Nat} (h : OnWay x l k) {o : Oz} (ho : formB o = true) (hd : o.data.size ≤ 1048576) : OnWay x (doF l o).1 (k + 1) :=
  ⟨doF_sorted h.srt o, doF_names h.nms ho, by have h1 := doF_less h.srt o; have h2 := h.bts; rw [Nat.add_mul]; omega, by have h1 := (doF_bytes l o).2; have h2 := h.len; omega⟩
end Go.Proofs.Ytkinegapnknhiaa
namespace Go.Proofs.Ytkinegapnknhiaa
open Go.RowKit
set_option linter.unusedVariables false
set_option linter.unusedSimpArgs false

theorem implPlaceC (p nc : Int) (w : World) : Calls Try.prog 85 #[.int .i64 p, .int .i64 nc] w fun e w' => e = .returned (.bool (decide (0 ≤ p) && decide (p < nc))) ∧ w = w' := by
  by_cases h0 : 0 ≤ p
  · have h0' : decide (0 ≤ p) = true := decide_eq_true h0
    go_enter Try.func85, Try.ntmps85
    go_wp2
    go_ret
    exact ⟨by simp [h0'], rfl⟩
  · have h0' : decide (0 ≤ p) = false := decide_eq_false h0
    go_enter Try.func85, Try.ntmps85
    go_wp2
    go_ret
    exact ⟨by simp [h0'], rfl⟩

set_option maxRecDepth 100000 in
set_option maxHeartbeats 1000000 in
theorem implRising (A : Option Addr) (n c : Nat) (l : List Int) (count : Int) (ok : Nat → Prop) (w : World) (h : Sl IntR 1 ok w A n l) (hn : n ≤ 1048576) :
    Calls Try.prog 50 #[.slice A n c, .int .i64 count] w fun e w' => e = .returned (.bool (risesB count (-1) l)) ∧ Below w.heap.size w w' := by
  obtain rfl : l.length = n := h.1
  go_enter Try.func50, Try.ntmps50
  go_wp2
  go_loopw [5, 10] (fun lv iv wr => ∃ (k : Nat) (last : Int), k ≤ l.length ∧ iv = .int .i64 k ∧ lv = .int .i64 last ∧ Hid (risesB count (-1) l = risesB count last (l.drop k)) ∧ Below w.heap.size w wr) (fun _ iv _ => l.length - (intOf iv).toNat)
  case atStart => exact ⟨0, -1, by omega, rfl, rfl, Lib.hid rfl, Below.refl _ _⟩
  case round =>
    obtain ⟨k, last, hk, rfl, rfl, HR, hb⟩ := hrel
    by_cases hlt : k < l.length
    · obtain ⟨b, off, -, rfl, q0⟩ := IntR.at_ (h.below IntR.stays hb) hlt
      have i0 : (0 : Int) ≤ k := by omega
      have i1 : (k : Int) < l.length := by omega
      have HR := Lib.hid (HR.out.trans (risesB_at hlt))
      obtain ⟨p, hp⟩ : ∃ p, p = l[k] := ⟨_, rfl⟩
      rw [← hp] at q0 HR
      clear hp
      by_cases hle : p ≤ last
      · have hle' : decide (p ≤ last) = true := decide_eq_true hle
        have HF := Lib.hid (show risesB count (-1) l = false by rw [HR.out, hle']; rfl)
        clear hle
        go_wp2_with fail
        go_ret
        exact ⟨retB HF.out.symm, hb⟩
      · have hle' : decide (p ≤ last) = false := decide_eq_false hle
        clear hle
        go_wp2_with fail
        refine (implPlaceC p count _).mono ?_
        rintro e w1 ⟨rfl, rfl⟩
        cases hpl : (decide (0 ≤ p) && decide (p < count))
        · have HF := Lib.hid (show risesB count (-1) l = false by rw [HR.out, hle', hpl]; rfl)
          clear hpl
          go_wp2_with fail
          go_ret
          exact ⟨retB HF.out.symm, hb⟩
        · have HG := Lib.hid (show risesB count (-1) l = risesB count p (l.drop (k + 1)) by rw [HR.out, hle', hpl]; rfl)
          clear hpl
          go_wp2_with fail
          go_roundw
          case rel => exact ⟨k + 1, p, by omega, by go_num, rfl, HG, hb⟩
          case measure => simp [intOf]; omega
    · have HF := Lib.hid (show risesB count (-1) l = true by rw [HR.out, List.drop_eq_nil_of_le (by omega)]; rfl)
      go_wp2_with fail
      go_ret
      exact ⟨retB HF.out.symm, hb⟩
end Go.Proofs.Ytkinegapnknhiaa
namespace Go.Proofs.Ytkinegapnknhiaa
open Go.RowKit
set_option linter.unusedVariables false
set_option linter.unusedSimpArgs false

theorem ownO_of_laid {w : World} {base g : Nat} {cs : Array Value} {xs : List Oz} {ok : Nat → Prop} {k : Nat} (hr : Row w g 36 cs) (hb : base ≤ g) (hs : cs.size = xs.length * 4) (hm : xs.length ≤ maxLen) (h : LaidR OzR 4 ok w cs k xs) (hk : xs.length ≤ k) : OwnO w base (.slice (some ⟨g, 0, none⟩) xs.length xs.length) xs := by
  have e : cs.toList = (xs.map Oz.cells).flatten := by
    apply List.ext_getElem?
    intro p
    have hfl : ((xs.map Oz.cells).flatten).length = xs.length * 4 := by rw [flat_len (sz := 4) _ (fun c hc => by obtain ⟨v, -, rfl⟩ := List.mem_map.1 hc; rfl), List.length_map]
    by_cases hp : p < xs.length * 4
    · have hi : p / 4 < xs.length := by omega
      obtain ⟨c, h1, h2, h3⟩ := h (p / 4) hi (by omega)
      have h2' : c = Oz.cells xs[p / 4] := h2
      subst h2'
      have h4 := flat_get (sz := 4) (xs.map Oz.cells) (p / 4) (p % 4) (by rw [List.length_map]; exact hi) (by omega) (fun c hc => by obtain ⟨v, -, rfl⟩ := List.mem_map.1 hc; rfl)
      have hpe : p / 4 * 4 + p % 4 = p := by omega
      rw [hpe, List.getElem_map] at h4
      rw [h4, Array.getElem?_toList]
      have hlt : p % 4 < (Oz.cells xs[p / 4]).length := by rw [h1]; omega
      have h5 := h3 (p % 4) _ (List.getElem?_eq_getElem hlt)
      rw [hpe] at h5
      rw [h5, List.getElem?_eq_getElem hlt]
    · rw [List.getElem?_eq_none (by rw [Array.length_toList]; omega), List.getElem?_eq_none (by omega)]
  refine ⟨?_, .inr ⟨g, xs.length, cs, rfl, hb, hr, Nat.le_refl _, hm, by omega, ?_⟩⟩
  · rw [flat_len (sz := 4) _ (fun c hc => by obtain ⟨v, -, rfl⟩ := List.mem_map.1 hc; rfl), List.length_map]
  · rw [← e, List.take_of_length_le (by rw [Array.length_toList]; omega)]
/-- The last one is torn. -/
theorem laid_torn {w : World} {ok : Nat → Prop} {cs : Array Value} {ops : List Oz} {keep : List Int} {torn : Int} (h0 : 0 < keep.length) (hs : cs.size = keep.length * 4) (h : LaidR OzR 4 ok w cs keep.length (keep.map (opAt ops))) {ok' : Nat → Prop} {w' : World} :
    LaidR OzR 4 ok' w' (cs.setIfInBounds ((keep.length - 1) * 4 + 3) (.string (tornO (opAt ops (keep[keep.length - 1]'(by omega))) torn).data)) keep.length (keptO ops torn keep) := by
  intro i hi hlt
  have hg := keptO_get ops torn keep i hlt
  rw [List.getElem?_eq_getElem hi] at hg
  have hg := Option.some.inj hg
  obtain ⟨c, h1, h2, h3⟩ := h i (by rw [List.length_map]; exact hlt) hlt
  have h2' : c = Oz.cells ((keep.map (opAt ops))[i]'(by rw [List.length_map]; exact hlt)) := h2
  rw [List.getElem_map] at h2'
  subst h2'
  refine ⟨Oz.cells (keptO ops torn keep)[i], rfl, rfl, fun j v hv => ?_⟩
  have hj : j < 4 := (List.getElem?_eq_some_iff.1 hv).1
  rw [hg] at hv
  by_cases e : i + 1 = keep.length
  · rw [if_pos e] at hv
    have ei : keep.length - 1 = i := by omega
    by_cases ej : j = 3
    · subst ej
      have hv' := Option.some.inj hv
      subst hv'
      have : (keep.length - 1) * 4 + 3 = i * 4 + 3 := by rw [ei]
      rw [this, Array.getElem?_setIfInBounds_self_of_lt (by omega)]
      congr 3
      simp only [ei]
    · rw [Array.getElem?_setIfInBounds_ne (by omega)]
      refine h3 j v ?_
      rw [← hv]
      match j, hj, ej with
      | 0, _, _ => rfl
      | 1, _, _ => rfl
      | 2, _, _ => rfl
      | 3, _, ej => exact absurd rfl ej
  · rw [if_neg e] at hv
    rw [Array.getElem?_setIfInBounds_ne (by omega)]
    exact h3 j v hv

set_option maxRecDepth 100000 in
set_option maxHeartbeats 1000000 in
theorem implKeptOps (A : Option Addr) (n c : Nat) (ops : List Oz) (AK : Option Addr) (nK cK : Nat) (keep : List Int) (torn : Int) (ok ok' : Nat → Prop) (w : World) (h : Sl OzR 4 ok w A n ops) (hk : Sl IntR 1 ok' w AK nK keep) (hn : n ≤ 1048576) (hnk : nK ≤ 1048576) (hin : ∀ p ∈ keep, 0 ≤ p ∧ p < ops.length) (ht : 0 ≤ torn) (hd : ∀ o ∈ ops, o.data.size ≤ 1048576) :
    Calls Try.prog 51 #[.slice A n c, .slice AK nK cK, .int .i64 torn] w fun e w' => (∃ v, e = .returned v ∧ OwnO w' w.heap.size v (keptO ops torn keep)) ∧ Below w.heap.size w w' := by
  obtain rfl : ops.length = n := h.1
  obtain rfl : keep.length = nK := hk.1
  have HIN := Lib.hid hin
  have HD := Lib.hid hd
  clear hin hd
  have hmk := fun w => mk_rows (P := Try.prog) Try.underlying25 infoDOpT (by omega) keep.length hnk w
  go_enter Try.func51, Try.ntmps51
  go_wp2
  have row := Row.new w 36 (madeCells #[.int .i64 0, .string ⟨#[]⟩, .string ⟨#[]⟩, .string ⟨#[]⟩] (keep.length * 4))
  have hb0 := (Below.refl w.heap.size w).alloc (Nat.le_refl _) (.cells (madeCells #[.int .i64 0, .string ⟨#[]⟩, .string ⟨#[]⟩, .string ⟨#[]⟩] (keep.length * 4)) 36)
  have hsz := size_madeCells #[.int .i64 0, .string ⟨#[]⟩, .string ⟨#[]⟩, .string ⟨#[]⟩] (keep.length * 4)
  have hx0 : (w.alloc (.cells (madeCells #[.int .i64 0, .string ⟨#[]⟩, .string ⟨#[]⟩, .string ⟨#[]⟩] (keep.length * 4)) 36)).heap.size = w.heap.size + 1 := by simp
  generalize w.alloc (.cells (madeCells #[.int .i64 0, .string ⟨#[]⟩, .string ⟨#[]⟩, .string ⟨#[]⟩] (keep.length * 4)) 36) = x at *
  generalize madeCells #[.int .i64 0, .string ⟨#[]⟩, .string ⟨#[]⟩, .string ⟨#[]⟩] (keep.length * 4) = cs0 at *
  have HZ := Lib.hid hsz
  have HX0 := Lib.hid hx0
  have HML := Lib.hid (show (keep.map (opAt ops)).length = keep.length from List.length_map _)
  clear hmk hsz hx0
  go_loopw [17] (fun i wr => ∃ (k : Nat) (cs : Array Value), k ≤ keep.length ∧ i = .int .i64 k ∧ Row wr w.heap.size 36 cs ∧ Hid (cs.size = keep.length * 4) ∧ Hid (LaidR OzR 4 (okF (w.heap.size + 1) wr) wr cs k (keep.map (opAt ops))) ∧ Hid (w.heap.size + 1 ≤ wr.heap.size) ∧ Below w.heap.size w wr) (fun i _ => keep.length - (intOf i).toNat)
  case atStart => exact ⟨0, cs0, by omega, rfl, row, Lib.hid (by rw [HZ.out]), Lib.hid (LaidR.zero _ _ _ _ _ _), Lib.hid (by rw [HX0.out]; exact Nat.le_refl _), hb0⟩
  case round =>
    obtain ⟨k, cs, hkk, rfl, hrow, hcs, hlaid, hgw, hb⟩ := hrel
    by_cases hlt : k < keep.length
    · obtain ⟨bk, offk, -, rfl, g0⟩ := IntR.at_ (hk.below IntR.stays hb) hlt
      obtain ⟨hp0, hp1⟩ := HIN.out _ (List.getElem_mem hlt)
      obtain ⟨m, hm⟩ : ∃ m : Nat, keep[k] = m := ⟨keep[k].toNat, by omega⟩
      rw [hm] at g0 hp1
      have hml : m < ops.length := by omega
      have HO := Lib.hid (show (keep.map (opAt ops))[k]'(by rw [List.length_map]; exact hlt) = ops[m] by rw [List.getElem_map, hm]; unfold opAt; rw [List.getD_eq_getElem?_getD, Int.toNat_natCast, List.getElem?_eq_getElem hml]; rfl)
      obtain ⟨b, off, -, rfl, q0, q1, q2, q3⟩ := OzR.at_ (h.below OzR.stays hb) hml
      have hsz1 : k * 4 + 4 ≤ cs.size := by rw [hcs.out]; omega
      have q : ∀ j, j < 4 → wr.cell? ⟨w.heap.size, k * 4 + j, none⟩ = some (cs[k * 4 + j]?.getD undef) := fun j hj => by
        rw [hrow.cell, Array.getElem?_eq_getElem (by omega)]; rfl
      have z0 : wr.cell? ⟨w.heap.size, k * 4, none⟩ = some (cs[k * 4]?.getD undef) := q 0 (by omega)
      have z1 := q 1 (by omega)
      have z2 := q 2 (by omega)
      have z3 := q 3 (by omega)
      have f0 := hrow.free (k * 4)
      have f1 := hrow.free (k * 4 + 1)
      have f2 := hrow.free (k * 4 + 2)
      have f3 := hrow.free (k * 4 + 3)
      have j0 : (0 : Int) ≤ m := by omega
      have j1 : (m : Int) < ops.length := by omega
      have i0 : (0 : Int) ≤ k := by omega
      have i1 : (k : Int) < keep.length := by omega
      have HR := Lib.hid hrow
      have HGW := Lib.hid hgw.out
      clear q hrow hm hp0 hp1
      generalize ops[m] = o at *
      go_wp2_with fail
      go_roundw
      case rel =>
        exact ⟨k + 1, _, by omega, by go_num, ((((HR.out).set _ _).set _ _).set _ _).set _ _, Lib.hid (by simp [hcs.out]), Lib.hid ((((((hlaid.out).setF OzR.stays (by simp) _).setF OzR.stays (by simp) _).setF OzR.stays (by simp) _).setF OzR.stays (by simp) _).more (by rw [HML.out]; exact hlt) (c := [.int .i64 o.kind, .string o.name, .string o.to, .string o.data]) rfl (by rw [HO.out]; rfl) (hold4 cs k _ _ _ _) (fresh4 cs k _ _ _ _ hsz1)), Lib.hid (by simpa using HGW.out), (((hb.setCell (by simp) _).setCell (by simp) _).setCell (by simp) _).setCell (by simp) _⟩
      case measure => simp [intOf]; omega
    · obtain rfl : k = keep.length := by omega
      have HLD := Lib.hid hlaid.out
      by_cases hz : keep.length = 0
      · have hke : keep = [] := List.length_eq_zero_iff.1 hz
        subst hke
        go_wp2_with fail
        go_ret
        exact ⟨⟨_, rfl, ownO_of_laid (xs := []) hrow (Nat.le_refl _) (by rw [hcs.out]; rfl) (Nat.zero_le _) (LaidR.zero OzR 4 (okF 0 wr) wr cs []) (Nat.le_refl _)⟩, hb⟩
      · have hpos : 0 < keep.length := by omega
        have hlp : keep.length - 1 < keep.length := by omega
        obtain ⟨hp0, hp1⟩ := HIN.out _ (List.getElem_mem hlp)
        have hdt : (opAt ops keep[keep.length - 1]).data.size ≤ 1048576 := by
          unfold opAt
          rw [List.getD_eq_getElem?_getD, List.getElem?_eq_getElem (by omega)]
          exact HD.out _ (List.getElem_mem _)
        have hcell : cs[(keep.length - 1) * 4 + 3]? = some (.string (opAt ops keep[keep.length - 1]).data) := by
          obtain ⟨c, h1, h2, h3⟩ := HLD.out (keep.length - 1) (by rw [List.length_map]; exact hlp) hlp
          have h2' : c = Oz.cells ((keep.map (opAt ops))[keep.length - 1]'(by rw [List.length_map]; exact hlp)) := h2
          rw [List.getElem_map] at h2'
          subst h2'
          exact h3 3 _ rfl
        have z3 : wr.cell? ⟨w.heap.size, (keep.length - 1) * 4 + 3, none⟩ = some (.string (opAt ops keep[keep.length - 1]).data) := by rw [hrow.cell, hcell]
        have HT := Lib.hid (laid_torn (torn := torn) hpos hcs.out HLD.out (ok' := okF 0 wr) (w' := wr.setCell ⟨w.heap.size, (keep.length - 1) * 4 + 3, none⟩ (.string (tornO (opAt ops keep[keep.length - 1]) torn).data)))
        have f3 := hrow.free ((keep.length - 1) * 4 + 3)
        have HR := Lib.hid hrow
        have HCS := Lib.hid hcs.out
        generalize hgo : opAt ops keep[keep.length - 1] = o at *
        have i0 : (0 : Int) < keep.length := by omega
        have i1 : (1 : Int) ≤ keep.length := by omega
        obtain ⟨T, rfl⟩ : ∃ T : Nat, torn = T := ⟨torn.toNat, by omega⟩
        obtain ⟨l1, hl1⟩ : ∃ l1, keep.length = l1 + 1 := ⟨keep.length - 1, by omega⟩
        have e1 : keep.length - 1 = l1 := by omega
        have f3 := hrow.free (l1 * 4 + 3)
        rw [e1] at z3 HT
        have i2 : (0 : Int) < ((l1 + 1 : Nat) : Int) := by omega
        clear e1 hcell hlaid HLD HML hp0 hp1 hgo hpos hz
        have hmin : (min (T : Int) (o.data.size : Int)).toNat = min (T : Int).toNat o.data.size := by omega
        have HO := Lib.hid (show OwnO (wr.setCell ⟨w.heap.size, l1 * 4 + 3, none⟩ (.string (o.data.extract 0 (min (T : Int) (o.data.size : Int)).toNat))) w.heap.size (.slice (some ⟨w.heap.size, 0, none⟩) (l1 + 1) (l1 + 1)) (keptO ops T keep) by
          rw [hmin]
          have h1 := ownO_of_laid (xs := keptO ops T keep) (k := keep.length) (HR.out.set (l1 * 4 + 3) (.string (tornO o T).data)) (Nat.le_refl _) (by rw [keptO_len, ← HCS.out]; simp) (by rw [keptO_len]; unfold maxLen; omega) HT.out (by rw [keptO_len]; exact Nat.le_refl _)
          rw [keptO_len, hl1] at h1
          exact h1)
        have HBS := Lib.hid (hb.setCell (p := ⟨w.heap.size, l1 * 4 + 3, none⟩) (Nat.le_refl _) (.string (o.data.extract 0 (min (T : Int) (o.data.size : Int)).toNat)))
        clear hmin HT HR HCS hrow hb
        go_upto_region 10 with fail
        go_region_with (fail)
        all_goals (go_wp2_with fail; go_ret; exact ⟨⟨_, rfl, HO.out⟩, HBS.out.drew⟩)
end Go.Proofs.Ytkinegapnknhiaa
namespace Go.Proofs.Ytkinegapnknhiaa
open Go.RowKit Go.Maps
set_option linter.unusedVariables false
set_option linter.unusedSimpArgs false

theorem kept_ok {ops : List Oz} {torn : Int} (hf : ∀ o ∈ ops, formB o = true) (hd : ∀ o ∈ ops, o.data.size ≤ 1048576) : ∀ keep : List Int, (∀ p ∈ keep, 0 ≤ p ∧ p < ops.length) → ∀ o ∈ keptO ops torn keep, formB o = true ∧ o.data.size ≤ 1048576
  | [], _, o, ho => by cases ho
  | [p], hin, o, ho => by
    have hp := hin p (by simp)
    have hm : opAt ops p ∈ ops := by
      unfold opAt
      rw [List.getD_eq_getElem?_getD, List.getElem?_eq_getElem (by omega)]
      exact List.getElem_mem _
    have e : o = tornO (opAt ops p) torn := List.mem_singleton.1 ho
    subst e
    exact ⟨form_torn (hf _ hm) torn, Nat.le_trans (tornO_size _ _) (hd _ hm)⟩
  | p :: q :: r, hin, o, ho => by
    have hp := hin p (by simp)
    have hm : opAt ops p ∈ ops := by
      unfold opAt
      rw [List.getD_eq_getElem?_getD, List.getElem?_eq_getElem (by omega)]
      exact List.getElem_mem _
    unfold keptO at ho
    rcases List.mem_cons.1 ho with rfl | ho
    · exact ⟨hf _ hm, hd _ hm⟩
    · exact kept_ok hf hd (q :: r) (fun p hp => hin p (List.mem_cons_of_mem _ hp)) o ho
theorem OwnO.kpB {f : Nat} {w w' : World} {base : Nat} {v : Value} {xs : List Oz} (h : OwnO w base v xs) (hk : KpB f w w') : OwnO w' base v xs := by
  refine ⟨h.1, ?_⟩
  rcases h.2 with h | ⟨g, cap, cur, rfl, h1, h2, h3⟩
  · exact .inl h
  · exact .inr ⟨g, cap, cur, rfl, h1, hk.rows _ _ _ _ h2 (by decide), h3⟩
theorem crash_no {x : Dz} {keep : List Int} {torn : Int} (h : crashOk x keep torn = false) : crashOk x keep torn = false ∧ crashD x keep torn = ⟨[], [], []⟩ := ⟨h, by unfold crashD; rw [h]; rfl⟩
theorem crash_yes {x : Dz} {keep : List Int} {torn : Int} (h : crashOk x keep torn = true) : crashOk x keep torn = true ∧ crashD x keep torn = ⟨runF x.safe (keptO x.ops torn keep), runF x.safe (keptO x.ops torn keep), []⟩ := ⟨h, by unfold crashD; rw [h]; rfl⟩

set_option maxRecDepth 100000 in
set_option maxHeartbeats 4000000 in
theorem implCrash (x : Dz) (AK : Option Addr) (nK cK : Nat) (keep : List Int) (torn : Int) (A0 : Option Addr) (n0 c0 : Nat) (A1 : Option Addr) (n1 c1 : Nat) (A2 : Option Addr) (n2 c2 : Nat) (ok ok' : Nat → Prop) (w : World) (h0 : Sl FzR 2 ok w A0 n0 x.live) (h1 : Sl FzR 2 ok w A1 n1 x.safe) (h2 : Sl OzR 4 ok w A2 n2 x.ops) (hk : Sl IntR 1 ok' w AK nK keep) (hs : x.sz ≤ 1048576) (hnk : nK ≤ 1048576) :
    Calls Try.prog 16 #[.agg #[.slice A0 n0 c0, .slice A1 n1 c1, .slice A2 n2 c2], .slice AK nK cK, .int .i64 torn] w fun e w' => (∃ v, e = .returned (.tuple #[v, .bool (crashOk x keep torn)]) ∧ DzA w' w.heap.size v (crashD x keep torn)) ∧ Below w.heap.size w w' := by
  obtain rfl : keep.length = nK := hk.1
  obtain rfl : x.ops.length = n2 := h2.1
  obtain ⟨hx, hwz⟩ := box2 w (.cells #[.slice A0 n0 c0, .slice A1 n1 c1, .slice A2 x.ops.length c2] 27) (.cells #[.slice none 0 0, .slice none 0 0, .slice none 0 0] 27)
  have ra := (Row.new w 27 #[.slice A0 n0 c0, .slice A1 n1 c1, .slice A2 x.ops.length c2]).alloc (.cells #[.slice none 0 0, .slice none 0 0, .slice none 0 0] 27)
  have rb := Row.newAt (w.alloc (.cells #[.slice A0 n0 c0, .slice A1 n1 c1, .slice A2 x.ops.length c2] 27)) 27 #[.slice none 0 0, .slice none 0 0, .slice none 0 0] (w.heap.size + 1) (by simp)
  have HI := Lib.hid infoDisk
  have HL := Lib.hid (sz_lens hs)
  have hdat : ∀ o ∈ x.ops, o.data.size ≤ 1048576 := fun o ho => by
    have h := szL_mem Oz.sz x.ops o ho
    have h3 : o.data.size ≤ o.sz := by unfold Oz.sz; omega
    unfold Dz.sz at hs
    omega
  have HDT := Lib.hid hdat
  clear hdat
  go_enter Try.func16, Try.ntmps16
  go_wp2_with fail
  generalize (w.alloc (.cells #[.slice A0 n0 c0, .slice A1 n1 c1, .slice A2 x.ops.length c2] 27)).alloc (.cells #[.slice none 0 0, .slice none 0 0, .slice none 0 0] 27) = z at *
  refine (implDiskOk x A0 n0 c0 A1 n1 c1 A2 _ c2 _ _ (h0.below FzR.stays hx) (h1.below FzR.stays hx) (h2.below OzR.stays hx) hs).mono ?_
  rintro e w1 ⟨rfl, hq⟩
  have hx := hx.trans (hq.mono hx.size)
  have hwz := Nat.le_trans hwz hq.size
  have ra := ra.below hq
  have rb := rb.below hq
  clear hq
  obtain ⟨⟨p0, p1, p2⟩, -⟩ := ra.three
  obtain ⟨⟨r0, r1, r2⟩, ⟨f0, f1, f2⟩⟩ := rb.three
  cases e0 : diskB x
  · have HA := Lib.hid (crash_no (keep := keep) (torn := torn) (show crashOk x keep torn = false by unfold crashOk; rw [e0]; rfl))
    have RR := Lib.hid rb
    clear ra rb
    go_wp2_with fail
    have hr9 := (((RR.out).set 0 (.slice none 0 0)).set 1 (.slice none 0 0)).set 2 (.slice none 0 0)
    refine bodyPost_ret (results_cell_row2 (p := 6) (u := 7) (ty := 27) rfl _ _ (w.heap.size + 1) 27 #[.slice none 0 0, .slice none 0 0, .slice none 0 0] (0, 0) _ rfl rfl hr9 Try.underlying27 rfl HI.out) rfl ⟨⟨.agg #[.slice none 0 0, .slice none 0 0, .slice none 0 0], ?_, ?_⟩, ?_⟩
    · rw [HA.out.1]; rfl
    · refine DzA.mono (base := w.heap.size + 2) ?_ (by omega)
      rw [HA.out.2]
      refine DzA.set (DzA.set (DzA.set (DzA.nil _ _) ?_ _) ?_ _) ?_ _ <;> (exact Nat.lt_succ_self _)
    · exact ((hx.setCell (Nat.le_add_right _ 1) _).setCell (Nat.le_add_right _ 1) _).setCell (Nat.le_add_right _ 1) _
  have HP := Lib.hid (diskB_parts e0)
  have E0 := Lib.hid e0
  have HFM := Lib.hid (diskB_form e0)
  clear e0
  clear r0 r1 r2 f0 f1 f2
  go_wp2_with fail
  refine (implRising AK _ cK keep x.ops.length _ _ (hk.below IntR.stays hx) hnk).mono ?_
  rintro e w2 ⟨rfl, hq⟩
  have hx := hx.trans (hq.mono hx.size)
  have hwz := Nat.le_trans hwz hq.size
  have ra := ra.below hq
  have rb := rb.below hq
  clear hq p0 p1 p2
  obtain ⟨⟨p0, p1, p2⟩, -⟩ := ra.three
  obtain ⟨⟨r0, r1, r2⟩, ⟨f0, f1, f2⟩⟩ := rb.three
  cases e1 : risesB x.ops.length (-1) keep
  · have HA := Lib.hid (crash_no (keep := keep) (torn := torn) (show crashOk x keep torn = false by unfold crashOk; rw [e1]; simp))
    have RR := Lib.hid rb
    clear ra rb
    go_wp2_with fail
    have hr9 := (((RR.out).set 0 (.slice none 0 0)).set 1 (.slice none 0 0)).set 2 (.slice none 0 0)
    refine bodyPost_ret (results_cell_row2 (p := 6) (u := 7) (ty := 27) rfl _ _ (w.heap.size + 1) 27 #[.slice none 0 0, .slice none 0 0, .slice none 0 0] (0, 0) _ rfl rfl hr9 Try.underlying27 rfl HI.out) rfl ⟨⟨.agg #[.slice none 0 0, .slice none 0 0, .slice none 0 0], ?_, ?_⟩, ?_⟩
    · rw [HA.out.1]; rfl
    · refine DzA.mono (base := w.heap.size + 2) ?_ (by omega)
      rw [HA.out.2]
      refine DzA.set (DzA.set (DzA.set (DzA.nil _ _) ?_ _) ?_ _) ?_ _ <;> (exact Nat.lt_succ_self _)
    · exact ((hx.setCell (Nat.le_add_right _ 1) _).setCell (Nat.le_add_right _ 1) _).setCell (Nat.le_add_right _ 1) _
  have E1 := Lib.hid e1
  clear e1
  by_cases htn : torn < 0
  · have htn' : decide (torn < 0) = true := decide_eq_true htn
    have HA := Lib.hid (crash_no (keep := keep) (torn := torn) (show crashOk x keep torn = false by unfold crashOk; rw [decide_eq_false (show ¬ 0 ≤ torn by omega)]; simp))
    have RR := Lib.hid rb
    clear ra rb htn
    go_wp2_with fail
    have hr9 := (((RR.out).set 0 (.slice none 0 0)).set 1 (.slice none 0 0)).set 2 (.slice none 0 0)
    refine bodyPost_ret (results_cell_row2 (p := 6) (u := 7) (ty := 27) rfl _ _ (w.heap.size + 1) 27 #[.slice none 0 0, .slice none 0 0, .slice none 0 0] (0, 0) _ rfl rfl hr9 Try.underlying27 rfl HI.out) rfl ⟨⟨.agg #[.slice none 0 0, .slice none 0 0, .slice none 0 0], ?_, ?_⟩, ?_⟩
    · rw [HA.out.1]; rfl
    · refine DzA.mono (base := w.heap.size + 2) ?_ (by omega)
      rw [HA.out.2]
      refine DzA.set (DzA.set (DzA.set (DzA.nil _ _) ?_ _) ?_ _) ?_ _ <;> (exact Nat.lt_succ_self _)
    · exact ((hx.setCell (Nat.le_add_right _ 1) _).setCell (Nat.le_add_right _ 1) _).setCell (Nat.le_add_right _ 1) _
  have htn' : decide (torn < 0) = false := decide_eq_false htn
  have HT0 := Lib.hid (show 0 ≤ torn by omega)
  have HIN := Lib.hid (risesB_in E1.out)
  have HKL := Lib.hid (show keep.length ≤ 200 by
    have h1 := HP.out.2.2
    rcases risesB_len (by omega) E1.out with h2 | h2
    · omega
    · rw [h2]; exact Nat.zero_le _)
  clear htn r0 r1 r2 f0 f1 f2
  go_wp2_with fail
  refine (implFilesOf A1 n1 c1 x.safe _ _ (h1.below FzR.stays hx) HP.out.2.1).mono ?_
  rintro e w3 ⟨rfl, hf3, hq⟩
  have HX3 := Lib.hid (hx.trans (hq.mono hx.size))
  have HF3 := Lib.hid hf3
  have hwf : w.heap.size + 2 ≤ w2.heap.size := hwz
  have ra := ra.below hq
  have rb := rb.below hq
  have HRB := Lib.hid rb
  clear hq hf3 p0 p1 p2 hx hwz
  obtain ⟨⟨p0, p1, p2⟩, -⟩ := ra.three
  generalize w2.heap.size = f at *
  have HWF := Lib.hid hwf
  have HF3L := Lib.hid (HF3.out.lt)
  clear hwf ra rb
  go_wp2_with fail
  refine (implKeptOps A2 _ c2 x.ops AK _ cK keep torn _ _ _ (h2.below OzR.stays HX3.out) (hk.below IntR.stays HX3.out) HL.out.2.2 hnk HIN.out HT0.out HDT.out).mono ?_
  rintro e w4 ⟨⟨vL, rfl, oL⟩, hq⟩
  have HX4 := Lib.hid (HX3.out.trans (hq.mono HX3.out.size))
  have HF4 := Lib.hid (HF3.out.below hq)
  have HRB4 := Lib.hid (HRB.out.below hq)
  have HOK := Lib.hid (kept_ok (torn := torn) HFM.out HDT.out keep HIN.out)
  have HLN := Lib.hid (show (keptO x.ops torn keep).length ≤ 200 by rw [keptO_len]; exact HKL.out)
  obtain ⟨L, hL⟩ : ∃ L, L = keptO x.ops torn keep := ⟨_, rfl⟩
  rw [← hL] at oL HOK HLN
  have HLE := Lib.hid hL
  have HW0 := Lib.hid (OnWay.start HP.out.2.1)
  obtain ⟨AL, cL, rfl, -, -, -⟩ := (show OwnO w4 _ vL _ from oL).sl
  have OL := Lib.hid oL
  clear hL oL hq p0 p1 p2
  go_wp2_with fail
  go_loopw [36] (fun iv wr => ∃ (k : Nat) (l : List Fz), k ≤ L.length ∧ iv = .int .i64 k ∧ Hid (FilesAt wr (f + 1) f l) ∧ Hid (OnWay x l k) ∧ Hid (runF x.safe L = runF l (L.drop k)) ∧ Hid (OwnO wr w3.heap.size (.slice AL L.length cL) L) ∧ Hid (Below f w4 wr)) (fun iv _ => L.length - (intOf iv).toNat)
  case atStart => exact ⟨0, x.safe, Nat.zero_le _, rfl, HF4, HW0, Lib.hid rfl, OL, Lib.hid (Below.refl _ _)⟩
  case round =>
    clear HF4 HW0 OL
    obtain ⟨k, l, hkk, rfl, HFA, HWY, HST, OL, HBF⟩ := hrel
    by_cases hlt : k < L.length
    · obtain ⟨AL', cL', eL, -, -, hsL⟩ := (show OwnO wr _ _ _ from OL.out).sl
      injection eL with eL1 eL2 eL3
      subst eL1 eL3
      obtain ⟨b, off, -, rfl, q0, q1, q2, q3⟩ := OzR.at_ hsL hlt
      have i0 : (0 : Int) ≤ k := by omega
      have i1 : (k : Int) < L.length := by omega
      have i2 : L.length ≤ 200 := HLN.out
      have HO := Lib.hid (HOK.out _ (List.getElem_mem hlt))
      have hal := (Below.refl wr.heap.size wr).alloc (Nat.le_refl _) (.cells #[.int .i64 L[k].kind, .string L[k].name, .string L[k].to, .string L[k].data] 36)
      have HFB := Lib.hid (HFA.out.below hal)
      have OL2 := Lib.hid (show OwnO _ _ _ _ from OwnG.below OL.out hal)
      have HB2 := Lib.hid (HBF.out.alloc (Nat.le_of_lt HFA.out.lt) (.cells #[.int .i64 L[k].kind, .string L[k].name, .string L[k].to, .string L[k].data] 36))
      have hby := HWY.out.bts
      have hln := HWY.out.len
      have HNB := Lib.hid (show bytesF l + L[k].data.size ≤ 268435456 by have := HO.out.2; omega)
      have HNL := Lib.hid (show l.length ≤ 100000 by omega)
      have HW2 := Lib.hid (HWY.out.step HO.out.1 HO.out.2)
      have HS2 := Lib.hid (show runF x.safe L = runF (doF l L[k]).1 (L.drop (k + 1)) by rw [HST.out, runF_at hlt])
      have HNX := Lib.hid (show nextF l L[k] = (doF l L[k]).1 by unfold nextF; rw [HO.out.1]; rfl)
      clear hal hsL hby hln
      go_wp2_with fail
      refine (implFilesDo (f + 1) f l L[k] _ HFB.out HNB.out HNL.out).mono ?_
      rintro e w5 ⟨rfl, hfa5, hk5⟩
      have HF5 := Lib.hid (show FilesAt w5 (f + 1) f (doF l L[k]).1 by rw [← HNX.out]; exact hfa5)
      have OL5 := Lib.hid (OL2.out.kpB hk5)
      have HB5 := Lib.hid (HB2.out.trans hk5.low)
      clear hfa5 hk5 q0 q1 q2 q3
      generalize codeF l L[k] = kc at *
      go_wp2_with fail
      go_roundw
      case rel => exact ⟨k + 1, (doF l L[k]).1, by omega, by go_num, HF5, HW2, HS2, OL5, HB5⟩
      case measure => simp [intOf]; omega
    · have hrun : runF x.safe (keptO x.ops torn keep) = l := by rw [← HLE.out, HST.out, List.drop_eq_nil_of_le (by omega)]; rfl
      have HRUN := Lib.hid hrun
      have i2 : L.length ≤ 200 := HLN.out
      have hby := HWY.out.bts
      have hln := HWY.out.len
      have HNB := Lib.hid (show bytesF l ≤ 1073741824 by omega)
      have HNL := Lib.hid (show l.length ≤ 100000 by omega)
      have HRM := Lib.hid (room_files HWY.out.srt HWY.out.nms)
      have HXR := Lib.hid (HX4.out.trans (HBF.out.mono (by have := HWF.out; omega)))
      have rb : Row wr (w.heap.size + 1) 27 #[.slice none 0 0, .slice none 0 0, .slice none 0 0] := (HBF.out.block _ (by have := HWF.out; omega)).trans HRB4.out
      clear hrun hby hln i2
      go_wp2_with fail
      refine (implHaveRoom (f + 1) f l _ HFA.out HNB.out (by have := HNL.out; omega)).mono ?_
      rintro e w5 ⟨rfl, hq⟩
      have HX5 := Lib.hid (HXR.out.trans (hq.mono HXR.out.size))
      have HF5 := Lib.hid (HFA.out.below hq)
      have rb := rb.below hq
      have RR := Lib.hid rb
      obtain ⟨⟨r0, r1, r2⟩, ⟨f0, f1, f2⟩⟩ := rb.three
      clear hq
      cases e2 : roomB l
      · have HA := Lib.hid (crash_no (keep := keep) (torn := torn) (show crashOk x keep torn = false by unfold crashOk; rw [HRUN.out, HRM.out, e2]; simp))
        clear rb e2
        go_wp2_with fail
        have hr9 := (((RR.out).set 0 (.slice none 0 0)).set 1 (.slice none 0 0)).set 2 (.slice none 0 0)
        refine bodyPost_ret (results_cell_row2 (p := 6) (u := 7) (ty := 27) rfl _ _ (w.heap.size + 1) 27 #[.slice none 0 0, .slice none 0 0, .slice none 0 0] (0, 0) _ rfl rfl hr9 Try.underlying27 rfl HI.out) rfl ⟨⟨.agg #[.slice none 0 0, .slice none 0 0, .slice none 0 0], ?_, ?_⟩, ?_⟩
        · rw [HA.out.1]; rfl
        · refine DzA.mono (base := w.heap.size + 2) ?_ (by omega)
          rw [HA.out.2]
          refine DzA.set (DzA.set (DzA.set (DzA.nil _ _) ?_ _) ?_ _) ?_ _ <;> (exact Nat.lt_succ_self _)
        · exact ((HX5.out.setCell (Nat.le_add_right _ 1) _).setCell (Nat.le_add_right _ 1) _).setCell (Nat.le_add_right _ 1) _
      have HA := Lib.hid (crash_yes (keep := keep) (torn := torn) (show crashOk x keep torn = true by unfold crashOk; rw [HRUN.out, HRM.out, e2, E0.out, E1.out, decide_eq_true HT0.out]; rfl))
      rw [HRUN.out] at HA
      clear r0 r1 r2 f0 f1 f2 e2
      go_wp2_with fail
      refine (implList (f + 1) f l _ HF5.out HNL.out).mono ?_
      rintro e w6 ⟨⟨vN, rfl, oN⟩, hq⟩
      obtain ⟨AN, cN, rfl, -, -, sN⟩ := (show OwnZ w6 _ vN _ from oN).sl
      have HX6 := Lib.hid (HX5.out.trans (hq.mono HX5.out.size))
      have rb := rb.below hq
      clear hq oN RR
      go_wp2_with fail
      refine (implSettled AN _ cN l _ _ sN (by have := HNL.out; omega)).mono ?_
      rintro e w7 ⟨⟨v, rfl, hv⟩, hq⟩
      have HX7 := Lib.hid (HX6.out.trans (hq.mono HX6.out.size))
      have RR := Lib.hid (rb.below hq)
      have HV := Lib.hid (hv.mono (base' := w.heap.size + 2) (by have h1 := HX6.out.size; have h2 := lt_of_block rb; omega))
      obtain ⟨v0, v1, v2, rfl, k0, k1, k2, -⟩ := hv
      obtain ⟨C0, m0, e0, rfl⟩ := k0.len
      obtain ⟨C1, m1, e1, rfl⟩ := k1.len
      obtain ⟨C2, m2, e2, rfl⟩ := k2.len
      clear k0 k1 k2 hq sN rb
      have rr := RR.out
      obtain ⟨⟨r0, r1, r2⟩, ⟨f0, f1, f2⟩⟩ := rr.three
      clear rr
      go_wp2_with fail
      have hr9 := (((RR.out).set 0 (.slice C0 m0 e0)).set 1 (.slice C1 m1 e1)).set 2 (.slice C2 m2 e2)
      refine bodyPost_ret (results_cell_row2 (p := 6) (u := 7) (ty := 27) rfl _ _ (w.heap.size + 1) 27 #[.slice C0 m0 e0, .slice C1 m1 e1, .slice C2 m2 e2] (0, 0) _ rfl rfl hr9 Try.underlying27 rfl HI.out) rfl ⟨⟨.agg #[.slice C0 m0 e0, .slice C1 m1 e1, .slice C2 m2 e2], ?_, ?_⟩, ?_⟩
      · rw [HA.out.1]; rfl
      · refine DzA.mono (base := w.heap.size + 2) ?_ (by omega)
        rw [HA.out.2]
        refine DzA.set (DzA.set (DzA.set (HV.out) ?_ _) ?_ _) ?_ _ <;> (exact Nat.lt_succ_self _)
      · exact ((HX7.out.setCell (Nat.le_add_right _ 1) _).setCell (Nat.le_add_right _ 1) _).setCell (Nat.le_add_right _ 1) _
end Go.Proofs.Ytkinegapnknhiaa
namespace Go.Proofs.Ytkinegapnknhiaa
open Go.RowKit Go.Maps
set_option linter.unusedVariables false
set_option linter.unusedSimpArgs false

theorem specInC {n lo hi : Int} {b : Bool} (h : (decide (lo ≤ n) && decide (n ≤ hi)) = b) (w : World) :
    Calls Try.prog 76 #[.int .i64 n, .int .i64 lo, .int .i64 hi] w fun e w' => e = .returned (.bool b) ∧ w' = w := (specIn n lo hi w).mono fun _ _ ⟨h1, h2⟩ => ⟨by rw [h1, h], h2.symm⟩
theorem below_drewC {G : Nat} {a w : World} (h : Below G a w) : ∀ n : Nat, Below G a (w.drewN n) := fun n => ⟨h.os, h.tape, h.output, h.size, h.block⟩
theorem torn_same {o : Oz} (h : formB o = true) {t : Int} (ht : 0 ≤ t) (hn : ¬ (o.kind = 1 ∧ t < o.data.size)) : tornO o t = o := by
  have hx : o.data.extract 0 (min t.toNat o.data.size) = o.data := by
    by_cases hk : o.kind = 1
    · have e : min t.toNat o.data.size = o.data.size := by omega
      rw [e]
      exact ByteArray.extract_zero_size
    · have he : o.data = ⟨#[]⟩ := bytes_ext (by rw [form_data h hk, ByteArray.toList_eq])
      rw [he]
      have e : min t.toNat (⟨#[]⟩ : ByteArray).size = 0 := Nat.min_eq_right (Nat.zero_le _)
      rw [e]; rfl
  unfold tornO
  rw [hx]
theorem torn_cut {o : Oz} {t : Int} (ht : 0 ≤ t) (hl : t < o.data.size) : tornO o t = ⟨o.kind, o.name, o.to, o.data.extract 0 t.toNat⟩ := by
  have e : min t.toNat o.data.size = t.toNat := by omega
  unfold tornO
  rw [e]

set_option maxRecDepth 100000 in
set_option maxHeartbeats 4000000 in
theorem specCrash (x : Dz) (AK : Option Addr) (nK cK : Nat) (keep : List Int) (torn : Int) (A0 : Option Addr) (n0 c0 : Nat) (A1 : Option Addr) (n1 c1 : Nat) (A2 : Option Addr) (n2 c2 : Nat) (ok ok' : Nat → Prop) (w : World) (h0 : Sl FzR 2 ok w A0 n0 x.live) (h1 : Sl FzR 2 ok w A1 n1 x.safe) (h2 : Sl OzR 4 ok w A2 n2 x.ops) (hk : Sl IntR 1 ok' w AK nK keep) (hs : x.sz ≤ 1048576) (hnk : nK ≤ 1048576) :
    Calls Try.prog 34 #[.agg #[.slice A0 n0 c0, .slice A1 n1 c1, .slice A2 n2 c2], .slice AK nK cK, .int .i64 torn] w fun e w' => (∃ v, e = .returned (.tuple #[v, .bool (crashOk x keep torn)]) ∧ DzA w' w.heap.size v (crashD x keep torn)) ∧ Below w.heap.size w w' := by
  obtain rfl : keep.length = nK := hk.1
  obtain rfl : x.ops.length = n2 := h2.1
  obtain ⟨hx, hwz⟩ := box2 w (.cells #[.slice A0 n0 c0, .slice A1 n1 c1, .slice A2 x.ops.length c2] 27) (.cells #[.slice none 0 0, .slice none 0 0, .slice none 0 0] 27)
  have ra := (Row.new w 27 #[.slice A0 n0 c0, .slice A1 n1 c1, .slice A2 x.ops.length c2]).alloc (.cells #[.slice none 0 0, .slice none 0 0, .slice none 0 0] 27)
  have rb := Row.newAt (w.alloc (.cells #[.slice A0 n0 c0, .slice A1 n1 c1, .slice A2 x.ops.length c2] 27)) 27 #[.slice none 0 0, .slice none 0 0, .slice none 0 0] (w.heap.size + 1) (by simp)
  have HI := Lib.hid infoDisk
  have HL := Lib.hid (sz_lens hs)
  have hdat : ∀ o ∈ x.ops, o.data.size ≤ 1048576 := fun o ho => by
    have h := szL_mem Oz.sz x.ops o ho
    have h3 : o.data.size ≤ o.sz := by unfold Oz.sz; omega
    unfold Dz.sz at hs
    omega
  have HDT := Lib.hid hdat
  clear hdat
  obtain ⟨i0, hi, hz0, hz1, hz2⟩ := info_parts infoFileT
  have H1 := Lib.hid hi
  have H2 := Lib.hid hz0
  have H3 := Lib.hid hz1
  have H4 := Lib.hid hz2
  clear hi hz0 hz1 hz2
  go_enter Try.func34, Try.ntmps34
  go_wp2_with fail
  generalize (w.alloc (.cells #[.slice A0 n0 c0, .slice A1 n1 c1, .slice A2 x.ops.length c2] 27)).alloc (.cells #[.slice none 0 0, .slice none 0 0, .slice none 0 0] 27) = z at *
  refine (specDiskOk x A0 n0 c0 A1 n1 c1 A2 _ c2 _ _ (h0.below FzR.stays hx) (h1.below FzR.stays hx) (h2.below OzR.stays hx) hs).mono ?_
  rintro e w1 ⟨rfl, hq⟩
  have hx := hx.trans (hq.mono hx.size)
  have hwz := Nat.le_trans hwz hq.size
  have ra := ra.below hq
  have rb := rb.below hq
  clear hq
  obtain ⟨⟨p0, p1, p2⟩, -⟩ := ra.three
  obtain ⟨⟨r0, r1, r2⟩, ⟨f0, f1, f2⟩⟩ := rb.three
  cases e0 : diskB x
  · have HA := Lib.hid (crash_no (keep := keep) (torn := torn) (show crashOk x keep torn = false by unfold crashOk; rw [e0]; rfl))
    have RR := Lib.hid rb
    clear ra rb
    go_wp2_with fail
    have hr9 := (((RR.out).set 0 (.slice none 0 0)).set 1 (.slice none 0 0)).set 2 (.slice none 0 0)
    refine bodyPost_ret (results_cell_row2 (p := 6) (u := 7) (ty := 27) rfl _ _ (w.heap.size + 1) 27 #[.slice none 0 0, .slice none 0 0, .slice none 0 0] (0, 0) _ rfl rfl hr9 Try.underlying27 rfl HI.out) rfl ⟨⟨.agg #[.slice none 0 0, .slice none 0 0, .slice none 0 0], ?_, ?_⟩, ?_⟩
    · rw [HA.out.1]; rfl
    · refine DzA.mono (base := w.heap.size + 2) ?_ (by omega)
      rw [HA.out.2]
      refine DzA.set (DzA.set (DzA.set (DzA.nil _ _) ?_ _) ?_ _) ?_ _ <;> (exact Nat.lt_succ_self _)
    · exact ((hx.setCell (Nat.le_add_right _ 1) _).setCell (Nat.le_add_right _ 1) _).setCell (Nat.le_add_right _ 1) _
  have HP := Lib.hid (diskB_parts e0)
  have E0 := Lib.hid e0
  have HFM := Lib.hid (diskB_form e0)
  clear e0
  by_cases htn : torn < 0
  · have htn' : decide (torn < 0) = true := decide_eq_true htn
    have HA := Lib.hid (crash_no (keep := keep) (torn := torn) (show crashOk x keep torn = false by unfold crashOk; rw [decide_eq_false (show ¬ 0 ≤ torn by omega)]; simp))
    have RR := Lib.hid rb
    clear ra rb htn
    go_wp2_with fail
    have hr9 := (((RR.out).set 0 (.slice none 0 0)).set 1 (.slice none 0 0)).set 2 (.slice none 0 0)
    refine bodyPost_ret (results_cell_row2 (p := 6) (u := 7) (ty := 27) rfl _ _ (w.heap.size + 1) 27 #[.slice none 0 0, .slice none 0 0, .slice none 0 0] (0, 0) _ rfl rfl hr9 Try.underlying27 rfl HI.out) rfl ⟨⟨.agg #[.slice none 0 0, .slice none 0 0, .slice none 0 0], ?_, ?_⟩, ?_⟩
    · rw [HA.out.1]; rfl
    · refine DzA.mono (base := w.heap.size + 2) ?_ (by omega)
      rw [HA.out.2]
      refine DzA.set (DzA.set (DzA.set (DzA.nil _ _) ?_ _) ?_ _) ?_ _ <;> (exact Nat.lt_succ_self _)
    · exact ((hx.setCell (Nat.le_add_right _ 1) _).setCell (Nat.le_add_right _ 1) _).setCell (Nat.le_add_right _ 1) _
  have htn' : decide (torn < 0) = false := decide_eq_false htn
  have HT0 := Lib.hid (show 0 ≤ torn by omega)
  have RA := Lib.hid ra
  have RB := Lib.hid rb
  have HX1 := Lib.hid hx
  have HWZ := Lib.hid hwz
  clear htn r0 r1 r2 f0 f1 f2 p0 p1 p2 ra rb hx hwz
  go_wp2_with fail
  go_loopw [8] (fun iv wr => ∃ (k : Nat) (last : Int), k ≤ keep.length ∧ iv = .int .i64 k ∧ Hid (k = 0 ∧ last = -1 ∨ ∃ h : 0 < k ∧ k - 1 < keep.length, last = keep[k - 1]'h.2) ∧ Hid (risesB x.ops.length (-1) keep = risesB x.ops.length last (keep.drop k)) ∧ Hid (Below w1.heap.size w1 wr)) (fun iv _ => keep.length - (intOf iv).toNat)
  case atStart => exact ⟨0, -1, Nat.zero_le _, rfl, Lib.hid (Or.inl ⟨rfl, rfl⟩), Lib.hid rfl, Lib.hid (Below.refl _ _)⟩
  case round =>
    obtain ⟨k, last, hkk, rfl, HLA, HRI, HB⟩ := hrel
    have hx := HX1.out.trans (HB.out.mono HX1.out.size)
    have ra := RA.out.below HB.out
    have rb := RB.out.below HB.out
    have RR := Lib.hid rb
    obtain ⟨⟨p0, p1, p2⟩, -⟩ := ra.three
    have HX2 := Lib.hid hx
    have hwz := Nat.le_trans HWZ.out HB.out.size
    by_cases hlt : k < keep.length
    · obtain ⟨b, off, -, rfl, q0⟩ := IntR.at_ (hk.below IntR.stays hx) hlt
      have i0 : (0 : Int) ≤ k := by omega
      have i1 : (k : Int) < keep.length := by omega
      have HR := Lib.hid (HRI.out.trans (risesB_at hlt))
      obtain ⟨⟨r0, r1, r2⟩, ⟨f0, f1, f2⟩⟩ := rb.three
      have HLN := Lib.hid (show x.ops.length ≤ 1048576 from HL.out.2.2)
      have i4 : x.ops.length ≤ 1048576 := HLN.out
      clear ra rb hx
      cases hin : (decide (0 ≤ keep[k]) && decide (keep[k] ≤ (x.ops.length : Int) - 1))
      · have HI2 := Lib.hid hin
        have HF := Lib.hid (show risesB x.ops.length (-1) keep = false by
          rw [HR.out, show (decide (0 ≤ keep[k]) && decide (keep[k] < (x.ops.length : Int))) = false by rw [← hin]; congr 1; rw [decide_eq_decide]; omega]
          simp)
        have HA := Lib.hid (crash_no (keep := keep) (torn := torn) (show crashOk x keep torn = false by unfold crashOk; rw [HF.out]; simp))
        clear hin
        go_wp2_with fail
        go_quiet ((go_at_call 76; exact Calls.quiet_of_same (specInC HI2.out _)))
        have rq := RR.out.drewN nq
        have RQ := Lib.hid rq
        have HXQ := Lib.hid (below_drewC HX2.out nq)
        clear r0 r1 r2 f0 f1 f2
        obtain ⟨⟨r0, r1, r2⟩, ⟨f0, f1, f2⟩⟩ := rq.three
        clear rq
        generalize wr.drewN nq = y at *
        go_wp2_with fail
        have hr9 := (((RQ.out).set 0 (.slice none 0 0)).set 1 (.slice none 0 0)).set 2 (.slice none 0 0)
        refine bodyPost_ret (results_cell_row2 (p := 6) (u := 7) (ty := 27) rfl _ _ (w.heap.size + 1) 27 #[.slice none 0 0, .slice none 0 0, .slice none 0 0] (0, 0) _ rfl rfl hr9 Try.underlying27 rfl HI.out) rfl ⟨⟨.agg #[.slice none 0 0, .slice none 0 0, .slice none 0 0], ?_, ?_⟩, ?_⟩
        · rw [HA.out.1]; rfl
        · refine DzA.mono (base := w.heap.size + 2) ?_ (by omega)
          rw [HA.out.2]
          refine DzA.set (DzA.set (DzA.set (DzA.nil _ _) ?_ _) ?_ _) ?_ _ <;> (exact Nat.lt_succ_self _)
        · exact ((HXQ.out.setCell (Nat.le_add_right _ 1) _).setCell (Nat.le_add_right _ 1) _).setCell (Nat.le_add_right _ 1) _
      have hin2 : (decide (0 ≤ keep[k]) && decide (keep[k] < (x.ops.length : Int))) = true := by rw [← hin]; congr 1; rw [decide_eq_decide]; omega
      have HI2 := Lib.hid hin
      rw [hin2, Bool.and_true] at HR
      have hp0 : 0 ≤ keep[k] := by simp only [Bool.and_eq_true, decide_eq_true_eq] at hin2; exact hin2.1
      clear hin hin2
      by_cases hk0 : k = 0
      · subst hk0
        have hl : last = -1 := by
          rcases HLA.out with h | ⟨h, -⟩
          · exact h.2
          · omega
        have HG := Lib.hid (show risesB x.ops.length (-1) keep = risesB x.ops.length keep[0] (keep.drop (0 + 1)) by rw [HR.out, hl, decide_eq_false (show ¬ keep[0] ≤ -1 by omega)]; rfl)
        clear hl hp0 RR r0 r1 r2 f0 f1 f2
        rw [Nat.add_zero] at q0
        go_wp2_with fail
        go_quiet ((go_at_call 76; exact Calls.quiet_of_same (specInC HI2.out _)))
        have HB2 := Lib.hid (below_drewC HB.out nq)
        generalize wr.drewN nq = y at *
        go_wp2_with fail
        go_roundw
        case rel => exact ⟨0 + 1, keep[0], by omega, by go_num, Lib.hid (Or.inr ⟨⟨by omega, hlt⟩, rfl⟩), HG, HB2⟩
        case measure => simp [intOf]; omega
      · obtain ⟨k', rfl⟩ : ∃ k', k = k' + 1 := ⟨k - 1, by omega⟩
        have hlt' : k' < keep.length := by omega
        have hl : last = keep[k'] := by
          rcases HLA.out with h | ⟨h, e⟩
          · omega
          · rw [e]; rfl
        obtain ⟨b', off', -, eb, q1⟩ := IntR.at_ (hk.below IntR.stays HX2.out) hlt'
        injection eb with eb
        injection eb with eb1 eb2 eb3
        subst eb1 eb2
        rw [hl] at HR
        have j0 : (0 : Int) ≤ k' := by omega
        have j1 : (k' : Int) < keep.length := by omega
        have j2 : (0 : Int) < ((k' + 1 : Nat) : Int) := by omega
        clear hl hk0 hp0
        by_cases hle : keep[k' + 1] ≤ keep[k']
        · have hle' : decide (keep[k' + 1] ≤ keep[k']) = true := decide_eq_true hle
          have HF := Lib.hid (show risesB x.ops.length (-1) keep = false by rw [HR.out, hle']; rfl)
          have HA := Lib.hid (crash_no (keep := keep) (torn := torn) (show crashOk x keep torn = false by unfold crashOk; rw [HF.out]; simp))
          clear hle
          go_wp2_with fail
          go_quiet ((go_at_call 76; exact Calls.quiet_of_same (specInC HI2.out _)))
          have rq := RR.out.drewN nq
          have RQ := Lib.hid rq
          have HXQ := Lib.hid (below_drewC HX2.out nq)
          clear r0 r1 r2 f0 f1 f2
          obtain ⟨⟨r0, r1, r2⟩, ⟨f0, f1, f2⟩⟩ := rq.three
          clear rq
          generalize wr.drewN nq = y at *
          go_wp2_with fail
          have hr9 := (((RQ.out).set 0 (.slice none 0 0)).set 1 (.slice none 0 0)).set 2 (.slice none 0 0)
          refine bodyPost_ret (results_cell_row2 (p := 6) (u := 7) (ty := 27) rfl _ _ (w.heap.size + 1) 27 #[.slice none 0 0, .slice none 0 0, .slice none 0 0] (0, 0) _ rfl rfl hr9 Try.underlying27 rfl HI.out) rfl ⟨⟨.agg #[.slice none 0 0, .slice none 0 0, .slice none 0 0], ?_, ?_⟩, ?_⟩
          · rw [HA.out.1]; rfl
          · refine DzA.mono (base := w.heap.size + 2) ?_ (by omega)
            rw [HA.out.2]
            refine DzA.set (DzA.set (DzA.set (DzA.nil _ _) ?_ _) ?_ _) ?_ _ <;> (exact Nat.lt_succ_self _)
          · exact ((HXQ.out.setCell (Nat.le_add_right _ 1) _).setCell (Nat.le_add_right _ 1) _).setCell (Nat.le_add_right _ 1) _
        · have hle' : decide (keep[k' + 1] ≤ keep[k']) = false := decide_eq_false hle
          have HG := Lib.hid (show risesB x.ops.length (-1) keep = risesB x.ops.length keep[k' + 1] (keep.drop (k' + 1 + 1)) by rw [HR.out, hle']; rfl)
          clear hle RR r0 r1 r2 f0 f1 f2
          go_wp2_with fail
          go_quiet ((go_at_call 76; exact Calls.quiet_of_same (specInC HI2.out _)))
          have HB2 := Lib.hid (below_drewC HB.out nq)
          generalize wr.drewN nq = y at *
          go_wp2_with fail
          go_roundw
          case rel => exact ⟨k' + 1 + 1, keep[k' + 1], by omega, by go_num, Lib.hid (Or.inr ⟨⟨by omega, hlt⟩, rfl⟩), HG, HB2⟩
          case measure => simp [intOf]; omega
    · have HRS := Lib.hid (show risesB x.ops.length (-1) keep = true by rw [HRI.out, List.drop_eq_nil_of_le (by omega)]; rfl)
      have HIN := Lib.hid (risesB_in HRS.out)
      have HKL := Lib.hid (show keep.length ≤ 200 by
        have h1 := HP.out.2.2
        rcases risesB_len (by omega) HRS.out with h2 | h2
        · omega
        · rw [h2]; exact Nat.zero_le _)
      have HDT2 := Lib.hid (kept_ok (torn := torn) HFM.out HDT.out keep HIN.out)
      have HLN := Lib.hid (keptO_len x.ops torn keep)
      have HKG := Lib.hid (keptO_get x.ops torn keep)
      obtain ⟨L, hL⟩ : ∃ L, L = keptO x.ops torn keep := ⟨_, rfl⟩
      rw [← hL] at HDT2 HLN HKG
      have HLE := Lib.hid hL
      have HW0 := Lib.hid (OnWay.start HP.out.2.1)
      obtain ⟨hfs1, hfs2⟩ := filesB_bytes HP.out.2.1
      have hn1 : n1 ≤ 60 := by have := h1.1; omega
      have HLI := Lib.hid (OwnG.lit (T := 75) (sz := 2) (f := Fz.cells) wr (Nat.le_refl wr.heap.size))
      have HAL := Lib.hid ((Below.refl wr.heap.size wr).alloc (Nat.le_refl _) (.cells #[] 75))
      have hsf := (h1.below FzR.stays HX2.out).below FzR.stays HAL.out
      have raa := ra.below HAL.out
      have RA3 := Lib.hid ra
      clear hL hfs1 hfs2 hx ra rb hwz
      have hwz : w.heap.size + 2 ≤ wr.heap.size := by have h1 := lt_of_block RR.out; omega
      have HWR := Lib.hid hwz
      clear hwz
      obtain ⟨⟨s0, s1, s2⟩, -⟩ := raa.three
      go_wp2_with (at_builtin; refine wpList_app_all rfl _ _ 24 rfl fz_cells fz_one (by omega) Try.underlying24 H1.out H2.out H3.out H4.out rfl _ rfl HLI.out (by simp) rfl hsf (by omega) (by omega) ?_)
      intro v9 w9 hown9 hgrow9 hloc9
      have O9 := Lib.hid (show OwnZ w9 wr.heap.size v9 x.safe from hown9)
      have HB9 := Lib.hid (HAL.out.grown hgrow9 (by simp) (fun k hk => (OwnG.block_lt HLI.out k hk).1))
      clear hown9 hgrow9 hloc9 hsf raa p0 p1 p2 s0 s1 s2
      go_wp2_with fail
      generalize wr = wo at *
      go_loopw [9, 10] (fun lv iv wr => ∃ (k : Nat) (l : List Fz) (v : Value), k ≤ keep.length ∧ iv = .int .i64 k ∧ v = lv ∧ Hid (OwnZ wr wo.heap.size v l) ∧ Hid (OnWay x l k) ∧ Hid (runF x.safe L = runF l (L.drop k)) ∧ Hid (Below wo.heap.size wo wr)) (fun _ iv _ => keep.length - (intOf iv).toNat)
      case atStart => exact ⟨0, x.safe, _, Nat.zero_le _, rfl, rfl, O9, HW0, Lib.hid rfl, HB9⟩
      case round =>
        clear O9 HB9 HW0
        obtain ⟨k, l, vl, hkk, rfl, rfl, OZ, HWY, HST, HBQ⟩ := hrel
        by_cases hlt : k < keep.length
        · obtain ⟨hp0, hp1⟩ := HIN.out _ (List.getElem_mem hlt)
          obtain ⟨m, hm⟩ : ∃ m : Nat, keep[k] = m := ⟨keep[k].toNat, by omega⟩
          have hml : m < x.ops.length := by rw [hm] at hp1; omega
          have hO : opAt x.ops keep[k] = x.ops[m] := by rw [hm]; unfold opAt; rw [List.getD_eq_getElem?_getD, Int.toNat_natCast, List.getElem?_eq_getElem hml]; rfl
          have hkL : k < L.length := by rw [HLN.out]; exact hlt
          have hLk := HKG.out k hlt
          rw [List.getElem?_eq_getElem hkL, hO] at hLk
          have HLK := Lib.hid (Option.some.inj hLk)
          have HFO := Lib.hid (HFM.out _ (List.getElem_mem hml))
          have HDO := Lib.hid (HDT.out _ (List.getElem_mem hml))
          have HLO := Lib.hid (HDT2.out _ (List.getElem_mem hkL))
          have HSL := Lib.hid (show runF x.safe L = runF (doF l L[k]).1 (L.drop (k + 1)) by rw [HST.out, runF_at hkL])
          have HWL := Lib.hid (HWY.out.step HLO.out.1 HLO.out.2)
          have hxq := HX2.out.trans (HBQ.out.mono HX2.out.size)
          have HXQ := Lib.hid hxq
          obtain ⟨b, off, -, rfl, q0⟩ := IntR.at_ (hk.below IntR.stays hxq) hlt
          obtain ⟨b', off', -, rfl, y0, y1, y2, y3⟩ := OzR.at_ (h2.below OzR.stays hxq) hml
          have raq := RA3.out.below HBQ.out
          obtain ⟨⟨-, -, p2⟩, -⟩ := raq.three
          rw [hm] at q0
          have i0 : (0 : Int) ≤ k := by omega
          have i1 : (k : Int) < keep.length := by omega
          have i2 : keep.length ≤ 200 := HKL.out
          have j0 : (0 : Int) ≤ m := by omega
          have j1 : (m : Int) < x.ops.length := by omega
          have hbl := lt_of_block raq
          have hc1 := cell_lt q0
          have hc2 := cell_lt y0
          generalize hgo : x.ops[m] = o at *
          clear hLk hO hm hp0 hp1 raq hxq hgo
          go_wp2_with fail
          have hb0 : Below wr.heap.size wr wr.drew := (Below.refl _ wr).drew
          refine wp_region_noPanic ?_
          refine wp_region_held_drew (S := (fun w' => w'.cell? ⟨w.heap.size, 2, none⟩ = some (.slice (some ⟨b', off', none⟩) x.ops.length c2) ∧ w'.cell? ⟨b, off + k, none⟩ = some (.int .i64 m) ∧ w'.cell? ⟨b', off' + m * 4, none⟩ = some (.int .i64 o.kind) ∧ w'.cell? ⟨b', off' + m * 4 + 1, none⟩ = some (.string o.name) ∧ w'.cell? ⟨b', off' + m * 4 + 2, none⟩ = some (.string o.to) ∧ w'.cell? ⟨b', off' + m * 4 + 3, none⟩ = some (.string o.data))) (by kernel_rfl) ⟨p2, q0, y0, y1, y2, y3⟩ (fun hHeld => ?_)
          generalize wr.drew = u0 at *
          refine wpAnyH_take (i := 0) (v := ?v1) rfl (by kernel_rfl) (by kernel_rfl) (by kernel_rfl) (fun _ _ _ h => h) (Or.inl ⟨by rfl, ?hy1⟩) hHeld ?rest1
          case hy1 => (intro w' hSw; (try dsimp only at hSw); first | (go_simp; done) | (go_simp; with_reducible rfl))
          simp only [Act.put, List.getElem_toArray, List.getElem_cons_zero, List.getElem_cons_succ, List.setIfInBounds_toArray, List.set_cons_zero, List.set_cons_succ]
          refine wpAnyH_take (i := 1) (v := ?v2) rfl (by kernel_rfl) (by kernel_rfl) (by kernel_rfl) (fun _ _ _ h => h) (Or.inl ⟨by rfl, ?hy2⟩) hHeld ?rest2
          case hy2 => (intro w' hSw; (try dsimp only at hSw); first | (go_simp; done) | (go_simp; with_reducible rfl))
          simp only [Act.put, List.getElem_toArray, List.getElem_cons_zero, List.getElem_cons_succ, List.setIfInBounds_toArray, List.set_cons_zero, List.set_cons_succ]
          refine wpAnyH_take (i := 2) (v := ?v3) rfl (by kernel_rfl) (by kernel_rfl) (by kernel_rfl) (fun _ _ _ h => h) (Or.inl ⟨by rfl, ?hy3⟩) hHeld ?rest3
          case hy3 => (intro w' hSw; (try dsimp only at hSw); first | (go_simp; done) | (go_simp; with_reducible rfl))
          simp only [Act.put, List.getElem_toArray, List.getElem_cons_zero, List.getElem_cons_succ, List.setIfInBounds_toArray, List.set_cons_zero, List.set_cons_succ]
          refine wpAnyH_take (i := 3) (v := ?v4) rfl (by kernel_rfl) (by kernel_rfl) (by kernel_rfl) (fun _ _ _ h => h) (Or.inl ⟨by rfl, ?hy4⟩) hHeld ?rest4
          case hy4 => (intro w' hSw; (try dsimp only at hSw); first | (go_simp; done) | (go_simp; with_reducible rfl))
          simp only [Act.put, List.getElem_toArray, List.getElem_cons_zero, List.getElem_cons_succ, List.setIfInBounds_toArray, List.set_cons_zero, List.set_cons_succ]
          refine wpAnyH_take (i := 4) (v := ?v5) rfl (by kernel_rfl) (by kernel_rfl) (by kernel_rfl) (fun _ _ _ h => h) (Or.inl ⟨by rfl, ?hy5⟩) hHeld ?rest5
          case hy5 => (intro w' hSw; (try dsimp only at hSw); first | (go_simp; done) | (go_simp; with_reducible rfl))
          simp only [Act.put, List.getElem_toArray, List.getElem_cons_zero, List.getElem_cons_succ, List.setIfInBounds_toArray, List.set_cons_zero, List.set_cons_succ]
          refine wpAnyH_take (i := 5) (v := ?v6) rfl (by kernel_rfl) (by kernel_rfl) (by kernel_rfl) (fun _ _ _ h => h) (Or.inl ⟨by rfl, ?hy6⟩) hHeld ?rest6
          case hy6 => (intro w' hSw; (try dsimp only at hSw); first | (go_simp; done) | (go_simp; with_reducible rfl))
          simp only [Act.put, List.getElem_toArray, List.getElem_cons_zero, List.getElem_cons_succ, List.setIfInBounds_toArray, List.set_cons_zero, List.set_cons_succ]
          refine wpAnyH_take (i := 6) (v := ?v7) rfl (by kernel_rfl) (by kernel_rfl) (by kernel_rfl) (fun _ _ _ h => h) (Or.inl ⟨by rfl, ?hy7⟩) hHeld ?rest7
          case hy7 => (intro w' hSw; (try dsimp only at hSw); first | (go_simp; done) | (go_simp; with_reducible rfl))
          simp only [Act.put, List.getElem_toArray, List.getElem_cons_zero, List.getElem_cons_succ, List.setIfInBounds_toArray, List.set_cons_zero, List.set_cons_succ]
          refine wpAnyH_take (i := 7) (v := ?v8) rfl (by kernel_rfl) (by kernel_rfl) (by kernel_rfl) (fun _ _ _ h => h) (Or.inl ⟨by rfl, ?hy8⟩) hHeld ?rest8
          case hy8 => (intro w' hSw; (try dsimp only at hSw); first | (go_simp; done) | (go_simp; with_reducible rfl))
          simp only [Act.put, List.getElem_toArray, List.getElem_cons_zero, List.getElem_cons_succ, List.setIfInBounds_toArray, List.set_cons_zero, List.set_cons_succ]
          refine wpAnyH_ready (rs := [8]) (by kernel_rfl) (by simp) ?_
          refine AllReadyH.cons rfl (fun K hK => ?_) AllReadyH.nil
          go_simp
          have hal : Below (u0).heap.size u0 (u0.alloc (.cells #[.int .i64 0, .string ⟨#[]⟩, .string ⟨#[]⟩, .string ⟨#[]⟩] 36)) := (Below.refl _ _).alloc (Nat.le_refl _) _
          have rg := Row.new u0 36 #[.int .i64 0, .string ⟨#[]⟩, .string ⟨#[]⟩, .string ⟨#[]⟩]
          have hby := hb0.trans (hal.mono hb0.size)
          have hgq : wr.heap.size ≤ u0.heap.size := hb0.size
          clear hal
          generalize u0.alloc (.cells #[.int .i64 0, .string ⟨#[]⟩, .string ⟨#[]⟩, .string ⟨#[]⟩] 36) = u1 at *
          generalize u0.heap.size = g at *
          obtain ⟨⟨z0, z1, z2, z3⟩, ⟨e0, e1, e2, e3⟩⟩ := rg.all4
          refine hK.out _ _ ⟨below_keep hby _ _ p2, below_keep hby _ _ q0, below_keep hby _ _ y0, below_keep hby _ _ y1, below_keep hby _ _ y2, below_keep hby _ _ y3⟩ (fun hHeld => ?_)
          clear hK K
          (try simp only [Act.put, List.getElem_toArray, List.getElem_cons_zero, List.getElem_cons_succ, List.setIfInBounds_toArray, List.set_cons_zero, List.set_cons_succ])
          refine wpAnyH_ready (rs := [9]) (by kernel_rfl) (by simp) ?_
          refine AllReadyH.cons rfl (fun K hK => ?_) AllReadyH.nil
          go_simp
          refine hK.out _ _ ⟨cellOff (cellOff (cellOff (cellOff (below_keep hby _ _ p2) (by intro h; simp only at h; omega)) (by intro h; simp only at h; omega)) (by intro h; simp only at h; omega)) (by intro h; simp only at h; omega), cellOff (cellOff (cellOff (cellOff (below_keep hby _ _ q0) (by intro h; simp only at h; omega)) (by intro h; simp only at h; omega)) (by intro h; simp only at h; omega)) (by intro h; simp only at h; omega), cellOff (cellOff (cellOff (cellOff (below_keep hby _ _ y0) (by intro h; simp only at h; omega)) (by intro h; simp only at h; omega)) (by intro h; simp only at h; omega)) (by intro h; simp only at h; omega), cellOff (cellOff (cellOff (cellOff (below_keep hby _ _ y1) (by intro h; simp only at h; omega)) (by intro h; simp only at h; omega)) (by intro h; simp only at h; omega)) (by intro h; simp only at h; omega), cellOff (cellOff (cellOff (cellOff (below_keep hby _ _ y2) (by intro h; simp only at h; omega)) (by intro h; simp only at h; omega)) (by intro h; simp only at h; omega)) (by intro h; simp only at h; omega), cellOff (cellOff (cellOff (cellOff (below_keep hby _ _ y3) (by intro h; simp only at h; omega)) (by intro h; simp only at h; omega)) (by intro h; simp only at h; omega)) (by intro h; simp only at h; omega)⟩ (fun hHeld => ?_)
          clear hK K
          (try simp only [Act.put, List.getElem_toArray, List.getElem_cons_zero, List.getElem_cons_succ, List.setIfInBounds_toArray, List.set_cons_zero, List.set_cons_succ])
          refine wpAnyH_done (by kernel_rfl) ?_ _
          refine NoPanic.normal ?_
          clear hHeld
          have ry := (((rg.set 0 (.int .i64 o.kind)).set 1 (.string o.name)).set 2 (.string o.to)).set 3 (.string o.data)
          have ry := show Row ((((u1.setCell ⟨g, 0, none⟩ (.int .i64 o.kind)).setCell ⟨g, 1, none⟩ (.string o.name)).setCell ⟨g, 2, none⟩ (.string o.to)).setCell ⟨g, 3, none⟩ (.string o.data)) g 36 #[.int .i64 o.kind, .string o.name, .string o.to, .string o.data] from ry
          have hby := (((hby.setCell (p := ⟨g, 0, none⟩) hgq (.int .i64 o.kind)).setCell (p := ⟨g, 1, none⟩) hgq (.string o.name)).setCell (p := ⟨g, 2, none⟩) hgq (.string o.to)).setCell (p := ⟨g, 3, none⟩) hgq (.string o.data)
          generalize ((((u1.setCell ⟨g, 0, none⟩ (.int .i64 o.kind)).setCell ⟨g, 1, none⟩ (.string o.name)).setCell ⟨g, 2, none⟩ (.string o.to)).setCell ⟨g, 3, none⟩ (.string o.data)) = y at *
          clear p2 q0 y0 y1 y2 y3 z0 z1 z2 z3 e0 e1 e2 e3 rg hb0
          obtain ⟨⟨y0, y1, y2, y3⟩, ⟨e0, e1, e2, e3⟩⟩ := ry.all4
          have OY := Lib.hid (OwnG.below OZ.out hby)
          have HGQ := Lib.hid hgq
          obtain ⟨AN, cN, rfl, -, -, -⟩ := (show OwnZ wr _ vl _ from OZ.out).sl
          obtain ⟨AN', cN', eN, -, -, sN⟩ := (show OwnZ y _ _ _ from OY.out).sl
          injection eN with eN1 eN2 eN3
          subst eN1 eN3
          have HBY := Lib.hid hby
          have RY := Lib.hid ry
          have SN := Lib.hid sN
          clear hby ry sN hgq hbl hc1 hc2
          by_cases hlast : k + 1 = keep.length
          · have hE : decide ((k : Int) = (keep.length : Int) - 1) = true := decide_eq_true (by omega)
            have hE2 : ((k : Int) == (keep.length : Int) - 1) = true := by simpa using (show (k : Int) = (keep.length : Int) - 1 by omega)
            have HL1 := Lib.hid (show L[k] = tornO o torn by rw [HLK.out, if_pos hlast])
            clear hlast
            by_cases hk1 : o.kind = 1
            · have hk1' : decide (o.kind = 1) = true := decide_eq_true hk1
              have hk2 : (o.kind == 1) = true := by simpa using hk1
              by_cases hsz : torn < o.data.size
              · have hsz' : decide (torn < (o.data.size : Int)) = true := decide_eq_true hsz
                have ht0 : 0 ≤ torn := HT0.out
                obtain ⟨T, hT⟩ : ∃ T : Nat, torn = T := ⟨torn.toNat, by omega⟩
                have HTN := Lib.hid (torn_cut HT0.out hsz)
                have ry := RY.out.set 3 (.string (o.data.extract 0 torn.toNat))
                have ry := show Row (y.setCell ⟨g, 3, none⟩ (.string (o.data.extract 0 torn.toNat))) g 36 #[.int .i64 o.kind, .string o.name, .string o.to, .string (o.data.extract 0 torn.toNat)] from ry
                have HBZ := Lib.hid (HBY.out.setCell (p := ⟨g, 3, none⟩) HGQ.out (.string (o.data.extract 0 torn.toNat)))
                have SNZ := Lib.hid (show Sl (FlatR Fz.cells) 2 (okF wo.heap.size (y.setCell ⟨g, 3, none⟩ (.string (o.data.extract 0 torn.toNat)))) _ _ _ _ from by obtain ⟨AM, cM, eM, -, -, sM⟩ := (show OwnZ (y.setCell ⟨g, 3, none⟩ (.string (o.data.extract 0 torn.toNat))) _ _ _ from OwnG.below OZ.out HBZ.out).sl; injection eM with eM1 eM2 eM3; subst eM1; exact sM)
                subst hT
                rw [Int.toNat_natCast] at HTN ry HBZ SNZ
                have htsz : T ≤ o.data.size := by omega
                have hsn : decide (T < o.data.size) = true := decide_eq_true (by omega)
                have hsp : T < o.data.size := by omega
                clear hk1 hsz
                obtain ⟨⟨v0, v1, v2, v3⟩, -⟩ := ry.all4
                clear ry
                have HEQ := Lib.hid (show L[k] = ⟨o.kind, o.name, o.to, o.data.extract 0 T⟩ from HL1.out.trans HTN.out)
                have hby := HWY.out.bts
                have hln := HWY.out.len
                have HB3 := Lib.hid (show bytesF l ≤ 268435456 by omega)
                have HN3 := Lib.hid (show l.length ≤ 1000000 by omega)
                have HD3 := Lib.hid (show ((⟨o.kind, o.name, o.to, o.data.extract 0 T⟩ : Oz)).data.size ≤ 268435456 by rw [← HEQ.out]; have := HLO.out.2; omega)
                clear hby hln
                go_wp2_with fail
                refine (specDo14 AN _ cN l ((⟨o.kind, o.name, o.to, o.data.extract 0 T⟩ : Oz)) _ _ SNZ.out HN3.out HB3.out HD3.out).mono ?_
                rintro e w5 ⟨v, rfl, hv, hq⟩
                have HB5 := Lib.hid ((HBQ.out.trans ((HBZ.out).mono HBQ.out.size)).trans (hq.mono (Nat.le_trans HBQ.out.size (HBZ.out).size)))
                have HO5 := Lib.hid (show OwnZ w5 wo.heap.size v (doF l L[k]).1 by rw [HEQ.out]; exact OwnZ.mono hv (Nat.le_trans HBQ.out.size (HBZ.out).size))
                clear hv hq
                go_wp2_with fail
                go_roundw
                case rel => exact ⟨k + 1, (doF l L[k]).1, _, by omega, by go_num, rfl, HO5, HWL, HSL, HB5⟩
                case measure => simp [intOf]; omega
              · have hsz' : decide (torn < (o.data.size : Int)) = false := decide_eq_false hsz
                have HSM := Lib.hid (torn_same HFO.out HT0.out (show ¬ (o.kind = 1 ∧ torn < o.data.size) from fun h => hsz h.2))
                clear hk1 hsz
                have HEQ := Lib.hid (show L[k] = o from HL1.out.trans HSM.out)
                have hby := HWY.out.bts
                have hln := HWY.out.len
                have HB3 := Lib.hid (show bytesF l ≤ 268435456 by omega)
                have HN3 := Lib.hid (show l.length ≤ 1000000 by omega)
                have HD3 := Lib.hid (show (o).data.size ≤ 268435456 by rw [← HEQ.out]; have := HLO.out.2; omega)
                clear hby hln
                go_wp2_with fail
                refine (specDo14 AN _ cN l (o) _ _ SN.out HN3.out HB3.out HD3.out).mono ?_
                rintro e w5 ⟨v, rfl, hv, hq⟩
                have HB5 := Lib.hid ((HBQ.out.trans ((HBY.out).mono HBQ.out.size)).trans (hq.mono (Nat.le_trans HBQ.out.size (HBY.out).size)))
                have HO5 := Lib.hid (show OwnZ w5 wo.heap.size v (doF l L[k]).1 by rw [HEQ.out]; exact OwnZ.mono hv (Nat.le_trans HBQ.out.size (HBY.out).size))
                clear hv hq
                go_wp2_with fail
                go_roundw
                case rel => exact ⟨k + 1, (doF l L[k]).1, _, by omega, by go_num, rfl, HO5, HWL, HSL, HB5⟩
                case measure => simp [intOf]; omega
            · have hk1' : decide (o.kind = 1) = false := decide_eq_false hk1
              have hk2 : (o.kind == 1) = false := by simpa using hk1
              have HSM := Lib.hid (torn_same HFO.out HT0.out (show ¬ (o.kind = 1 ∧ torn < o.data.size) from fun h => hk1 h.1))
              clear hk1
              have HEQ := Lib.hid (show L[k] = o from HL1.out.trans HSM.out)
              have hby := HWY.out.bts
              have hln := HWY.out.len
              have HB3 := Lib.hid (show bytesF l ≤ 268435456 by omega)
              have HN3 := Lib.hid (show l.length ≤ 1000000 by omega)
              have HD3 := Lib.hid (show (o).data.size ≤ 268435456 by rw [← HEQ.out]; have := HLO.out.2; omega)
              clear hby hln
              go_wp2_with fail
              refine (specDo14 AN _ cN l (o) _ _ SN.out HN3.out HB3.out HD3.out).mono ?_
              rintro e w5 ⟨v, rfl, hv, hq⟩
              have HB5 := Lib.hid ((HBQ.out.trans ((HBY.out).mono HBQ.out.size)).trans (hq.mono (Nat.le_trans HBQ.out.size (HBY.out).size)))
              have HO5 := Lib.hid (show OwnZ w5 wo.heap.size v (doF l L[k]).1 by rw [HEQ.out]; exact OwnZ.mono hv (Nat.le_trans HBQ.out.size (HBY.out).size))
              clear hv hq
              go_wp2_with fail
              go_roundw
              case rel => exact ⟨k + 1, (doF l L[k]).1, _, by omega, by go_num, rfl, HO5, HWL, HSL, HB5⟩
              case measure => simp [intOf]; omega
          · have hE : decide ((k : Int) = (keep.length : Int) - 1) = false := decide_eq_false (by omega)
            have hE2 : ((k : Int) == (keep.length : Int) - 1) = false := by simpa using (show ¬ (k : Int) = (keep.length : Int) - 1 by omega)
            have HL1 := Lib.hid (show L[k] = o by rw [HLK.out, if_neg hlast])
            clear hlast
            have HEQ := Lib.hid (show L[k] = o from HL1.out)
            have hby := HWY.out.bts
            have hln := HWY.out.len
            have HB3 := Lib.hid (show bytesF l ≤ 268435456 by omega)
            have HN3 := Lib.hid (show l.length ≤ 1000000 by omega)
            have HD3 := Lib.hid (show (o).data.size ≤ 268435456 by rw [← HEQ.out]; have := HLO.out.2; omega)
            clear hby hln
            go_wp2_with fail
            refine (specDo14 AN _ cN l (o) _ _ SN.out HN3.out HB3.out HD3.out).mono ?_
            rintro e w5 ⟨v, rfl, hv, hq⟩
            have HB5 := Lib.hid ((HBQ.out.trans ((HBY.out).mono HBQ.out.size)).trans (hq.mono (Nat.le_trans HBQ.out.size (HBY.out).size)))
            have HO5 := Lib.hid (show OwnZ w5 wo.heap.size v (doF l L[k]).1 by rw [HEQ.out]; exact OwnZ.mono hv (Nat.le_trans HBQ.out.size (HBY.out).size))
            clear hv hq
            go_wp2_with fail
            go_roundw
            case rel => exact ⟨k + 1, (doF l L[k]).1, _, by omega, by go_num, rfl, HO5, HWL, HSL, HB5⟩
            case measure => simp [intOf]; omega
        · have hrun : runF x.safe (keptO x.ops torn keep) = l := by rw [← HLE.out, HST.out, List.drop_eq_nil_of_le (by rw [HLN.out]; omega)]; rfl
          have HRUN := Lib.hid hrun
          have hby := HWY.out.bts
          have hln := HWY.out.len
          have i2 : keep.length ≤ 200 := HKL.out
          have HNB := Lib.hid (show bytesF l ≤ 1073741824 by omega)
          have HNL := Lib.hid (show l.length ≤ 1048576 by omega)
          have HXQ := Lib.hid (HX2.out.trans (HBQ.out.mono HX2.out.size))
          have rb := RR.out.below HBQ.out
          obtain ⟨AN, cN, rfl, -, -, sN⟩ := (show OwnZ wr _ vl _ from OZ.out).sl
          have hn2 : l.length ≤ 1048576 := HNL.out
          clear hrun hby hln i2
          have RB3 := Lib.hid rb
          clear rb
          go_wp2_with fail
          refine (specFiles14 AN _ cN l _ _ sN HNB.out).mono ?_
          rintro e w5 ⟨rfl, hq⟩
          have HX5 := Lib.hid (HXQ.out.trans (hq.mono HXQ.out.size))
          have rb := RB3.out.below hq
          have RB5 := Lib.hid rb
          have O5 := Lib.hid (show OwnZ w5 wo.heap.size _ l from OwnG.below OZ.out hq)
          have s5 := sN.below (FlatR.stays _) hq
          have HW5 := Lib.hid (show w.heap.size + 2 ≤ w5.heap.size by have h1 := lt_of_block RB5.out; omega)
          have HWB := Lib.hid (Nat.le_trans HBQ.out.size hq.size)
          obtain ⟨⟨r0, r1, r2⟩, ⟨f0, f1, f2⟩⟩ := rb.three
          clear hq sN rb
          cases e2 : filesB l
          · have HA := Lib.hid (crash_no (keep := keep) (torn := torn) (show crashOk x keep torn = false by unfold crashOk; rw [HRUN.out, e2]; simp))
            clear e2 s5
            go_wp2_with fail
            have hr9 := (((RB5.out).set 0 (.slice none 0 0)).set 1 (.slice none 0 0)).set 2 (.slice none 0 0)
            refine bodyPost_ret (results_cell_row2 (p := 6) (u := 7) (ty := 27) rfl _ _ (w.heap.size + 1) 27 #[.slice none 0 0, .slice none 0 0, .slice none 0 0] (0, 0) _ rfl rfl hr9 Try.underlying27 rfl HI.out) rfl ⟨⟨.agg #[.slice none 0 0, .slice none 0 0, .slice none 0 0], ?_, ?_⟩, ?_⟩
            · rw [HA.out.1]; rfl
            · refine DzA.mono (base := w.heap.size + 2) ?_ (by omega)
              rw [HA.out.2]
              refine DzA.set (DzA.set (DzA.set (DzA.nil _ _) ?_ _) ?_ _) ?_ _ <;> (exact Nat.lt_succ_self _)
            · exact ((HX5.out.setCell (Nat.le_add_right _ 1) _).setCell (Nat.le_add_right _ 1) _).setCell (Nat.le_add_right _ 1) _
          have HA := Lib.hid (crash_yes (keep := keep) (torn := torn) (show crashOk x keep torn = true by unfold crashOk; rw [HRUN.out, e2, E0.out, HRS.out, decide_eq_true HT0.out]; rfl))
          rw [HRUN.out] at HA
          clear r0 r1 r2 f0 f1 f2 e2
          have HLI5 := Lib.hid (OwnG.lit (T := 75) (sz := 2) (f := Fz.cells) w5 (Nat.le_refl w5.heap.size))
          have HAL5 := Lib.hid ((Below.refl w5.heap.size w5).alloc (Nat.le_refl _) (.cells #[] 75))
          have hsf := s5.below (FlatR.stays _) HAL5.out
          have D5 := Lib.hid (Dis.fresh O5.out 0 0)
          have O6 := Lib.hid (OwnG.below O5.out HAL5.out)
          have rb6 := RB5.out.below HAL5.out
          clear s5
          go_wp2_with (at_builtin; refine wpList_app_all rfl _ _ 24 rfl fz_cells fz_one (by omega) Try.underlying24 H1.out H2.out H3.out H4.out rfl _ rfl HLI5.out (by simp) rfl hsf (by omega) (by omega) ?_)
          intro v7 w7 hown7 hgrow7 hloc7
          have O7 := Lib.hid (show OwnZ w7 w5.heap.size v7 l from hown7)
          have O7L := Lib.hid (OwnG.keptD O6.out hgrow7 D5.out)
          have D7 := Lib.hid (Dis.app (v' := v7) O6.out D5.out (by rcases hloc7 with h | ⟨g, h, hg⟩; exact .inl h; exact .inr ⟨g, h, by simpa using hg⟩))
          have HB7 := Lib.hid (HAL5.out.grown hgrow7 (by simp) (fun k hk => (OwnG.block_lt HLI5.out k hk).1))
          have HX7 := Lib.hid (HX5.out.trans (HB7.out.mono HX5.out.size))
          have rr := RB5.out.below HB7.out
          have R7 := Lib.hid rr
          obtain ⟨B7, m7, d7, rfl⟩ := (show OwnZ w7 _ v7 _ from O7.out).len
          obtain ⟨⟨r0, r1, r2⟩, ⟨f0, f1, f2⟩⟩ := rr.three
          clear hown7 hgrow7 hloc7 hsf rb6 rr
          go_wp2_with fail
          have hr9 := (((R7.out).set 0 (.slice AN l.length cN)).set 1 (.slice B7 m7 d7)).set 2 (.slice none 0 0)
          refine bodyPost_ret (results_cell_row2 (p := 6) (u := 7) (ty := 27) rfl _ _ (w.heap.size + 1) 27 #[.slice AN l.length cN, .slice B7 m7 d7, .slice none 0 0] (0, 0) _ rfl rfl hr9 Try.underlying27 rfl HI.out) rfl ⟨⟨.agg #[.slice AN l.length cN, .slice B7 m7 d7, .slice none 0 0], ?_, ?_⟩, ?_⟩
          · rw [HA.out.1]; rfl
          · refine DzA.mono (base := w.heap.size + 2) ?_ (by omega)
            rw [HA.out.2]
            refine DzA.set (DzA.set (DzA.set (show DzA _ (w.heap.size + 2) _ ⟨l, l, []⟩ from ⟨_, _, _, rfl, OwnZ.mono O7L.out HWR.out, OwnZ.mono O7.out HW5.out, OwnG.nil _ _, D7.out.symm⟩) ?_ _) ?_ _) ?_ _ <;> (exact Nat.lt_succ_self _)
          · exact ((HX7.out.setCell (Nat.le_add_right _ 1) _).setCell (Nat.le_add_right _ 1) _).setCell (Nat.le_add_right _ 1) _
end Go.Proofs.Ytkinegapnknhiaa
namespace Go.Proofs.Ytkinegapnknhiaa
open Go.RowKit
set_option linter.unusedVariables false
set_option linter.unusedSimpArgs false

theorem crashD_fits (x : Dz) (keep : List Int) (torn : Int) : (crashD x keep torn).fits := by
  unfold crashD
  cases h : crashOk x keep torn
  · exact ⟨by simp, by simp, by simp⟩
  · have hf : filesB (runF x.safe (keptO x.ops torn keep)) = true := by
      unfold crashOk at h
      simp only [Bool.and_eq_true] at h
      exact h.2
    exact ⟨filesB_sz hf, filesB_sz hf, by simp⟩
end Go.Proofs.Ytkinegapnknhiaa
