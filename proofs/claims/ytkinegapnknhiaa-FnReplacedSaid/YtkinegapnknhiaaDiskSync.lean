/-
  Sync, in the model and in the program; copies of disks.
-/
import Derived.Test.YtkinegapnknhiaaDiskOwn
namespace Go.Proofs.Ytkinegapnknhiaa
open Go.RowKit
set_option linter.unusedVariables false
set_option linter.unusedSimpArgs false

def syncD (x : Dz) : Dz := if diskB x then ⟨x.live, x.live, []⟩ else ⟨[], [], []⟩
theorem sz_lens {x : Dz} (h : x.sz ≤ 1048576) : x.live.length ≤ 1048576 ∧ x.safe.length ≤ 1048576 ∧ x.ops.length ≤ 1048576 := by unfold Dz.sz szL at h; omega
/-- The boxes of an argument and of an answer. -/
theorem box2 (w : World) (a b : Obj) : Below w.heap.size w ((w.alloc a).alloc b) ∧ w.heap.size + 2 ≤ ((w.alloc a).alloc b).heap.size := ⟨((Below.refl w.heap.size w).alloc (Nat.le_refl _) a).alloc (by simp) b, by simp⟩

set_option maxRecDepth 100000 in
set_option maxHeartbeats 1000000 in
theorem implSync (x : Dz) (A0 : Option Addr) (n0 c0 : Nat) (A1 : Option Addr) (n1 c1 : Nat) (A2 : Option Addr) (n2 c2 : Nat) (ok : Nat → Prop) (w : World) (h0 : Sl FzR 2 ok w A0 n0 x.live) (h1 : Sl FzR 2 ok w A1 n1 x.safe) (h2 : Sl OzR 4 ok w A2 n2 x.ops) (hs : x.sz ≤ 1048576) :
    Calls Try.prog 17 #[.agg #[.slice A0 n0 c0, .slice A1 n1 c1, .slice A2 n2 c2]] w fun e w' => (∃ v, e = .returned v ∧ DzA w' w.heap.size v (syncD x)) ∧ Below w.heap.size w w' := by
  obtain ⟨hx, hwz⟩ := box2 w (.cells #[.slice A0 n0 c0, .slice A1 n1 c1, .slice A2 n2 c2] 27) (.cells #[.slice none 0 0, .slice none 0 0, .slice none 0 0] 27)
  have ra := (Row.new w 27 #[.slice A0 n0 c0, .slice A1 n1 c1, .slice A2 n2 c2]).alloc (.cells #[.slice none 0 0, .slice none 0 0, .slice none 0 0] 27)
  have rb := Row.newAt (w.alloc (.cells #[.slice A0 n0 c0, .slice A1 n1 c1, .slice A2 n2 c2] 27)) 27 #[.slice none 0 0, .slice none 0 0, .slice none 0 0] (w.heap.size + 1) (by simp)
  have HI := Lib.hid infoDisk
  go_enter Try.func17, Try.ntmps17
  go_wp2_with fail
  generalize (w.alloc (.cells #[.slice A0 n0 c0, .slice A1 n1 c1, .slice A2 n2 c2] 27)).alloc (.cells #[.slice none 0 0, .slice none 0 0, .slice none 0 0] 27) = z at *
  refine (implDiskOk x A0 n0 c0 A1 n1 c1 A2 n2 c2 _ _ (h0.below FzR.stays hx) (h1.below FzR.stays hx) (h2.below OzR.stays hx) hs).mono ?_
  rintro e w1 ⟨rfl, hq⟩
  have hx := hx.trans (hq.mono hx.size)
  have hwz := Nat.le_trans hwz hq.size
  have ra := ra.below hq
  have rb := rb.below hq
  obtain ⟨⟨p0, p1, p2⟩, -⟩ := ra.three
  obtain ⟨⟨r0, r1, r2⟩, ⟨f0, f1, f2⟩⟩ := rb.three
  clear hq
  cases e0 : diskB x
  · have HA := Lib.hid (show syncD x = ⟨[], [], []⟩ by unfold syncD; rw [e0]; rfl)
    have RR := Lib.hid rb
    clear ra rb
    go_wp2_with fail
    have hr9 := (((RR.out).set 0 (.slice none 0 0)).set 1 (.slice none 0 0)).set 2 (.slice none 0 0)
    refine bodyPost_ret (results_cell_row (p := 2) (ty := 27) rfl _ _ (w.heap.size + 1) 27 #[.slice none 0 0, .slice none 0 0, .slice none 0 0] (0, 0) _ rfl hr9 Try.underlying27 rfl HI.out) rfl ⟨⟨_, rfl, ?_⟩, ?_⟩
    · refine DzA.mono (base := w.heap.size + 2) ?_ (by omega)
      rw [HA.out]
      refine DzA.set (DzA.set (DzA.set (DzA.nil _ _) ?_ _) ?_ _) ?_ _ <;> exact Nat.lt_succ_self _
    · exact ((hx.setCell (Nat.le_succ _) _).setCell (Nat.le_succ _) _).setCell (Nat.le_succ _) _
  have HA := Lib.hid (show syncD x = ⟨x.live, x.live, []⟩ by unfold syncD; rw [e0]; rfl)
  go_wp2_with fail
  refine (implSettled A0 n0 c0 x.live _ _ (h0.below FzR.stays hx) (by have := (sz_lens hs).1; have := h0.1; omega)).mono ?_
  rintro e w2 ⟨⟨v, rfl, hv⟩, hb⟩
  have hxe := hx.trans (hb.mono hx.size)
  have RR := Lib.hid (rb.below hb)
  have HV := Lib.hid (hv.mono (base' := w.heap.size + 2) hwz)
  obtain ⟨v0, v1, v2, rfl, k0, k1, k2, -⟩ := hv
  obtain ⟨B0, d0, rfl, -⟩ := k0.sl
  obtain ⟨B1, d1, rfl, -⟩ := k1.sl
  obtain ⟨B2, d2, rfl, -⟩ := k2.sl
  clear r0 r1 r2 f0 f1 f2 p0 p1 p2 k0 k1 k2 hb
  have rr := RR.out
  obtain ⟨⟨r0, r1, r2⟩, ⟨f0, f1, f2⟩⟩ := rr.three
  clear rr
  go_wp2_with fail
  have hr9 := (((RR.out).set 0 (.slice B0 x.live.length d0)).set 1 (.slice B1 x.live.length d1)).set 2 (.slice B2 ([] : List Oz).length d2)
  refine bodyPost_ret (results_cell_row (p := 2) (ty := 27) rfl _ _ (w.heap.size + 1) 27 #[.slice B0 x.live.length d0, .slice B1 x.live.length d1, .slice B2 ([] : List Oz).length d2] (0, 0) _ rfl hr9 Try.underlying27 rfl HI.out) rfl ⟨⟨_, rfl, ?_⟩, ?_⟩
  · refine DzA.mono (base := w.heap.size + 2) ?_ (by omega)
    rw [HA.out]
    refine DzA.set (DzA.set (DzA.set (HV.out) ?_ _) ?_ _) ?_ _ <;> exact Nat.lt_succ_self _
  · exact ((hxe.setCell (Nat.le_succ _) _).setCell (Nat.le_succ _) _).setCell (Nat.le_succ _) _

theorem cellOff {w : World} {p a : Addr} {v u : Value} (h : w.cell? a = some v) (hne : p.block ≠ a.block) : (w.setCell p u).cell? a = some v := (World.cell?_setCell_far w p a u hne).trans h

set_option maxRecDepth 100000 in
set_option maxHeartbeats 1000000 in
theorem specSync (x : Dz) (A0 : Option Addr) (n0 c0 : Nat) (A1 : Option Addr) (n1 c1 : Nat) (A2 : Option Addr) (n2 c2 : Nat) (ok : Nat → Prop) (w : World) (h0 : Sl FzR 2 ok w A0 n0 x.live) (h1 : Sl FzR 2 ok w A1 n1 x.safe) (h2 : Sl OzR 4 ok w A2 n2 x.ops) (hs : x.sz ≤ 1048576) :
    Calls Try.prog 33 #[.agg #[.slice A0 n0 c0, .slice A1 n1 c1, .slice A2 n2 c2]] w fun e w' => (∃ v, e = .returned v ∧ DzA w' w.heap.size v (syncD x)) ∧ Below w.heap.size w w' := by
  obtain ⟨hx, hwz⟩ := box2 w (.cells #[.slice A0 n0 c0, .slice A1 n1 c1, .slice A2 n2 c2] 27) (.cells #[.slice none 0 0, .slice none 0 0, .slice none 0 0] 27)
  have ra := (Row.new w 27 #[.slice A0 n0 c0, .slice A1 n1 c1, .slice A2 n2 c2]).alloc (.cells #[.slice none 0 0, .slice none 0 0, .slice none 0 0] 27)
  have rb := Row.newAt (w.alloc (.cells #[.slice A0 n0 c0, .slice A1 n1 c1, .slice A2 n2 c2] 27)) 27 #[.slice none 0 0, .slice none 0 0, .slice none 0 0] (w.heap.size + 1) (by simp)
  have HI := Lib.hid infoDisk
  obtain ⟨i0, hi, hz0, hz1, hz2⟩ := info_parts infoFileT
  have H1 := Lib.hid hi
  have H2 := Lib.hid hz0
  have H3 := Lib.hid hz1
  have H4 := Lib.hid hz2
  clear hi hz0 hz1 hz2
  go_enter Try.func33, Try.ntmps33
  go_wp2_with fail
  generalize (w.alloc (.cells #[.slice A0 n0 c0, .slice A1 n1 c1, .slice A2 n2 c2] 27)).alloc (.cells #[.slice none 0 0, .slice none 0 0, .slice none 0 0] 27) = z at *
  refine (specDiskOk x A0 n0 c0 A1 n1 c1 A2 n2 c2 _ _ (h0.below FzR.stays hx) (h1.below FzR.stays hx) (h2.below OzR.stays hx) hs).mono ?_
  rintro e w1 ⟨rfl, hq⟩
  have hx := hx.trans (hq.mono hx.size)
  have hwz := Nat.le_trans hwz hq.size
  have ra := ra.below hq
  have rb := rb.below hq
  obtain ⟨⟨p0, p1, p2⟩, -⟩ := ra.three
  obtain ⟨⟨r0, r1, r2⟩, ⟨f0, f1, f2⟩⟩ := rb.three
  clear hq
  have hln : n0 ≤ 1048576 := by have := (sz_lens hs).1; have := h0.1; omega
  cases e0 : diskB x
  · have HA := Lib.hid (show syncD x = ⟨[], [], []⟩ by unfold syncD; rw [e0]; rfl)
    have RR := Lib.hid rb
    clear ra rb
    go_wp2_with fail
    have hr9 := (((RR.out).set 0 (.slice none 0 0)).set 1 (.slice none 0 0)).set 2 (.slice none 0 0)
    refine bodyPost_ret (results_cell_row (p := 2) (ty := 27) rfl _ _ (w.heap.size + 1) 27 #[.slice none 0 0, .slice none 0 0, .slice none 0 0] (0, 0) _ rfl hr9 Try.underlying27 rfl HI.out) rfl ⟨⟨_, rfl, ?_⟩, ?_⟩
    · refine DzA.mono (base := w.heap.size + 2) ?_ (by omega)
      rw [HA.out]
      refine DzA.set (DzA.set (DzA.set (DzA.nil _ _) ?_ _) ?_ _) ?_ _ <;> exact Nat.lt_succ_self _
    · exact ((hx.setCell (Nat.le_succ _) _).setCell (Nat.le_succ _) _).setCell (Nat.le_succ _) _
  have HA := Lib.hid (show syncD x = ⟨x.live, x.live, []⟩ by unfold syncD; rw [e0]; rfl)
  clear r0 r1 r2 f0 f1 f2
  go_wp2_with fail
  generalize w1 = z at *
  have hb0 : Below z.heap.size z z.drew := (Below.refl _ z).drew
  refine wp_region_noPanic ?_
  refine wp_region_held_drew (S := (fun w' => w'.cell? ⟨w.heap.size, 0, none⟩ = some (.slice A0 n0 c0))) (by kernel_rfl) p0 (fun hHeld => ?_)
  generalize z.drew = u0 at *
  refine wpAnyH_take (i := 1) (v := ?v1) rfl (by kernel_rfl) (by kernel_rfl) (by kernel_rfl) (fun _ _ _ h => h) (Or.inl ⟨by rfl, ?hy1⟩) hHeld ?rest1
  case hy1 => (intro w' hSw; (try dsimp only at hSw); first | (go_simp; done) | (go_simp; with_reducible rfl))
  simp only [Act.put, List.getElem_toArray, List.getElem_cons_zero, List.getElem_cons_succ, List.setIfInBounds_toArray, List.set_cons_zero, List.set_cons_succ]
  refine wpAnyH_take (i := 2) (v := ?v2) rfl (by kernel_rfl) (by kernel_rfl) (by kernel_rfl) (fun _ _ _ h => h) (Or.inl ⟨by rfl, ?hy2⟩) hHeld ?rest2
  case hy2 => (intro w' hSw; (try dsimp only at hSw); first | (go_simp; done) | (go_simp; with_reducible rfl))
  simp only [Act.put, List.getElem_toArray, List.getElem_cons_zero, List.getElem_cons_succ, List.setIfInBounds_toArray, List.set_cons_zero, List.set_cons_succ]
  refine wpAnyH_take (i := 5) (v := ?v3) rfl (by kernel_rfl) (by kernel_rfl) (by kernel_rfl) (fun _ _ _ h => h) (Or.inl ⟨by rfl, ?hy3⟩) hHeld ?rest3
  case hy3 => (intro w' hSw; (try dsimp only at hSw); first | (go_simp; done) | (go_simp; with_reducible rfl))
  simp only [Act.put, List.getElem_toArray, List.getElem_cons_zero, List.getElem_cons_succ, List.setIfInBounds_toArray, List.set_cons_zero, List.set_cons_succ]
  refine wpAnyH_take (i := 6) (v := ?v4) rfl (by kernel_rfl) (by kernel_rfl) (by kernel_rfl) (fun _ _ _ h => h) (Or.inl ⟨by rfl, ?hy4⟩) hHeld ?rest4
  case hy4 => (intro w' hSw; (try dsimp only at hSw); first | (go_simp; done) | (go_simp; with_reducible rfl))
  simp only [Act.put, List.getElem_toArray, List.getElem_cons_zero, List.getElem_cons_succ, List.setIfInBounds_toArray, List.set_cons_zero, List.set_cons_succ]
  refine wpAnyH_ready (rs := [0, 4]) (by kernel_rfl) (by simp) ?_
  refine AllReadyH.cons rfl (fun K hK => ?_) ?_
  · go_simp
    have hal : Below (u0).heap.size u0 ((u0).alloc (.cells #[] 75)) := (Below.refl _ _).alloc (Nat.le_refl _) _
    have O0_1 := Lib.hid (OwnG.lit (T := 75) (sz := 2) (f := Fz.cells) (u0) (base := z.heap.size) hb0.size)
    have hb1 := hb0.alloc hb0.size (.cells #[] 75)
    clear hal
    generalize (u0).alloc (.cells #[] 75) = u1 at *
    refine hK.out _ _ (below_keep hb1 _ _ p0) (fun hHeld => ?_)
    clear hK K
    (try simp only [Act.put, List.getElem_toArray, List.getElem_cons_zero, List.getElem_cons_succ, List.setIfInBounds_toArray, List.set_cons_zero, List.set_cons_succ])
    refine wpAnyH_ready (rs := [3, 4]) (by kernel_rfl) (by simp) ?_
    refine AllReadyH.cons rfl (fun K hK => ?_) ?_
    · obtain ⟨v0, u2, hr0, o0, hg0, hl0⟩ := run_app_all fz_cells fz_one (by omega) Try.underlying24 H1.out H2.out H3.out H4.out rfl (u1) 24 O0_1.out hb1.size (c := c0) (h0.below FzR.stays (hx.trans (hb1.mono hx.size))) hln (by omega)
      refine step_append_run rfl (.tmp 7) (.tmp 9) 24 24 rfl rfl rfl hr0 ?_
      have hb2 := hb1.grown hg0 hb1.size (fun k hk => (OwnG.block_lt O0_1.out k hk).1)
      have O0_2 := Lib.hid o0
      obtain ⟨B0, d0, e0, -, -, -⟩ := (show OwnZ u2 z.heap.size v0 _ from o0).sl
      subst e0
      clear o0 hr0 hg0 hl0
      refine hK.out _ _ (below_keep hb2 _ _ p0) (fun hHeld => ?_)
      clear hK K
      (try simp only [Act.put, List.getElem_toArray, List.getElem_cons_zero, List.getElem_cons_succ, List.setIfInBounds_toArray, List.set_cons_zero, List.set_cons_succ])
      refine wpAnyH_ready (rs := [4]) (by kernel_rfl) (by simp) ?_
      refine AllReadyH.cons rfl (fun K hK => ?_) AllReadyH.nil
      go_simp
      have hal : Below (u2).heap.size u2 ((u2).alloc (.cells #[] 75)) := (Below.refl _ _).alloc (Nat.le_refl _) _
      have O1_3 := Lib.hid (OwnG.lit (T := 75) (sz := 2) (f := Fz.cells) (u2) (base := z.heap.size) hb2.size)
      have D1_0_3 := Lib.hid (Dis.fresh O0_2.out 0 0)
      have O0_3 := Lib.hid (OwnG.below O0_2.out hal)
      have hb3 := hb2.alloc hb2.size (.cells #[] 75)
      clear hal
      generalize (u2).alloc (.cells #[] 75) = u3 at *
      refine hK.out _ _ (below_keep hb3 _ _ p0) (fun hHeld => ?_)
      clear hK K
      (try simp only [Act.put, List.getElem_toArray, List.getElem_cons_zero, List.getElem_cons_succ, List.setIfInBounds_toArray, List.set_cons_zero, List.set_cons_succ])
      refine wpAnyH_ready (rs := [7]) (by kernel_rfl) (by simp) ?_
      refine AllReadyH.cons rfl (fun K hK => ?_) AllReadyH.nil
      obtain ⟨v1, u4, hr1, o1, hg1, hl1⟩ := run_app_all fz_cells fz_one (by omega) Try.underlying24 H1.out H2.out H3.out H4.out rfl (u3) 24 O1_3.out hb3.size (c := c0) (h0.below FzR.stays (hx.trans (hb3.mono hx.size))) hln (by omega)
      refine step_append_run rfl (.tmp 11) (.tmp 13) 24 24 rfl rfl rfl hr1 ?_
      have hb4 := hb3.grown hg1 hb3.size (fun k hk => (OwnG.block_lt O1_3.out k hk).1)
      have D1_0_4 := Lib.hid (Dis.app O0_3.out (D1_0_3.out) hl1)
      have O0_4 := Lib.hid (OwnG.keptD O0_3.out hg1 (D1_0_3.out))
      have O1_4 := Lib.hid o1
      obtain ⟨B1, d1, e1, -, -, -⟩ := (show OwnZ u4 z.heap.size v1 _ from o1).sl
      subst e1
      clear o1 hr1 hg1 hl1
      have rr := rb.below hb4
      obtain ⟨⟨r0, r1, r2⟩, ⟨f0, f1, f2⟩⟩ := rr.three
      have RR := Lib.hid rr
      clear rr
      refine hK.out _ _ (below_keep hb4 _ _ p0) (fun hHeld => ?_)
      clear hK K
      (try simp only [Act.put, List.getElem_toArray, List.getElem_cons_zero, List.getElem_cons_succ, List.setIfInBounds_toArray, List.set_cons_zero, List.set_cons_succ])
      refine wpAnyH_take (i := 8) (v := ?v5) rfl (by kernel_rfl) (by kernel_rfl) (by kernel_rfl) (fun _ _ _ h => h) (Or.inl ⟨by rfl, ?hy5⟩) hHeld ?rest5
      case hy5 => (intro w' hSw; (try dsimp only at hSw); first | (go_simp; done) | (go_simp; with_reducible rfl))
      simp only [Act.put, List.getElem_toArray, List.getElem_cons_zero, List.getElem_cons_succ, List.setIfInBounds_toArray, List.set_cons_zero, List.set_cons_succ]
      refine wpAnyH_ready (rs := [9]) (by kernel_rfl) (by simp) ?_
      refine AllReadyH.cons rfl (fun K hK => ?_) AllReadyH.nil
      go_simp
      refine hK.out _ _ (cellOff (cellOff (cellOff (below_keep hb4 _ _ p0) (by simp)) (by simp)) (by simp)) (fun hHeld => ?_)
      clear hK K
      (try simp only [Act.put, List.getElem_toArray, List.getElem_cons_zero, List.getElem_cons_succ, List.setIfInBounds_toArray, List.set_cons_zero, List.set_cons_succ])
      refine wpAnyH_done (by kernel_rfl) ?_ _
      refine NoPanic.normal ?_
      clear hHeld
      have hbn : Below w.heap.size w u4 := hx.trans (hb4.mono hx.size)
      clear r0 r1 r2 f0 f1 f2
      go_wp2_with fail
      have hr9 := (((RR.out).set 0 (.slice B0 x.live.length d0)).set 1 (.slice B1 x.live.length d1)).set 2 (.slice none 0 0)
      refine bodyPost_ret (results_cell_row (p := 2) (ty := 27) rfl _ _ (w.heap.size + 1) 27 #[.slice B0 x.live.length d0, .slice B1 x.live.length d1, .slice none 0 0] (0, 0) _ rfl hr9 Try.underlying27 rfl HI.out) rfl ⟨⟨_, rfl, ?_⟩, ?_⟩
      · refine DzA.mono (base := z.heap.size) ?_ (by omega)
        rw [HA.out]
        refine DzA.set (DzA.set (DzA.set (show DzA _ z.heap.size _ ⟨x.live, x.live, []⟩ from ⟨_, _, _, rfl, O0_4.out, O1_4.out, OwnG.nil _ _, D1_0_4.out.symm⟩) ?_ _) ?_ _) ?_ _ <;> (show w.heap.size + 1 < z.heap.size; omega)
      · exact ((hbn.setCell (Nat.le_succ _) _).setCell (Nat.le_succ _) _).setCell (Nat.le_succ _) _
    refine AllReadyH.cons rfl (fun K hK => ?_) AllReadyH.nil
    go_simp
    have hal : Below (u1).heap.size u1 ((u1).alloc (.cells #[] 75)) := (Below.refl _ _).alloc (Nat.le_refl _) _
    have O1_2 := Lib.hid (OwnG.lit (T := 75) (sz := 2) (f := Fz.cells) (u1) (base := z.heap.size) hb1.size)
    have D1_0_2 := Lib.hid (Dis.fresh O0_1.out 0 0)
    have O0_2 := Lib.hid (OwnG.below O0_1.out hal)
    have hb2 := hb1.alloc hb1.size (.cells #[] 75)
    clear hal
    generalize (u1).alloc (.cells #[] 75) = u2 at *
    refine hK.out _ _ (below_keep hb2 _ _ p0) (fun hHeld => ?_)
    clear hK K
    (try simp only [Act.put, List.getElem_toArray, List.getElem_cons_zero, List.getElem_cons_succ, List.setIfInBounds_toArray, List.set_cons_zero, List.set_cons_succ])
    refine wpAnyH_ready (rs := [3]) (by kernel_rfl) (by simp) ?_
    refine AllReadyH.cons rfl (fun K hK => ?_) AllReadyH.nil
    obtain ⟨v0, u3, hr0, o0, hg0, hl0⟩ := run_app_all fz_cells fz_one (by omega) Try.underlying24 H1.out H2.out H3.out H4.out rfl (u2) 24 O0_2.out hb2.size (c := c0) (h0.below FzR.stays (hx.trans (hb2.mono hx.size))) hln (by omega)
    refine step_append_run rfl (.tmp 7) (.tmp 9) 24 24 rfl rfl rfl hr0 ?_
    have hb3 := hb2.grown hg0 hb2.size (fun k hk => (OwnG.block_lt O0_2.out k hk).1)
    have D0_1_3 := Lib.hid (Dis.app O1_2.out (D1_0_2.out.symm) hl0)
    have O1_3 := Lib.hid (OwnG.keptD O1_2.out hg0 (D1_0_2.out.symm))
    have O0_3 := Lib.hid o0
    obtain ⟨B0, d0, e0, -, -, -⟩ := (show OwnZ u3 z.heap.size v0 _ from o0).sl
    subst e0
    clear o0 hr0 hg0 hl0
    refine hK.out _ _ (below_keep hb3 _ _ p0) (fun hHeld => ?_)
    clear hK K
    (try simp only [Act.put, List.getElem_toArray, List.getElem_cons_zero, List.getElem_cons_succ, List.setIfInBounds_toArray, List.set_cons_zero, List.set_cons_succ])
    refine wpAnyH_ready (rs := [7]) (by kernel_rfl) (by simp) ?_
    refine AllReadyH.cons rfl (fun K hK => ?_) AllReadyH.nil
    obtain ⟨v1, u4, hr1, o1, hg1, hl1⟩ := run_app_all fz_cells fz_one (by omega) Try.underlying24 H1.out H2.out H3.out H4.out rfl (u3) 24 O1_3.out hb3.size (c := c0) (h0.below FzR.stays (hx.trans (hb3.mono hx.size))) hln (by omega)
    refine step_append_run rfl (.tmp 11) (.tmp 13) 24 24 rfl rfl rfl hr1 ?_
    have hb4 := hb3.grown hg1 hb3.size (fun k hk => (OwnG.block_lt O1_3.out k hk).1)
    have D1_0_4 := Lib.hid (Dis.app O0_3.out (D0_1_3.out.symm) hl1)
    have O0_4 := Lib.hid (OwnG.keptD O0_3.out hg1 (D0_1_3.out.symm))
    have O1_4 := Lib.hid o1
    obtain ⟨B1, d1, e1, -, -, -⟩ := (show OwnZ u4 z.heap.size v1 _ from o1).sl
    subst e1
    clear o1 hr1 hg1 hl1
    have rr := rb.below hb4
    obtain ⟨⟨r0, r1, r2⟩, ⟨f0, f1, f2⟩⟩ := rr.three
    have RR := Lib.hid rr
    clear rr
    refine hK.out _ _ (below_keep hb4 _ _ p0) (fun hHeld => ?_)
    clear hK K
    (try simp only [Act.put, List.getElem_toArray, List.getElem_cons_zero, List.getElem_cons_succ, List.setIfInBounds_toArray, List.set_cons_zero, List.set_cons_succ])
    refine wpAnyH_take (i := 8) (v := ?v6) rfl (by kernel_rfl) (by kernel_rfl) (by kernel_rfl) (fun _ _ _ h => h) (Or.inl ⟨by rfl, ?hy6⟩) hHeld ?rest6
    case hy6 => (intro w' hSw; (try dsimp only at hSw); first | (go_simp; done) | (go_simp; with_reducible rfl))
    simp only [Act.put, List.getElem_toArray, List.getElem_cons_zero, List.getElem_cons_succ, List.setIfInBounds_toArray, List.set_cons_zero, List.set_cons_succ]
    refine wpAnyH_ready (rs := [9]) (by kernel_rfl) (by simp) ?_
    refine AllReadyH.cons rfl (fun K hK => ?_) AllReadyH.nil
    go_simp
    refine hK.out _ _ (cellOff (cellOff (cellOff (below_keep hb4 _ _ p0) (by simp)) (by simp)) (by simp)) (fun hHeld => ?_)
    clear hK K
    (try simp only [Act.put, List.getElem_toArray, List.getElem_cons_zero, List.getElem_cons_succ, List.setIfInBounds_toArray, List.set_cons_zero, List.set_cons_succ])
    refine wpAnyH_done (by kernel_rfl) ?_ _
    refine NoPanic.normal ?_
    clear hHeld
    have hbn : Below w.heap.size w u4 := hx.trans (hb4.mono hx.size)
    clear r0 r1 r2 f0 f1 f2
    go_wp2_with fail
    have hr9 := (((RR.out).set 0 (.slice B0 x.live.length d0)).set 1 (.slice B1 x.live.length d1)).set 2 (.slice none 0 0)
    refine bodyPost_ret (results_cell_row (p := 2) (ty := 27) rfl _ _ (w.heap.size + 1) 27 #[.slice B0 x.live.length d0, .slice B1 x.live.length d1, .slice none 0 0] (0, 0) _ rfl hr9 Try.underlying27 rfl HI.out) rfl ⟨⟨_, rfl, ?_⟩, ?_⟩
    · refine DzA.mono (base := z.heap.size) ?_ (by omega)
      rw [HA.out]
      refine DzA.set (DzA.set (DzA.set (show DzA _ z.heap.size _ ⟨x.live, x.live, []⟩ from ⟨_, _, _, rfl, O0_4.out, O1_4.out, OwnG.nil _ _, D1_0_4.out.symm⟩) ?_ _) ?_ _) ?_ _ <;> (show w.heap.size + 1 < z.heap.size; omega)
    · exact ((hbn.setCell (Nat.le_succ _) _).setCell (Nat.le_succ _) _).setCell (Nat.le_succ _) _
  refine AllReadyH.cons rfl (fun K hK => ?_) AllReadyH.nil
  go_simp
  have hal : Below (u0).heap.size u0 ((u0).alloc (.cells #[] 75)) := (Below.refl _ _).alloc (Nat.le_refl _) _
  have O1_1 := Lib.hid (OwnG.lit (T := 75) (sz := 2) (f := Fz.cells) (u0) (base := z.heap.size) hb0.size)
  have hb1 := hb0.alloc hb0.size (.cells #[] 75)
  clear hal
  generalize (u0).alloc (.cells #[] 75) = u1 at *
  refine hK.out _ _ (below_keep hb1 _ _ p0) (fun hHeld => ?_)
  clear hK K
  (try simp only [Act.put, List.getElem_toArray, List.getElem_cons_zero, List.getElem_cons_succ, List.setIfInBounds_toArray, List.set_cons_zero, List.set_cons_succ])
  refine wpAnyH_ready (rs := [0]) (by kernel_rfl) (by simp) ?_
  refine AllReadyH.cons rfl (fun K hK => ?_) AllReadyH.nil
  go_simp
  have hal : Below (u1).heap.size u1 ((u1).alloc (.cells #[] 75)) := (Below.refl _ _).alloc (Nat.le_refl _) _
  have O0_2 := Lib.hid (OwnG.lit (T := 75) (sz := 2) (f := Fz.cells) (u1) (base := z.heap.size) hb1.size)
  have D0_1_2 := Lib.hid (Dis.fresh O1_1.out 0 0)
  have O1_2 := Lib.hid (OwnG.below O1_1.out hal)
  have hb2 := hb1.alloc hb1.size (.cells #[] 75)
  clear hal
  generalize (u1).alloc (.cells #[] 75) = u2 at *
  refine hK.out _ _ (below_keep hb2 _ _ p0) (fun hHeld => ?_)
  clear hK K
  (try simp only [Act.put, List.getElem_toArray, List.getElem_cons_zero, List.getElem_cons_succ, List.setIfInBounds_toArray, List.set_cons_zero, List.set_cons_succ])
  refine wpAnyH_ready (rs := [3]) (by kernel_rfl) (by simp) ?_
  refine AllReadyH.cons rfl (fun K hK => ?_) AllReadyH.nil
  obtain ⟨v0, u3, hr0, o0, hg0, hl0⟩ := run_app_all fz_cells fz_one (by omega) Try.underlying24 H1.out H2.out H3.out H4.out rfl (u2) 24 O0_2.out hb2.size (c := c0) (h0.below FzR.stays (hx.trans (hb2.mono hx.size))) hln (by omega)
  refine step_append_run rfl (.tmp 7) (.tmp 9) 24 24 rfl rfl rfl hr0 ?_
  have hb3 := hb2.grown hg0 hb2.size (fun k hk => (OwnG.block_lt O0_2.out k hk).1)
  have D0_1_3 := Lib.hid (Dis.app O1_2.out (D0_1_2.out) hl0)
  have O1_3 := Lib.hid (OwnG.keptD O1_2.out hg0 (D0_1_2.out))
  have O0_3 := Lib.hid o0
  obtain ⟨B0, d0, e0, -, -, -⟩ := (show OwnZ u3 z.heap.size v0 _ from o0).sl
  subst e0
  clear o0 hr0 hg0 hl0
  refine hK.out _ _ (below_keep hb3 _ _ p0) (fun hHeld => ?_)
  clear hK K
  (try simp only [Act.put, List.getElem_toArray, List.getElem_cons_zero, List.getElem_cons_succ, List.setIfInBounds_toArray, List.set_cons_zero, List.set_cons_succ])
  refine wpAnyH_ready (rs := [7]) (by kernel_rfl) (by simp) ?_
  refine AllReadyH.cons rfl (fun K hK => ?_) AllReadyH.nil
  obtain ⟨v1, u4, hr1, o1, hg1, hl1⟩ := run_app_all fz_cells fz_one (by omega) Try.underlying24 H1.out H2.out H3.out H4.out rfl (u3) 24 O1_3.out hb3.size (c := c0) (h0.below FzR.stays (hx.trans (hb3.mono hx.size))) hln (by omega)
  refine step_append_run rfl (.tmp 11) (.tmp 13) 24 24 rfl rfl rfl hr1 ?_
  have hb4 := hb3.grown hg1 hb3.size (fun k hk => (OwnG.block_lt O1_3.out k hk).1)
  have D1_0_4 := Lib.hid (Dis.app O0_3.out (D0_1_3.out.symm) hl1)
  have O0_4 := Lib.hid (OwnG.keptD O0_3.out hg1 (D0_1_3.out.symm))
  have O1_4 := Lib.hid o1
  obtain ⟨B1, d1, e1, -, -, -⟩ := (show OwnZ u4 z.heap.size v1 _ from o1).sl
  subst e1
  clear o1 hr1 hg1 hl1
  have rr := rb.below hb4
  obtain ⟨⟨r0, r1, r2⟩, ⟨f0, f1, f2⟩⟩ := rr.three
  have RR := Lib.hid rr
  clear rr
  refine hK.out _ _ (below_keep hb4 _ _ p0) (fun hHeld => ?_)
  clear hK K
  (try simp only [Act.put, List.getElem_toArray, List.getElem_cons_zero, List.getElem_cons_succ, List.setIfInBounds_toArray, List.set_cons_zero, List.set_cons_succ])
  refine wpAnyH_take (i := 8) (v := ?v7) rfl (by kernel_rfl) (by kernel_rfl) (by kernel_rfl) (fun _ _ _ h => h) (Or.inl ⟨by rfl, ?hy7⟩) hHeld ?rest7
  case hy7 => (intro w' hSw; (try dsimp only at hSw); first | (go_simp; done) | (go_simp; with_reducible rfl))
  simp only [Act.put, List.getElem_toArray, List.getElem_cons_zero, List.getElem_cons_succ, List.setIfInBounds_toArray, List.set_cons_zero, List.set_cons_succ]
  refine wpAnyH_ready (rs := [9]) (by kernel_rfl) (by simp) ?_
  refine AllReadyH.cons rfl (fun K hK => ?_) AllReadyH.nil
  go_simp
  refine hK.out _ _ (cellOff (cellOff (cellOff (below_keep hb4 _ _ p0) (by simp)) (by simp)) (by simp)) (fun hHeld => ?_)
  clear hK K
  (try simp only [Act.put, List.getElem_toArray, List.getElem_cons_zero, List.getElem_cons_succ, List.setIfInBounds_toArray, List.set_cons_zero, List.set_cons_succ])
  refine wpAnyH_done (by kernel_rfl) ?_ _
  refine NoPanic.normal ?_
  clear hHeld
  have hbn : Below w.heap.size w u4 := hx.trans (hb4.mono hx.size)
  clear r0 r1 r2 f0 f1 f2
  go_wp2_with fail
  have hr9 := (((RR.out).set 0 (.slice B0 x.live.length d0)).set 1 (.slice B1 x.live.length d1)).set 2 (.slice none 0 0)
  refine bodyPost_ret (results_cell_row (p := 2) (ty := 27) rfl _ _ (w.heap.size + 1) 27 #[.slice B0 x.live.length d0, .slice B1 x.live.length d1, .slice none 0 0] (0, 0) _ rfl hr9 Try.underlying27 rfl HI.out) rfl ⟨⟨_, rfl, ?_⟩, ?_⟩
  · refine DzA.mono (base := z.heap.size) ?_ (by omega)
    rw [HA.out]
    refine DzA.set (DzA.set (DzA.set (show DzA _ z.heap.size _ ⟨x.live, x.live, []⟩ from ⟨_, _, _, rfl, O0_4.out, O1_4.out, OwnG.nil _ _, D1_0_4.out.symm⟩) ?_ _) ?_ _) ?_ _ <;> (show w.heap.size + 1 < z.heap.size; omega)
  · exact ((hbn.setCell (Nat.le_succ _) _).setCell (Nat.le_succ _) _).setCell (Nat.le_succ _) _
end Go.Proofs.Ytkinegapnknhiaa
