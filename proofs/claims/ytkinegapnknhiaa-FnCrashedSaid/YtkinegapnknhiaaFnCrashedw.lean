/-
  With all ops kept the files are those that were seen, with none those that were synced, and nothing is left to sync (law FnCrashed, for every code).
-/
import Derived.Test.YtkinegapnknhiaaBase
import Derived.Test.YtkinegapnknhiaaGb
import Derived.Deep.Cut
import Derived.Deep.CutRange
namespace Go.Proofs.Ytkinegapnknhiaa.fnCrashed
open Go.ChangeShapes Go.WideShapes Go.ChangeAt Go.RowKit Go.Joins
open Go.ChangeMaps (open_string shut_string)
set_option linter.unusedSimpArgs false
set_option linter.unusedVariables false

set_option maxRecDepth 100000 in
set_option maxHeartbeats 8000000 in
theorem walk (a0 : Option Addr) (len0 cap0 : Nat) (z0 : List Int) (w : World) (w0 : IsRow .u8 w a0 len0 cap0 z0) :
    Calls Try.prog 3 #[.slice a0 len0 cap0] w fun e w' => e = .returned (.bool true) ∧ Below w.heap.size w w' := by
  have hb := Below.refl w.heap.size w
  by_cases hbig : (1048576 : Int) < len0
  · have hbig : decide ((1048576 : Int) < len0) = true := by simpa using hbig
    go_enter Try.func3, Try.ntmps3
    go_wp2_with fail
    refine (lawsBig a0 len0 cap0 w).mono ?_
    rintro e w' ⟨rfl, rfl⟩
    go_wp2
    go_ret
    exact ⟨rfl, Below.refl _ _⟩
  have hbig : decide ((1048576 : Int) < len0) = false := by simpa using hbig
  go_enter Try.func3, Try.ntmps3
  go_wp2_with fail
  refine (lawsBig a0 len0 cap0 w).mono ?_
  rintro e w' ⟨rfl, rfl⟩
  clear hbig
  go_wp2_with fail
  refine (drawDiskOk a0 len0 cap0 z0 _ w0).mono ?_
  rintro e y1 ⟨v, rfl, ⟨u0, u1, u2, x, rfl, hro, hsm⟩, hq1⟩
  obtain ⟨B0, n0, d0, B1, n1, d1, B2, n2, d2, rfl, rfl, rfl, t0, t1, t2⟩ := hro
  obtain rfl : x.live.length = n0 := t0.1
  obtain rfl : x.safe.length = n1 := t1.1
  obtain rfl : x.ops.length = n2 := t2.1
  have HSZ := Lib.hid (hsm.sz (by omega))
  have HSM := Lib.hid hsm
  clear hsm
  have hb := hb.trans (hq1.mono hb.size)
  have hal := (Below.refl y1.heap.size y1).alloc (Nat.le_refl _) (.cells #[.slice B0 x.live.length d0, .slice B1 x.safe.length d1, .slice B2 x.ops.length d2] 27)
  have t0 := t0.below FzR.stays hal
  have t1 := t1.below FzR.stays hal
  have t2 := t2.below OzR.stays hal
  have rd := Row.new y1 27 #[.slice B0 x.live.length d0, .slice B1 x.safe.length d1, .slice B2 x.ops.length d2]
  have hb := hb.alloc hb.size (.cells #[.slice B0 x.live.length d0, .slice B1 x.safe.length d1, .slice B2 x.ops.length d2] 27)
  go_upto_region 4 with fail
  generalize y1.alloc (.cells #[.slice B0 x.live.length d0, .slice B1 x.safe.length d1, .slice B2 x.ops.length d2] 27) = z2 at *
  clear hal
  generalize y1.heap.size = grd at *
  obtain ⟨⟨krd_0, krd_1, krd_2⟩, -⟩ := rd.three
  go_cut [19] from 15 to 20 (fun s19 wx => s19 = .bool false ∧ Below z2.heap.size z2 wx)
  case first =>
    have hc0 : Below z2.heap.size z2 z2.drew := (Below.refl _ z2).drew
    refine wp_region_noPanic ?_
    refine wp_region_held_drew (S := (fun w' => w'.cell? ⟨grd, 0, none⟩ = some (.slice B0 x.live.length d0) ∧ w'.cell? ⟨grd, 1, none⟩ = some (.slice B1 x.safe.length d1) ∧ w'.cell? ⟨grd, 2, none⟩ = some (.slice B2 x.ops.length d2))) (by kernel_rfl) ⟨krd_0, krd_1, krd_2⟩ (fun hHeld => ?_)
    generalize z2.drew = u0 at *
    refine wpAnyH_take (i := 0) (v := ?v1) rfl (by kernel_rfl) (by kernel_rfl) (by kernel_rfl) (fun _ _ _ h => h) (Or.inl ⟨by rfl, ?hy1⟩) hHeld ?rest1
    case hy1 => (intro w' hSw; (try dsimp only at hSw); first | (go_simp; done) | (go_simp; with_reducible rfl))
    simp only [Act.put, List.getElem_toArray, List.getElem_cons_zero, List.getElem_cons_succ, List.setIfInBounds_toArray, List.set_cons_zero, List.set_cons_succ]
    refine wpAnyH_take (i := 2) (v := ?v2) rfl (by kernel_rfl) (by kernel_rfl) (by kernel_rfl) (fun _ _ _ h => h) (Or.inl ⟨by rfl, ?hy2⟩) hHeld ?rest2
    case hy2 => (intro w' hSw; (try dsimp only at hSw); first | (go_simp; done) | (go_simp; with_reducible rfl))
    simp only [Act.put, List.getElem_toArray, List.getElem_cons_zero, List.getElem_cons_succ, List.setIfInBounds_toArray, List.set_cons_zero, List.set_cons_succ]
    refine wpAnyH_ready (rs := [1]) (by kernel_rfl) (by simp) ?_
    refine AllReadyH.cons rfl (fun K hK => ?_) AllReadyH.nil
    go_simp
    go_at_call 14
    refine (implDiskOk x B0 _ d0 B1 _ d1 B2 _ d2 _ _ (t0.below FzR.stays hc0) (t1.below FzR.stays hc0) (t2.below OzR.stays hc0) HSZ.out).mono ?_
    rintro e u1 ⟨rfl, hq⟩
    have hc1 := hc0.trans (hq.mono hc0.size)
    clear hq
    refine hK.out _ _ ⟨below_keep hc1 _ _ krd_0, below_keep hc1 _ _ krd_1, below_keep hc1 _ _ krd_2⟩ (fun hHeld => ?_)
    clear hK K
    (try simp only [Act.put, List.getElem_toArray, List.getElem_cons_zero, List.getElem_cons_succ, List.setIfInBounds_toArray, List.set_cons_zero, List.set_cons_succ])
    refine wpAnyH_ready (rs := [3]) (by kernel_rfl) (by simp) ?_
    refine AllReadyH.cons rfl (fun K hK => ?_) AllReadyH.nil
    go_simp
    go_at_call 15
    refine (specDiskOk x B0 _ d0 B1 _ d1 B2 _ d2 _ _ (t0.below FzR.stays hc1) (t1.below FzR.stays hc1) (t2.below OzR.stays hc1) HSZ.out).mono ?_
    rintro e u2 ⟨rfl, hq⟩
    have hc2 := hc1.trans (hq.mono hc1.size)
    clear hq
    refine hK.out _ _ ⟨below_keep hc2 _ _ krd_0, below_keep hc2 _ _ krd_1, below_keep hc2 _ _ krd_2⟩ (fun hHeld => ?_)
    clear hK K
    (try simp only [Act.put, List.getElem_toArray, List.getElem_cons_zero, List.getElem_cons_succ, List.setIfInBounds_toArray, List.set_cons_zero, List.set_cons_succ])
    refine wpAnyH_take (i := 4) (v := ?v3) rfl (by kernel_rfl) (by kernel_rfl) (by kernel_rfl) (fun _ _ _ h => h) (Or.inl ⟨by rfl, ?hy3⟩) hHeld ?rest3
    case hy3 => (intro w' hSw; (try dsimp only at hSw); first | (go_simp; done) | (go_simp; with_reducible rfl))
    simp only [Act.put, List.getElem_toArray, List.getElem_cons_zero, List.getElem_cons_succ, List.setIfInBounds_toArray, List.set_cons_zero, List.set_cons_succ]
    refine wpAnyH_done (by kernel_rfl) ?_ _
    refine NoPanic.normal ?_
    clear hHeld
    generalize diskB x = bb at *
    have hbb : (bb != bb) = false := by cases bb <;> rfl
    go_wp2_with fail
    go_meet
    case rel => exact ⟨rfl, hc2⟩
  case rest =>
    obtain ⟨rfl, hbc⟩ := hcut
    have t0 := t0.below FzR.stays hbc
    have t1 := t1.below FzR.stays hbc
    have t2 := t2.below OzR.stays hbc
    have rd := rd.below hbc
    have hb := hb.trans (hbc.mono hb.size)
    clear hbc
    generalize hwc : wc = y9 at *
    clear hwc wc
    obtain ⟨⟨krd_0, krd_1, krd_2⟩, -⟩ := rd.three
    obtain ⟨i0, hi, hz0, hz1, hz2⟩ := info_parts infoIntI
    have I1 := Lib.hid hi
    have I2 := Lib.hid hz0
    have I3 := Lib.hid hz1
    have I4 := Lib.hid hz2
    clear hi hz0 hz1 hz2
    have hln : x.ops.length ≤ 1048576 := (sz_lens HSZ.out).2.2
    have HO := Lib.hid (OwnI.lit y9 (Nat.le_refl _))
    have hb0 := (Below.refl y9.heap.size y9).alloc (Nat.le_refl _) (.cells #[] 2)
    have hd := rd
    have T0 := t0
    have T1 := t1
    have T2 := t2
    clear krd_0 krd_1 krd_2
    go_wp2_with fail
    go_loopw [4, 5] (fun v i wr => ∃ k : Nat, k ≤ x.ops.length ∧ i = .int .i64 k ∧ Hid (OwnI wr y9.heap.size v (allP k)) ∧ Below y9.heap.size y9 wr) (fun _ i _ => x.ops.length - (intOf i).toNat)
    case atStart => exact ⟨0, by omega, rfl, HO, hb0⟩
    case round =>
      clear HO hb0
      obtain ⟨k, hk, rfl, hown, hbr⟩ := hrel
      obtain ⟨⟨k0, k1, k2⟩, -⟩ := (rd.below hbr).three
      by_cases hlt : k < x.ops.length
      · have i1 : (k : Int) < x.ops.length := by omega
        go_wp2_with (at_builtin; refine wpList_append_own _ rfl _ _ 30 rfl y9.heap.size 2 i0 (.int .i64 0) 1 8 Try.underlying30 I1.out I2.out I3.out I4.out rfl (by decide) _ _ _ rfl (World.ownsRow.alloc hown.out _) ⟨_, 0, none⟩ 1 1 [.int .i64 k] rfl rfl ?c1 ?c2 ?c3 ?c4 ?c5 ?_)
        case c1 => exact cell_one_new _ _ _
        case c2 => intro u hu; simp at hu; subst hu; rfl
        case c3 => rw [allP_len]; unfold maxLen; omega
        case c4 => rw [allP_len]; omega
        case c5 => have := hbr.size; simp; omega
        intro v' w3 hown3 hgrow _
        have R3 := Lib.hid (OwnI.app hown.out hbr.size hown3 hgrow)
        have hbn := hbr.trans R3.out.2
        clear hown3 hgrow hown
        rw [← allP_succ] at R3
        go_wp2_with fail
        go_roundw
        case rel => exact ⟨k + 1, by omega, by go_num, Lib.hid R3.out.1, hbn⟩
        case measure => simp [intOf]; omega
      · obtain rfl : k = x.ops.length := by omega
        obtain ⟨AK, cK, rfl, -, -, hk9⟩ := hown.out.sl
        have HK := Lib.hid (hk9.stays IntR.stays (ok' := fun _ => True) (fun _ _ => trivial) fun _ _ _ h => h)
        clear hown hk9
        have t0 := t0.below FzR.stays hbr
        have t1 := t1.below FzR.stays hbr
        have t2 := t2.below OzR.stays hbr
        have rd := rd.below hbr
        have hb := hb.trans (hbr.mono hb.size)
        clear T0 T1 T2 hd hbr
        have hnn : (allP x.ops.length).length ≤ 1048576 := by rw [allP_len]; exact hln
        generalize (allP x.ops.length).length = nn at *
        clear k0 k1 k2
        obtain ⟨⟨krd_0, krd_1, krd_2⟩, -⟩ := rd.three
        cases e0 : diskB x
        · have CA := Lib.hid (crash_bad e0 (allP x.ops.length) 1099511627776)
          have CN := Lib.hid (crash_bad e0 [] 0)
          have e1 : ((false : Bool) != false) = false := rfl
          go_wp2_with fail
          refine (implCrash x AK nn cK (allP x.ops.length) 1099511627776 B0 _ d0 B1 _ d1 B2 _ d2 _ _ _ t0 t1 t2 HK.out HSZ.out hnn).mono ?_
          rintro e y3 ⟨⟨v, rfl, hv⟩, hq3⟩
          rw [CA.out.1]
          rw [CA.out.2] at hv
          obtain ⟨q0, q1, q2, rfl, h0, h1, h2, -⟩ := hv
          obtain ⟨Ea0, fa0, rfl, -, -, a0⟩ := (show OwnZ _ _ q0 _ from h0).sl
          obtain ⟨Ea1, fa1, rfl, -, -, a1⟩ := (show OwnZ _ _ q1 _ from h1).sl
          obtain ⟨Ea2, fa2, rfl, -, -, a2⟩ := (show OwnO _ _ q2 _ from h2).sl
          clear h0 h1 h2
          have t0 := t0.below FzR.stays hq3
          have t1 := t1.below FzR.stays hq3
          have t2 := t2.below OzR.stays hq3
          have rd := rd.below hq3
          have hb := hb.trans (hq3.mono hb.size)
          clear krd_0 krd_1 krd_2
          obtain ⟨⟨krd_0, krd_1, krd_2⟩, -⟩ := rd.three
          have hal := (Below.refl y3.heap.size y3).alloc (Nat.le_refl _) (.cells #[.slice Ea0 0 fa0, .slice Ea1 0 fa1, .slice Ea2 0 fa2] 27)
          have t0 := t0.below FzR.stays hal
          have t1 := t1.below FzR.stays hal
          have t2 := t2.below OzR.stays hal
          have a0 := a0.below FzR.stays hal
          have a1 := a1.below FzR.stays hal
          have a2 := a2.below OzR.stays hal
          have rd := rd.below hal
          have ra := Row.new y3 27 #[.slice Ea0 0 fa0, .slice Ea1 0 fa1, .slice Ea2 0 fa2]
          have hb := hb.alloc hb.size (.cells #[.slice Ea0 0 fa0, .slice Ea1 0 fa1, .slice Ea2 0 fa2] 27)
          clear krd_0 krd_1 krd_2
          obtain ⟨⟨krd_0, krd_1, krd_2⟩, -⟩ := rd.three
          go_wp2_with fail
          generalize y3.alloc (.cells #[.slice Ea0 0 fa0, .slice Ea1 0 fa1, .slice Ea2 0 fa2] 27) = z4 at *
          clear hal
          generalize y3.heap.size = gra at *
          clear krd_0 krd_1 krd_2
          obtain ⟨⟨krd_0, krd_1, krd_2⟩, -⟩ := rd.three
          refine (implCrash x none 0 0 [] 0 B0 _ d0 B1 _ d1 B2 _ d2 _ (fun _ => True) _ t0 t1 t2 ⟨rfl, fun h => by omega⟩ HSZ.out (by omega)).mono ?_
          rintro e y5 ⟨⟨v, rfl, hv⟩, hq5⟩
          rw [CN.out.1]
          rw [CN.out.2] at hv
          obtain ⟨q0, q1, q2, rfl, h0, h1, h2, -⟩ := hv
          obtain ⟨En0, fn0, rfl, -, -, n0⟩ := (show OwnZ _ _ q0 _ from h0).sl
          obtain ⟨En1, fn1, rfl, -, -, n1⟩ := (show OwnZ _ _ q1 _ from h1).sl
          obtain ⟨En2, fn2, rfl, -, -, n2⟩ := (show OwnO _ _ q2 _ from h2).sl
          clear h0 h1 h2
          have t0 := t0.below FzR.stays hq5
          have t1 := t1.below FzR.stays hq5
          have t2 := t2.below OzR.stays hq5
          have a0 := a0.below FzR.stays hq5
          have a1 := a1.below FzR.stays hq5
          have a2 := a2.below OzR.stays hq5
          have rd := rd.below hq5
          have ra := ra.below hq5
          have hb := hb.trans (hq5.mono hb.size)
          clear krd_0 krd_1 krd_2
          obtain ⟨⟨krd_0, krd_1, krd_2⟩, -⟩ := rd.three
          have hal := (Below.refl y5.heap.size y5).alloc (Nat.le_refl _) (.cells #[.slice En0 0 fn0, .slice En1 0 fn1, .slice En2 0 fn2] 27)
          have t0 := t0.below FzR.stays hal
          have t1 := t1.below FzR.stays hal
          have t2 := t2.below OzR.stays hal
          have a0 := a0.below FzR.stays hal
          have a1 := a1.below FzR.stays hal
          have a2 := a2.below OzR.stays hal
          have n0 := n0.below FzR.stays hal
          have n1 := n1.below FzR.stays hal
          have n2 := n2.below OzR.stays hal
          have rd := rd.below hal
          have ra := ra.below hal
          have rn := Row.new y5 27 #[.slice En0 0 fn0, .slice En1 0 fn1, .slice En2 0 fn2]
          have hb := hb.alloc hb.size (.cells #[.slice En0 0 fn0, .slice En1 0 fn1, .slice En2 0 fn2] 27)
          clear krd_0 krd_1 krd_2
          obtain ⟨⟨krd_0, krd_1, krd_2⟩, -⟩ := rd.three
          go_wp2_with fail
          generalize y5.alloc (.cells #[.slice En0 0 fn0, .slice En1 0 fn1, .slice En2 0 fn2] 27) = z6 at *
          clear hal
          generalize y5.heap.size = grn at *
          clear krd_0 krd_1 krd_2
          obtain ⟨⟨krd_0, krd_1, krd_2⟩, -⟩ := rd.three
          refine (implDiskOk x B0 _ d0 B1 _ d1 B2 _ d2 _ _ t0 t1 t2 HSZ.out).mono ?_
          rintro e y7 ⟨rfl, hq7⟩
          rw [e0]
          have t0 := t0.below FzR.stays hq7
          have t1 := t1.below FzR.stays hq7
          have t2 := t2.below OzR.stays hq7
          have a0 := a0.below FzR.stays hq7
          have a1 := a1.below FzR.stays hq7
          have a2 := a2.below OzR.stays hq7
          have n0 := n0.below FzR.stays hq7
          have n1 := n1.below FzR.stays hq7
          have n2 := n2.below OzR.stays hq7
          have rd := rd.below hq7
          have ra := ra.below hq7
          have rn := rn.below hq7
          have hb := hb.trans (hq7.mono hb.size)
          clear krd_0 krd_1 krd_2
          obtain ⟨⟨kra_0, kra_1, kra_2⟩, -⟩ := ra.three
          obtain ⟨⟨krn_0, krn_1, krn_2⟩, -⟩ := rn.three
          obtain ⟨⟨krd_0, krd_1, krd_2⟩, -⟩ := rd.three
          go_wp2_with fail
          go_ret
          exact ⟨rfl, hb⟩
        · have CA := Lib.hid (crash_all e0 (t := 1099511627776) (by omega) (fun o ho => by have := data_small HSM.out.2.2 o ho; omega))
          have CN := Lib.hid (crash_nil e0)
          have CS := Lib.hid (show syncD x = ⟨x.live, x.live, []⟩ by unfold syncD; rw [e0]; rfl)
          have e1 : ((true : Bool) != true) = false := rfl
          go_wp2_with fail
          refine (implCrash x AK nn cK (allP x.ops.length) 1099511627776 B0 _ d0 B1 _ d1 B2 _ d2 _ _ _ t0 t1 t2 HK.out HSZ.out hnn).mono ?_
          rintro e y3 ⟨⟨v, rfl, hv⟩, hq3⟩
          rw [CA.out.1]
          rw [CA.out.2] at hv
          obtain ⟨q0, q1, q2, rfl, h0, h1, h2, -⟩ := hv
          obtain ⟨Ea0, fa0, rfl, -, -, a0⟩ := (show OwnZ _ _ q0 _ from h0).sl
          obtain ⟨Ea1, fa1, rfl, -, -, a1⟩ := (show OwnZ _ _ q1 _ from h1).sl
          obtain ⟨Ea2, fa2, rfl, -, -, a2⟩ := (show OwnO _ _ q2 _ from h2).sl
          clear h0 h1 h2
          have t0 := t0.below FzR.stays hq3
          have t1 := t1.below FzR.stays hq3
          have t2 := t2.below OzR.stays hq3
          have rd := rd.below hq3
          have hb := hb.trans (hq3.mono hb.size)
          clear krd_0 krd_1 krd_2
          obtain ⟨⟨krd_0, krd_1, krd_2⟩, -⟩ := rd.three
          have hal := (Below.refl y3.heap.size y3).alloc (Nat.le_refl _) (.cells #[.slice Ea0 x.live.length fa0, .slice Ea1 x.live.length fa1, .slice Ea2 0 fa2] 27)
          have t0 := t0.below FzR.stays hal
          have t1 := t1.below FzR.stays hal
          have t2 := t2.below OzR.stays hal
          have a0 := a0.below FzR.stays hal
          have a1 := a1.below FzR.stays hal
          have a2 := a2.below OzR.stays hal
          have rd := rd.below hal
          have ra := Row.new y3 27 #[.slice Ea0 x.live.length fa0, .slice Ea1 x.live.length fa1, .slice Ea2 0 fa2]
          have hb := hb.alloc hb.size (.cells #[.slice Ea0 x.live.length fa0, .slice Ea1 x.live.length fa1, .slice Ea2 0 fa2] 27)
          clear krd_0 krd_1 krd_2
          obtain ⟨⟨krd_0, krd_1, krd_2⟩, -⟩ := rd.three
          go_wp2_with fail
          generalize y3.alloc (.cells #[.slice Ea0 x.live.length fa0, .slice Ea1 x.live.length fa1, .slice Ea2 0 fa2] 27) = z4 at *
          clear hal
          generalize y3.heap.size = gra at *
          clear krd_0 krd_1 krd_2
          obtain ⟨⟨krd_0, krd_1, krd_2⟩, -⟩ := rd.three
          refine (implCrash x none 0 0 [] 0 B0 _ d0 B1 _ d1 B2 _ d2 _ (fun _ => True) _ t0 t1 t2 ⟨rfl, fun h => by omega⟩ HSZ.out (by omega)).mono ?_
          rintro e y5 ⟨⟨v, rfl, hv⟩, hq5⟩
          rw [CN.out.1]
          rw [CN.out.2] at hv
          obtain ⟨q0, q1, q2, rfl, h0, h1, h2, -⟩ := hv
          obtain ⟨En0, fn0, rfl, -, -, n0⟩ := (show OwnZ _ _ q0 _ from h0).sl
          obtain ⟨En1, fn1, rfl, -, -, n1⟩ := (show OwnZ _ _ q1 _ from h1).sl
          obtain ⟨En2, fn2, rfl, -, -, n2⟩ := (show OwnO _ _ q2 _ from h2).sl
          clear h0 h1 h2
          have t0 := t0.below FzR.stays hq5
          have t1 := t1.below FzR.stays hq5
          have t2 := t2.below OzR.stays hq5
          have a0 := a0.below FzR.stays hq5
          have a1 := a1.below FzR.stays hq5
          have a2 := a2.below OzR.stays hq5
          have rd := rd.below hq5
          have ra := ra.below hq5
          have hb := hb.trans (hq5.mono hb.size)
          clear krd_0 krd_1 krd_2
          obtain ⟨⟨krd_0, krd_1, krd_2⟩, -⟩ := rd.three
          have hal := (Below.refl y5.heap.size y5).alloc (Nat.le_refl _) (.cells #[.slice En0 x.safe.length fn0, .slice En1 x.safe.length fn1, .slice En2 0 fn2] 27)
          have t0 := t0.below FzR.stays hal
          have t1 := t1.below FzR.stays hal
          have t2 := t2.below OzR.stays hal
          have a0 := a0.below FzR.stays hal
          have a1 := a1.below FzR.stays hal
          have a2 := a2.below OzR.stays hal
          have n0 := n0.below FzR.stays hal
          have n1 := n1.below FzR.stays hal
          have n2 := n2.below OzR.stays hal
          have rd := rd.below hal
          have ra := ra.below hal
          have rn := Row.new y5 27 #[.slice En0 x.safe.length fn0, .slice En1 x.safe.length fn1, .slice En2 0 fn2]
          have hb := hb.alloc hb.size (.cells #[.slice En0 x.safe.length fn0, .slice En1 x.safe.length fn1, .slice En2 0 fn2] 27)
          clear krd_0 krd_1 krd_2
          obtain ⟨⟨krd_0, krd_1, krd_2⟩, -⟩ := rd.three
          go_wp2_with fail
          generalize y5.alloc (.cells #[.slice En0 x.safe.length fn0, .slice En1 x.safe.length fn1, .slice En2 0 fn2] 27) = z6 at *
          clear hal
          generalize y5.heap.size = grn at *
          clear krd_0 krd_1 krd_2
          obtain ⟨⟨krd_0, krd_1, krd_2⟩, -⟩ := rd.three
          refine (implDiskOk x B0 _ d0 B1 _ d1 B2 _ d2 _ _ t0 t1 t2 HSZ.out).mono ?_
          rintro e y7 ⟨rfl, hq7⟩
          rw [e0]
          have t0 := t0.below FzR.stays hq7
          have t1 := t1.below FzR.stays hq7
          have t2 := t2.below OzR.stays hq7
          have a0 := a0.below FzR.stays hq7
          have a1 := a1.below FzR.stays hq7
          have a2 := a2.below OzR.stays hq7
          have n0 := n0.below FzR.stays hq7
          have n1 := n1.below FzR.stays hq7
          have n2 := n2.below OzR.stays hq7
          have rd := rd.below hq7
          have ra := ra.below hq7
          have rn := rn.below hq7
          have hb := hb.trans (hq7.mono hb.size)
          clear krd_0 krd_1 krd_2
          obtain ⟨⟨kra_0, kra_1, kra_2⟩, -⟩ := ra.three
          obtain ⟨⟨krn_0, krn_1, krn_2⟩, -⟩ := rn.three
          obtain ⟨⟨krd_0, krd_1, krd_2⟩, -⟩ := rd.three
          go_wp2_with fail
          refine (implSync x B0 _ d0 B1 _ d1 B2 _ d2 _ _ t0 t1 t2 HSZ.out).mono ?_
          rintro e y8 ⟨⟨v, rfl, hv⟩, hq8⟩
          rw [CS.out] at hv
          obtain ⟨q0, q1, q2, rfl, h0, h1, h2, -⟩ := hv
          obtain ⟨Es0, fs0, rfl, -, -, s0⟩ := (show OwnZ _ _ q0 _ from h0).sl
          obtain ⟨Es1, fs1, rfl, -, -, s1⟩ := (show OwnZ _ _ q1 _ from h1).sl
          obtain ⟨Es2, fs2, rfl, -, -, s2⟩ := (show OwnO _ _ q2 _ from h2).sl
          clear h0 h1 h2
          have t0 := t0.below FzR.stays hq8
          have t1 := t1.below FzR.stays hq8
          have t2 := t2.below OzR.stays hq8
          have a0 := a0.below FzR.stays hq8
          have a1 := a1.below FzR.stays hq8
          have a2 := a2.below OzR.stays hq8
          have n0 := n0.below FzR.stays hq8
          have n1 := n1.below FzR.stays hq8
          have n2 := n2.below OzR.stays hq8
          have rd := rd.below hq8
          have ra := ra.below hq8
          have rn := rn.below hq8
          have hb := hb.trans (hq8.mono hb.size)
          clear kra_0 kra_1 kra_2 krn_0 krn_1 krn_2 krd_0 krd_1 krd_2
          obtain ⟨⟨krd_0, krd_1, krd_2⟩, -⟩ := rd.three
          have hal := (Below.refl y8.heap.size y8).alloc (Nat.le_refl _) (.cells #[.slice Es0 x.live.length fs0, .slice Es1 x.live.length fs1, .slice Es2 0 fs2] 27)
          have t0 := t0.below FzR.stays hal
          have t1 := t1.below FzR.stays hal
          have t2 := t2.below OzR.stays hal
          have a0 := a0.below FzR.stays hal
          have a1 := a1.below FzR.stays hal
          have a2 := a2.below OzR.stays hal
          have n0 := n0.below FzR.stays hal
          have n1 := n1.below FzR.stays hal
          have n2 := n2.below OzR.stays hal
          have s0 := s0.below FzR.stays hal
          have s1 := s1.below FzR.stays hal
          have s2 := s2.below OzR.stays hal
          have rd := rd.below hal
          have ra := ra.below hal
          have rn := rn.below hal
          have rs := Row.new y8 27 #[.slice Es0 x.live.length fs0, .slice Es1 x.live.length fs1, .slice Es2 0 fs2]
          have hb := hb.alloc hb.size (.cells #[.slice Es0 x.live.length fs0, .slice Es1 x.live.length fs1, .slice Es2 0 fs2] 27)
          clear krd_0 krd_1 krd_2
          obtain ⟨⟨kra_0, kra_1, kra_2⟩, -⟩ := ra.three
          obtain ⟨⟨krn_0, krn_1, krn_2⟩, -⟩ := rn.three
          obtain ⟨⟨krd_0, krd_1, krd_2⟩, -⟩ := rd.three
          go_wp2_with fail
          generalize y8.alloc (.cells #[.slice Es0 x.live.length fs0, .slice Es1 x.live.length fs1, .slice Es2 0 fs2] 27) = z9 at *
          clear hal
          generalize y8.heap.size = grs at *
          clear kra_0 kra_1 kra_2 krn_0 krn_1 krn_2 krd_0 krd_1 krd_2
          obtain ⟨⟨kra_0, kra_1, kra_2⟩, -⟩ := ra.three
          obtain ⟨⟨krn_0, krn_1, krn_2⟩, -⟩ := rn.three
          obtain ⟨⟨krs_0, krs_1, krs_2⟩, -⟩ := rs.three
          obtain ⟨⟨krd_0, krd_1, krd_2⟩, -⟩ := rd.three
          refine (lawsSameFiles _ _ _ _ _ _ x.live x.live _ _ _ a0 t0 (sz_lens HSZ.out).1 (sz_lens HSZ.out).1).mono ?_
          rintro e y10 ⟨rfl, hq10⟩
          rw [sameF_iff.2 rfl]
          have t0 := t0.below FzR.stays hq10
          have t1 := t1.below FzR.stays hq10
          have t2 := t2.below OzR.stays hq10
          have a0 := a0.below FzR.stays hq10
          have a1 := a1.below FzR.stays hq10
          have a2 := a2.below OzR.stays hq10
          have n0 := n0.below FzR.stays hq10
          have n1 := n1.below FzR.stays hq10
          have n2 := n2.below OzR.stays hq10
          have s0 := s0.below FzR.stays hq10
          have s1 := s1.below FzR.stays hq10
          have s2 := s2.below OzR.stays hq10
          have rd := rd.below hq10
          have ra := ra.below hq10
          have rn := rn.below hq10
          have rs := rs.below hq10
          have hb := hb.trans (hq10.mono hb.size)
          clear kra_0 kra_1 kra_2 krn_0 krn_1 krn_2 krs_0 krs_1 krs_2 krd_0 krd_1 krd_2
          obtain ⟨⟨kra_0, kra_1, kra_2⟩, -⟩ := ra.three
          obtain ⟨⟨krn_0, krn_1, krn_2⟩, -⟩ := rn.three
          obtain ⟨⟨krs_0, krs_1, krs_2⟩, -⟩ := rs.three
          obtain ⟨⟨krd_0, krd_1, krd_2⟩, -⟩ := rd.three
          go_wp2_with fail
          refine (lawsSameFiles _ _ _ _ _ _ x.live x.live _ _ _ a1 t0 (sz_lens HSZ.out).1 (sz_lens HSZ.out).1).mono ?_
          rintro e y11 ⟨rfl, hq11⟩
          rw [sameF_iff.2 rfl]
          have t0 := t0.below FzR.stays hq11
          have t1 := t1.below FzR.stays hq11
          have t2 := t2.below OzR.stays hq11
          have a0 := a0.below FzR.stays hq11
          have a1 := a1.below FzR.stays hq11
          have a2 := a2.below OzR.stays hq11
          have n0 := n0.below FzR.stays hq11
          have n1 := n1.below FzR.stays hq11
          have n2 := n2.below OzR.stays hq11
          have s0 := s0.below FzR.stays hq11
          have s1 := s1.below FzR.stays hq11
          have s2 := s2.below OzR.stays hq11
          have rd := rd.below hq11
          have ra := ra.below hq11
          have rn := rn.below hq11
          have rs := rs.below hq11
          have hb := hb.trans (hq11.mono hb.size)
          clear kra_0 kra_1 kra_2 krn_0 krn_1 krn_2 krs_0 krs_1 krs_2 krd_0 krd_1 krd_2
          obtain ⟨⟨kra_0, kra_1, kra_2⟩, -⟩ := ra.three
          obtain ⟨⟨krn_0, krn_1, krn_2⟩, -⟩ := rn.three
          obtain ⟨⟨krs_0, krs_1, krs_2⟩, -⟩ := rs.three
          obtain ⟨⟨krd_0, krd_1, krd_2⟩, -⟩ := rd.three
          go_wp2_with fail
          refine (lawsSameFiles _ _ _ _ _ _ x.safe x.safe _ _ _ n0 t1 (sz_lens HSZ.out).2.1 (sz_lens HSZ.out).2.1).mono ?_
          rintro e y12 ⟨rfl, hq12⟩
          rw [sameF_iff.2 rfl]
          have t0 := t0.below FzR.stays hq12
          have t1 := t1.below FzR.stays hq12
          have t2 := t2.below OzR.stays hq12
          have a0 := a0.below FzR.stays hq12
          have a1 := a1.below FzR.stays hq12
          have a2 := a2.below OzR.stays hq12
          have n0 := n0.below FzR.stays hq12
          have n1 := n1.below FzR.stays hq12
          have n2 := n2.below OzR.stays hq12
          have s0 := s0.below FzR.stays hq12
          have s1 := s1.below FzR.stays hq12
          have s2 := s2.below OzR.stays hq12
          have rd := rd.below hq12
          have ra := ra.below hq12
          have rn := rn.below hq12
          have rs := rs.below hq12
          have hb := hb.trans (hq12.mono hb.size)
          clear kra_0 kra_1 kra_2 krn_0 krn_1 krn_2 krs_0 krs_1 krs_2 krd_0 krd_1 krd_2
          obtain ⟨⟨kra_0, kra_1, kra_2⟩, -⟩ := ra.three
          obtain ⟨⟨krn_0, krn_1, krn_2⟩, -⟩ := rn.three
          obtain ⟨⟨krs_0, krs_1, krs_2⟩, -⟩ := rs.three
          obtain ⟨⟨krd_0, krd_1, krd_2⟩, -⟩ := rd.three
          go_wp2_with fail
          refine (lawsSameFiles _ _ _ _ _ _ x.live x.live _ _ _ s1 t0 (sz_lens HSZ.out).1 (sz_lens HSZ.out).1).mono ?_
          rintro e y13 ⟨rfl, hq13⟩
          rw [sameF_iff.2 rfl]
          have t0 := t0.below FzR.stays hq13
          have t1 := t1.below FzR.stays hq13
          have t2 := t2.below OzR.stays hq13
          have a0 := a0.below FzR.stays hq13
          have a1 := a1.below FzR.stays hq13
          have a2 := a2.below OzR.stays hq13
          have n0 := n0.below FzR.stays hq13
          have n1 := n1.below FzR.stays hq13
          have n2 := n2.below OzR.stays hq13
          have s0 := s0.below FzR.stays hq13
          have s1 := s1.below FzR.stays hq13
          have s2 := s2.below OzR.stays hq13
          have rd := rd.below hq13
          have ra := ra.below hq13
          have rn := rn.below hq13
          have rs := rs.below hq13
          have hb := hb.trans (hq13.mono hb.size)
          clear kra_0 kra_1 kra_2 krn_0 krn_1 krn_2 krs_0 krs_1 krs_2 krd_0 krd_1 krd_2
          obtain ⟨⟨kra_0, kra_1, kra_2⟩, -⟩ := ra.three
          obtain ⟨⟨krn_0, krn_1, krn_2⟩, -⟩ := rn.three
          obtain ⟨⟨krs_0, krs_1, krs_2⟩, -⟩ := rs.three
          obtain ⟨⟨krd_0, krd_1, krd_2⟩, -⟩ := rd.three
          go_wp2_with fail
          go_ret
          exact ⟨rfl, hb⟩

set_option maxRecDepth 100000 in
theorem lifted (os : Os) (started : os.Started) (H : Type) (enc : TypeId × Value → H) :
    ReturnsInHanded {} Try.checked os 3 .any (Rows.fnCrashedSpec.pre6 enc Try.prog Try.f3 Rows.fnCrashedRow.domain false) (Rows.fnCrashedSpec.post enc Try.prog Try.f3 false true false false) := by
  refine returnsInHanded_of_change (C := Try.checked) own started (by kernel_rfl) Try.func3
    (ChangeSpec.witness6 (enc := enc) (C := Try.checked) false ⟨#[], #[.slice none 0 0], []⟩ 8 (by kernel_rfl) (by kernel_rfl) (by kernel_rfl) (by kernel_rfl)) ?_
  intro W base args ds gs before hval0 hW hcnd _
  have hval : ∀ (j : Nat) t v, Try.f3.params[j]? = some t → args[j]? = some v → Value.okWide Try.prog W .any base t v := hval0
  have hW' := hW
  obtain ⟨p, q, hA0, hV, rfl, hfz, hnd⟩ := hW
  have hA : DataW.TrodAll enc Try.prog W 0 (fun _ => true) true Try.f3.params.toList args.toList ds p := hA0
  rw [Try.params3] at hA hval
  obtain ⟨v0, vs0, d0, ds0, p0, q0, hargs, rfl, rfl, h0, r0⟩ := trodAll_cons hA
  obtain ⟨rfl, rfl, rfl⟩ := trodAll_nil r0
  obtain rfl : args = #[v0] := by cases args; simp_all
  obtain ⟨rfl, rfl⟩ := trodVars_none hV
  have k0' := h0
  have lt0 : ∀ x ∈ p0, x.block < W.heap.size := by obtain ⟨m, hm⟩ := k0'; exact DataW.trod_lt m _ _ _ hm
  obtain ⟨a0, len0, cap0, rfl⟩ := okWide_slice Try.underlying22 (hval 0 22 v0 rfl rfl)
  obtain ⟨z0, w0⟩ := isRow_of_trod Try.underlying22 Try.underlying5 (by kernel_rfl) h0
  clear hA0 hval0
  refine (walk a0 len0 cap0 z0 W w0).mono fun e W' ⟨he, bel⟩ => ?_
  subst he
  exact ⟨_, rfl, _, _, _, [], _, [], hW', trodAll_mk1 (shut_bool Try.underlying4 _), (trodAll_cons_mk (Below.trod laidOut (by kernel_rfl) (of_decide_eq_true (by kernel_rfl)) k0' bel lt0) trodAll_mk0), rfl, bel.frame _, fun h => by cases h⟩

set_option maxRecDepth 100000 in
set_option maxHeartbeats 16000000 in
theorem facts : joinedFacts Try.checked.prog 3 Try.f3 Rows.fnCrashedSpec Rows.fnCrashedRow = true := by
  unfold joinedFacts
  repeat' (with_reducible refine Bool.and_eq_true_iff.2 ⟨?_, ?_⟩)
  all_goals (as_aux_lemma => kernel_rfl)

theorem over : Rows.fnCrashedRow.holds Try.pinned (OpenSpec.ofChange Rows.fnCrashedSpec) :=
  OpenClaim.holds_of_wide 3 Try.f3 rfl rfl rfl rfl rfl rfl rfl ⟨rfl, rfl, rfl, rfl, rfl⟩ rfl rfl rfl rfl rfl (by kernel_rfl) Try.func3 facts
    (of_decide_eq_true (by as_aux_lemma => kernel_rfl)) (by unfold Func.isWrapper; first | (rw [if_pos (by decide +kernel)]; kernel_rfl) | (rw [if_neg (by decide +kernel)]; exact ⟨rfl, rfl⟩))
    (fun os started H enc _ => lifted os started H enc)

theorem proved : Rows.FnCrashedSaid := over
#print axioms proved
end Go.Proofs.Ytkinegapnknhiaa.fnCrashed
