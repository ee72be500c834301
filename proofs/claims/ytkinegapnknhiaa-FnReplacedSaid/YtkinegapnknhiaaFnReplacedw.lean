/-
  A file that is replaced is, behind any loss of power, the old one or the new one (law FnReplaced, for every code).
-/
import Derived.Test.YtkinegapnknhiaaBase
import Derived.Test.YtkinegapnknhiaaGe
import Derived.Deep.Cut
import Derived.Deep.CutRange
namespace Go.Proofs.Ytkinegapnknhiaa.fnReplaced
open Go.ChangeShapes Go.WideShapes Go.ChangeAt Go.RowKit Go.Joins
open Go.ChangeMaps (open_string shut_string)
set_option linter.unusedSimpArgs false
set_option linter.unusedVariables false

set_option maxRecDepth 100000 in
set_option maxHeartbeats 8000000 in
theorem walk (a0 : Option Addr) (len0 cap0 : Nat) (z0 : List Int) (w : World) (w0 : IsRow .u8 w a0 len0 cap0 z0) :
    Calls Try.prog 5 #[.slice a0 len0 cap0] w fun e w' => e = .returned (.bool true) ∧ Below w.heap.size w w' := by
  have hb := Below.refl w.heap.size w
  by_cases hbig : (1048576 : Int) < len0
  · have hbig : decide ((1048576 : Int) < len0) = true := by simpa using hbig
    go_enter Try.func5, Try.ntmps5
    go_wp2_with fail
    refine (lawsBig a0 len0 cap0 w).mono ?_
    rintro e w' ⟨rfl, rfl⟩
    go_wp2
    go_ret
    exact ⟨rfl, Below.refl _ _⟩
  have hlen : (len0 : Int) ≤ 1048576 := by omega
  have HLEN := Lib.hid hlen
  clear hlen
  have hbig : decide ((1048576 : Int) < len0) = false := by simpa using hbig
  go_enter Try.func5, Try.ntmps5
  go_wp2_with fail
  refine (lawsBig a0 len0 cap0 w).mono ?_
  rintro e w' ⟨rfl, rfl⟩
  clear hbig
  go_wp2_with fail
  refine (drawReplace a0 len0 cap0 z0 _ w0).mono ?_
  rintro e y1 ⟨v, rfl, ⟨u0, u1, u2, x0, n, d, rfl, hro, hsm, hns, hds⟩, hq1⟩
  obtain ⟨B0, m0, d0, B1, m1, d1, B2, m2, d2, rfl, rfl, rfl, t0, t1, t2⟩ := hro
  have HSZ0 := Lib.hid (hsm.sz (by omega))
  have HSM := Lib.hid hsm
  have HNS := Lib.hid hns
  have HDS := Lib.hid hds
  have hnz : n.size + 4 ≤ 9223372036854775807 := by omega
  clear hsm hns hds
  have hb := hb.trans (hq1.mono hb.size)
  have hal := (Below.refl y1.heap.size y1).alloc (Nat.le_refl _) (.cells #[.slice B0 m0 d0, .slice B1 m1 d1, .slice B2 m2 d2] 27)
  have t0 := t0.below FzR.stays hal
  have t1 := t1.below FzR.stays hal
  have t2 := t2.below OzR.stays hal
  have HGW := Lib.hid hb.size
  have rd := Row.new y1 27 #[.slice B0 m0 d0, .slice B1 m1 d1, .slice B2 m2 d2]
  have hb := hb.alloc hb.size (.cells #[.slice B0 m0 d0, .slice B1 m1 d1, .slice B2 m2 d2] 27)
  go_wp2_with fail
  generalize y1.alloc (.cells #[.slice B0 m0 d0, .slice B1 m1 d1, .slice B2 m2 d2] 27) = z9 at *
  clear hal
  have hgw : w.heap.size ≤ y1.heap.size := HGW.out
  generalize y1.heap.size = gd at *
  refine (implSync x0 B0 m0 d0 B1 m1 d1 B2 m2 d2 _ _ t0 t1 t2 HSZ0.out).mono ?_
  rintro e y2 ⟨⟨v, rfl, hv⟩, hq2⟩
  have hx1 := (syncD_right x0).1
  have hx2 := (syncD_right x0).2.1
  have hx3 := (syncD_right x0).2.2
  have hxs := (SmD.sync HSM.out).sz (by omega)
  obtain ⟨x, hx⟩ : ∃ g, g = syncD x0 := ⟨_, rfl⟩
  rw [← hx] at hv hx1 hx2 hx3 hxs
  clear hx t0 t1 t2
  have HX1 := Lib.hid hx1
  have HX2 := Lib.hid hx2
  have HX3 := Lib.hid hx3
  have HSZ := Lib.hid hxs
  clear hx1 hx2 hx3 hxs
  have hgd9 : gd < z9.heap.size := lt_of_block rd
  have rd := rd.below hq2
  have hb := hb.trans (hq2.mono hb.size)
  obtain ⟨v0, v1, v2, rfl, k0, k1, k2, -⟩ := hv
  have K0 := Lib.hid k0
  have K1 := Lib.hid k1
  have K2 := Lib.hid k2
  obtain ⟨Et0, ft0, rfl, -, -, -⟩ := (show OwnZ _ _ v0 _ from k0).sl
  obtain ⟨Et1, ft1, rfl, -, -, -⟩ := (show OwnZ _ _ v1 _ from k1).sl
  obtain ⟨Et2, ft2, rfl, -, -, -⟩ := (show OwnO _ _ v2 _ from k2).sl
  clear k0 k1 k2 hq2
  obtain ⟨⟨krd_0, krd_1, krd_2⟩, ⟨frd_0, frd_1, frd_2⟩⟩ := rd.three
  have rdn := ((rd.set 0 (.slice Et0 x.live.length ft0)).set 1 (.slice Et1 x.safe.length ft1)).set 2 (.slice Et2 x.ops.length ft2)
  have hbn := ((hb.setCell (p := ⟨gd, 0, none⟩) hgw (.slice Et0 x.live.length ft0)).setCell (p := ⟨gd, 1, none⟩) hgw (.slice Et1 x.safe.length ft1)).setCell (p := ⟨gd, 2, none⟩) hgw (.slice Et2 x.ops.length ft2)
  have k0 : OwnZ _ _ (.slice Et0 x.live.length ft0) _ := OwnG.set (OwnG.set (OwnG.set K0.out (p := ⟨gd, 0, none⟩) hgd9 (.slice Et0 x.live.length ft0)) (p := ⟨gd, 1, none⟩) hgd9 (.slice Et1 x.safe.length ft1)) (p := ⟨gd, 2, none⟩) hgd9 (.slice Et2 x.ops.length ft2)
  have k1 : OwnZ _ _ (.slice Et1 x.safe.length ft1) _ := OwnG.set (OwnG.set (OwnG.set K1.out (p := ⟨gd, 0, none⟩) hgd9 (.slice Et0 x.live.length ft0)) (p := ⟨gd, 1, none⟩) hgd9 (.slice Et1 x.safe.length ft1)) (p := ⟨gd, 2, none⟩) hgd9 (.slice Et2 x.ops.length ft2)
  have k2 : OwnO _ _ (.slice Et2 x.ops.length ft2) _ := OwnG.set (OwnG.set (OwnG.set K2.out (p := ⟨gd, 0, none⟩) hgd9 (.slice Et0 x.live.length ft0)) (p := ⟨gd, 1, none⟩) hgd9 (.slice Et1 x.safe.length ft1)) (p := ⟨gd, 2, none⟩) hgd9 (.slice Et2 x.ops.length ft2)
  clear rd hb K0 K1 K2
  go_upto_region 5 with fail
  generalize (((y2).setCell ⟨gd, 0, none⟩ (.slice Et0 x.live.length ft0)).setCell ⟨gd, 1, none⟩ (.slice Et1 x.safe.length ft1)).setCell ⟨gd, 2, none⟩ (.slice Et2 x.ops.length ft2) = z8 at *
  clear krd_0 krd_1 krd_2 frd_0 frd_1 frd_2
  have rd : Row z8 gd 27 #[.slice Et0 x.live.length ft0, .slice Et1 x.safe.length ft1, .slice Et2 x.ops.length ft2] := rdn
  have hb := hbn
  clear rdn hbn
  obtain ⟨A0, c0, e0, -, -, t0⟩ := k0.sl
  injection e0 with ea eb ec
  subst ea ec
  clear eb k0
  obtain ⟨A1, c1, e1, -, -, t1⟩ := k1.sl
  injection e1 with ea eb ec
  subst ea ec
  clear eb k1
  obtain ⟨A2, c2, e2, -, -, t2⟩ := k2.sl
  injection e2 with ea eb ec
  subst ea ec
  clear eb k2
  clear hgd9
  obtain ⟨aw, haw⟩ : ∃ g, g = replD x n d := ⟨_, rfl⟩
  have HAW := Lib.hid haw
  obtain ⟨kc, hkc⟩ : ∃ g, g = codeR x n d := ⟨_, rfl⟩
  have HKC := Lib.hid hkc
  clear haw hkc
  have e9 : (kc != kc) = false := by simp
  have e10 : (kc == kc) = true := by simp
  obtain ⟨⟨krd_0, krd_1, krd_2⟩, -⟩ := rd.three
  go_wp2_with fail
  refine (implReplace x n d Et0 _ ft0 Et1 _ ft1 Et2 _ ft2 _ _ t0 t1 t2 HSZ.out (by have := HNS.out; omega) (by have := HDS.out; omega)).mono ?_
  rintro e y3 ⟨⟨v, rfl, hv⟩, hq3⟩
  rw [← HKC.out]
  rw [← HAW.out] at hv
  obtain ⟨q0, q1, q2, rfl, h0, h1, h2, -⟩ := hv
  obtain ⟨Eg0, fg0, rfl, -, -, g0⟩ := (show OwnZ _ _ q0 _ from h0).sl
  obtain ⟨Eg1, fg1, rfl, -, -, g1⟩ := (show OwnZ _ _ q1 _ from h1).sl
  obtain ⟨Eg2, fg2, rfl, -, -, g2⟩ := (show OwnO _ _ q2 _ from h2).sl
  clear h0 h1 h2
  have t0 := t0.below FzR.stays hq3
  have t1 := t1.below FzR.stays hq3
  have t2 := t2.below OzR.stays hq3
  have rd := rd.below hq3
  have hb := hb.trans (hq3.mono hb.size)
  clear krd_0 krd_1 krd_2
  obtain ⟨⟨krd_0, krd_1, krd_2⟩, -⟩ := rd.three
  have hal := (Below.refl y3.heap.size y3).alloc (Nat.le_refl _) (.cells #[.slice Eg0 aw.live.length fg0, .slice Eg1 aw.safe.length fg1, .slice Eg2 aw.ops.length fg2] 27)
  have t0 := t0.below FzR.stays hal
  have t1 := t1.below FzR.stays hal
  have t2 := t2.below OzR.stays hal
  have g0 := g0.below FzR.stays hal
  have g1 := g1.below FzR.stays hal
  have g2 := g2.below OzR.stays hal
  have rd := rd.below hal
  have ra := Row.new y3 27 #[.slice Eg0 aw.live.length fg0, .slice Eg1 aw.safe.length fg1, .slice Eg2 aw.ops.length fg2]
  have hb := hb.alloc hb.size (.cells #[.slice Eg0 aw.live.length fg0, .slice Eg1 aw.safe.length fg1, .slice Eg2 aw.ops.length fg2] 27)
  clear krd_0 krd_1 krd_2
  obtain ⟨⟨krd_0, krd_1, krd_2⟩, -⟩ := rd.three
  go_wp2_with fail
  generalize y3.alloc (.cells #[.slice Eg0 aw.live.length fg0, .slice Eg1 aw.safe.length fg1, .slice Eg2 aw.ops.length fg2] 27) = z24 at *
  clear hal
  generalize y3.heap.size = gra at *
  clear krd_0 krd_1 krd_2
  obtain ⟨⟨krd_0, krd_1, krd_2⟩, -⟩ := rd.three
  refine (specReplace x n d Et0 _ ft0 Et1 _ ft1 Et2 _ ft2 _ _ t0 t1 t2 HSZ.out (by have := HNS.out; omega) (by have := HDS.out; omega)).mono ?_
  rintro e y5 ⟨⟨v, rfl, hv⟩, hq5⟩
  rw [← HKC.out]
  rw [← HAW.out] at hv
  obtain ⟨q0, q1, q2, rfl, h0, h1, h2, -⟩ := hv
  obtain ⟨Es0, fs0, rfl, -, -, s0⟩ := (show OwnZ _ _ q0 _ from h0).sl
  obtain ⟨Es1, fs1, rfl, -, -, s1⟩ := (show OwnZ _ _ q1 _ from h1).sl
  obtain ⟨Es2, fs2, rfl, -, -, s2⟩ := (show OwnO _ _ q2 _ from h2).sl
  clear h0 h1 h2
  have t0 := t0.below FzR.stays hq5
  have t1 := t1.below FzR.stays hq5
  have t2 := t2.below OzR.stays hq5
  have g0 := g0.below FzR.stays hq5
  have g1 := g1.below FzR.stays hq5
  have g2 := g2.below OzR.stays hq5
  have rd := rd.below hq5
  have ra := ra.below hq5
  have hb := hb.trans (hq5.mono hb.size)
  clear krd_0 krd_1 krd_2
  obtain ⟨⟨krd_0, krd_1, krd_2⟩, -⟩ := rd.three
  clear s0 s1 s2
  have hal := (Below.refl y5.heap.size y5).alloc (Nat.le_refl _) (.cells #[.slice Es0 aw.live.length fs0, .slice Es1 aw.safe.length fs1, .slice Es2 aw.ops.length fs2] 27)
  have t0 := t0.below FzR.stays hal
  have t1 := t1.below FzR.stays hal
  have t2 := t2.below OzR.stays hal
  have g0 := g0.below FzR.stays hal
  have g1 := g1.below FzR.stays hal
  have g2 := g2.below OzR.stays hal
  have rd := rd.below hal
  have ra := ra.below hal
  have rs := Row.new y5 27 #[.slice Es0 aw.live.length fs0, .slice Es1 aw.safe.length fs1, .slice Es2 aw.ops.length fs2]
  have hb := hb.alloc hb.size (.cells #[.slice Es0 aw.live.length fs0, .slice Es1 aw.safe.length fs1, .slice Es2 aw.ops.length fs2] 27)
  clear krd_0 krd_1 krd_2
  obtain ⟨⟨krd_0, krd_1, krd_2⟩, -⟩ := rd.three
  go_upto_region 7 with fail
  generalize y5.alloc (.cells #[.slice Es0 aw.live.length fs0, .slice Es1 aw.safe.length fs1, .slice Es2 aw.ops.length fs2] 27) = z26 at *
  clear hal
  generalize y5.heap.size = grs at *
  clear krd_0 krd_1 krd_2
  obtain ⟨⟨krd_0, krd_1, krd_2⟩, -⟩ := rd.three
  clear rs
  clear krd_0 krd_1 krd_2
  obtain ⟨⟨krd_0, krd_1, krd_2⟩, -⟩ := rd.three
  by_cases hc : kc = 0
  · subst hc
    go_wp2_with fail
    refine (implReadFile x Et0 _ ft0 Et1 _ ft1 Et2 _ ft2 (n ++ (⟨#[46, 110, 101, 119]⟩ : ByteArray)) _ _ t0 t1 t2 HSZ.out).mono ?_
    rintro e y7 ⟨rfl, hq7⟩
    rw [show n ++ (⟨#[46, 110, 101, 119]⟩ : ByteArray) = freshN n from rfl]
    have t0 := t0.below FzR.stays hq7
    have t1 := t1.below FzR.stays hq7
    have t2 := t2.below OzR.stays hq7
    have g0 := g0.below FzR.stays hq7
    have g1 := g1.below FzR.stays hq7
    have g2 := g2.below OzR.stays hq7
    have rd := rd.below hq7
    have ra := ra.below hq7
    have hb := hb.trans (hq7.mono hb.size)
    clear krd_0 krd_1 krd_2
    obtain ⟨⟨krd_0, krd_1, krd_2⟩, -⟩ := rd.three
    cases hn : readK x (freshN n)
    · have HR := Lib.hid (replaced HX1.out HX2.out HX3.out HKC.out.symm hn)
      have HRZ := Lib.hid (replD_sz HX1.out HR.out.1 HNS.out HDS.out)
      rw [← HAW.out] at HR HRZ
      have HL2 := Lib.hid (show aw.ops.length = 2 by rw [HR.out.1.1]; rfl)
      clear hn
      go_wp2_with fail
      refine (implReadFile x Et0 _ ft0 Et1 _ ft1 Et2 _ ft2 n _ _ t0 t1 t2 HSZ.out).mono ?_
      rintro e y8 ⟨rfl, hq8⟩
      have t0 := t0.below FzR.stays hq8
      have t1 := t1.below FzR.stays hq8
      have t2 := t2.below OzR.stays hq8
      have g0 := g0.below FzR.stays hq8
      have g1 := g1.below FzR.stays hq8
      have g2 := g2.below OzR.stays hq8
      have rd := rd.below hq8
      have ra := ra.below hq8
      have hb := hb.trans (hq8.mono hb.size)
      clear krd_0 krd_1 krd_2
      obtain ⟨⟨kra_0, kra_1, kra_2⟩, -⟩ := ra.three
      obtain ⟨i0, hi, hz0, hz1, hz2⟩ := info_parts infoIntI
      have I1 := Lib.hid hi
      have I2 := Lib.hid hz0
      have I3 := Lib.hid hz1
      have I4 := Lib.hid hz2
      clear hi hz0 hz1 hz2
      generalize hold : readT x n = old at *
      generalize hwas : readK x n = was at *
      have HOLD := Lib.hid hold
      have HWAS := Lib.hid hwas
      clear hold hwas
      have HO := Lib.hid (OwnI.lit y8 (Nat.le_refl _))
      have hb0 := (Below.refl y8.heap.size y8).alloc (Nat.le_refl _) (.cells #[] 2)
      clear kra_0 kra_1 kra_2
      have W0 := Lib.hid (w0.below hb)
      go_wp2_with fail
      go_loopw [14, 15] (fun v i wr => ∃ (k : Nat) (l : List Int), k ≤ aw.ops.length ∧ i = .int .i64 k ∧ Hid (subP k l) ∧ Hid (OwnI wr y8.heap.size v l) ∧ Below y8.heap.size y8 wr) (fun _ i _ => aw.ops.length - (intOf i).toNat)
      case atStart => exact ⟨0, [], by omega, rfl, Lib.hid rfl, HO, hb0⟩
      case round =>
        clear HO hb0
        obtain ⟨k, l, hk, rfl, hsub, hown, hbr⟩ := hrel
        obtain ⟨⟨k0, k1, k2⟩, -⟩ := (ra.below hbr).three
        by_cases hlt : k < aw.ops.length
        · have i1 : (k : Int) < aw.ops.length := by omega
          have HK2 := Lib.hid (show k < 2 by have := HL2.out; omega)
          have WR := Lib.hid (W0.out.below hbr)
          go_upto_region 17 with fail
          go_cut [95] from 78 to 95 (fun s wx => ∃ bb : Bool, s = .bool bb ∧ wx = wr)
          case first =>
            by_cases hl0 : len0 = 0
            · subst hl0
              go_wp2_with fail
              go_meet
              case rel => exact ⟨false, rfl, rfl⟩
            · have hp : 0 < len0 := by omega
              have hjl : k % len0 < len0 := Nat.mod_lt _ hp
              obtain ⟨bq, off, z, ha, hz, zz0, zz1⟩ := WR.out.byte hjl
              subst ha
              have hm1 : (k : Int).tmod (len0 : Int) = ((k % len0 : Nat) : Int) := by rw [Int.tmod_eq_emod_of_nonneg (by omega)]; omega
              have hm2 : (k : Int).tmod 8 = (k : Int) := by have := HK2.out; rw [Int.tmod_eq_emod_of_nonneg (by omega)]; omega
              have p1 : (0 : Int) < (len0 : Int) := by omega
              have p2 : ¬ (len0 : Int) = 0 := by omega
              generalize k % len0 = j at *
              have p3 : (0 : Int) ≤ (j : Int) := by omega
              have p4 : (j : Int) < (len0 : Int) := by omega
              go_wp2_with fail
              go_meet
              case rel => exact ⟨_, rfl, rfl⟩
          case rest =>
            obtain ⟨bb, rfl, rfl⟩ := hcut
            have hk2 := HK2.out
            cases bb
            · go_wp2_with fail
              go_roundw
              case rel => exact ⟨k + 1, l, by omega, by go_num, Lib.hid (.inl hsub.out), hown, hbr⟩
              case measure => simp [intOf]; omega
            · have hll := subP_len hsub.out
              go_wp2_with (at_builtin; refine wpList_append_own _ rfl _ _ 30 rfl y8.heap.size 2 i0 (.int .i64 0) 1 8 Try.underlying30 I1.out I2.out I3.out I4.out rfl (by decide) _ _ _ rfl (World.ownsRow.alloc hown.out _) ⟨_, 0, none⟩ 1 1 [.int .i64 k] rfl rfl ?c1 ?c2 ?c3 ?c4 ?c5 ?_)
              case c1 => exact cell_one_new _ _ _
              case c2 => intro u hu; simp at hu; subst hu; rfl
              case c3 => unfold maxLen; omega
              case c4 => omega
              case c5 => have := hbr.size; simp; omega
              intro v' w3 hown3 hgrow _
              have R3 := Lib.hid (OwnI.app hown.out hbr.size hown3 hgrow)
              have hbn := hbr.trans R3.out.2
              clear hown3 hgrow hown hll
              go_wp2_with fail
              go_roundw
              case rel => exact ⟨k + 1, _, by omega, by go_num, Lib.hid (.inr ⟨l, hsub.out, rfl⟩), Lib.hid R3.out.1, hbn⟩
              case measure => simp [intOf]; omega
        · have hkn : k = aw.ops.length := by omega
          obtain ⟨AK, cK, rfl, -, -, hk9⟩ := hown.out.sl
          have HK := Lib.hid (hk9.stays IntR.stays (ok' := fun _ => True) (fun _ _ => trivial) fun _ _ _ h => h)
          have HS2 := Lib.hid (show subP 2 l by have h := hsub.out; rw [hkn, HL2.out] at h; exact h)
          have hll : l.length ≤ 1048576 := by have := subP_len HS2.out; omega
          clear hown hk9 hsub
          have t0 := t0.below FzR.stays hbr
          have t1 := t1.below FzR.stays hbr
          have t2 := t2.below OzR.stays hbr
          have g0 := g0.below FzR.stays hbr
          have g1 := g1.below FzR.stays hbr
          have g2 := g2.below OzR.stays hbr
          have rd := rd.below hbr
          have ra := ra.below hbr
          have hb := hb.trans (hbr.mono hb.size)
          clear hbr hlt k0 k1 k2
          generalize l.length = nl at *
          have hm4 : (len0 : Int).tmod 4 = ((len0 % 4 : Nat) : Int) := by rw [Int.tmod_eq_emod_of_nonneg (by omega)]; omega
          have hln : len0 ≤ 1048576 := by have := HLEN.out; omega
          generalize len0 % 4 = tn at *
          obtain ⟨⟨kra_0, kra_1, kra_2⟩, -⟩ := ra.three
          go_wp2_with fail
          refine (implCrash aw AK nl cK l tn Eg0 _ fg0 Eg1 _ fg1 Eg2 _ fg2 _ _ _ g0 g1 g2 HK.out HRZ.out hll).mono ?_
          rintro e y9 ⟨⟨v, rfl, hv⟩, hq9⟩
          have HCR := Lib.hid (HR.out.2.2.2 l tn (by omega) HS2.out)
          rw [HCR.out.1]
          have HPZ := Lib.hid (crashD_sz aw l tn)
          obtain ⟨bw, hbw⟩ : ∃ g, g = crashD aw l tn := ⟨_, rfl⟩
          rw [← hbw] at hv HPZ HCR
          clear hbw
          obtain ⟨q0, q1, q2, rfl, h0, h1, h2, -⟩ := hv
          obtain ⟨Ep0, fp0, rfl, -, -, p0⟩ := (show OwnZ _ _ q0 _ from h0).sl
          obtain ⟨Ep1, fp1, rfl, -, -, p1⟩ := (show OwnZ _ _ q1 _ from h1).sl
          obtain ⟨Ep2, fp2, rfl, -, -, p2⟩ := (show OwnO _ _ q2 _ from h2).sl
          clear h0 h1 h2
          have t0 := t0.below FzR.stays hq9
          have t1 := t1.below FzR.stays hq9
          have t2 := t2.below OzR.stays hq9
          have g0 := g0.below FzR.stays hq9
          have g1 := g1.below FzR.stays hq9
          have g2 := g2.below OzR.stays hq9
          have rd := rd.below hq9
          have ra := ra.below hq9
          have hb := hb.trans (hq9.mono hb.size)
          clear kra_0 kra_1 kra_2
          obtain ⟨⟨kra_0, kra_1, kra_2⟩, -⟩ := ra.three
          have hal := (Below.refl y9.heap.size y9).alloc (Nat.le_refl _) (.cells #[.slice Ep0 bw.live.length fp0, .slice Ep1 bw.safe.length fp1, .slice Ep2 bw.ops.length fp2] 27)
          have t0 := t0.below FzR.stays hal
          have t1 := t1.below FzR.stays hal
          have t2 := t2.below OzR.stays hal
          have g0 := g0.below FzR.stays hal
          have g1 := g1.below FzR.stays hal
          have g2 := g2.below OzR.stays hal
          have p0 := p0.below FzR.stays hal
          have p1 := p1.below FzR.stays hal
          have p2 := p2.below OzR.stays hal
          have rd := rd.below hal
          have ra := ra.below hal
          have rp := Row.new y9 27 #[.slice Ep0 bw.live.length fp0, .slice Ep1 bw.safe.length fp1, .slice Ep2 bw.ops.length fp2]
          have hb := hb.alloc hb.size (.cells #[.slice Ep0 bw.live.length fp0, .slice Ep1 bw.safe.length fp1, .slice Ep2 bw.ops.length fp2] 27)
          clear kra_0 kra_1 kra_2
          obtain ⟨⟨kra_0, kra_1, kra_2⟩, -⟩ := ra.three
          go_wp2_with fail
          generalize y9.alloc (.cells #[.slice Ep0 bw.live.length fp0, .slice Ep1 bw.safe.length fp1, .slice Ep2 bw.ops.length fp2] 27) = z30 at *
          clear hal
          generalize y9.heap.size = grp at *
          clear kra_0 kra_1 kra_2
          obtain ⟨⟨kra_0, kra_1, kra_2⟩, -⟩ := ra.three
          obtain ⟨⟨krp_0, krp_1, krp_2⟩, -⟩ := rp.three
          refine (implReadFile bw Ep0 _ fp0 Ep1 _ fp1 Ep2 _ fp2 n _ _ p0 p1 p2 HPZ.out).mono ?_
          rintro e y11 ⟨rfl, hq11⟩
          have t0 := t0.below FzR.stays hq11
          have t1 := t1.below FzR.stays hq11
          have t2 := t2.below OzR.stays hq11
          have g0 := g0.below FzR.stays hq11
          have g1 := g1.below FzR.stays hq11
          have g2 := g2.below OzR.stays hq11
          have p0 := p0.below FzR.stays hq11
          have p1 := p1.below FzR.stays hq11
          have p2 := p2.below OzR.stays hq11
          have rd := rd.below hq11
          have ra := ra.below hq11
          have rp := rp.below hq11
          have hb := hb.trans (hq11.mono hb.size)
          clear kra_0 kra_1 kra_2 krp_0 krp_1 krp_2
          obtain ⟨⟨kra_0, kra_1, kra_2⟩, -⟩ := ra.three
          go_wp2_with fail
          refine (implReadFile aw Eg0 _ fg0 Eg1 _ fg1 Eg2 _ fg2 n _ _ g0 g1 g2 HRZ.out).mono ?_
          rintro e y12 ⟨rfl, hq12⟩
          rw [HR.out.2.1, HR.out.2.2.1]
          have t0 := t0.below FzR.stays hq12
          have t1 := t1.below FzR.stays hq12
          have t2 := t2.below OzR.stays hq12
          have g0 := g0.below FzR.stays hq12
          have g1 := g1.below FzR.stays hq12
          have g2 := g2.below OzR.stays hq12
          have p0 := p0.below FzR.stays hq12
          have p1 := p1.below FzR.stays hq12
          have p2 := p2.below OzR.stays hq12
          have rd := rd.below hq12
          have ra := ra.below hq12
          have rp := rp.below hq12
          have hb := hb.trans (hq12.mono hb.size)
          clear kra_0 kra_1 kra_2
          rcases HCR.out.2 with ⟨m1, m2⟩ | ⟨m1, m2⟩
          · rw [m1, m2, HOLD.out, HWAS.out]
            have hww : (was == was) = true := by cases was <;> rfl
            go_wp2_with fail
            go_ret
            exact ⟨rfl, hb⟩
          · rw [m1, m2]
            cases was
            · go_wp2_with fail
              go_ret
              exact ⟨rfl, hb⟩
            · cases hdo : (d.toList == old.toList)
              all_goals
                go_wp2_with fail
                go_ret
                exact ⟨rfl, hb⟩
    · go_wp2_with fail
      go_ret
      exact ⟨rfl, hb⟩
  · have hkb : (kc != 0) = true := by simpa using hc
    go_wp2_with fail
    go_ret
    exact ⟨rfl, hb⟩

set_option maxRecDepth 100000 in
theorem lifted (os : Os) (started : os.Started) (H : Type) (enc : TypeId × Value → H) :
    ReturnsInHanded {} Try.checked os 5 .any (Rows.fnReplacedSpec.pre6 enc Try.prog Try.f5 Rows.fnReplacedRow.domain false) (Rows.fnReplacedSpec.post enc Try.prog Try.f5 false true false false) := by
  refine returnsInHanded_of_change (C := Try.checked) own started (by kernel_rfl) Try.func5
    (ChangeSpec.witness6 (enc := enc) (C := Try.checked) false ⟨#[], #[.slice none 0 0], []⟩ 8 (by kernel_rfl) (by kernel_rfl) (by kernel_rfl) (by kernel_rfl)) ?_
  intro W base args ds gs before hval0 hW hcnd _
  have hval : ∀ (j : Nat) t v, Try.f5.params[j]? = some t → args[j]? = some v → Value.okWide Try.prog W .any base t v := hval0
  have hW' := hW
  obtain ⟨p, q, hA0, hV, rfl, hfz, hnd⟩ := hW
  have hA : DataW.TrodAll enc Try.prog W 0 (fun _ => true) true Try.f5.params.toList args.toList ds p := hA0
  rw [Try.params5] at hA hval
  obtain ⟨v0, vs0, d0, ds0, p0, q0, hargs, rfl, rfl, h0, r0⟩ := trodAll_cons hA
  obtain ⟨rfl, rfl, rfl⟩ := trodAll_nil r0
  obtain rfl : args = #[v0] := by cases args; simp_all
  obtain ⟨rfl, rfl⟩ := trodVars_none hV
  have k0' := h0
  have lt0 : ∀ x ∈ p0, x.block < W.heap.size := by obtain ⟨m, hm⟩ := k0'; exact DataW.trod_lt m _ _ _ hm
  obtain ⟨a0, len0, cap0, rfl⟩ := okWide_slice Try.underlying22 (hval 0 22 v0 rfl rfl)
  obtain ⟨z0, w0⟩ := isRow_of_trod Try.underlying22 Try.underlying5 (by kernel_rfl) h0
  clear hA0 hval0
  refine (walk a0 len0 cap0 z0 W w0).mono fun e W' ⟨he, bel⟩ => ?_
  subst he
  exact ⟨_, rfl, _, _, _, [], _, [], hW', trodAll_mk1 (shut_bool Try.underlying4 _), (trodAll_cons_mk (Below.trod laidOut (by kernel_rfl) (of_decide_eq_true (by kernel_rfl)) k0' bel lt0) trodAll_mk0), rfl, bel.frame _, fun h => by cases h⟩

set_option maxRecDepth 100000 in
set_option maxHeartbeats 16000000 in
theorem facts : joinedFacts Try.checked.prog 5 Try.f5 Rows.fnReplacedSpec Rows.fnReplacedRow = true := by
  unfold joinedFacts
  repeat' (with_reducible refine Bool.and_eq_true_iff.2 ⟨?_, ?_⟩)
  all_goals (as_aux_lemma => kernel_rfl)

theorem over : Rows.fnReplacedRow.holds Try.pinned (OpenSpec.ofChange Rows.fnReplacedSpec) :=
  OpenClaim.holds_of_wide 5 Try.f5 rfl rfl rfl rfl rfl rfl rfl ⟨rfl, rfl, rfl, rfl, rfl⟩ rfl rfl rfl rfl rfl (by kernel_rfl) Try.func5 facts
    (of_decide_eq_true (by as_aux_lemma => kernel_rfl)) (by unfold Func.isWrapper; first | (rw [if_pos (by decide +kernel)]; kernel_rfl) | (rw [if_neg (by decide +kernel)]; exact ⟨rfl, rfl⟩))
    (fun os started H enc _ => lifted os started H enc)

theorem proved : Rows.FnReplacedSaid := over
#print axioms proved
end Go.Proofs.Ytkinegapnknhiaa.fnReplaced
