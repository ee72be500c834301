/-
  What is done is seen and not safe yet, what is refused changes nothing (law FnDone, for every code).
-/
import Derived.Test.YtkinegapnknhiaaBase
import Derived.Test.YtkinegapnknhiaaGd
import Derived.Deep.Cut
import Derived.Deep.CutRange
namespace Go.Proofs.Ytkinegapnknhiaa.fnDone
open Go.ChangeShapes Go.WideShapes Go.ChangeAt Go.RowKit Go.Joins
open Go.ChangeMaps (open_string shut_string)
set_option linter.unusedSimpArgs false
set_option linter.unusedVariables false

set_option maxRecDepth 100000 in
set_option maxHeartbeats 8000000 in
theorem walk (a0 : Option Addr) (len0 cap0 : Nat) (z0 : List Int) (w : World) (w0 : IsRow .u8 w a0 len0 cap0 z0) :
    Calls Try.prog 4 #[.slice a0 len0 cap0] w fun e w' => e = .returned (.bool true) ∧ Below w.heap.size w w' := by
  have hb := Below.refl w.heap.size w
  by_cases hbig : (1048576 : Int) < len0
  · have hbig : decide ((1048576 : Int) < len0) = true := by simpa using hbig
    go_enter Try.func4, Try.ntmps4
    go_wp2_with fail
    refine (lawsBig a0 len0 cap0 w).mono ?_
    rintro e w' ⟨rfl, rfl⟩
    go_wp2
    go_ret
    exact ⟨rfl, Below.refl _ _⟩
  have hbig : decide ((1048576 : Int) < len0) = false := by simpa using hbig
  go_enter Try.func4, Try.ntmps4
  go_wp2_with fail
  refine (lawsBig a0 len0 cap0 w).mono ?_
  rintro e w' ⟨rfl, rfl⟩
  clear hbig
  go_wp2_with fail
  refine (drawDo a0 len0 cap0 z0 _ w0).mono ?_
  rintro e y1 ⟨v, rfl, ⟨u0, u1, u2, x, o, rfl, hro, hsm, hso⟩, hq1⟩
  obtain ⟨B0, n0, d0, B1, n1, d1, B2, n2, d2, rfl, rfl, rfl, t0, t1, t2⟩ := hro
  obtain rfl : x.live.length = n0 := t0.1
  obtain rfl : x.safe.length = n1 := t1.1
  obtain rfl : x.ops.length = n2 := t2.1
  have HSZ := Lib.hid (hsm.sz (by omega))
  have HSM := Lib.hid hsm
  have HSO := Lib.hid hso
  have hds : o.data.size ≤ 1000 := by unfold Oz.sz at hso; omega
  clear hsm hso
  have hb := hb.trans (hq1.mono hb.size)
  have hal := ((Below.refl y1.heap.size y1).alloc (Nat.le_refl _) (.cells #[.slice B0 x.live.length d0, .slice B1 x.safe.length d1, .slice B2 x.ops.length d2] 27)).alloc (by simp) (.cells #[.int .i64 o.kind, .string o.name, .string o.to, .string o.data] 36)
  have t0 := t0.below FzR.stays hal
  have t1 := t1.below FzR.stays hal
  have t2 := t2.below OzR.stays hal
  have rd := (Row.new y1 27 #[.slice B0 x.live.length d0, .slice B1 x.safe.length d1, .slice B2 x.ops.length d2]).alloc (.cells #[.int .i64 o.kind, .string o.name, .string o.to, .string o.data] 36)
  have ro := Row.newAt (y1.alloc (.cells #[.slice B0 x.live.length d0, .slice B1 x.safe.length d1, .slice B2 x.ops.length d2] 27)) 36 #[.int .i64 o.kind, .string o.name, .string o.to, .string o.data] (y1.heap.size + 1) (by simp)
  have hb := hb.trans (hal.mono hb.size)
  obtain ⟨⟨krd_0, krd_1, krd_2⟩, -⟩ := rd.three
  obtain ⟨⟨kro_0, kro_1, kro_2, kro_3⟩, -⟩ := ro.all4
  go_upto_region 4 with fail
  generalize (y1.alloc (.cells #[.slice B0 x.live.length d0, .slice B1 x.safe.length d1, .slice B2 x.ops.length d2] 27)).alloc (.cells #[.int .i64 o.kind, .string o.name, .string o.to, .string o.data] 36) = z9 at *
  clear hal
  generalize hgd : y1.heap.size = gd at *
  clear hgd
  have hcl : ∀ kk : Int, (kk != kk) = false ∧ (kk == kk) = true := fun kk => ⟨by simp, by simp⟩
  obtain ⟨aw, haw⟩ : ∃ g, g = actDo x o := ⟨_, rfl⟩
  have HAW := Lib.hid haw
  obtain ⟨kc, hkc⟩ : ∃ g, g = codeDo x o := ⟨_, rfl⟩
  have HKC := Lib.hid hkc
  clear haw hkc
  have HSA := Lib.hid (show aw.sz ≤ 1048576 from by rw [HAW.out]; exact (SmD.act HSM.out o).sz (by have := HSO.out; omega))
  go_wp2_with fail
  refine (implDo x o B0 _ d0 B1 _ d1 B2 _ d2 _ _ t0 t1 t2 HSZ.out (by omega)).mono ?_
  rintro e y2 ⟨⟨v, rfl, hv⟩, hq2⟩
  rw [← HKC.out]
  rw [← HAW.out] at hv
  obtain ⟨q0, q1, q2, rfl, h0, h1, h2, -⟩ := hv
  obtain ⟨Eg0, fg0, rfl, -, -, g0⟩ := (show OwnZ _ _ q0 _ from h0).sl
  obtain ⟨Eg1, fg1, rfl, -, -, g1⟩ := (show OwnZ _ _ q1 _ from h1).sl
  obtain ⟨Eg2, fg2, rfl, -, -, g2⟩ := (show OwnO _ _ q2 _ from h2).sl
  clear h0 h1 h2
  have t0 := t0.below FzR.stays hq2
  have t1 := t1.below FzR.stays hq2
  have t2 := t2.below OzR.stays hq2
  have rd := rd.below hq2
  have ro := ro.below hq2
  have hb := hb.trans (hq2.mono hb.size)
  clear krd_0 krd_1 krd_2 kro_0 kro_1 kro_2 kro_3
  obtain ⟨⟨krd_0, krd_1, krd_2⟩, -⟩ := rd.three
  obtain ⟨⟨kro_0, kro_1, kro_2, kro_3⟩, -⟩ := ro.all4
  have hal := (Below.refl y2.heap.size y2).alloc (Nat.le_refl _) (.cells #[.slice Eg0 aw.live.length fg0, .slice Eg1 aw.safe.length fg1, .slice Eg2 aw.ops.length fg2] 27)
  have t0 := t0.below FzR.stays hal
  have t1 := t1.below FzR.stays hal
  have t2 := t2.below OzR.stays hal
  have g0 := g0.below FzR.stays hal
  have g1 := g1.below FzR.stays hal
  have g2 := g2.below OzR.stays hal
  have rd := rd.below hal
  have ro := ro.below hal
  have ra := Row.new y2 27 #[.slice Eg0 aw.live.length fg0, .slice Eg1 aw.safe.length fg1, .slice Eg2 aw.ops.length fg2]
  have hb := hb.alloc hb.size (.cells #[.slice Eg0 aw.live.length fg0, .slice Eg1 aw.safe.length fg1, .slice Eg2 aw.ops.length fg2] 27)
  clear krd_0 krd_1 krd_2 kro_0 kro_1 kro_2 kro_3
  obtain ⟨⟨krd_0, krd_1, krd_2⟩, -⟩ := rd.three
  obtain ⟨⟨kro_0, kro_1, kro_2, kro_3⟩, -⟩ := ro.all4
  go_wp2_with fail
  generalize y2.alloc (.cells #[.slice Eg0 aw.live.length fg0, .slice Eg1 aw.safe.length fg1, .slice Eg2 aw.ops.length fg2] 27) = z23 at *
  clear hal
  generalize y2.heap.size = gra at *
  clear krd_0 krd_1 krd_2 kro_0 kro_1 kro_2 kro_3
  obtain ⟨⟨krd_0, krd_1, krd_2⟩, -⟩ := rd.three
  obtain ⟨⟨kro_0, kro_1, kro_2, kro_3⟩, -⟩ := ro.all4
  refine (specDo x o B0 _ d0 B1 _ d1 B2 _ d2 _ _ t0 t1 t2 HSZ.out (by omega)).mono ?_
  rintro e y4 ⟨⟨v, rfl, hv⟩, hq4⟩
  rw [← HKC.out]
  rw [← HAW.out] at hv
  obtain ⟨q0, q1, q2, rfl, h0, h1, h2, -⟩ := hv
  obtain ⟨Es0, fs0, rfl, -, -, s0⟩ := (show OwnZ _ _ q0 _ from h0).sl
  obtain ⟨Es1, fs1, rfl, -, -, s1⟩ := (show OwnZ _ _ q1 _ from h1).sl
  obtain ⟨Es2, fs2, rfl, -, -, s2⟩ := (show OwnO _ _ q2 _ from h2).sl
  clear h0 h1 h2
  have t0 := t0.below FzR.stays hq4
  have t1 := t1.below FzR.stays hq4
  have t2 := t2.below OzR.stays hq4
  have g0 := g0.below FzR.stays hq4
  have g1 := g1.below FzR.stays hq4
  have g2 := g2.below OzR.stays hq4
  have rd := rd.below hq4
  have ro := ro.below hq4
  have ra := ra.below hq4
  have hb := hb.trans (hq4.mono hb.size)
  clear krd_0 krd_1 krd_2 kro_0 kro_1 kro_2 kro_3
  obtain ⟨⟨krd_0, krd_1, krd_2⟩, -⟩ := rd.three
  obtain ⟨⟨kro_0, kro_1, kro_2, kro_3⟩, -⟩ := ro.all4
  clear s0 s1 s2
  have hal := (Below.refl y4.heap.size y4).alloc (Nat.le_refl _) (.cells #[.slice Es0 aw.live.length fs0, .slice Es1 aw.safe.length fs1, .slice Es2 aw.ops.length fs2] 27)
  have t0 := t0.below FzR.stays hal
  have t1 := t1.below FzR.stays hal
  have t2 := t2.below OzR.stays hal
  have g0 := g0.below FzR.stays hal
  have g1 := g1.below FzR.stays hal
  have g2 := g2.below OzR.stays hal
  have rd := rd.below hal
  have ro := ro.below hal
  have ra := ra.below hal
  have rs := Row.new y4 27 #[.slice Es0 aw.live.length fs0, .slice Es1 aw.safe.length fs1, .slice Es2 aw.ops.length fs2]
  have hb := hb.alloc hb.size (.cells #[.slice Es0 aw.live.length fs0, .slice Es1 aw.safe.length fs1, .slice Es2 aw.ops.length fs2] 27)
  clear krd_0 krd_1 krd_2 kro_0 kro_1 kro_2 kro_3
  obtain ⟨⟨krd_0, krd_1, krd_2⟩, -⟩ := rd.three
  go_upto_region 6 with fail
  generalize y4.alloc (.cells #[.slice Es0 aw.live.length fs0, .slice Es1 aw.safe.length fs1, .slice Es2 aw.ops.length fs2] 27) = z25 at *
  clear hal
  generalize y4.heap.size = grs at *
  clear krd_0 krd_1 krd_2
  obtain ⟨⟨krd_0, krd_1, krd_2⟩, -⟩ := rd.three
  clear rs
  clear krd_0 krd_1 krd_2
  obtain ⟨⟨krd_0, krd_1, krd_2⟩, -⟩ := rd.three
  go_wp2_with fail
  refine (specDiskOk x B0 _ d0 B1 _ d1 B2 _ d2 _ _ t0 t1 t2 HSZ.out).mono ?_
  rintro e y6 ⟨rfl, hq6⟩
  have t0 := t0.below FzR.stays hq6
  have t1 := t1.below FzR.stays hq6
  have t2 := t2.below OzR.stays hq6
  have g0 := g0.below FzR.stays hq6
  have g1 := g1.below FzR.stays hq6
  have g2 := g2.below OzR.stays hq6
  have rd := rd.below hq6
  have ro := ro.below hq6
  have ra := ra.below hq6
  have hb := hb.trans (hq6.mono hb.size)
  clear krd_0 krd_1 krd_2
  obtain ⟨⟨krd_0, krd_1, krd_2⟩, -⟩ := rd.three
  obtain ⟨e9, e10⟩ := hcl kc
  cases e0 : diskB x
  · go_wp2_with fail
    go_ret
    exact ⟨rfl, hb⟩
  · have HX := Lib.hid (doD_yes (o := o) e0)
    by_cases hc : codeD x o = 0
    · have hy := diskB_done e0 hc
      have hk0 : kc = 0 := by rw [HKC.out, HX.out.1, hc]
      subst hk0
      have hy2 : aw = ⟨(doF x.live o).1, x.safe, x.ops ++ [o]⟩ := by rw [HAW.out, HX.out.2, actD_done hc]
      have hlo : aw.ops.length = x.ops.length + 1 := by rw [hy2, List.length_append, List.length_singleton]
      have hsf : aw.safe = x.safe := by rw [hy2]
      have hdy : diskB aw = true := by rw [hy2]; exact hy
      have HE := Lib.hid e0
      have HC := Lib.hid hc
      have HDY := Lib.hid hdy
      have HSF := Lib.hid hsf
      have HLO := Lib.hid hlo
      clear hy hy2 hc hlo hsf hdy e9 e10 hcl
      clear krd_0 krd_1 krd_2
      obtain ⟨⟨krd_0, krd_1, krd_2⟩, -⟩ := rd.three
      obtain ⟨⟨kro_0, kro_1, kro_2, kro_3⟩, -⟩ := ro.all4
      obtain ⟨⟨kra_0, kra_1, kra_2⟩, -⟩ := ra.three
      go_wp2_with fail
      refine (implReadFile aw Eg0 _ fg0 Eg1 _ fg1 Eg2 _ fg2 o.name _ _ g0 g1 g2 HSA.out).mono ?_
      rintro e y7 ⟨rfl, hq7⟩
      have t0 := t0.below FzR.stays hq7
      have t1 := t1.below FzR.stays hq7
      have t2 := t2.below OzR.stays hq7
      have g0 := g0.below FzR.stays hq7
      have g1 := g1.below FzR.stays hq7
      have g2 := g2.below OzR.stays hq7
      have rd := rd.below hq7
      have ro := ro.below hq7
      have ra := ra.below hq7
      have hb := hb.trans (hq7.mono hb.size)
      clear krd_0 krd_1 krd_2 kro_0 kro_1 kro_2 kro_3 kra_0 kra_1 kra_2
      obtain ⟨⟨krd_0, krd_1, krd_2⟩, -⟩ := rd.three
      obtain ⟨⟨kro_0, kro_1, kro_2, kro_3⟩, -⟩ := ro.all4
      obtain ⟨⟨kra_0, kra_1, kra_2⟩, -⟩ := ra.three
      go_wp2_with fail
      refine (implReadFile x B0 _ d0 B1 _ d1 B2 _ d2 o.name _ _ t0 t1 t2 HSZ.out).mono ?_
      rintro e y8 ⟨rfl, hq8⟩
      have t0 := t0.below FzR.stays hq8
      have t1 := t1.below FzR.stays hq8
      have t2 := t2.below OzR.stays hq8
      have g0 := g0.below FzR.stays hq8
      have g1 := g1.below FzR.stays hq8
      have g2 := g2.below OzR.stays hq8
      have rd := rd.below hq8
      have ro := ro.below hq8
      have ra := ra.below hq8
      have hb := hb.trans (hq8.mono hb.size)
      clear krd_0 krd_1 krd_2 kro_0 kro_1 kro_2 kro_3 kra_0 kra_1 kra_2
      obtain ⟨⟨krd_0, krd_1, krd_2⟩, -⟩ := rd.three
      obtain ⟨⟨kro_0, kro_1, kro_2, kro_3⟩, -⟩ := ro.all4
      obtain ⟨⟨kra_0, kra_1, kra_2⟩, -⟩ := ra.three
      have KT := Lib.hid (kind_three (codeD_done HC.out).1)
      have hrs := readT_size (x := x) o.name
      rcases KT.out with hk | hk | hk
      · obtain ⟨m1, m2⟩ := done_append HE.out HC.out hk
        rw [← HAW.out] at m1 m2
        rw [m1, m2]
        generalize readT x o.name = old at *
        generalize o.kind = kk at *
        subst hk
        go_wp2_with fail
        clear krd_0 krd_1 krd_2 kro_0 kro_1 kro_2 kro_3 kra_0 kra_1 kra_2
        obtain ⟨⟨kra_0, kra_1, kra_2⟩, -⟩ := ra.three
        obtain ⟨⟨krd_0, krd_1, krd_2⟩, -⟩ := rd.three
        refine (implDiskOk aw Eg0 _ fg0 Eg1 _ fg1 Eg2 _ fg2 _ _ g0 g1 g2 HSA.out).mono ?_
        rintro e y9 ⟨rfl, hq9⟩
        rw [HDY.out]
        have t0 := t0.below FzR.stays hq9
        have t1 := t1.below FzR.stays hq9
        have t2 := t2.below OzR.stays hq9
        have g0 := g0.below FzR.stays hq9
        have g1 := g1.below FzR.stays hq9
        have g2 := g2.below OzR.stays hq9
        have rd := rd.below hq9
        have ro := ro.below hq9
        have ra := ra.below hq9
        have hb := hb.trans (hq9.mono hb.size)
        clear kra_0 kra_1 kra_2 krd_0 krd_1 krd_2
        obtain ⟨⟨kra_0, kra_1, kra_2⟩, -⟩ := ra.three
        obtain ⟨⟨krd_0, krd_1, krd_2⟩, -⟩ := rd.three
        go_wp2_with fail
        refine (lawsSameFiles _ _ _ _ _ _ aw.safe x.safe _ _ _ g1 t1 (sz_lens HSA.out).2.1 (sz_lens HSZ.out).2.1).mono ?_
        rintro e y10 ⟨rfl, hq10⟩
        rw [HSF.out, sameF_iff.2 rfl]
        have t0 := t0.below FzR.stays hq10
        have t1 := t1.below FzR.stays hq10
        have t2 := t2.below OzR.stays hq10
        have g0 := g0.below FzR.stays hq10
        have g1 := g1.below FzR.stays hq10
        have g2 := g2.below OzR.stays hq10
        have rd := rd.below hq10
        have ro := ro.below hq10
        have ra := ra.below hq10
        have hb := hb.trans (hq10.mono hb.size)
        clear kra_0 kra_1 kra_2 krd_0 krd_1 krd_2
        obtain ⟨⟨kra_0, kra_1, kra_2⟩, -⟩ := ra.three
        obtain ⟨⟨krd_0, krd_1, krd_2⟩, -⟩ := rd.three
        have hol := (sz_lens HSZ.out).2.2
        have hlo : (aw.ops.length : Int) = x.ops.length + 1 := by have := HLO.out; omega
        have hlb : ((aw.ops.length : Int) == x.ops.length + 1) = true := by rw [hlo]; simp
        go_wp2_with fail
        go_ret
        exact ⟨rfl, hb⟩
      · obtain ⟨m1, m2, m3⟩ := done_rename HE.out HC.out hk
        rw [← HAW.out] at m1 m2 m3
        rw [m3]
        generalize o.kind = kk at *
        subst hk
        go_wp2_with fail
        refine (implReadFile aw Eg0 _ fg0 Eg1 _ fg1 Eg2 _ fg2 o.to _ _ g0 g1 g2 HSA.out).mono ?_
        rintro e y9 ⟨rfl, hq9⟩
        rw [m1, m2]
        have t0 := t0.below FzR.stays hq9
        have t1 := t1.below FzR.stays hq9
        have t2 := t2.below OzR.stays hq9
        have g0 := g0.below FzR.stays hq9
        have g1 := g1.below FzR.stays hq9
        have g2 := g2.below OzR.stays hq9
        have rd := rd.below hq9
        have ro := ro.below hq9
        have ra := ra.below hq9
        have hb := hb.trans (hq9.mono hb.size)
        clear krd_0 krd_1 krd_2 kro_0 kro_1 kro_2 kro_3 kra_0 kra_1 kra_2
        obtain ⟨⟨krd_0, krd_1, krd_2⟩, -⟩ := rd.three
        obtain ⟨⟨kro_0, kro_1, kro_2, kro_3⟩, -⟩ := ro.all4
        obtain ⟨⟨kra_0, kra_1, kra_2⟩, -⟩ := ra.three
        have hbb : ((o.to.toList == o.name.toList) != (o.to.toList == o.name.toList)) = false := by cases (o.to.toList == o.name.toList) <;> rfl
        go_wp2_with fail
        clear krd_0 krd_1 krd_2 kro_0 kro_1 kro_2 kro_3 kra_0 kra_1 kra_2
        obtain ⟨⟨kra_0, kra_1, kra_2⟩, -⟩ := ra.three
        obtain ⟨⟨krd_0, krd_1, krd_2⟩, -⟩ := rd.three
        refine (implDiskOk aw Eg0 _ fg0 Eg1 _ fg1 Eg2 _ fg2 _ _ g0 g1 g2 HSA.out).mono ?_
        rintro e y10 ⟨rfl, hq10⟩
        rw [HDY.out]
        have t0 := t0.below FzR.stays hq10
        have t1 := t1.below FzR.stays hq10
        have t2 := t2.below OzR.stays hq10
        have g0 := g0.below FzR.stays hq10
        have g1 := g1.below FzR.stays hq10
        have g2 := g2.below OzR.stays hq10
        have rd := rd.below hq10
        have ro := ro.below hq10
        have ra := ra.below hq10
        have hb := hb.trans (hq10.mono hb.size)
        clear kra_0 kra_1 kra_2 krd_0 krd_1 krd_2
        obtain ⟨⟨kra_0, kra_1, kra_2⟩, -⟩ := ra.three
        obtain ⟨⟨krd_0, krd_1, krd_2⟩, -⟩ := rd.three
        go_wp2_with fail
        refine (lawsSameFiles _ _ _ _ _ _ aw.safe x.safe _ _ _ g1 t1 (sz_lens HSA.out).2.1 (sz_lens HSZ.out).2.1).mono ?_
        rintro e y11 ⟨rfl, hq11⟩
        rw [HSF.out, sameF_iff.2 rfl]
        have t0 := t0.below FzR.stays hq11
        have t1 := t1.below FzR.stays hq11
        have t2 := t2.below OzR.stays hq11
        have g0 := g0.below FzR.stays hq11
        have g1 := g1.below FzR.stays hq11
        have g2 := g2.below OzR.stays hq11
        have rd := rd.below hq11
        have ro := ro.below hq11
        have ra := ra.below hq11
        have hb := hb.trans (hq11.mono hb.size)
        clear kra_0 kra_1 kra_2 krd_0 krd_1 krd_2
        obtain ⟨⟨kra_0, kra_1, kra_2⟩, -⟩ := ra.three
        obtain ⟨⟨krd_0, krd_1, krd_2⟩, -⟩ := rd.three
        have hol := (sz_lens HSZ.out).2.2
        have hlo : (aw.ops.length : Int) = x.ops.length + 1 := by have := HLO.out; omega
        have hlb : ((aw.ops.length : Int) == x.ops.length + 1) = true := by rw [hlo]; simp
        go_wp2_with fail
        go_ret
        exact ⟨rfl, hb⟩
      · have m3 := done_remove HE.out HC.out hk
        rw [← HAW.out] at m3
        rw [m3]
        generalize o.kind = kk at *
        subst hk
        go_wp2_with fail
        clear krd_0 krd_1 krd_2 kro_0 kro_1 kro_2 kro_3 kra_0 kra_1 kra_2
        obtain ⟨⟨kra_0, kra_1, kra_2⟩, -⟩ := ra.three
        obtain ⟨⟨krd_0, krd_1, krd_2⟩, -⟩ := rd.three
        refine (implDiskOk aw Eg0 _ fg0 Eg1 _ fg1 Eg2 _ fg2 _ _ g0 g1 g2 HSA.out).mono ?_
        rintro e y9 ⟨rfl, hq9⟩
        rw [HDY.out]
        have t0 := t0.below FzR.stays hq9
        have t1 := t1.below FzR.stays hq9
        have t2 := t2.below OzR.stays hq9
        have g0 := g0.below FzR.stays hq9
        have g1 := g1.below FzR.stays hq9
        have g2 := g2.below OzR.stays hq9
        have rd := rd.below hq9
        have ro := ro.below hq9
        have ra := ra.below hq9
        have hb := hb.trans (hq9.mono hb.size)
        clear kra_0 kra_1 kra_2 krd_0 krd_1 krd_2
        obtain ⟨⟨kra_0, kra_1, kra_2⟩, -⟩ := ra.three
        obtain ⟨⟨krd_0, krd_1, krd_2⟩, -⟩ := rd.three
        go_wp2_with fail
        refine (lawsSameFiles _ _ _ _ _ _ aw.safe x.safe _ _ _ g1 t1 (sz_lens HSA.out).2.1 (sz_lens HSZ.out).2.1).mono ?_
        rintro e y10 ⟨rfl, hq10⟩
        rw [HSF.out, sameF_iff.2 rfl]
        have t0 := t0.below FzR.stays hq10
        have t1 := t1.below FzR.stays hq10
        have t2 := t2.below OzR.stays hq10
        have g0 := g0.below FzR.stays hq10
        have g1 := g1.below FzR.stays hq10
        have g2 := g2.below OzR.stays hq10
        have rd := rd.below hq10
        have ro := ro.below hq10
        have ra := ra.below hq10
        have hb := hb.trans (hq10.mono hb.size)
        clear kra_0 kra_1 kra_2 krd_0 krd_1 krd_2
        obtain ⟨⟨kra_0, kra_1, kra_2⟩, -⟩ := ra.three
        obtain ⟨⟨krd_0, krd_1, krd_2⟩, -⟩ := rd.three
        have hol := (sz_lens HSZ.out).2.2
        have hlo : (aw.ops.length : Int) = x.ops.length + 1 := by have := HLO.out; omega
        have hlb : ((aw.ops.length : Int) == x.ops.length + 1) = true := by rw [hlo]; simp
        go_wp2_with fail
        go_ret
        exact ⟨rfl, hb⟩
    · have hk0 : kc ≠ 0 := by rw [HKC.out, HX.out.1]; exact hc
      have hax : aw = x := by rw [HAW.out, HX.out.2]; unfold actD; rw [if_neg hc]
      subst hax
      have hkb : (kc != 0) = true := by simpa using hk0
      clear HX hc
      clear krd_0 krd_1 krd_2
      obtain ⟨⟨kra_0, kra_1, kra_2⟩, -⟩ := ra.three
      obtain ⟨⟨krd_0, krd_1, krd_2⟩, -⟩ := rd.three
      go_wp2_with fail
      refine (lawsSameFiles _ _ _ _ _ _ aw.live aw.live _ _ _ g0 t0 (sz_lens HSZ.out).1 (sz_lens HSZ.out).1).mono ?_
      rintro e y7 ⟨rfl, hq7⟩
      rw [sameF_iff.2 rfl]
      have t0 := t0.below FzR.stays hq7
      have t1 := t1.below FzR.stays hq7
      have t2 := t2.below OzR.stays hq7
      have g0 := g0.below FzR.stays hq7
      have g1 := g1.below FzR.stays hq7
      have g2 := g2.below OzR.stays hq7
      have rd := rd.below hq7
      have ro := ro.below hq7
      have ra := ra.below hq7
      have hb := hb.trans (hq7.mono hb.size)
      clear kra_0 kra_1 kra_2 krd_0 krd_1 krd_2
      obtain ⟨⟨kra_0, kra_1, kra_2⟩, -⟩ := ra.three
      obtain ⟨⟨krd_0, krd_1, krd_2⟩, -⟩ := rd.three
      go_wp2_with fail
      refine (lawsSameFiles _ _ _ _ _ _ aw.safe aw.safe _ _ _ g1 t1 (sz_lens HSZ.out).2.1 (sz_lens HSZ.out).2.1).mono ?_
      rintro e y8 ⟨rfl, hq8⟩
      rw [sameF_iff.2 rfl]
      have t0 := t0.below FzR.stays hq8
      have t1 := t1.below FzR.stays hq8
      have t2 := t2.below OzR.stays hq8
      have g0 := g0.below FzR.stays hq8
      have g1 := g1.below FzR.stays hq8
      have g2 := g2.below OzR.stays hq8
      have rd := rd.below hq8
      have ro := ro.below hq8
      have ra := ra.below hq8
      have hb := hb.trans (hq8.mono hb.size)
      clear kra_0 kra_1 kra_2 krd_0 krd_1 krd_2
      obtain ⟨⟨kra_0, kra_1, kra_2⟩, -⟩ := ra.three
      obtain ⟨⟨krd_0, krd_1, krd_2⟩, -⟩ := rd.three
      go_wp2_with fail
      go_ret
      exact ⟨rfl, hb⟩

set_option maxRecDepth 100000 in
theorem lifted (os : Os) (started : os.Started) (H : Type) (enc : TypeId × Value → H) :
    ReturnsInHanded {} Try.checked os 4 .any (Rows.fnDoneSpec.pre6 enc Try.prog Try.f4 Rows.fnDoneRow.domain false) (Rows.fnDoneSpec.post enc Try.prog Try.f4 false true false false) := by
  refine returnsInHanded_of_change (C := Try.checked) own started (by kernel_rfl) Try.func4
    (ChangeSpec.witness6 (enc := enc) (C := Try.checked) false ⟨#[], #[.slice none 0 0], []⟩ 8 (by kernel_rfl) (by kernel_rfl) (by kernel_rfl) (by kernel_rfl)) ?_
  intro W base args ds gs before hval0 hW hcnd _
  have hval : ∀ (j : Nat) t v, Try.f4.params[j]? = some t → args[j]? = some v → Value.okWide Try.prog W .any base t v := hval0
  have hW' := hW
  obtain ⟨p, q, hA0, hV, rfl, hfz, hnd⟩ := hW
  have hA : DataW.TrodAll enc Try.prog W 0 (fun _ => true) true Try.f4.params.toList args.toList ds p := hA0
  rw [Try.params4] at hA hval
  obtain ⟨v0, vs0, d0, ds0, p0, q0, hargs, rfl, rfl, h0, r0⟩ := trodAll_cons hA
  obtain ⟨rfl, rfl, rfl⟩ := trodAll_nil r0
  obtain rfl : args = #[v0] := by cases args; simp_all
  obtain ⟨rfl, rfl⟩ := trodVars_none hV
  have k0' := h0
  have lt0 : ∀ x ∈ p0, x.block < W.heap.size := by obtain ⟨m, hm⟩ := k0'; exact DataW.trod_lt m _ _ _ hm
  obtain ⟨a0, len0, cap0, rfl⟩ := okWide_slice Try.underlying22 (hval 0 22 v0 rfl rfl)
  obtain ⟨z0, w0⟩ := isRow_of_trod Try.underlying22 Try.underlying5 (by kernel_rfl) h0
  clear hA0 hval0
  refine (walk a0 len0 cap0 z0 W w0).mono fun e W' ⟨he, bel⟩ => ?_
  subst he
  exact ⟨_, rfl, _, _, _, [], _, [], hW', trodAll_mk1 (shut_bool Try.underlying4 _), (trodAll_cons_mk (Below.trod laidOut (by kernel_rfl) (of_decide_eq_true (by kernel_rfl)) k0' bel lt0) trodAll_mk0), rfl, bel.frame _, fun h => by cases h⟩

set_option maxRecDepth 100000 in
set_option maxHeartbeats 16000000 in
theorem facts : joinedFacts Try.checked.prog 4 Try.f4 Rows.fnDoneSpec Rows.fnDoneRow = true := by
  unfold joinedFacts
  repeat' (with_reducible refine Bool.and_eq_true_iff.2 ⟨?_, ?_⟩)
  all_goals (as_aux_lemma => kernel_rfl)

theorem over : Rows.fnDoneRow.holds Try.pinned (OpenSpec.ofChange Rows.fnDoneSpec) :=
  OpenClaim.holds_of_wide 4 Try.f4 rfl rfl rfl rfl rfl rfl rfl ⟨rfl, rfl, rfl, rfl, rfl⟩ rfl rfl rfl rfl rfl (by kernel_rfl) Try.func4 facts
    (of_decide_eq_true (by as_aux_lemma => kernel_rfl)) (by unfold Func.isWrapper; first | (rw [if_pos (by decide +kernel)]; kernel_rfl) | (rw [if_neg (by decide +kernel)]; exact ⟨rfl, rfl⟩))
    (fun os started H enc _ => lifted os started H enc)

theorem proved : Rows.FnDoneSaid := over
#print axioms proved
end Go.Proofs.Ytkinegapnknhiaa.fnDone
