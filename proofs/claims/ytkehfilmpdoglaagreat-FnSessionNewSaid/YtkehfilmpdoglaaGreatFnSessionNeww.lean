/-
  A new session is right, and has nothing open (law FnSessionNew, for every code).
-/
import Derived.Test.YtkehfilmpdoglaaGreatAa
import Derived.Test.YtkehfilmpdoglaaGreatAb
import Derived.Test.YtkehfilmpdoglaaGreatAc
import Derived.Test.YtkehfilmpdoglaaGreatAd
namespace Go.Proofs.YtkehfilmpdoglaaGreat.fnSessionNew
open Go.ChangeShapes Go.WideShapes Go.ChangeAt Go.RowKit Go.Joins
open Go.ChangeMaps (open_string shut_string)
set_option linter.unusedSimpArgs false
set_option linter.unusedVariables false

set_option maxRecDepth 100000 in
set_option maxHeartbeats 4000000 in
theorem walk (a0 : Option Addr) (len0 cap0 : Nat) (z0 : List Int) (w : World) (w0 : IsRow .u8 w a0 len0 cap0 z0) :
    Calls Tryz.prog 3 #[.slice a0 len0 cap0] w fun e w' => e = .returned (.bool true) ∧ Below w.heap.size w w' := by
  by_cases hbig : (1048576 : Int) < len0
  · have hbig : decide ((1048576 : Int) < len0) = true := by simpa using hbig
    go_enter Tryz.func3, Tryz.ntmps3
    go_wp2_with fail
    refine (lawsBig a0 len0 cap0 w).mono ?_
    rintro e w' ⟨rfl, rfl⟩
    go_wp2
    go_ret
    exact ⟨rfl, Below.refl _ _⟩
  have hbig : decide ((1048576 : Int) < len0) = false := by simpa using hbig
  go_enter Tryz.func3, Tryz.ntmps3
  go_wp2_with fail
  refine (lawsBig a0 len0 cap0 w).mono ?_
  rintro e w' ⟨rfl, rfl⟩
  clear hbig
  go_wp2_with fail
  refine (drawSessionNew a0 len0 cap0 z0 _ w0).mono ?_
  rintro e w1 ⟨v, rfl, ⟨ok, A, n, c, ts, rfl, hnc, hsl0, hsz⟩, hb⟩
  have hsl := hsl0.stays TbR.stays (ok' := fun _ => True) (fun _ _ => trivial) (fun _ _ _ h => h)
  obtain rfl : ts.length = n := hsl.1
  have hss : szL Tb.sz ts ≤ 1048576 := by omega
  have HSS := Lib.hid hss
  have HNC := Lib.hid hnc
  have hn : ts.length ≤ 1048576 := by unfold szL at hss; omega
  have HN := Lib.hid hn
  clear hsl0 hsz hss hn hnc
  obtain ⟨aw, haw⟩ : ∃ g, g = sessIf (schemaB ts) ts := ⟨_, rfl⟩
  have FIT := Lib.hid (show aw.fits by rw [haw]; exact sessIf_fits _ _ HSS.out)
  have HAW := Lib.hid haw
  have HOP := Lib.hid (show aw.isOpen = false by rw [haw]; exact sessIf_open _ _)
  have HST := Lib.hid (show aw.start = [] by rw [haw]; exact sessIf_start _ _)
  have HSV := Lib.hid (show aw.saves = [] by rw [haw]; exact sessIf_saves _ _)
  obtain ⟨l, hl⟩ : ∃ l : List Unit, aw.db = dts l := by rw [haw]; exact (match schemaB ts with | false => ⟨[], rfl⟩ | true => ⟨_, rfl⟩ : ∃ l, (sessIf (schemaB ts) ts).db = dts l)
  have HL := Lib.hid hl
  clear haw hl
  go_wp2_with fail
  refine (implSessionNew A _ c ts _ _ hsl HSS.out).mono ?_
  rintro e w2 ⟨cs, bs, rfl, so, hq⟩
  rw [← HAW.out] at so
  obtain ⟨G0, e0, G1, e1, G3, e3, G4, e4, rfl⟩ := so.form FIT.out
  have so : SsO w2 w1.heap.size [.slice G0 aw.schema.length e0, .slice G1 aw.db.length e1, .bool false, .slice G3 0 e3, .slice G4 0 e4] aw bs := by have := so; rw [HOP.out, HST.out, HSV.out] at this; exact this
  rw [HOP.out, HST.out, HSV.out]
  simp only [List.length_nil]
  have g1 := (so.reads FIT.out).2.1
  have gS := (so.reads FIT.out).1.stays TbR.stays (ok' := fun _ => True) (fun _ _ => trivial) (fun _ _ _ h => h)
  have hsl := hsl.below TbR.stays hq
  have hb := hb.trans (hq.mono hb.size)
  clear hq so
  rw [HL.out] at g1
  have g1 := (Ez.ofDt g1).stays EzR.stays (ok' := fun _ => True) (fun _ _ => trivial) (fun _ _ _ h => h)
  have hdl : (dts l).length = l.length := by simp [dts]
  have HDL := Lib.hid hdl
  rw [HL.out]
  rw [hdl]
  rw [hdl] at g1
  clear hdl
  have hln : l.length ≤ 1048576 := by have h1 := FIT.out.2.1; rw [HL.out, dts_sz] at h1; exact h1
  have HLN := Lib.hid hln
  clear hln
  have hal := (Below.refl w2.heap.size w2).alloc (Nat.le_refl _) (.cells #[.slice G0 aw.schema.length e0, .slice G1 l.length e1, .bool false, .slice G3 0 e3, .slice G4 0 e4] 29)
  have rg_ := Row.new w2 29 #[.slice G0 aw.schema.length e0, .slice G1 l.length e1, .bool false, .slice G3 0 e3, .slice G4 0 e4]
  have hsl := hsl.below TbR.stays hal
  have g1 := g1.below EzR.stays hal
  have gS := gS.below TbR.stays hal
  have hb := hb.trans (hal.mono hb.size)
  go_wp2_with fail
  generalize hz : w2.alloc (.cells #[.slice G0 aw.schema.length e0, .slice G1 l.length e1, .bool false, .slice G3 0 e3, .slice G4 0 e4] 29) = w3 at *
  clear hz hal
  refine (specSessionNew A _ c ts _ _ hsl HNC.out HSS.out).mono ?_
  rintro e w4 ⟨A0, m0, c0, A1, m1, c1, rfl, tw0, tw1, hq⟩
  rw [← HAW.out] at tw0 tw1
  have hm1 := tw1.1
  rw [HL.out, HDL.out] at hm1
  obtain rfl : l.length = m1 := hm1
  rw [HL.out] at tw1
  have g2 := (Ez.ofDt tw1).stays EzR.stays (ok' := fun _ => True) (fun _ _ => trivial) (fun _ _ _ h => h)
  obtain rfl : aw.schema.length = m0 := tw0.1
  clear tw1 tw0
  have hsl := hsl.below TbR.stays hq
  have g1 := g1.below EzR.stays hq
  have gS := gS.below TbR.stays hq
  have rg_ := Row.below rg_ hq
  have hb := hb.trans (hq.mono hb.size)
  clear hq
  have hal := (Below.refl w4.heap.size w4).alloc (Nat.le_refl _) (.cells #[.slice A0 aw.schema.length c0, .slice A1 l.length c1, .bool false, .slice none 0 0, .slice none 0 0] 29)
  have rw_ := Row.new w4 29 #[.slice A0 aw.schema.length c0, .slice A1 l.length c1, .bool false, .slice none 0 0, .slice none 0 0]
  have hsl := hsl.below TbR.stays hal
  have g1 := g1.below EzR.stays hal
  have gS := gS.below TbR.stays hal
  have g2 := g2.below EzR.stays hal
  have rg_ := Row.below rg_ hal
  have hb := hb.trans (hal.mono hb.size)
  cases hB : schemaB ts
  · have HB := Lib.hid hB
    clear hB
    obtain ⟨⟨krw_0, krw_1, krw_2, krw_3, krw_4⟩, -⟩ := rw_.five
    obtain ⟨⟨krg_0, krg_1, krg_2, krg_3, krg_4⟩, -⟩ := rg_.five
    go_wp2_with fail
    clear krw_0 krw_1 krw_2 krw_3 krw_4 krg_0 krg_1 krg_2 krg_3 krg_4
    generalize w4.alloc (.cells #[.slice A0 aw.schema.length c0, .slice A1 l.length c1, .bool false, .slice none 0 0, .slice none 0 0] 29) = w5 at *
    refine (lawsSameSess G0 A0 G1 A1 G3 none G4 none _ l.length e0 c0 e1 c1 e3 0 e4 0 l _ _ _ g1 g2 HLN.out).mono ?_
    rintro e w6 ⟨rfl, hq⟩
    have hsl := hsl.below TbR.stays hq
    have g1 := g1.below EzR.stays hq
    have gS := gS.below TbR.stays hq
    have g2 := g2.below EzR.stays hq
    have rg_ := Row.below rg_ hq
    have rw_ := Row.below rw_ hq
    have hb := hb.trans (hq.mono hb.size)
    clear hq
    obtain ⟨⟨krw_0, krw_1, krw_2, krw_3, krw_4⟩, -⟩ := rw_.five
    obtain ⟨⟨krg_0, krg_1, krg_2, krg_3, krg_4⟩, -⟩ := rg_.five
    go_wp2_with fail
    clear krw_0 krw_1 krw_2 krw_3 krw_4 krg_0 krg_1 krg_2 krg_3 krg_4
    refine (lawsSameSess G0 A0 G1 A1 G3 none G4 none _ l.length e0 c0 e1 c1 e3 0 e4 0 l _ _ _ g1 g2 HLN.out).mono ?_
    rintro e w7 ⟨rfl, hq⟩
    have hsl := hsl.below TbR.stays hq
    have g1 := g1.below EzR.stays hq
    have gS := gS.below TbR.stays hq
    have g2 := g2.below EzR.stays hq
    have rg_ := Row.below rg_ hq
    have rw_ := Row.below rw_ hq
    have hb := hb.trans (hq.mono hb.size)
    clear hq
    go_wp2_with fail
    go_ret
    exact ⟨rfl, hb⟩
  · have HB := Lib.hid hB
    have hlr : l = List.replicate ts.length () := by have h1 := HL.out; rw [HAW.out, hB] at h1; have h2 : (dts (List.replicate ts.length ())).length = (dts l).length := congrArg List.length h1; have h3 : ∀ m : List Unit, (dts m).length = m.length := (fun m => (by simp [dts])); rw [h3, h3, List.length_replicate] at h2; exact List.ext_getElem (by simpa using h2.symm) fun i _ _ => rfl
    have HDB := Lib.hid (show dbB ts (dts l) = true by rw [hlr]; exact dbB_new hB)
    clear hlr
    have hsc : aw.schema = ts := by rw [HAW.out, hB]; rfl
    have HSC := Lib.hid hsc
    clear hsc
    clear hB
    obtain ⟨⟨krw_0, krw_1, krw_2, krw_3, krw_4⟩, -⟩ := rw_.five
    obtain ⟨⟨krg_0, krg_1, krg_2, krg_3, krg_4⟩, -⟩ := rg_.five
    go_wp2_with fail
    clear krw_0 krw_1 krw_2 krw_3 krw_4 krg_0 krg_1 krg_2 krg_3 krg_4
    generalize w4.alloc (.cells #[.slice A0 aw.schema.length c0, .slice A1 l.length c1, .bool false, .slice none 0 0, .slice none 0 0] 29) = w5 at *
    refine (lawsSameSess G0 A0 G1 A1 G3 none G4 none _ l.length e0 c0 e1 c1 e3 0 e4 0 l _ _ _ g1 g2 HLN.out).mono ?_
    rintro e w6 ⟨rfl, hq⟩
    have hsl := hsl.below TbR.stays hq
    have g1 := g1.below EzR.stays hq
    have gS := gS.below TbR.stays hq
    have g2 := g2.below EzR.stays hq
    have rg_ := Row.below rg_ hq
    have rw_ := Row.below rw_ hq
    have hb := hb.trans (hq.mono hb.size)
    clear hq
    obtain ⟨⟨krw_0, krw_1, krw_2, krw_3, krw_4⟩, -⟩ := rw_.five
    obtain ⟨⟨krg_0, krg_1, krg_2, krg_3, krg_4⟩, -⟩ := rg_.five
    go_wp2_with fail
    clear krw_0 krw_1 krw_2 krw_3 krw_4 krg_0 krg_1 krg_2 krg_3 krg_4
    refine (implSessionOkZ G0 G1 G3 G4 _ e0 _ e1 e3 e4 aw.schema l _ gS g1 (by rw [HSC.out]; exact HSS.out) HLN.out (by rw [HSC.out]; exact HDB.out)).mono ?_
    rintro e w7 ⟨rfl, hq⟩
    have hsl := hsl.below TbR.stays hq
    have g1 := g1.below EzR.stays hq
    have gS := gS.below TbR.stays hq
    have rg_ := Row.below rg_ hq
    have hb := hb.trans (hq.mono hb.size)
    clear hq
    obtain ⟨⟨krg_0, krg_1, krg_2, krg_3, krg_4⟩, -⟩ := rg_.five
    go_wp2_with fail
    refine (implSoundZ A G1 _ c _ e1 ts l _ hsl g1 HSS.out HLN.out HDB.out).mono ?_
    rintro e w8 ⟨rfl, hq⟩
    have hb := hb.trans (hq.mono hb.size)
    clear hq
    go_wp2_with fail
    go_ret
    exact ⟨rfl, hb⟩

set_option maxRecDepth 100000 in
theorem lifted (os : Os) (started : os.Started) (H : Type) (enc : TypeId × Value → H) :
    ReturnsInHanded {} Tryz.checked os 3 .any (Rows.fnSessionNewSpec.pre6 enc Tryz.prog Tryz.f3 Rows.fnSessionNewRow.domain false) (Rows.fnSessionNewSpec.post enc Tryz.prog Tryz.f3 false true false false) := by
  refine returnsInHanded_of_change (C := Tryz.checked) own started (by kernel_rfl) Tryz.func3
    (ChangeSpec.witness6 (enc := enc) (C := Tryz.checked) false ⟨#[], #[.slice none 0 0], []⟩ 8 (by kernel_rfl) (by kernel_rfl) (by kernel_rfl) (by kernel_rfl)) ?_
  intro W base args ds gs before hval0 hW hcnd _
  have hval : ∀ (j : Nat) t v, Tryz.f3.params[j]? = some t → args[j]? = some v → Value.okWide Tryz.prog W .any base t v := hval0
  have hW' := hW
  obtain ⟨p, q, hA0, hV, rfl, hfz, hnd⟩ := hW
  have hA : DataW.TrodAll enc Tryz.prog W 0 (fun _ => true) true Tryz.f3.params.toList args.toList ds p := hA0
  rw [Tryz.params3] at hA hval
  obtain ⟨v0, vs0, d0, ds0, p0, q0, hargs, rfl, rfl, h0, r0⟩ := trodAll_cons hA
  obtain ⟨rfl, rfl, rfl⟩ := trodAll_nil r0
  obtain rfl : args = #[v0] := by cases args; simp_all
  obtain ⟨rfl, rfl⟩ := trodVars_none hV
  have k0' := h0
  have lt0 : ∀ x ∈ p0, x.block < W.heap.size := by obtain ⟨m, hm⟩ := k0'; exact DataW.trod_lt m _ _ _ hm
  obtain ⟨a0, len0, cap0, rfl⟩ := okWide_slice Tryz.underlying22 (hval 0 22 v0 rfl rfl)
  obtain ⟨z0, w0⟩ := isRow_of_trod Tryz.underlying22 Tryz.underlying5 (by kernel_rfl) h0
  clear hA0 hval0
  refine (walk a0 len0 cap0 z0 W w0).mono fun e W' ⟨he, bel⟩ => ?_
  subst he
  exact ⟨_, rfl, _, _, _, [], _, [], hW', trodAll_mk1 (shut_bool Tryz.underlying4 _), (trodAll_cons_mk (Below.trod laidOut (by kernel_rfl) (of_decide_eq_true (by kernel_rfl)) k0' bel lt0) trodAll_mk0), rfl, bel.frame _, fun h => by cases h⟩

set_option maxRecDepth 100000 in
set_option maxHeartbeats 16000000 in
theorem facts : joinedFacts Tryz.checked.prog 3 Tryz.f3 Rows.fnSessionNewSpec Rows.fnSessionNewRow = true := by
  unfold joinedFacts
  repeat' (with_reducible refine Bool.and_eq_true_iff.2 ⟨?_, ?_⟩)
  all_goals (as_aux_lemma => kernel_rfl)

theorem over : Rows.fnSessionNewRow.holds Tryz.pinned (OpenSpec.ofChange Rows.fnSessionNewSpec) :=
  OpenClaim.holds_of_wide 3 Tryz.f3 rfl rfl rfl rfl rfl rfl rfl ⟨rfl, rfl, rfl, rfl, rfl⟩ rfl rfl rfl rfl rfl (by kernel_rfl) Tryz.func3 facts
    (of_decide_eq_true (by as_aux_lemma => kernel_rfl)) (by unfold Func.isWrapper; first | (rw [if_pos (by decide +kernel)]; kernel_rfl) | (rw [if_neg (by decide +kernel)]; exact ⟨rfl, rfl⟩))
    (fun os started H enc _ => lifted os started H enc)

theorem proved : Rows.FnSessionNewSaid := over
#print axioms proved
end Go.Proofs.YtkehfilmpdoglaaGreat.fnSessionNew
