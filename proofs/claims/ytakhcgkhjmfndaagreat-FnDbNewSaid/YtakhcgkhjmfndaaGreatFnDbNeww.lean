/-
  A new database is right, has no rows and no flaws (law FnDbNew, for every code).
-/
import Derived.Test.YtakhcgkhjmfndaaGreatBase
import Derived.Test.YtakhcgkhjmfndaaGreatNa
namespace Go.Proofs.YtakhcgkhjmfndaaGreat.fnDbNew
open Go.ChangeShapes Go.WideShapes Go.ChangeAt Go.RowKit Go.Joins
open Go.ChangeMaps (open_string shut_string)
set_option linter.unusedSimpArgs false
set_option linter.unusedVariables false

set_option maxRecDepth 100000 in
set_option maxHeartbeats 4000000 in
theorem walk (a0 : Option Addr) (len0 cap0 : Nat) (z0 : List Int) (w : World) (w0 : IsRow .u8 w a0 len0 cap0 z0) :
    Calls Tryz.prog 3 #[.slice a0 len0 cap0] w fun e w' => e = .returned (.bool true) ∧ Below w.heap.size w w' := by
  by_cases hbig : (1048576 : Int) < len0
  · have hbig : decide ((1048576 : Int) < len0) = true := by simpa using hbig
    go_enter Tryz.func3, Tryz.ntmps3
    go_wp2_with fail
    refine (lawsBig a0 len0 cap0 w).mono ?_
    rintro e w' ⟨rfl, rfl⟩
    go_wp2
    go_ret
    exact ⟨rfl, Below.refl _ _⟩
  have hbig : decide ((1048576 : Int) < len0) = false := by simpa using hbig
  go_enter Tryz.func3, Tryz.ntmps3
  go_wp2_with fail
  refine (lawsBig a0 len0 cap0 w).mono ?_
  rintro e w' ⟨rfl, rfl⟩
  clear hbig
  go_wp2_with fail
  refine (drawDbNew a0 len0 cap0 z0 _ w0).mono ?_
  rintro e w1 ⟨v, rfl, ⟨ok, A, n, c, ts, rfl, hnc, hsl0, hsz⟩, hb⟩
  have hsl := hsl0.stays TbR.stays (ok' := fun _ => True) (fun _ _ => trivial) (fun _ _ _ h => h)
  obtain rfl : ts.length = n := hsl.1
  have hss : szL Tb.sz ts ≤ 1048576 := by omega
  have hn : ts.length ≤ 1048576 := by unfold szL at hss; omega
  have HSS := Lib.hid hss
  have HN := Lib.hid hn
  have HNC := Lib.hid hnc
  clear hsl0 hsz hss hn hnc
  go_wp2_with fail
  refine (implDbNew A _ c ts _ _ hsl HSS.out).mono ?_
  rintro e w2 ⟨A1, c1, rfl, hc1, hd1, hq⟩
  have hsl := hsl.below TbR.stays hq
  have hd1 := hd1.stays EmR.stays (ok' := fun _ => True) (fun _ _ => trivial) (fun _ _ _ h => h)
  have hb := hb.trans (hq.mono hb.size)
  clear hq hc1
  go_wp2_with fail
  refine (specDbNew A _ c ts _ _ hsl HNC.out HSS.out).mono ?_
  rintro e w3 ⟨A2, c2, rfl, hc2, hd2, hq⟩
  have hsl := hsl.below TbR.stays hq
  have hd1 := hd1.below EmR.stays hq
  have hd2 := hd2.stays EmR.stays (ok' := fun _ => True) (fun _ _ => trivial) (fun _ _ _ h => h)
  have hb := hb.trans (hq.mono hb.size)
  clear hq hc2
  have hle : (ems (schemaB ts) ts.length).length ≤ 1048576 := Nat.le_trans (ems_len _ _) HN.out
  have HLE := Lib.hid hle
  clear hle
  cases hB : schemaB ts
  · rw [hB] at hd1 hd2 HLE
    have HD1 := Lib.hid hd1
    have HD2 := Lib.hid hd2
    generalize ems false ts.length = l at *
    clear hd1 hd2 hB
    go_wp2_with fail
    refine (lawsSameDbE A1 A2 l.length c1 c2 l _ _ _ HD1.out HD2.out HLE.out).mono ?_
    rintro e w4 ⟨rfl, hq⟩
    have HD1 := Lib.hid (HD1.out.below EmR.stays hq)
    have HD2 := Lib.hid (HD2.out.below EmR.stays hq)
    have hb := hb.trans (hq.mono hb.size)
    clear hq
    go_wp2_with fail
    refine (lawsSameDbE A1 A2 l.length c1 c2 l _ _ _ HD1.out HD2.out HLE.out).mono ?_
    rintro e w5 ⟨rfl, hq⟩
    have hb := hb.trans (hq.mono hb.size)
    clear hq
    go_wp2_with fail
    go_ret
    exact ⟨rfl, hb⟩
  · rw [hB] at hd1 hd2 HLE
    have HD1 := Lib.hid hd1
    have HD2 := Lib.hid hd2
    have HDB := Lib.hid (dbB_new hB)
    have HEM := Lib.hid (show (ems true ts.length).length = ts.length by unfold ems; simp)
    have HDS := Lib.hid (dts_sz (ems true ts.length))
    have HB := Lib.hid hB
    have HNR := Lib.hid (show ∀ d ∈ dts (ems true ts.length), ∀ r ∈ d.rows, r.vals.length ≤ 1048576 from fun d hd r hr => by
      obtain ⟨u, -, e⟩ := List.mem_map.1 hd
      rw [← e] at hr
      cases hr)
    generalize ems true ts.length = l at *
    have hlt : l.length = ts.length := HEM.out
    have hlt1 : ((l.length : Int) == ts.length) = true := by rw [hlt]; simp
    have HL1 := Lib.hid hlt1
    clear hd1 hd2 hB hlt hlt1
    go_wp2_with fail
    refine (lawsSameDbE A1 A2 l.length c1 c2 l _ _ _ HD1.out HD2.out HLE.out).mono ?_
    rintro e w4 ⟨rfl, hq⟩
    have HD1 := Lib.hid (HD1.out.below EmR.stays hq)
    have hsl := hsl.below TbR.stays hq
    have hb := hb.trans (hq.mono hb.size)
    clear hq HD2
    go_wp2_with fail
    refine (implDbOk A A1 ts.length c l.length c1 ts (dts l) _ _ hsl (Em.toDt HD1.out) HSS.out (by rw [HDS.out]; exact HLE.out) HNR.out).mono ?_
    rintro e w5 ⟨rfl, hq⟩
    rw [HDB.out]
    have HD1 := Lib.hid (HD1.out.below EmR.stays hq)
    have hsl := hsl.below TbR.stays hq
    have hb := hb.trans (hq.mono hb.size)
    clear hq
    go_wp2_with fail
    refine (implSoundE A A1 ts.length c l.length c1 ts l _ hsl HD1.out HSS.out HLE.out HDB.out).mono ?_
    rintro e w6 ⟨rfl, hq⟩
    have hb := hb.trans (hq.mono hb.size)
    clear hq
    have hlt := HEM.out
    have hlt1 := HL1.out
    go_wp2_with fail
    go_ret
    exact ⟨rfl, hb⟩

set_option maxRecDepth 100000 in
theorem lifted (os : Os) (started : os.Started) (H : Type) (enc : TypeId × Value → H) :
    ReturnsInHanded {} Tryz.checked os 3 .any (Rows.fnDbNewSpec.pre6 enc Tryz.prog Tryz.f3 Rows.fnDbNewRow.domain false) (Rows.fnDbNewSpec.post enc Tryz.prog Tryz.f3 false true false false) := by
  refine returnsInHanded_of_change (C := Tryz.checked) own started (by kernel_rfl) Tryz.func3
    (ChangeSpec.witness6 (enc := enc) (C := Tryz.checked) false ⟨#[], #[.slice none 0 0], []⟩ 8 (by kernel_rfl) (by kernel_rfl) (by kernel_rfl) (by kernel_rfl)) ?_
  intro W base args ds gs before hval0 hW hcnd _
  have hval : ∀ (j : Nat) t v, Tryz.f3.params[j]? = some t → args[j]? = some v → Value.okWide Tryz.prog W .any base t v := hval0
  have hW' := hW
  obtain ⟨p, q, hA0, hV, rfl, hfz, hnd⟩ := hW
  have hA : DataW.TrodAll enc Tryz.prog W 0 (fun _ => true) true Tryz.f3.params.toList args.toList ds p := hA0
  rw [Tryz.params3] at hA hval
  obtain ⟨v0, vs0, d0, ds0, p0, q0, hargs, rfl, rfl, h0, r0⟩ := trodAll_cons hA
  obtain ⟨rfl, rfl, rfl⟩ := trodAll_nil r0
  obtain rfl : args = #[v0] := by cases args; simp_all
  obtain ⟨rfl, rfl⟩ := trodVars_none hV
  have k0' := h0
  have lt0 : ∀ x ∈ p0, x.block < W.heap.size := by obtain ⟨m, hm⟩ := k0'; exact DataW.trod_lt m _ _ _ hm
  obtain ⟨a0, len0, cap0, rfl⟩ := okWide_slice Tryz.underlying22 (hval 0 22 v0 rfl rfl)
  obtain ⟨z0, w0⟩ := isRow_of_trod Tryz.underlying22 Tryz.underlying5 (by kernel_rfl) h0
  clear hA0 hval0
  refine (walk a0 len0 cap0 z0 W w0).mono fun e W' ⟨he, bel⟩ => ?_
  subst he
  exact ⟨_, rfl, _, _, _, [], _, [], hW', trodAll_mk1 (shut_bool Tryz.underlying4 _), (trodAll_cons_mk (Below.trod laidOut (by kernel_rfl) (of_decide_eq_true (by kernel_rfl)) k0' bel lt0) trodAll_mk0), rfl, bel.frame _, fun h => by cases h⟩

set_option maxRecDepth 100000 in
set_option maxHeartbeats 16000000 in
theorem facts : joinedFacts Tryz.checked.prog 3 Tryz.f3 Rows.fnDbNewSpec Rows.fnDbNewRow = true := by
  unfold joinedFacts
  repeat' (with_reducible refine Bool.and_eq_true_iff.2 ⟨?_, ?_⟩)
  all_goals (as_aux_lemma => kernel_rfl)

theorem over : Rows.fnDbNewRow.holds Tryz.pinned (OpenSpec.ofChange Rows.fnDbNewSpec) :=
  OpenClaim.holds_of_wide 3 Tryz.f3 rfl rfl rfl rfl rfl rfl rfl ⟨rfl, rfl, rfl, rfl, rfl⟩ rfl rfl rfl rfl rfl (by kernel_rfl) Tryz.func3 facts
    (of_decide_eq_true (by as_aux_lemma => kernel_rfl)) (by unfold Func.isWrapper; first | (rw [if_pos (by decide +kernel)]; kernel_rfl) | (rw [if_neg (by decide +kernel)]; exact ⟨rfl, rfl⟩))
    (fun os started H enc _ => lifted os started H enc)

theorem proved : Rows.FnDbNewSaid := over
#print axioms proved
end Go.Proofs.YtakhcgkhjmfndaaGreat.fnDbNew
