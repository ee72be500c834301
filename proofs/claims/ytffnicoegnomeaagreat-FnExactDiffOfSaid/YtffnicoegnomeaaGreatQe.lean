/-
  Several texts in one: what the proof leans on, part 5.
-/
import Derived.Test.YtffnicoegnomeaaGreatQc
import Derived.Test.YtffnicoegnomeaaGreatQd
import Derived.Test.YtffnicoegnomeaaGreatQa
import Derived.Deep.Cut
import Derived.Deep.CutRange
import Derived.WalkMore
set_option linter.unusedVariables false
set_option linter.unusedSimpArgs false
namespace Go.Proofs.YtffnicoegnomeaaGreat
open Go.RowKit
theorem own_ne {w : World} {base base' : Nat} {T T' : TypeId} {sz sz' : Nat} {v v' : Value} {n n' : Nat} {xs xs' : List Value} (hT : T ≠ T') (h : w.ownsRow base T sz v n xs) (h' : w.ownsRow base' T' sz' v' n' xs') : v.ownBlock = none ∨ v.ownBlock ≠ v'.ownBlock := by
  cases hv : v.ownBlock with
  | none => exact .inl rfl
  | some g =>
    refine .inr fun e => ?_
    obtain ⟨-, cur, h1⟩ := ownsRow_typed h hv
    obtain ⟨-, cur', h2⟩ := ownsRow_typed h' e.symm
    rw [h1] at h2
    injection h2 with h2
    injection h2 with _ h3
    exact hT h3
theorem idsA_len (a : List Rw) : (idsA a).length = a.length := by simp [idsA]
def CutA (g : Nat) (wy wx : World) (k id : Int) (ov : List Vl) : Prop := ∃ X e, Row wx g 120 #[.int .i64 k, .int .i64 id, .slice X ov.length e, .slice none 0 0] ∧ OwnK wx (g + 1) (.slice X ov.length e) ov ∧ Below g wy wx
def CutB (g base : Nat) (wy wx : World) (k id : Int) (ov nv : List Vl) : Prop := ∃ X e Y f, Row wx g 120 #[.int .i64 k, .int .i64 id, .slice X ov.length e, .slice Y nv.length f] ∧ ChO wx base [.int .i64 k, .int .i64 id, .slice X ov.length e, .slice Y nv.length f] ⟨k, id, ov, nv⟩ (blk (.slice X ov.length e) ++ blk (.slice Y nv.length f)) ∧
  (∀ b ∈ blk (.slice X ov.length e) ++ blk (.slice Y nv.length f), g < b) ∧ OwnK wx (g + 1) (.slice X ov.length e) ov ∧ OwnK wx (g + 1) (.slice Y nv.length f) nv ∧ Below g wy wx
theorem OwnK.lists {w : World} {base n c : Nat} {A : Option Addr} {xs : List Vl} (h : OwnK w base (.slice A n c) xs) : Sl VlR 3 (okF base w) w A n xs := by
  obtain ⟨_, _, e, -, -, hS⟩ := OwnG.sl (f := Vl.cells) (sz := 3) (fun _ => rfl) h
  cases e
  exact hS
theorem flatMap_take {α β : Type} (f : α → List β) {l : List α} {m : Nat} (h : m < l.length) : (l.take (m + 1)).flatMap f = (l.take m).flatMap f ++ f l[m] := by
  rw [List.take_succ_eq_append_getElem h, List.flatMap_append]; simp
theorem flatMap_len_take {α β : Type} (f : α → List β) (l : List α) (m : Nat) : ((l.take m).flatMap f).length ≤ (l.flatMap f).length := by
  have h := congrArg List.length (congrArg (List.flatMap f) (List.take_append_drop m l))
  rw [List.flatMap_append, List.length_append] at h
  omega
theorem valsAt_len {l : List Rw} {id : Int} {m : Nat} (h : ∀ r ∈ l, r.vals.length ≤ m) : (valsAt l id).length ≤ m := by
  unfold valsAt
  split
  · next r hr => exact h r (List.mem_of_find?_eq_some hr)
  · simp
set_option maxRecDepth 100000 in
set_option maxHeartbeats 8000000 in
theorem specDiffOf (AS AA AB : Option Addr) (nS cS nA cA nB cB : Nat) (s : List Tb) (a b : List Dt) (ok oka okb : Nat → Prop) (w : World) (hs : Sl TbR 6 ok w AS nS s) (ha : Sl DtR 1 oka w AA nA a) (hb : Sl DtR 1 okb w AB nB b) (hcp : nS ≤ cS)
    (hsz : szL Tb.sz s ≤ 1048576) (haz : szL Dt.sz a ≤ 1048576) (hbz : szL Dt.sz b ≤ 1048576) :
    Calls Tryz.prog 23 #[.slice AS nS cS, .slice AA nA cA, .slice AB nB cB] w fun e w' => ∃ v, e = .returned (.tuple #[v, .bool (diffOk s a b)]) ∧ OwnC w' w.heap.size v (diffB s a b) ∧ Below w.heap.size w w' := by
  obtain ⟨i0, hi, hz0, hz1, hz2⟩ := info_parts infoChC
  have H1 := Lib.hid hi
  have H2 := Lib.hid hz0
  have H3 := Lib.hid hz1
  have H4 := Lib.hid hz2
  clear hi hz0 hz1 hz2
  obtain ⟨j0, hj, hy0, hy1, hy2⟩ := info_parts infoIntI
  have J1 := Lib.hid hj
  have J2 := Lib.hid hy0
  have J3 := Lib.hid hy1
  have J4 := Lib.hid hy2
  clear hj hy0 hy1 hy2
  obtain rfl : s.length = nS := hs.1
  obtain rfl : a.length = nA := ha.1
  obtain rfl : b.length = nB := hb.1
  have HC1 := Lib.hid (specDbOk AS AA s.length cS a.length cA s a ok oka w hs ha hcp hsz haz)
  have HC2 := Lib.hid (fun w1 (hbw : Below w.heap.size w w1) => specDbOk AS AB s.length cS b.length cB s b ok okb w1 (hs.below TbR.stays hbw) (hb.below DtR.stays hbw) hcp hsz hbz)
  have HR1 := Lib.hid (rows_le haz)
  have HR2 := Lib.hid (rows_le hbz)
  clear hs hsz haz hbz
  cases hA : dbB s a
  · have HA := Lib.hid hA
    have HF := Lib.hid (show diffOk s a b = false by unfold diffOk; rw [hA]; rfl)
    have HD := Lib.hid (show diffB s a b = [] by unfold diffB; rw [hA]; rfl)
    clear hA
    go_enter Tryz.func23, Tryz.ntmps23
    go_wp2_with fail
    refine HC1.out.mono ?_
    rintro e w1 ⟨rfl, hb1⟩
    rw [HA.out]
    go_wp2_with fail
    go_ret2
    exact ⟨_, by rw [HF.out]; rfl, by rw [HD.out]; exact OwnL.nil _ _, hb1⟩
  cases hB : dbB s b
  · have HA := Lib.hid hA
    have HB := Lib.hid hB
    have HF := Lib.hid (show diffOk s a b = false by unfold diffOk; rw [hB, Bool.and_false])
    have HD := Lib.hid (show diffB s a b = [] by unfold diffB; rw [hB, Bool.and_false]; rfl)
    clear hA hB
    go_enter Tryz.func23, Tryz.ntmps23
    go_wp2_with fail
    refine HC1.out.mono ?_
    rintro e w1 ⟨rfl, hb1⟩
    rw [HA.out]
    go_wp2_with fail
    refine (HC2.out w1 hb1).mono ?_
    rintro e w2 ⟨rfl, hb2⟩
    rw [HB.out]
    go_wp2_with fail
    go_ret2
    exact ⟨_, by rw [HF.out]; rfl, by rw [HD.out]; exact OwnL.nil _ _, hb1.trans (hb2.mono hb1.size)⟩
  have HA := Lib.hid hA
  have HB := Lib.hid hB
  have HF := Lib.hid (show diffOk s a b = true by unfold diffOk; rw [hA, hB]; rfl)
  have HD := Lib.hid (show diffB s a b = diffGo a b s.length by unfold diffB; rw [hA, hB]; rfl)
  have HLA := Lib.hid (dbB_len hA)
  have HLB := Lib.hid (dbB_len hB)
  have HLG := Lib.hid (fun k hk => (diffGo_ok hA hB k hk).1)
  have HS5 := Lib.hid (show s.length ≤ 5 by have h := hA; simp only [dbB, Bool.and_eq_true, decide_eq_true_eq, schemaB] at h; exact h.1.1)
  have HRA := Lib.hid (dbB_rises hA)
  have HRB := Lib.hid (dbB_rises hB)
  have HNA := Lib.hid (fun d hd => (dbB_small hA d hd).1)
  have HNB := Lib.hid (fun d hd => (dbB_small hB d hd).1)
  clear hA hB
  go_enter Tryz.func23, Tryz.ntmps23
  go_wp2_with fail
  refine HC1.out.mono ?_
  rintro e w1 ⟨rfl, hb1⟩
  rw [HA.out]
  go_wp2_with fail
  refine (HC2.out w1 hb1).mono ?_
  rintro e w2 ⟨rfl, hb2⟩
  rw [HB.out]
  have hb12 := hb1.trans (hb2.mono hb1.size)
  have HB2 := Lib.hid (hb12.alloc hb12.size (.cells #[] 120))
  have HO0 := Lib.hid (show OwnC _ w.heap.size _ [] from OwnL.lit (E := ChO) (T := 120) (sz := 4) w2 hb12.size)
  clear HC1 HC2 hb1 hb2 hb12
  go_wp2_with fail
  generalize w2.alloc (.cells #[] 120) = z0 at *
  go_loopw [8, 9] (fun v i wr => ∃ k : Nat, k ≤ s.length ∧ i = .int .i64 k ∧ Hid (OwnC wr w.heap.size v (diffGo a b k)) ∧ Hid (Below w.heap.size w wr)) (fun _ i _ => s.length - (intOf i).toNat)
  case atStart => exact ⟨0, by omega, rfl, HO0, HB2⟩
  case round =>
    clear HO0 HB2
    obtain ⟨k, hk, rfl, hown, hbw⟩ := hrel
    by_cases hlt : k < s.length
    · have hka : k < a.length := by have := HLA.out; omega
      have hkb : k < b.length := by have := HLB.out; omega
      have i0' : (0 : Int) ≤ k := by omega
      have i1 : (k : Int) < s.length := by omega
      have i2 : (k : Int) < a.length := by omega
      have i3 : (k : Int) < b.length := by omega
      have HSUC := Lib.hid ((diffGo_succ hka hkb).trans (congrArg (fun z => diffGo a b k ++ z) (diff_two k (HRA.out _ (List.getElem_mem hka)) (HRB.out _ (List.getElem_mem hkb)))))
      have HLK := Lib.hid (HLG.out (k + 1) (by omega))
      have hn60 : a[k].rows.length ≤ 60 := HNA.out _ (List.getElem_mem hka)
      have hm60 : b[k].rows.length ≤ 60 := HNB.out _ (List.getElem_mem hkb)
      have HRK1 := Lib.hid (HR1.out _ (List.getElem_mem hka))
      have HRK2 := Lib.hid (HR2.out _ (List.getElem_mem hkb))
      obtain ⟨wo, rfl⟩ : ∃ wo, wo = wr := ⟨_, rfl⟩
      have hoB := hbw.out
      have hi0 := Lib.hid (OwnI.lit wo (Nat.le_refl wo.heap.size))
      have hi1 := Lib.hid ((Below.refl wo.heap.size wo).alloc (Nat.le_refl _) (.cells #[] 2))
      obtain ⟨ba, oa, A0, n0, c0, -, eA, pA, hrA, hcA⟩ := DtR.at_ ha hka
      obtain ⟨bb, ob, B0, m0, d0, -, eB, pB, hrB, hcB⟩ := DtR.at_ hb hkb
      subst eA eB
      obtain rfl : a[k].rows.length = n0 := hrA.1
      obtain rfl : b[k].rows.length = m0 := hrB.1
      have HDA : Hid (∀ wq, Below w.heap.size w wq → wq.cell? ⟨ba, oa + k, none⟩ = some (.slice A0 a[k].rows.length c0) ∧ Sl RwR 2 oka wq A0 a[k].rows.length a[k].rows) := Lib.hid fun wq hq => ⟨below_keep hq _ _ pA, hrA.below RwR.stays hq⟩
      have HDB : Hid (∀ wq, Below w.heap.size w wq → wq.cell? ⟨bb, ob + k, none⟩ = some (.slice B0 b[k].rows.length d0) ∧ Sl RwR 2 okb wq B0 b[k].rows.length b[k].rows) := Lib.hid fun wq hq => ⟨below_keep hq _ _ pB, hrB.below RwR.stays hq⟩
      clear pA hrA pB hrB
      go_wp2_with fail
      generalize wo.alloc (.cells #[] 2) = y0 at *
      -- the Ids of the one
      go_loopw [10, 11] (fun v i wq => ∃ m : Nat, m ≤ a[k].rows.length ∧ i = .int .i64 m ∧ Hid (OwnI wq wo.heap.size v (idsA (a[k].rows.take m))) ∧ Hid (Below wo.heap.size wo wq)) (fun _ i _ => a[k].rows.length - (intOf i).toNat)
      case atStart => exact ⟨0, by omega, rfl, hi0, hi1⟩
      case round =>
        clear hi0 hi1
        obtain ⟨m, hm, rfl, hids, hbq⟩ := hrel
        obtain ⟨pd, hrd⟩ := HDA.out wr (hoB.trans (hbq.out.mono hoB.size))
        by_cases hlm : m < a[k].rows.length
        · obtain ⟨b1, o1, A1, n1, c1, -, rfl, p0, p1, -⟩ := RwR.at_ hrd hlm
          have m0' : (0 : Int) ≤ m := by omega
          have m1' : (m : Int) < a[k].rows.length := by omega
          have HT := Lib.hid (idsA_take hlm)
          have HL := Lib.hid (show (idsA (a[k].rows.take m)).length ≤ 60 by rw [idsA_len, List.length_take]; omega)
          generalize idsA (a[k].rows.take m) = xs at *
          clear hrd p1
          go_wp2_with (at_builtin; refine wpList_append_own _ rfl _ _ 28 rfl wo.heap.size 2 j0 (.int .i64 0) 1 8 Tryz.underlying28 J1.out J2.out J3.out J4.out rfl (by decide) _ _ _ rfl (World.ownsRow.alloc hids.out _) ⟨_, 0, none⟩ 1 1 [.int .i64 a[k].rows[m].id] rfl rfl ?c1 ?c2 ?c3 ?c4 ?c5 ?_)
          case c1 => exact cells_newAt _ [.int .i64 a[k].rows[m].id] _ (by simp)
          case c2 => intro u hu; simp at hu; subst hu; rfl
          case c3 => have := HL.out; unfold maxLen; omega
          case c4 => have := HL.out; omega
          case c5 => have := hbq.out.size; simp; omega
          intro v1 W1 own1 grow1 _
          obtain ⟨hE1, hB1⟩ := OwnI.app hids.out hbq.out.size own1 grow1
          have HE1 := Lib.hid (show OwnI W1 wo.heap.size v1 (idsA (a[k].rows.take (m + 1))) by rw [HT.out]; exact hE1)
          have HB1 := Lib.hid (hbq.out.trans hB1)
          clear own1 grow1 hE1 hB1
          go_wp2_with fail
          go_roundw
          case rel => exact ⟨m + 1, by omega, by go_num, HE1, HB1⟩
          case measure => simp [intOf]; omega
        · obtain rfl : m = a[k].rows.length := by omega
          rw [List.take_length] at hids
          have HB0 := Lib.hid (show OwnI wr wo.heap.size _ (idsB (idsA a[k].rows) (b[k].rows.take 0)) from hids.out)
          have HBQ := hbq
          clear hids hrd hbq
          have m1' : decide ((a[k].rows.length : Int) < a[k].rows.length) = false := by simp
          go_wp2_with fail
          clear pd m1'
          -- the Ids of the other
          go_loopw [10, 12] (fun v i wq => ∃ m : Nat, m ≤ b[k].rows.length ∧ i = .int .i64 m ∧ Hid (OwnI wq wo.heap.size v (idsB (idsA a[k].rows) (b[k].rows.take m))) ∧ Hid (Below wo.heap.size wo wq)) (fun _ i _ => b[k].rows.length - (intOf i).toNat)
          case atStart => exact ⟨0, by omega, rfl, HB0, HBQ⟩
          case round =>
            clear HB0 HBQ
            obtain ⟨m, hm, rfl, hids, hbq⟩ := hrel
            obtain ⟨pd, hrd⟩ := HDB.out wr (hoB.trans (hbq.out.mono hoB.size))
            by_cases hlm : m < b[k].rows.length
            · obtain ⟨b1, o1, A1, n1, c1, -, rfl, p0, p1, -⟩ := RwR.at_ hrd hlm
              have m0' : (0 : Int) ≤ m := by omega
              have m1' : (m : Int) < b[k].rows.length := by omega
              have HT := Lib.hid (idsB_take (acc := idsA a[k].rows) hlm)
              have HL := Lib.hid (show (idsB (idsA a[k].rows) (b[k].rows.take m)).length ≤ 120 by have := idsB_len (b[k].rows.take m) (idsA a[k].rows); rw [idsA_len, List.length_take] at this; omega)
              generalize idsB (idsA a[k].rows) (b[k].rows.take m) = xs at *
              have HID := Lib.hid hids.out
              obtain ⟨AO, cO, ev, hcO, hcm, hsl⟩ := hids.out.sl
              subst ev
              clear hrd p1 hids
              have hln := HL.out
              cases hhas : hasB xs b[k].rows[m].id
              · have HT2 := Lib.hid (HT.out.trans (by rw [hhas]; try rfl))
                have HSV := Lib.hid (specHasV (c := cO) hhas wr hsl (by omega))
                clear hhas hsl
                go_wp2_with fail
                refine HSV.out.mono ?_
                rintro e w1 ⟨rfl, rfl⟩
                clear HSV
                go_wp2_with (at_builtin; refine wpList_append_own _ rfl _ _ 28 rfl wo.heap.size 2 j0 (.int .i64 0) 1 8 Tryz.underlying28 J1.out J2.out J3.out J4.out rfl (by decide) _ _ _ rfl (World.ownsRow.alloc HID.out _) ⟨_, 0, none⟩ 1 1 [.int .i64 b[k].rows[m].id] rfl rfl ?c1 ?c2 ?c3 ?c4 ?c5 ?_)
                case c1 => exact cells_newAt _ [.int .i64 b[k].rows[m].id] _ (by simp)
                case c2 => intro u hu; simp at hu; subst hu; rfl
                case c3 => have := HL.out; unfold maxLen; omega
                case c4 => have := HL.out; omega
                case c5 => have := hbq.out.size; simp; omega
                intro v1 W1 own1 grow1 _
                obtain ⟨hE1, hB1⟩ := OwnI.app HID.out hbq.out.size own1 grow1
                have HE1 := Lib.hid (show OwnI W1 wo.heap.size v1 (idsB (idsA a[k].rows) (b[k].rows.take (m + 1))) by rw [HT2.out]; exact hE1)
                have HB1 := Lib.hid (hbq.out.trans hB1)
                clear own1 grow1 hE1 hB1
                go_wp2_with fail
                go_roundw
                case rel => exact ⟨m + 1, by omega, by go_num, HE1, HB1⟩
                case measure => simp [intOf]; omega
              · have HT2 := Lib.hid (HT.out.trans (by rw [hhas]; try rfl))
                have HSV := Lib.hid (specHasV (c := cO) hhas wr hsl (by omega))
                clear hhas hsl
                go_wp2_with fail
                refine HSV.out.mono ?_
                rintro e w1 ⟨rfl, rfl⟩
                clear HSV
                go_wp2_with fail
                go_roundw
                case rel => exact ⟨m + 1, by omega, by go_num, by rw [HT2.out]; exact HID, hbq⟩
                case measure => simp [intOf]; omega
            · obtain rfl : m = b[k].rows.length := by omega
              rw [List.take_length] at hids
              have HL := Lib.hid (show (idsB (idsA a[k].rows) b[k].rows).length ≤ 120 by have := idsB_len b[k].rows (idsA a[k].rows); rw [idsA_len] at this; omega)
              have HIL : idsB (idsA a[k].rows) b[k].rows = idsL a[k].rows b[k].rows := rfl
              rw [HIL] at hids HL
              obtain ⟨AO, cO, ev, hcO, hcm, hsl⟩ := hids.out.sl
              subst ev
              have hln := HL.out
              have HSO := Lib.hid (specSort AO _ cO _ _ wr hsl (by omega))
              have HBQ := hbq
              clear hids hrd hbq hsl HIL
              have m1' : decide ((b[k].rows.length : Int) < b[k].rows.length) = false := by simp
              go_wp2_with fail
              refine HSO.out.mono ?_
              rintro e w3 ⟨v3, rfl, hs3, hb3⟩
              clear pd m1' HSO
              have HW3 := Lib.hid (show Below wo.heap.size wo w3 from HBQ.out.trans (hb3.mono HBQ.out.size))
              have HBW := Lib.hid (show Below w.heap.size w w3 from hoB.trans (HW3.out.mono hoB.size))
              have HS3 := Lib.hid (hs3.mono (show w.heap.size ≤ wr.heap.size by have := HBQ.out.size; have := hoB.size; omega))
              have HSL := Lib.hid (show (sortI (idsL a[k].rows b[k].rows)).length ≤ 120 by rw [sortI_len]; exact HL.out)
              have HO3 := Lib.hid (show OwnC w3 w.heap.size _ (diffGo a b k ++ ((sortI (idsL a[k].rows b[k].rows)).take 0).flatMap (chgAt k a[k].rows b[k].rows)) by rw [List.take_zero, List.flatMap_nil, List.append_nil]; exact OwnL.below ChO.good hown.out HW3.out)
              clear hs3 hb3 HBQ HL hln hown hbw hoB HW3
              generalize sortI (idsL a[k].rows b[k].rows) = ids at *
              obtain ⟨AI, cI, ev, hcI, hcm2, -⟩ := HS3.out.sl
              subst ev
              clear hcI hcm2
              have hids120 := HSL.out
              go_wp2_with fail
              go_loopw [8, 13] (fun v i wq => ∃ m : Nat, m ≤ ids.length ∧ i = .int .i64 m ∧ Hid (OwnC wq w.heap.size v (diffGo a b k ++ (ids.take m).flatMap (chgAt k a[k].rows b[k].rows))) ∧ Hid (OwnI wq w.heap.size (.slice AI ids.length cI) ids) ∧ Hid (Below w.heap.size w wq)) (fun _ i _ => ids.length - (intOf i).toNat)
              case atStart => exact ⟨0, by omega, rfl, HO3, HS3, HBW⟩
              case round =>
                clear HO3 HS3 HBW
                obtain ⟨m, hm, rfl, hout, hids, hbq⟩ := hrel
                by_cases hlm : m < ids.length
                · have hblen := hbq.out.size
                  obtain ⟨_, _, ev2, -, -, hsl⟩ := hids.out.sl
                  cases ev2
                  obtain ⟨bi, oi, -, rfl, y0⟩ := IntR.at_ hsl hlm
                  have m0' : (0 : Int) ≤ m := by omega
                  have m1' : (m : Int) < ids.length := by omega
                  have HT := Lib.hid (show diffGo a b k ++ (ids.take (m + 1)).flatMap (chgAt k a[k].rows b[k].rows) = (diffGo a b k ++ (ids.take m).flatMap (chgAt k a[k].rows b[k].rows)) ++ chgAt k a[k].rows b[k].rows ids[m] by rw [flatMap_take _ hlm, List.append_assoc])
                  have HXL := Lib.hid (show (diffGo a b k ++ (ids.take m).flatMap (chgAt k a[k].rows b[k].rows)).length ≤ 600 by
                    have h1 := congrArg List.length HSUC.out
                    have h2 := flatMap_len_take (chgAt k a[k].rows b[k].rows) ids m
                    have h3 := HLK.out
                    have h4 := HS5.out
                    rw [List.length_append] at h1 ⊢
                    omega)
                  have HV1 := Lib.hid (valsAt_len (id := ids[m]) HRK1.out)
                  have HV2 := Lib.hid (valsAt_len (id := ids[m]) HRK2.out)
                  generalize diffGo a b k ++ (ids.take m).flatMap (chgAt k a[k].rows b[k].rows) = xs at *
                  generalize hidm : ids[m] = id at *
                  have HCH := Lib.hid (show chgAt k a[k].rows b[k].rows id = chg k id (valsAt a[k].rows id) (valsAt b[k].rows id) from rfl)
                  have r1 := Row.new wr 120 #[.int .i64 k, .int .i64 id, .slice none 0 0, .slice none 0 0]
                  have hal := (Below.refl wr.heap.size wr).alloc (Nat.le_refl _) (.cells #[.int .i64 k, .int .i64 id, .slice none 0 0, .slice none 0 0] 120)
                  have hsz : (wr.alloc (.cells #[.int .i64 k, .int .i64 id, .slice none 0 0, .slice none 0 0] 120)).heap.size = wr.heap.size + 1 := by simp
                  clear hsl
                  go_wp2_with fail
                  generalize wr.alloc (.cells #[.int .i64 k, .int .i64 id, .slice none 0 0, .slice none 0 0] 120) = z1 at *
                  have hz1 : Below w.heap.size w z1 := hbq.out.trans (hal.mono hblen)
                  have y1 := below_keep hal _ _ y0
                  obtain ⟨pd1, hrd1⟩ := HDA.out z1.drew hz1.drew
                  have HAT := Lib.hid (specL4At A0 _ c0 a[k].rows id oka z1.drew hrd1 (by omega))
                  have pd1' : z1.cell? ⟨ba, oa + k, none⟩ = some (.slice A0 a[k].rows.length c0) := pd1
                  go_region_held3 (fun w' => w'.cell? ⟨ba, oa + k, none⟩ = some (.slice A0 a[k].rows.length c0) ∧ w'.cell? ⟨bi, oi + m, none⟩ = some (.int .i64 id))
                    (first | go_keep | exact ⟨below_keep hb1 _ _ (And.left (by assumption)), below_keep hb1 _ _ (And.right (by assumption))⟩)
                    (first | (go_at_call 59; refine HAT.out.mono ?_; rintro r1 w1 ⟨x1, rfl, hx1, hb1⟩))
                  have hz2 : Below w.heap.size w w1 := hz1.drew.trans (hb1.mono hz1.size)
                  have hg1 : Below wr.heap.size wr w1 := hal.drew.trans (hb1.mono (by show wr.heap.size ≤ z1.heap.size; omega))
                  have r2 := (show Row z1.drew wr.heap.size 120 #[.int .i64 k, .int .i64 id, .slice none 0 0, .slice none 0 0] from r1).below hb1
                  have y2 := below_keep hg1 _ _ y0
                  obtain ⟨pd2, hrd2⟩ := HDB.out w1.drew hz2.drew
                  have HBT := Lib.hid (specL4At B0 _ d0 b[k].rows id okb w1.drew hrd2 (by omega))
                  have pd2' : w1.cell? ⟨bb, ob + k, none⟩ = some (.slice B0 b[k].rows.length d0) := pd2
                  have hs1 : z1.heap.size ≤ w1.heap.size := hb1.size
                  clear pd1 pd1' HAT hrd1 hrd2 pd2 hal hz1 hb1 r1 y1
                  go_wp2_with fail
                  go_region_held3 (fun w' => w'.cell? ⟨bb, ob + k, none⟩ = some (.slice B0 b[k].rows.length d0) ∧ w'.cell? ⟨bi, oi + m, none⟩ = some (.int .i64 id))
                    (first | go_keep | exact ⟨below_keep hb2 _ _ (And.left (by assumption)), below_keep hb2 _ _ (And.right (by assumption))⟩)
                    (first | (go_at_call 59; refine HBT.out.mono ?_; rintro r1 w2 ⟨x2, rfl, hx2, hb2⟩))
                  have hz3 : Below w.heap.size w w2 := hz2.drew.trans (hb2.mono hz2.size)
                  have hg2 : Below wr.heap.size wr w2 := hg1.drew.trans (hb2.mono hg1.size)
                  have r3 := (show Row w1.drew wr.heap.size 120 #[.int .i64 k, .int .i64 id, .slice none 0 0, .slice none 0 0] from r2).below hb2
                  have hs2 : wr.heap.size + 1 ≤ w2.heap.size := by have : w1.heap.size ≤ w2.heap.size := hb2.size; omega
                  have HX1 := Lib.hid hx1
                  have HX2 := Lib.hid hx2
                  clear pd2' HBT hz2 hg1 hb2 r2 y2 hx1 hx2 y0 hs1 hsz
                  have HZ3 := Lib.hid hz3
                  have HG2 := Lib.hid hg2
                  have HR3 := Lib.hid r3
                  have HS2 := Lib.hid hs2
                  clear hz3 hg2 r3 hs2
                  go_upto_if 124 with (fail)
                  go_cut [] from 93 to 158 (fun wx => CutA wr.heap.size w2 wx k id (valsAt a[k].rows id))
                  case first =>
                    rcases HX1.out with ⟨rfl, hv⟩ | ⟨j, rfl, hj, hv⟩
                    · have HV := Lib.hid hv
                      clear HX1 hv
                      go_wp2_with fail
                      go_meet
                      case rel => exact ⟨none, 0, by rw [HV.out]; exact HR3.out, by rw [HV.out]; exact OwnG.nil _ _, Below.refl _ _⟩
                    · have HV := Lib.hid hv
                      obtain ⟨pd, hrd⟩ := HDA.out w2 HZ3.out
                      obtain ⟨b1, o1, A1, n1, c1, -, rfl, p0, p1, hky, -⟩ := RwR.at_ hrd hj
                      have hrr := HR3.out
                      obtain ⟨⟨u0, u1, u2, u3⟩, ⟨f0, f1, f2, f3⟩⟩ := hrr.all4
                      have j0' : (0 : Int) ≤ j := by omega
                      have j1' : (j : Int) < a[k].rows.length := by omega
                      have hn1 : n1 ≤ 1073741824 := by have h1 := hky.1; have h2 := HV1.out; rw [hv] at h2; omega
                      have HCV := Lib.hid (specCopyVals A1 n1 c1 a[k].rows[j].vals _ w2 hky hn1)
                      clear HX1 hv hrd p0 hky hrr f0 f1 f3
                      go_wp2_with fail
                      refine HCV.out.mono ?_
                      rintro e w4 ⟨v1, rfl, hk1, hb4⟩
                      obtain ⟨X, ex, rfl⟩ := hk1.shape
                      have r4 := HR3.out.below hb4
                      have HRA := Lib.hid (show Row (w4.setCell ⟨wr.heap.size, 2, none⟩ (.slice X (a[k].rows[j].vals).length ex)) wr.heap.size 120 #[.int .i64 k, .int .i64 id, .slice X (a[k].rows[j].vals).length ex, .slice none 0 0] by simpa using r4.set 2 (.slice X (a[k].rows[j].vals).length ex))
                      have HKA := Lib.hid (show OwnK (w4.setCell ⟨wr.heap.size, 2, none⟩ (.slice X (a[k].rows[j].vals).length ex)) (wr.heap.size + 1) (.slice X (a[k].rows[j].vals).length ex) a[k].rows[j].vals from ownsRow_setCell_below (OwnK.mono hk1 HS2.out) (by show wr.heap.size < wr.heap.size + 1; omega) _)
                      have hle : wr.heap.size ≤ w2.heap.size := by have := HS2.out; omega
                      have HBA := Lib.hid (show Below wr.heap.size w2 (w4.setCell ⟨wr.heap.size, 2, none⟩ (.slice X (a[k].rows[j].vals).length ex)) from (hb4.mono hle).setCell (p := ⟨wr.heap.size, 2, none⟩) (Nat.le_refl _) _)
                      clear u0 u1 u2 u3 f2
                      obtain ⟨⟨u0, u1, u2, u3⟩, ⟨f0, f1, f2, f3⟩⟩ := r4.all4
                      clear hk1 hb4 r4 HCV
                      go_wp2_with fail
                      go_meet
                      case rel => exact ⟨X, ex, by rw [HV.out]; exact HRA.out, by rw [HV.out]; exact HKA.out, HBA.out⟩
                  case rest =>
                    have HCA := Lib.hid hcut
                    clear hcut HR3
                    obtain ⟨X, ex, hr5, hk5, hb5⟩ := HCA.out
                    have HR5 := Lib.hid hr5
                    have HK5 := Lib.hid hk5
                    have HB5 := Lib.hid hb5
                    have HZ5 := Lib.hid (HZ3.out.trans (hb5.mono hblen))
                    have HG5 := Lib.hid (HG2.out.trans hb5)
                    have HS5' := Lib.hid (show wr.heap.size + 1 ≤ wc.heap.size by have := HS2.out; have := hb5.size; omega)
                    clear hr5 hk5 hb5 HCA
                    go_upto_if 137 with (fail)
                    go_cut [] from 93 to 158 (fun wx => CutB wr.heap.size w.heap.size wr wx k id (valsAt a[k].rows id) (valsAt b[k].rows id))
                    case first =>
                      rcases HX2.out with ⟨rfl, hv⟩ | ⟨j, rfl, hj, hv⟩
                      · have HV := Lib.hid hv
                        clear HX2 hv
                        have hE := ChO.two (x := ⟨k, id, valsAt a[k].rows id, []⟩) (base := w.heap.size) HK5.out (OwnG.nil wc wc.heap.size) (Below.refl _ _) (by omega) HS5'.out
                        have HE := Lib.hid hE
                        clear hE
                        go_wp2_with fail
                        go_meet
                        case rel => exact ⟨X, ex, none, 0, by rw [HV.out]; exact HR5.out, by rw [HV.out]; exact HE.out.1, by rw [HV.out]; exact fun b hb9 => HE.out.2 b hb9, HK5.out, by rw [HV.out]; exact OwnG.nil _ _, HG5.out⟩
                      · have HV := Lib.hid hv
                        obtain ⟨pd, hrd⟩ := HDB.out wc HZ5.out
                        obtain ⟨b1, o1, A1, n1, c1, -, rfl, p0, p1, hky, -⟩ := RwR.at_ hrd hj
                        have hrr := HR5.out
                        obtain ⟨⟨u0, u1, u2, u3⟩, ⟨f0, f1, f2, f3⟩⟩ := hrr.all4
                        have j0' : (0 : Int) ≤ j := by omega
                        have j1' : (j : Int) < b[k].rows.length := by omega
                        have hn1 : n1 ≤ 1073741824 := by have h1 := hky.1; have h2 := HV2.out; rw [hv] at h2; omega
                        have HCV := Lib.hid (specCopyVals A1 n1 c1 b[k].rows[j].vals _ wc hky hn1)
                        clear HX2 hv hrd p0 hky hrr f0 f1 f2
                        go_wp2_with fail
                        refine HCV.out.mono ?_
                        rintro e w4 ⟨v2, rfl, hk1, hb4⟩
                        obtain ⟨Y, ey, rfl⟩ := hk1.shape
                        have hle : wr.heap.size ≤ wc.heap.size := by have := HS5'.out; omega
                        have hlt : wr.heap.size + 1 ≤ wc.heap.size := HS5'.out
                        have r4 := HR5.out.below hb4
                        have HRA := Lib.hid (show Row (w4.setCell ⟨wr.heap.size, 3, none⟩ (.slice Y (b[k].rows[j].vals).length ey)) wr.heap.size 120 #[.int .i64 k, .int .i64 id, .slice X (valsAt a[k].rows id).length ex, .slice Y (b[k].rows[j].vals).length ey] by simpa using r4.set 3 (.slice Y (b[k].rows[j].vals).length ey))
                        have hE := ChO.two (x := ⟨k, id, valsAt a[k].rows id, b[k].rows[j].vals⟩) (base := w.heap.size) HK5.out hk1 hb4 (by omega) hlt
                        have HE := Lib.hid (show ChO (w4.setCell ⟨wr.heap.size, 3, none⟩ (.slice Y (b[k].rows[j].vals).length ey)) w.heap.size [.int .i64 k, .int .i64 id, .slice X (valsAt a[k].rows id).length ex, .slice Y (b[k].rows[j].vals).length ey] ⟨k, id, valsAt a[k].rows id, b[k].rows[j].vals⟩ (blk (.slice X (valsAt a[k].rows id).length ex) ++ blk (.slice Y (b[k].rows[j].vals).length ey)) from ChO.good.dep hE.1 fun b hb9 => Below.heap_setCell _ _ _ _ (by have := hE.2 b hb9; show b ≠ wr.heap.size; omega))
                        have HEB := Lib.hid hE.2
                        have HK1 := Lib.hid (show OwnK (w4.setCell ⟨wr.heap.size, 3, none⟩ (.slice Y (b[k].rows[j].vals).length ey)) (wr.heap.size + 1) (.slice X (valsAt a[k].rows id).length ex) (valsAt a[k].rows id) from ownsRow_setCell_below (OwnK.below HK5.out hb4) (by show wr.heap.size < wr.heap.size + 1; omega) _)
                        have HK2 := Lib.hid (show OwnK (w4.setCell ⟨wr.heap.size, 3, none⟩ (.slice Y (b[k].rows[j].vals).length ey)) (wr.heap.size + 1) (.slice Y (b[k].rows[j].vals).length ey) b[k].rows[j].vals from ownsRow_setCell_below (OwnK.mono hk1 hlt) (by show wr.heap.size < wr.heap.size + 1; omega) _)
                        have HBA := Lib.hid (show Below wr.heap.size wr (w4.setCell ⟨wr.heap.size, 3, none⟩ (.slice Y (b[k].rows[j].vals).length ey)) from (HG5.out.trans (hb4.mono hle)).setCell (p := ⟨wr.heap.size, 3, none⟩) (Nat.le_refl _) _)
                        clear u0 u1 u2 u3 f3
                        obtain ⟨⟨u0, u1, u2, u3⟩, ⟨f0, f1, f2, f3⟩⟩ := r4.all4
                        clear hk1 hb4 r4 HCV hE
                        go_wp2_with fail
                        go_meet
                        case rel => exact ⟨X, ex, Y, ey, by rw [HV.out]; exact HRA.out, by rw [HV.out]; exact HE.out, by rw [HV.out]; exact fun b hb9 => HEB.out b hb9, HK1.out, by rw [HV.out]; exact HK2.out, HBA.out⟩
                    case rest =>
                      clear HR5 HK5 HB5 HZ5 HG5 HS5'
                      obtain ⟨X2, ex2, Y, ey, hr6, hE6, hEB, hk6, hk7, hb6⟩ := hcut
                      generalize valsAt a[k].rows id = ov at *
                      generalize valsAt b[k].rows id = nv at *
                      obtain ⟨⟨u0, u1, u2, u3⟩, -⟩ := hr6.all4
                      have HSE := Lib.hid (specSameVals X2 Y ov.length ex2 nv.length ey ov nv _ _ _ hk6.lists hk7.lists (by have := HV1.out; omega) (by have := HV2.out; omega))
                      have HR6 := Lib.hid hr6
                      have HE6 := Lib.hid hE6
                      have HEB := Lib.hid hEB
                      have HB6 := Lib.hid hb6
                      obtain ⟨css, bss, hO⟩ := hout.out
                      have HO := Lib.hid hO
                      clear hr6 hE6 hEB hk6 hk7 hb6 hO hout
                      cases heq : eqlL ov nv
                      · have HTT := Lib.hid (show diffGo a b k ++ (ids.take (m + 1)).flatMap (chgAt k a[k].rows b[k].rows) = xs ++ [⟨k, id, ov, nv⟩] by rw [HT.out, HCH.out]; unfold chg; rw [heq]; rfl)
                        have HQ := Lib.hid heq
                        clear heq
                        go_wp2_with fail
                        refine HSE.out.mono ?_
                        rintro e w6 ⟨rfl, hb7⟩
                        rw [HQ.out]
                        have HBW := Lib.hid (show Below w.heap.size w w6 from hbq.out.trans ((HB6.out.trans (hb7.mono HB6.out.size)).mono hblen))
                        have hr7 := HR6.out.below hb7
                        have HO7 := Lib.hid ((HO.out.below ChO.good HB6.out).below ChO.good hb7)
                        have HE7 := Lib.hid (ChO.good.below HE6.out hb7)
                        have HI7 := Lib.hid ((OwnI.below hids.out HB6.out).below hb7)
                        have HFR := Lib.hid (HO.out.fresh ChO.good (bs := blk (.slice X2 ov.length ex2) ++ blk (.slice Y nv.length ey)) fun b hb9 => by have := HEB.out b hb9; omega)
                        clear u0 u1 u2 u3 HSE hb7
                        obtain ⟨⟨u0, u1, u2, u3⟩, -⟩ := hr7.all4
                        have hbl6 := HBW.out.size
                        go_wp2_with (at_builtin; refine wpList_append_own _ rfl _ _ 47 rfl w.heap.size 120 i0 (.agg #[.int .i64 0, .int .i64 0, .slice none 0 0, .slice none 0 0]) 4 64 Tryz.underlying47 H1.out H2.out H3.out H4.out rfl (by decide) _ _ _ rfl (World.ownsRow.alloc HO7.out.row _) ⟨_, 0, none⟩ 1 1 [.int .i64 k, .int .i64 id, .slice X2 ov.length ex2, .slice Y nv.length ey] rfl rfl ?c1 ?c2 ?c3 ?c4 ?c5 ?_)
                        case c1 => exact cells_newAt _ [.int .i64 k, .int .i64 id, .slice X2 ov.length ex2, .slice Y nv.length ey] _ (by simp)
                        case c2 => intro u hu; simp at hu; rcases hu with rfl | rfl | rfl | rfl <;> rfl
                        case c3 => have := HXL.out; unfold maxLen; omega
                        case c4 => have := HXL.out; omega
                        case c5 => simp; omega
                        intro v9 w9 hown9 hgrow9 _
                        have HO9 := OwnN.app ChO.good ChO.out (x := ⟨k, id, ov, nv⟩) HO7.out HE7.out HFR.out hown9 hgrow9
                        have HE9 := Lib.hid (show OwnC w9 w.heap.size v9 (diffGo a b k ++ (ids.take (m + 1)).flatMap (chgAt k a[k].rows b[k].rows)) by rw [HTT.out]; exact ⟨_, _, HO9⟩)
                        have HB9 := Lib.hid (show Below w.heap.size w w9 from (HBW.out.alloc HBW.out.size _).grown hgrow9 (by simp; omega) fun g hg => (World.ownsRow.lt HO7.out.row g hg).1)
                        have HI9 := Lib.hid (show OwnI w9 w.heap.size (.slice (some ⟨bi, oi, none⟩) ids.length cI) ids from World.ownsRow.kept (World.ownsRow.alloc HI7.out _) hgrow9 (own_ne (by decide) HI7.out HO7.out.row))
                        clear HO9 hown9 hgrow9
                        go_wp2_with fail
                        go_roundw
                        case rel => exact ⟨m + 1, by omega, by go_num, HE9, HI9, HB9⟩
                        case measure => simp [intOf]; omega
                      · have HTT := Lib.hid (show diffGo a b k ++ (ids.take (m + 1)).flatMap (chgAt k a[k].rows b[k].rows) = xs by rw [HT.out, HCH.out]; unfold chg; rw [heq]; simp)
                        have HQ := Lib.hid heq
                        clear heq
                        go_wp2_with fail
                        refine HSE.out.mono ?_
                        rintro e w6 ⟨rfl, hb7⟩
                        rw [HQ.out]
                        have HBW := Lib.hid (show Below w.heap.size w w6 from hbq.out.trans ((HB6.out.trans (hb7.mono HB6.out.size)).mono hblen))
                        have HO7 := Lib.hid (show OwnC w6 w.heap.size _ (diffGo a b k ++ (ids.take (m + 1)).flatMap (chgAt k a[k].rows b[k].rows)) by rw [HTT.out]; exact ⟨css, bss, (HO.out.below ChO.good HB6.out).below ChO.good hb7⟩)
                        have HI7 := Lib.hid ((OwnI.below hids.out HB6.out).below hb7)
                        clear u0 u1 u2 u3 HSE hb7
                        go_wp2_with fail
                        go_roundw
                        case rel => exact ⟨m + 1, by omega, by go_num, HO7, HI7, HBW⟩
                        case measure => simp [intOf]; omega
                · obtain rfl : m = ids.length := by omega
                  rw [List.take_length, ← HSUC.out] at hout
                  have m1' : decide ((ids.length : Int) < ids.length) = false := by simp
                  have h55 := HS5.out
                  clear HDA HDB
                  go_wp2_with fail
                  go_roundw
                  case rel => exact ⟨k + 1, by omega, by go_num, hout, hbq⟩
                  case measure => simp [intOf]; omega
    · obtain rfl : k = s.length := by omega
      go_wp2_with fail
      go_ret2
      exact ⟨_, by rw [HF.out]; rfl, by rw [HD.out]; exact hown.out, hbw.out⟩
def lenV : Value → Nat
  | .slice _ n _ => n
  | _ => 0
def DiffIn (oka okb : Nat → Prop) (wr : World) (A B : Option Addr) (n c p d : Nat) (olds nows : List Rw) : Prop :=
  Sl RwR 2 oka wr A n olds ∧ Sl RwR 2 okb wr B p nows ∧ n ≤ c ∧ p ≤ d ∧ n ≤ 1048576 ∧ p ≤ 1048576 ∧ (∀ x ∈ olds, x.vals.length ≤ 1048576) ∧ (∀ x ∈ nows, x.vals.length ≤ 1048576)
def DiffOut (base : Nat) (wr : World) (v : Value) (rest full : List Ch) : Prop := ∃ xs, OwnC wr base v xs ∧ xs ++ rest = full
theorem DiffIn.below {oka okb : Nat → Prop} {w w' : World} {A B : Option Addr} {n c p d : Nat} {olds nows : List Rw} (h : DiffIn oka okb w A B n c p d olds nows) (hb : Below w.heap.size w w') : DiffIn oka okb w' A B n c p d olds nows :=
  ⟨h.1.below RwR.stays hb, h.2.1.below RwR.stays hb, h.2.2⟩
theorem tookR_in {l : List Rw} {id : Int} {p : Rw → Prop} (h : ∀ r ∈ l, p r) : ∀ r ∈ tookR l id, p r := by
  cases l with
  | nil => exact h
  | cons x r =>
    rw [tookR_cons]
    split
    · exact fun y hy => h y (by simp [hy])
    · exact h
theorem tookV_in {l : List Rw} {id : Int} {m : Nat} (h : ∀ r ∈ l, r.vals.length ≤ m) : (tookV l id).length ≤ m := by
  cases l with
  | nil => simp [tookV]
  | cons x r =>
    rw [tookV_cons]
    split
    · exact h x (by simp)
    · simp
set_option maxRecDepth 100000 in
set_option maxHeartbeats 8000000 in
theorem implDiffOf (AS AA AB : Option Addr) (nS cS nA cA nB cB : Nat) (s : List Tb) (a b : List Dt) (ok oka okb : Nat → Prop) (w : World) (hs : Sl TbR 6 ok w AS nS s) (ha : Sl DtR 1 oka w AA nA a) (hb : Sl DtR 1 okb w AB nB b)
    (hsz : szL Tb.sz s ≤ 1048576) (haz : szL Dt.sz a ≤ 1048576) (hbz : szL Dt.sz b ≤ 1048576) :
    Calls Tryz.prog 25 #[.slice AS nS cS, .slice AA nA cA, .slice AB nB cB] w fun e w' => ∃ v, e = .returned (.tuple #[v, .bool (diffOk s a b)]) ∧ OwnC w' w.heap.size v (diffB s a b) ∧ Below w.heap.size w w' := by
  obtain ⟨i0, hi, hz0, hz1, hz2⟩ := info_parts infoChC
  have H1 := Lib.hid hi
  have H2 := Lib.hid hz0
  have H3 := Lib.hid hz1
  have H4 := Lib.hid hz2
  clear hi hz0 hz1 hz2
  obtain rfl : s.length = nS := hs.1
  obtain rfl : a.length = nA := ha.1
  obtain rfl : b.length = nB := hb.1
  have HC1 := Lib.hid (implDbOk' AS AA s.length cS a.length cA s a ok oka w hs ha hsz haz)
  have HC2 := Lib.hid (fun w1 (hbw : Below w.heap.size w w1) => implDbOk' AS AB s.length cS b.length cB s b ok okb w1 (hs.below TbR.stays hbw) (hb.below DtR.stays hbw) hsz hbz)
  have HR1 := Lib.hid (rows_le haz)
  have HR2 := Lib.hid (rows_le hbz)
  have HN1 := Lib.hid (fun d (hd : d ∈ a) => show d.rows.length ≤ 1048576 by have := szL_mem Dt.sz a d hd; have : d.sz = szL Rw.sz d.rows := rfl; unfold szL at this; omega)
  have HN2 := Lib.hid (fun d (hd : d ∈ b) => show d.rows.length ≤ 1048576 by have := szL_mem Dt.sz b d hd; have : d.sz = szL Rw.sz d.rows := rfl; unfold szL at this; omega)
  replace ha := ha.lows DtR.lows (by omega)
  replace hb := hb.lows DtR.lows (by omega)
  clear hs hsz haz hbz
  cases hA : dbB s a
  · have HA := Lib.hid hA
    have HF := Lib.hid (show diffOk s a b = false by unfold diffOk; rw [hA]; rfl)
    have HD := Lib.hid (show diffB s a b = [] by unfold diffB; rw [hA]; rfl)
    clear hA
    go_enter Tryz.func25, Tryz.ntmps25
    go_wp2_with fail
    go_step3
    go_wp2_with fail
    refine HC1.out.mono ?_
    rintro e w1 ⟨rfl, hb1⟩
    rw [HA.out]
    go_wp2_with fail
    rw [Exit.noGoto_ret]
    go_ret2
    exact ⟨_, by rw [HF.out]; rfl, by rw [HD.out]; exact OwnL.nil _ _, hb1⟩
  cases hB : dbB s b
  · have HA := Lib.hid hA
    have HB := Lib.hid hB
    have HF := Lib.hid (show diffOk s a b = false by unfold diffOk; rw [hB, Bool.and_false])
    have HD := Lib.hid (show diffB s a b = [] by unfold diffB; rw [hB, Bool.and_false]; rfl)
    clear hA hB
    go_enter Tryz.func25, Tryz.ntmps25
    go_wp2_with fail
    go_step3
    go_wp2_with fail
    refine HC1.out.mono ?_
    rintro e w1 ⟨rfl, hb1⟩
    rw [HA.out]
    go_wp2_with fail
    refine (HC2.out w1 hb1).mono ?_
    rintro e w2 ⟨rfl, hb2⟩
    rw [HB.out]
    go_wp2_with fail
    rw [Exit.noGoto_ret]
    go_ret2
    exact ⟨_, by rw [HF.out]; rfl, by rw [HD.out]; exact OwnL.nil _ _, hb1.trans (hb2.mono hb1.size)⟩
  have HA := Lib.hid hA
  have HB := Lib.hid hB
  have HF := Lib.hid (show diffOk s a b = true by unfold diffOk; rw [hA, hB]; rfl)
  have HD := Lib.hid (show diffB s a b = diffGo a b s.length by unfold diffB; rw [hA, hB]; rfl)
  have HLA := Lib.hid (dbB_len hA)
  have HLB := Lib.hid (dbB_len hB)
  have HLG := Lib.hid (fun k hk => (diffGo_ok hA hB k hk).1)
  have HS5 := Lib.hid (show s.length ≤ 5 by have h := hA; simp only [dbB, Bool.and_eq_true, decide_eq_true_eq, schemaB] at h; exact h.1.1)
  clear hA hB
  go_enter Tryz.func25, Tryz.ntmps25
  go_wp2_with fail
  go_step3
  go_wp2_with fail
  refine HC1.out.mono ?_
  rintro e w1 ⟨rfl, hb1⟩
  rw [HA.out]
  go_wp2_with fail
  refine (HC2.out w1 hb1).mono ?_
  rintro e w2 ⟨rfl, hb2⟩
  rw [HB.out]
  have HB2 := Lib.hid (hb1.trans (hb2.mono hb1.size))
  have ha1 := ha
  have hb3 := hb
  clear HC1 HC2 hb1 hb2
  go_wp2_with fail
  go_step3
  go_wp2_with fail
  go_loopw [8, 25] (fun v i wr => ∃ k : Nat, k ≤ s.length ∧ i = .int .i64 k ∧ Hid (OwnC wr w.heap.size v (diffGo a b k)) ∧ Hid (Below w.heap.size w wr)) (fun _ i _ => s.length - (intOf i).toNat)
  case atStart => exact ⟨0, by omega, rfl, Lib.hid (OwnL.nil _ _), HB2⟩
  case round =>
    obtain ⟨k, hk, rfl, hown, hbw⟩ := hrel
    by_cases hlt : k < s.length
    · have hka : k < a.length := by have := HLA.out; omega
      have hkb : k < b.length := by have := HLB.out; omega
      have i0' : (0 : Int) ≤ k := by omega
      have i1 : (k : Int) < s.length := by omega
      have i2 : (k : Int) < a.length := by omega
      have i3 : (k : Int) < b.length := by omega
      obtain ⟨ba, oa, A0, n0, c0, -, rfl, p0, hr0, hc0⟩ := DtR.at_ (ha.below DtR.stays hbw.out) hka
      obtain ⟨bb, ob, B0, m0, d0, -, rfl, q0, hr1, hc1⟩ := DtR.at_ (hb.below DtR.stays hbw.out) hkb
      have HSUC := Lib.hid (diffGo_succ hka hkb)
      have HI := Lib.hid (show DiffIn (fun b => b < w.heap.size) (fun b => b < w.heap.size) wr A0 B0 n0 c0 m0 d0 a[k].rows b[k].rows from ⟨hr0, hr1, hc0, hc1, by have := hr0.1; have := HN1.out _ (List.getElem_mem hka); omega, by have := hr1.1; have := HN2.out _ (List.getElem_mem hkb); omega, HR1.out _ (List.getElem_mem hka), HR2.out _ (List.getElem_mem hkb)⟩)
      have HO := Lib.hid (show DiffOut w.heap.size wr _ (diffT k a[k].rows b[k].rows) (diffGo a b (k + 1)) from ⟨_, hown.out, HSUC.out.symm⟩)
      have HLK := Lib.hid (HLG.out (k + 1) (by omega))
      clear hown hr0 hr1
      go_wp2_with fail
      go_quiet (fail)
      go_wp2_with fail
      go_loopw [8, 10, 11] (fun v o m wr => ∃ (olds nows : List Rw) (A B : Option Addr) (n c p d : Nat), o = .slice A n c ∧ m = .slice B p d ∧ Hid (DiffIn (fun b => b < w.heap.size) (fun b => b < w.heap.size) wr A B n c p d olds nows) ∧ Hid (DiffOut w.heap.size wr v (diffT k olds nows) (diffGo a b (k + 1))) ∧ Hid (Below w.heap.size w wr)) (fun _ o m _ => lenV o + lenV m)
      case atStart => exact ⟨a[k].rows, b[k].rows, A0, B0, n0, c0, m0, d0, rfl, rfl, Lib.hid (HI.out.below (below_dN (Below.refl _ _) _)), by
        obtain ⟨xs, h1, h2⟩ := HO.out
        exact Lib.hid ⟨xs, OwnL.below ChO.good h1 (below_dN (Below.refl _ _) _), h2⟩, Lib.hid (below_dN hbw.out _)⟩
      case round =>
        clear HI HO hbw p0 q0
        obtain ⟨olds, nows, A, B, n, c, p, d, rfl, rfl, hin, hout, hb2⟩ := hrel
        obtain ⟨hr0, hr1, hc0, hc1, hn, hm, hk0, hk1⟩ := hin.out
        obtain rfl : olds.length = n := hr0.1
        obtain rfl : nows.length = p := hr1.1
        have h5 := HS5.out
        by_cases he : olds.length = 0 ∧ nows.length = 0
        · have HE := Lib.hid (diffT_end k he)
          obtain ⟨xs, hx1, hx2⟩ := hout.out
          have HX := Lib.hid (show OwnC wr w.heap.size _ (diffGo a b (k + 1)) by rw [← hx2, HE.out, List.append_nil]; exact hx1)
          have z0 : ((olds.length : Int) == 0) = true := beq_iff_eq.2 (by omega)
          have z1 : ((nows.length : Int) == 0) = true := beq_iff_eq.2 (by omega)
          clear hin hout hr0 hr1 hx1 hx2
          go_wp2_with fail
          go_roundw
          case rel => exact ⟨k + 1, by omega, by go_num, HX, hb2⟩
          case measure => simp [intOf]; omega
        · have HST := Lib.hid (diffT_step k he)
          have HLS := Lib.hid (took_less he)
          have hfc := implFirstId A B olds.length nows.length c d olds nows _ _ wr hr0 hr1 he hn hm
          have HFC := Lib.hid hfc
          generalize hid : firstB olds nows = id at *
          obtain ⟨xs, hx1, hx2⟩ := hout.out
          rw [HST.out] at hx2
          have HX1 := Lib.hid hx1
          have HX2 := Lib.hid hx2
          have HXL := Lib.hid (show xs.length ≤ 600 by
            have h1 := congrArg List.length hx2
            rw [List.length_append] at h1
            have := HLK.out
            have := HS5.out
            omega)
          have HI := Lib.hid hin.out
          clear hin hout hr0 hr1 hx1 hx2 hfc HST hid
          by_cases h0 : olds.length = 0
          · have z0 : ((olds.length : Int) == 0) = true := beq_iff_eq.2 (by omega)
            have z1 : ((nows.length : Int) == 0) = false := beq_eq_false_iff_ne.2 (by omega)
            clear h0 he
            go_wp2_with fail
            refine HFC.out.mono ?_
            rintro e w1 ⟨rfl, hb1⟩
            have HB1 := Lib.hid (hb2.out.trans (hb1.mono hb2.out.size))
            have HI1 := Lib.hid (HI.out.below hb1)
            obtain ⟨css, bss, hX3⟩ := OwnL.below ChO.good HX1.out hb1
            have HX3 := Lib.hid hX3
            clear hX3
            have r1 := Row.new w1 120 #[.int .i64 k, .int .i64 id, .slice none 0 0, .slice none 0 0]
            have hal := (Below.refl w1.heap.size w1).alloc (Nat.le_refl _) (.cells #[.int .i64 k, .int .i64 id, .slice none 0 0, .slice none 0 0] 120)
            have hsz : (w1.alloc (.cells #[.int .i64 k, .int .i64 id, .slice none 0 0, .slice none 0 0] 120)).heap.size = w1.heap.size + 1 := by simp
            clear HFC hb1
            go_wp2_with fail
            generalize w1.alloc (.cells #[.int .i64 k, .int .i64 id, .slice none 0 0, .slice none 0 0] 120) = z1 at *
            obtain ⟨⟨p0, p1, p2, p3⟩, -⟩ := r1.all4
            have HAL := Lib.hid hal
            have HI2 := Lib.hid (HI1.out.below hal)
            have HSZ := Lib.hid hsz
            clear hal hsz
            go_wp2_with fail
            refine (implTakenWith A olds.length c olds id _ _ HI2.out.1 hc0 hk0 hn).mono ?_
            rintro e w2 ⟨v1, A1, n1, c1, rfl, hv1, hs1, hc1', hb3⟩
            obtain ⟨X1, e1, rfl⟩ := hv1.shape
            have r2 := r1.below hb3
            clear p0 p1 p2 p3 r1
            obtain ⟨⟨p0, p1, p2, p3⟩, ⟨f0, f1, f2, f3⟩⟩ := r2.all4
            have HVI := Lib.hid (show (tookV olds id).length ≤ 1048576 from tookV_in hk0)
            have HRI := Lib.hid (show ∀ r ∈ tookR olds id, r.vals.length ≤ 1048576 from tookR_in hk0)
            generalize tookV olds id = ov at *
            have HRL := Lib.hid (tookR_len olds id)
            generalize tookR olds id = ro at *
            have r3 : Row (w2.setCell ⟨w1.heap.size, 2, none⟩ (.slice X1 ov.length e1)) w1.heap.size 120 #[.int .i64 k, .int .i64 id, .slice X1 ov.length e1, .slice none 0 0] := by simpa using r2.set 2 (.slice X1 ov.length e1)
            have HNW := Lib.hid ((HI2.out.2.1.below RwR.stays hb3).set RwR.stays (fun b hb9 e => by have := HB1.out.size; simp at e; omega) (p := ⟨w1.heap.size, 2, none⟩) (.slice X1 ov.length e1))
            have HZ12 := Lib.hid (show z1.heap.size ≤ (w2.setCell ⟨w1.heap.size, 2, none⟩ (.slice X1 ov.length e1)).heap.size by have := hb3.size; simp; omega)
            have HBS := Lib.hid ((HAL.out.trans (hb3.mono HAL.out.size)).setCell (p := ⟨w1.heap.size, 2, none⟩) (Nat.le_refl _) (.slice X1 ov.length e1))
            have HV1 := Lib.hid (show OwnK (w2.setCell ⟨w1.heap.size, 2, none⟩ (.slice X1 ov.length e1)) z1.heap.size (.slice X1 ov.length e1) ov from ownsRow_setCell_below hv1 (by have := HSZ.out; show w1.heap.size < z1.heap.size; omega) _)
            have HS1 := Lib.hid (show Sl RwR 2 (fun b => b < w.heap.size) (w2.setCell ⟨w1.heap.size, 2, none⟩ (.slice X1 ov.length e1)) A1 n1 ro ∧ n1 ≤ c1 from ⟨hs1.set RwR.stays (fun b hb9 e => by have := HB1.out.size; simp at e; omega) _, hc1'⟩)
            clear hv1 hs1 hb3 hc1' r2
            go_wp2_with fail
            clear p0 p1 p2 p3 f0 f1 f2 f3
            generalize w2.setCell ⟨w1.heap.size, 2, none⟩ (.slice X1 ov.length e1) = z2 at *
            refine (implTakenWith B nows.length d nows id _ z2 HNW.out hc1 hk1 hm).mono ?_
            rintro e w3 ⟨v2, B1, m1, d1, rfl, hv2, hs2, hc2', hb4⟩
            obtain ⟨X2, e2, rfl⟩ := hv2.shape
            have r4 := r3.below hb4
            clear r3
            obtain ⟨⟨p0, p1, p2, p3⟩, ⟨f0, f1, f2, f3⟩⟩ := r4.all4
            have HVN := Lib.hid (show (tookV nows id).length ≤ 1048576 from tookV_in hk1)
            have HRN := Lib.hid (show ∀ r ∈ tookR nows id, r.vals.length ≤ 1048576 from tookR_in hk1)
            generalize tookV nows id = nv at *
            have HRL2 := Lib.hid (tookR_len nows id)
            generalize tookR nows id = rn at *
            have r5 : Row (w3.setCell ⟨w1.heap.size, 3, none⟩ (.slice X2 nv.length e2)) w1.heap.size 120 #[.int .i64 k, .int .i64 id, .slice X1 ov.length e1, .slice X2 nv.length e2] := by simpa using r4.set 3 (.slice X2 nv.length e2)
            have hE := ChO.two (x := ⟨k, id, ov, nv⟩) (base := w.heap.size) HV1.out hv2 hb4 (by have := HB1.out.size; have := HSZ.out; omega) HZ12.out
            have HE := Lib.hid (show ChO (w3.setCell ⟨w1.heap.size, 3, none⟩ (.slice X2 nv.length e2)) w.heap.size [.int .i64 k, .int .i64 id, .slice X1 ov.length e1, .slice X2 nv.length e2] ⟨k, id, ov, nv⟩ (blk (.slice X1 ov.length e1) ++ blk (.slice X2 nv.length e2)) from ChO.good.dep hE.1 fun b hb9 => Below.heap_setCell _ _ _ _ (by have := hE.2 b hb9; have := HSZ.out; show b ≠ w1.heap.size; omega))
            have HEB := Lib.hid hE.2
            have HK1 := Lib.hid (show OwnK (w3.setCell ⟨w1.heap.size, 3, none⟩ (.slice X2 nv.length e2)) z1.heap.size (.slice X1 ov.length e1) ov from ownsRow_setCell_below (OwnK.below HV1.out hb4) (by have := HSZ.out; show w1.heap.size < z1.heap.size; omega) _)
            have HK2 := Lib.hid (show OwnK (w3.setCell ⟨w1.heap.size, 3, none⟩ (.slice X2 nv.length e2)) z2.heap.size (.slice X2 nv.length e2) nv from ownsRow_setCell_below hv2 (by have := HSZ.out; have := HZ12.out; show w1.heap.size < z2.heap.size; omega) _)
            have HT1 := Lib.hid (show Sl RwR 2 (fun b => b < w.heap.size) (w3.setCell ⟨w1.heap.size, 3, none⟩ (.slice X2 nv.length e2)) A1 n1 ro from (HS1.out.1.below RwR.stays hb4).set RwR.stays (fun b hb9 e => by have := HB1.out.size; simp at e; omega) _)
            have HT2 := Lib.hid (show Sl RwR 2 (fun b => b < w.heap.size) (w3.setCell ⟨w1.heap.size, 3, none⟩ (.slice X2 nv.length e2)) B1 m1 rn ∧ m1 ≤ d1 from ⟨hs2.set RwR.stays (fun b hb9 e => by have := HB1.out.size; simp at e; omega) _, hc2'⟩)
            have HBZ := Lib.hid (show Below w1.heap.size w1 (w3.setCell ⟨w1.heap.size, 3, none⟩ (.slice X2 nv.length e2)) from (HBS.out.trans (hb4.mono HBS.out.size)).setCell (p := ⟨w1.heap.size, 3, none⟩) (Nat.le_refl _) _)
            clear hv2 hs2 hc2' hb4 r4 hE HV1 HNW
            go_wp2_with fail
            clear p0 p1 p2 p3 f0 f1 f2 f3
            generalize w3.setCell ⟨w1.heap.size, 3, none⟩ (.slice X2 nv.length e2) = z3 at *
            obtain ⟨⟨p0, p1, p2, p3⟩, -⟩ := r5.all4
            obtain ⟨_, _, ee1, -, -, hS1⟩ := OwnG.sl (f := Vl.cells) (sz := 3) (fun _ => rfl) HK1.out
            cases ee1
            obtain ⟨_, _, ee2, -, -, hS2⟩ := OwnG.sl (f := Vl.cells) (sz := 3) (fun _ => rfl) HK2.out
            cases ee2
            have HSE := Lib.hid (implEqVals X1 X2 ov.length e1 nv.length e2 ov nv _ _ z3 hS1 hS2 HVI.out HVN.out)
            clear hS1 hS2
            go_wp2_with fail
            refine HSE.out.mono ?_
            rintro e w4 ⟨rfl, hb5⟩
            have HBW := Lib.hid (show Below w.heap.size w w4 from HB1.out.trans ((HBZ.out.trans (hb5.mono HBZ.out.size)).mono HB1.out.size))
            have HU1 := Lib.hid (HT1.out.below RwR.stays hb5)
            have HU2 := Lib.hid (HT2.out.1.below RwR.stays hb5)
            have HLN := Lib.hid (show ro.length + rn.length < olds.length + nows.length from HLS.out)
            have HN1' := Lib.hid (show n1 = ro.length from HT1.out.1.symm)
            have HN2' := Lib.hid (show m1 = rn.length from HT2.out.1.1.symm)
            have HX5 := Lib.hid ((HX3.out.below ChO.good HBZ.out).below ChO.good hb5)
            have HFR := Lib.hid (HX3.out.fresh ChO.good (bs := blk (.slice X1 ov.length e1) ++ blk (.slice X2 nv.length e2)) fun b hb9 => by have := HEB.out b hb9; have := HSZ.out; omega)
            have HE5 := Lib.hid (ChO.good.below HE.out hb5)
            have r6 := r5.below hb5
            clear r5 p0 p1 p2 p3 HSE
            cases heq : eqlL ov nv
            · have HT := Lib.hid (show (xs ++ [⟨k, id, ov, nv⟩]) ++ diffT k ro rn = diffGo a b (k + 1) by rw [← HX2.out]; unfold chg; rw [heq]; simp)
              obtain ⟨⟨p0, p1, p2, p3⟩, -⟩ := r6.all4
              clear heq
              go_wp2_with (at_builtin; refine wpList_append_own _ rfl _ _ 47 rfl w.heap.size 120 i0 (.agg #[.int .i64 0, .int .i64 0, .slice none 0 0, .slice none 0 0]) 4 64 Tryz.underlying47 H1.out H2.out H3.out H4.out rfl (by decide) _ _ _ rfl (World.ownsRow.alloc HX5.out.row _) ⟨_, 0, none⟩ 1 1 [.int .i64 k, .int .i64 id, .slice X1 ov.length e1, .slice X2 nv.length e2] rfl rfl ?c1 ?c2 ?c3 ?c4 ?c5 ?_)
              case c1 => exact cells_newAt _ [.int .i64 k, .int .i64 id, .slice X1 ov.length e1, .slice X2 nv.length e2] _ (by simp)
              case c2 => intro u hu; simp at hu; rcases hu with rfl | rfl | rfl | rfl <;> rfl
              case c3 => have := HXL.out; unfold maxLen; omega
              case c4 => have := HXL.out; omega
              case c5 => have := HBW.out.size; simp; omega
              intro v9 w9 hown9 hgrow9 _
              have HO9 := OwnN.app ChO.good ChO.out (x := ⟨k, id, ov, nv⟩) HX5.out HE5.out HFR.out hown9 hgrow9
              have HE9 := Lib.hid (show OwnC w9 w.heap.size v9 (xs ++ [⟨k, id, ov, nv⟩]) from ⟨_, _, HO9⟩)
              have HB9 := Lib.hid (show Below w.heap.size w w9 from (HBW.out.alloc HBW.out.size _).grown hgrow9 (by have := HBW.out.size; simp; omega) fun g hg => (World.ownsRow.lt HX5.out.row g hg).1)
              have HBK := Lib.hid (show Below w.heap.size w4 w9 from ((Below.refl w.heap.size w4).alloc HBW.out.size _).grown hgrow9 (by have := HBW.out.size; simp; omega) fun g hg => (World.ownsRow.lt HX5.out.row g hg).1)
              clear HO9 hown9 hgrow9
              go_wp2_with fail
              go_roundw
              case rel => exact ⟨ro, rn, A1, B1, n1, c1, m1, d1, rfl, rfl, Lib.hid ⟨HU1.out.low RwR.stays HBK.out, HU2.out.low RwR.stays HBK.out, HS1.out.2, HT2.out.2, by have := HN1'.out; have := HRL.out; omega, by have := HN2'.out; have := HRL2.out; omega, HRI.out, HRN.out⟩, Lib.hid ⟨_, HE9.out, HT.out⟩, HB9⟩
              case measure => have := HN1'.out; have := HN2'.out; have := HLN.out; simp [lenV]; omega
            · have HT := Lib.hid (show xs ++ diffT k ro rn = diffGo a b (k + 1) by rw [← HX2.out]; unfold chg; rw [heq]; rfl)
              clear heq
              go_wp2_with fail
              go_roundw
              case rel => exact ⟨ro, rn, A1, B1, n1, c1, m1, d1, rfl, rfl, Lib.hid ⟨HU1.out, HU2.out, HS1.out.2, HT2.out.2, by have := HN1'.out; have := HRL.out; omega, by have := HN2'.out; have := HRL2.out; omega, HRI.out, HRN.out⟩, Lib.hid ⟨xs, ⟨css, bss, HX5.out⟩, HT.out⟩, HBW⟩
              case measure => have := HN1'.out; have := HN2'.out; have := HLN.out; simp [lenV]; omega
          · have z0 : ((olds.length : Int) == 0) = false := beq_eq_false_iff_ne.2 (by omega)
            clear h0 he
            go_wp2_with fail
            refine HFC.out.mono ?_
            rintro e w1 ⟨rfl, hb1⟩
            have HB1 := Lib.hid (hb2.out.trans (hb1.mono hb2.out.size))
            have HI1 := Lib.hid (HI.out.below hb1)
            obtain ⟨css, bss, hX3⟩ := OwnL.below ChO.good HX1.out hb1
            have HX3 := Lib.hid hX3
            clear hX3
            have r1 := Row.new w1 120 #[.int .i64 k, .int .i64 id, .slice none 0 0, .slice none 0 0]
            have hal := (Below.refl w1.heap.size w1).alloc (Nat.le_refl _) (.cells #[.int .i64 k, .int .i64 id, .slice none 0 0, .slice none 0 0] 120)
            have hsz : (w1.alloc (.cells #[.int .i64 k, .int .i64 id, .slice none 0 0, .slice none 0 0] 120)).heap.size = w1.heap.size + 1 := by simp
            clear HFC hb1
            go_wp2_with fail
            generalize w1.alloc (.cells #[.int .i64 k, .int .i64 id, .slice none 0 0, .slice none 0 0] 120) = z1 at *
            obtain ⟨⟨p0, p1, p2, p3⟩, -⟩ := r1.all4
            have HAL := Lib.hid hal
            have HI2 := Lib.hid (HI1.out.below hal)
            have HSZ := Lib.hid hsz
            clear hal hsz
            go_wp2_with fail
            refine (implTakenWith A olds.length c olds id _ _ HI2.out.1 hc0 hk0 hn).mono ?_
            rintro e w2 ⟨v1, A1, n1, c1, rfl, hv1, hs1, hc1', hb3⟩
            obtain ⟨X1, e1, rfl⟩ := hv1.shape
            have r2 := r1.below hb3
            clear p0 p1 p2 p3 r1
            obtain ⟨⟨p0, p1, p2, p3⟩, ⟨f0, f1, f2, f3⟩⟩ := r2.all4
            have HVI := Lib.hid (show (tookV olds id).length ≤ 1048576 from tookV_in hk0)
            have HRI := Lib.hid (show ∀ r ∈ tookR olds id, r.vals.length ≤ 1048576 from tookR_in hk0)
            generalize tookV olds id = ov at *
            have HRL := Lib.hid (tookR_len olds id)
            generalize tookR olds id = ro at *
            have r3 : Row (w2.setCell ⟨w1.heap.size, 2, none⟩ (.slice X1 ov.length e1)) w1.heap.size 120 #[.int .i64 k, .int .i64 id, .slice X1 ov.length e1, .slice none 0 0] := by simpa using r2.set 2 (.slice X1 ov.length e1)
            have HNW := Lib.hid ((HI2.out.2.1.below RwR.stays hb3).set RwR.stays (fun b hb9 e => by have := HB1.out.size; simp at e; omega) (p := ⟨w1.heap.size, 2, none⟩) (.slice X1 ov.length e1))
            have HZ12 := Lib.hid (show z1.heap.size ≤ (w2.setCell ⟨w1.heap.size, 2, none⟩ (.slice X1 ov.length e1)).heap.size by have := hb3.size; simp; omega)
            have HBS := Lib.hid ((HAL.out.trans (hb3.mono HAL.out.size)).setCell (p := ⟨w1.heap.size, 2, none⟩) (Nat.le_refl _) (.slice X1 ov.length e1))
            have HV1 := Lib.hid (show OwnK (w2.setCell ⟨w1.heap.size, 2, none⟩ (.slice X1 ov.length e1)) z1.heap.size (.slice X1 ov.length e1) ov from ownsRow_setCell_below hv1 (by have := HSZ.out; show w1.heap.size < z1.heap.size; omega) _)
            have HS1 := Lib.hid (show Sl RwR 2 (fun b => b < w.heap.size) (w2.setCell ⟨w1.heap.size, 2, none⟩ (.slice X1 ov.length e1)) A1 n1 ro ∧ n1 ≤ c1 from ⟨hs1.set RwR.stays (fun b hb9 e => by have := HB1.out.size; simp at e; omega) _, hc1'⟩)
            clear hv1 hs1 hb3 hc1' r2
            go_wp2_with fail
            clear p0 p1 p2 p3 f0 f1 f2 f3
            generalize w2.setCell ⟨w1.heap.size, 2, none⟩ (.slice X1 ov.length e1) = z2 at *
            refine (implTakenWith B nows.length d nows id _ z2 HNW.out hc1 hk1 hm).mono ?_
            rintro e w3 ⟨v2, B1, m1, d1, rfl, hv2, hs2, hc2', hb4⟩
            obtain ⟨X2, e2, rfl⟩ := hv2.shape
            have r4 := r3.below hb4
            clear r3
            obtain ⟨⟨p0, p1, p2, p3⟩, ⟨f0, f1, f2, f3⟩⟩ := r4.all4
            have HVN := Lib.hid (show (tookV nows id).length ≤ 1048576 from tookV_in hk1)
            have HRN := Lib.hid (show ∀ r ∈ tookR nows id, r.vals.length ≤ 1048576 from tookR_in hk1)
            generalize tookV nows id = nv at *
            have HRL2 := Lib.hid (tookR_len nows id)
            generalize tookR nows id = rn at *
            have r5 : Row (w3.setCell ⟨w1.heap.size, 3, none⟩ (.slice X2 nv.length e2)) w1.heap.size 120 #[.int .i64 k, .int .i64 id, .slice X1 ov.length e1, .slice X2 nv.length e2] := by simpa using r4.set 3 (.slice X2 nv.length e2)
            have hE := ChO.two (x := ⟨k, id, ov, nv⟩) (base := w.heap.size) HV1.out hv2 hb4 (by have := HB1.out.size; have := HSZ.out; omega) HZ12.out
            have HE := Lib.hid (show ChO (w3.setCell ⟨w1.heap.size, 3, none⟩ (.slice X2 nv.length e2)) w.heap.size [.int .i64 k, .int .i64 id, .slice X1 ov.length e1, .slice X2 nv.length e2] ⟨k, id, ov, nv⟩ (blk (.slice X1 ov.length e1) ++ blk (.slice X2 nv.length e2)) from ChO.good.dep hE.1 fun b hb9 => Below.heap_setCell _ _ _ _ (by have := hE.2 b hb9; have := HSZ.out; show b ≠ w1.heap.size; omega))
            have HEB := Lib.hid hE.2
            have HK1 := Lib.hid (show OwnK (w3.setCell ⟨w1.heap.size, 3, none⟩ (.slice X2 nv.length e2)) z1.heap.size (.slice X1 ov.length e1) ov from ownsRow_setCell_below (OwnK.below HV1.out hb4) (by have := HSZ.out; show w1.heap.size < z1.heap.size; omega) _)
            have HK2 := Lib.hid (show OwnK (w3.setCell ⟨w1.heap.size, 3, none⟩ (.slice X2 nv.length e2)) z2.heap.size (.slice X2 nv.length e2) nv from ownsRow_setCell_below hv2 (by have := HSZ.out; have := HZ12.out; show w1.heap.size < z2.heap.size; omega) _)
            have HT1 := Lib.hid (show Sl RwR 2 (fun b => b < w.heap.size) (w3.setCell ⟨w1.heap.size, 3, none⟩ (.slice X2 nv.length e2)) A1 n1 ro from (HS1.out.1.below RwR.stays hb4).set RwR.stays (fun b hb9 e => by have := HB1.out.size; simp at e; omega) _)
            have HT2 := Lib.hid (show Sl RwR 2 (fun b => b < w.heap.size) (w3.setCell ⟨w1.heap.size, 3, none⟩ (.slice X2 nv.length e2)) B1 m1 rn ∧ m1 ≤ d1 from ⟨hs2.set RwR.stays (fun b hb9 e => by have := HB1.out.size; simp at e; omega) _, hc2'⟩)
            have HBZ := Lib.hid (show Below w1.heap.size w1 (w3.setCell ⟨w1.heap.size, 3, none⟩ (.slice X2 nv.length e2)) from (HBS.out.trans (hb4.mono HBS.out.size)).setCell (p := ⟨w1.heap.size, 3, none⟩) (Nat.le_refl _) _)
            clear hv2 hs2 hc2' hb4 r4 hE HV1 HNW
            go_wp2_with fail
            clear p0 p1 p2 p3 f0 f1 f2 f3
            generalize w3.setCell ⟨w1.heap.size, 3, none⟩ (.slice X2 nv.length e2) = z3 at *
            obtain ⟨⟨p0, p1, p2, p3⟩, -⟩ := r5.all4
            obtain ⟨_, _, ee1, -, -, hS1⟩ := OwnG.sl (f := Vl.cells) (sz := 3) (fun _ => rfl) HK1.out
            cases ee1
            obtain ⟨_, _, ee2, -, -, hS2⟩ := OwnG.sl (f := Vl.cells) (sz := 3) (fun _ => rfl) HK2.out
            cases ee2
            have HSE := Lib.hid (implEqVals X1 X2 ov.length e1 nv.length e2 ov nv _ _ z3 hS1 hS2 HVI.out HVN.out)
            clear hS1 hS2
            go_wp2_with fail
            refine HSE.out.mono ?_
            rintro e w4 ⟨rfl, hb5⟩
            have HBW := Lib.hid (show Below w.heap.size w w4 from HB1.out.trans ((HBZ.out.trans (hb5.mono HBZ.out.size)).mono HB1.out.size))
            have HU1 := Lib.hid (HT1.out.below RwR.stays hb5)
            have HU2 := Lib.hid (HT2.out.1.below RwR.stays hb5)
            have HLN := Lib.hid (show ro.length + rn.length < olds.length + nows.length from HLS.out)
            have HN1' := Lib.hid (show n1 = ro.length from HT1.out.1.symm)
            have HN2' := Lib.hid (show m1 = rn.length from HT2.out.1.1.symm)
            have HX5 := Lib.hid ((HX3.out.below ChO.good HBZ.out).below ChO.good hb5)
            have HFR := Lib.hid (HX3.out.fresh ChO.good (bs := blk (.slice X1 ov.length e1) ++ blk (.slice X2 nv.length e2)) fun b hb9 => by have := HEB.out b hb9; have := HSZ.out; omega)
            have HE5 := Lib.hid (ChO.good.below HE.out hb5)
            have r6 := r5.below hb5
            clear r5 p0 p1 p2 p3 HSE
            cases heq : eqlL ov nv
            · have HT := Lib.hid (show (xs ++ [⟨k, id, ov, nv⟩]) ++ diffT k ro rn = diffGo a b (k + 1) by rw [← HX2.out]; unfold chg; rw [heq]; simp)
              obtain ⟨⟨p0, p1, p2, p3⟩, -⟩ := r6.all4
              clear heq
              go_wp2_with (at_builtin; refine wpList_append_own _ rfl _ _ 47 rfl w.heap.size 120 i0 (.agg #[.int .i64 0, .int .i64 0, .slice none 0 0, .slice none 0 0]) 4 64 Tryz.underlying47 H1.out H2.out H3.out H4.out rfl (by decide) _ _ _ rfl (World.ownsRow.alloc HX5.out.row _) ⟨_, 0, none⟩ 1 1 [.int .i64 k, .int .i64 id, .slice X1 ov.length e1, .slice X2 nv.length e2] rfl rfl ?c1 ?c2 ?c3 ?c4 ?c5 ?_)
              case c1 => exact cells_newAt _ [.int .i64 k, .int .i64 id, .slice X1 ov.length e1, .slice X2 nv.length e2] _ (by simp)
              case c2 => intro u hu; simp at hu; rcases hu with rfl | rfl | rfl | rfl <;> rfl
              case c3 => have := HXL.out; unfold maxLen; omega
              case c4 => have := HXL.out; omega
              case c5 => have := HBW.out.size; simp; omega
              intro v9 w9 hown9 hgrow9 _
              have HO9 := OwnN.app ChO.good ChO.out (x := ⟨k, id, ov, nv⟩) HX5.out HE5.out HFR.out hown9 hgrow9
              have HE9 := Lib.hid (show OwnC w9 w.heap.size v9 (xs ++ [⟨k, id, ov, nv⟩]) from ⟨_, _, HO9⟩)
              have HB9 := Lib.hid (show Below w.heap.size w w9 from (HBW.out.alloc HBW.out.size _).grown hgrow9 (by have := HBW.out.size; simp; omega) fun g hg => (World.ownsRow.lt HX5.out.row g hg).1)
              have HBK := Lib.hid (show Below w.heap.size w4 w9 from ((Below.refl w.heap.size w4).alloc HBW.out.size _).grown hgrow9 (by have := HBW.out.size; simp; omega) fun g hg => (World.ownsRow.lt HX5.out.row g hg).1)
              clear HO9 hown9 hgrow9
              go_wp2_with fail
              go_roundw
              case rel => exact ⟨ro, rn, A1, B1, n1, c1, m1, d1, rfl, rfl, Lib.hid ⟨HU1.out.low RwR.stays HBK.out, HU2.out.low RwR.stays HBK.out, HS1.out.2, HT2.out.2, by have := HN1'.out; have := HRL.out; omega, by have := HN2'.out; have := HRL2.out; omega, HRI.out, HRN.out⟩, Lib.hid ⟨_, HE9.out, HT.out⟩, HB9⟩
              case measure => have := HN1'.out; have := HN2'.out; have := HLN.out; simp [lenV]; omega
            · have HT := Lib.hid (show xs ++ diffT k ro rn = diffGo a b (k + 1) by rw [← HX2.out]; unfold chg; rw [heq]; rfl)
              clear heq
              go_wp2_with fail
              go_roundw
              case rel => exact ⟨ro, rn, A1, B1, n1, c1, m1, d1, rfl, rfl, Lib.hid ⟨HU1.out, HU2.out, HS1.out.2, HT2.out.2, by have := HN1'.out; have := HRL.out; omega, by have := HN2'.out; have := HRL2.out; omega, HRI.out, HRN.out⟩, Lib.hid ⟨xs, ⟨css, bss, HX5.out⟩, HT.out⟩, HBW⟩
              case measure => have := HN1'.out; have := HN2'.out; have := HLN.out; simp [lenV]; omega
    · obtain rfl : k = s.length := by omega
      go_wp2_with fail
      rw [Exit.noGoto_ret]
      go_ret2
      exact ⟨_, by rw [HF.out]; rfl, by rw [HD.out]; exact hown.out, hbw.out⟩
end Go.Proofs.YtffnicoegnomeaaGreat
