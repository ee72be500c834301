/-
  Who refers to a table: in the model.
-/
import Derived.Test.YtjlolfikaahobaaRefers
import Derived.Test.YtjlolfikaahobaaSpecSchema
namespace Go.Proofs.Ytjlolfikaahobaa
open Go.RowKit Go.Maps
set_option linter.unusedVariables false
set_option linter.unusedSimpArgs false

/-- The places behind j references of the k-th table. -/
def refsJ (nm : ByteArray) (s : List Tb) (k : Nat) (l : List Fk) (j : Nat) : List Int := if (l.take j).any (fun f => f.table.toList == nm.toList) then refsK nm s k ++ [(k : Int)] else refsK nm s k
theorem refsJ_zero (nm : ByteArray) (s : List Tb) (k : Nat) (l : List Fk) : refsJ nm s k l 0 = refsK nm s k := by simp [refsJ]
theorem refsJ_no {nm : ByteArray} {s : List Tb} {k : Nat} {l : List Fk} {j : Nat} (h : j < l.length) (he : (l[j].table.toList == nm.toList) = false) : refsJ nm s k l (j + 1) = refsJ nm s k l j := by
  unfold refsJ
  rw [any_take_fk l nm j h, he, Bool.or_false]
theorem refsJ_old {nm : ByteArray} {s : List Tb} {k : Nat} {l : List Fk} {j : Nat} (h : j < l.length) (ha : (l.take j).any (fun f => f.table.toList == nm.toList) = true) : refsJ nm s k l (j + 1) = refsJ nm s k l j := by
  unfold refsJ
  rw [any_take_fk l nm j h, ha]; simp
theorem refsJ_new {nm : ByteArray} {s : List Tb} {k : Nat} {l : List Fk} {j : Nat} (h : j < l.length) (he : (l[j].table.toList == nm.toList) = true) (ha : (l.take j).any (fun f => f.table.toList == nm.toList) = false) : refsJ nm s k l (j + 1) = refsJ nm s k l j ++ [(k : Int)] := by
  unfold refsJ
  rw [any_take_fk l nm j h, ha, he]; simp
theorem refsJ_has {nm : ByteArray} {s : List Tb} {k : Nat} {l : List Fk} {j : Nat} (ha : (l.take j).any (fun f => f.table.toList == nm.toList) = true) : hasB (refsJ nm s k l j) k = true := by
  unfold refsJ hasB
  rw [ha]; simp
theorem refsJ_hasnot {nm : ByteArray} {s : List Tb} {k : Nat} {l : List Fk} {j : Nat} (ha : (l.take j).any (fun f => f.table.toList == nm.toList) = false) : hasB (refsJ nm s k l j) k = false := by
  unfold refsJ hasB
  rw [ha]
  rw [Bool.eq_false_iff]
  intro h
  rw [List.contains_iff_mem] at h
  have := refsK_lt nm s k _ (by simpa using h)
  omega
theorem refsJ_end {nm : ByteArray} {s : List Tb} {k : Nat} (h : k < s.length) : refsJ nm s k s[k].fks s[k].fks.length = refsK nm s (k + 1) := by
  unfold refsJ
  rw [List.take_of_length_le (Nat.le_refl _)]
  cases hr : refB nm s[k]
  · rw [refsK_no h hr]
    have : (s[k].fks.any fun f => f.table.toList == nm.toList) = false := hr
    rw [this]; rfl
  · rw [refsK_yes h hr]
    have : (s[k].fks.any fun f => f.table.toList == nm.toList) = true := hr
    rw [this]; rfl
theorem refsJ_len (nm : ByteArray) (s : List Tb) (k : Nat) (l : List Fk) (j : Nat) : (refsJ nm s k l j).length ≤ k + 1 := by
  have := refsK_len nm s k
  unfold refsJ
  split <;> simp <;> omega

set_option maxRecDepth 100000 in
set_option maxHeartbeats 2000000 in
theorem specRefers (A : Option Addr) (n c : Nat) (s : List Tb) (nm : ByteArray) (ok : Nat → Prop) (w : World) (h : Sl TbR 6 ok w A n s) (hcp : n ≤ c) (hs : szL Tb.sz s ≤ 1048576) :
    Calls Try.prog 21 #[.slice A n c, .string nm] w (MadeI (refsB nm s) w) := by
  obtain rfl : s.length = n := h.1
  have hn : s.length ≤ 1048576 := by unfold szL at hs; omega
  have HS := Lib.hid hs
  have HCP := Lib.hid hcp
  clear hs hcp
  obtain ⟨i0, hi, hz0, hz1, hz2⟩ := info_parts infoIntI
  have H1 := Lib.hid hi
  have H2 := Lib.hid hz0
  have H3 := Lib.hid hz1
  have H4 := Lib.hid hz2
  clear hi hz0 hz1 hz2
  have hb0 := (Below.refl w.heap.size w).alloc (Nat.le_refl _) (.cells #[] 2)
  have ho0 := Lib.hid (OwnI.lit w (Nat.le_refl w.heap.size))
  cases hB : schemaB s
  · have HB := Lib.hid hB
    have HR := Lib.hid (show refsB nm s = [] by unfold refsB; rw [hB]; rfl)
    clear hB
    go_enter Try.func21, Try.ntmps21
    go_wp2_with fail
    generalize w.alloc (.cells #[] 2) = z0 at *
    go_loopw [5, 6] (fun v i wr => i = .int .i64 0 ∧ Hid (OwnI wr w.heap.size v []) ∧ Below w.heap.size w wr) (fun _ _ _ => 0)
    case atStart => exact ⟨rfl, ho0, hb0⟩
    case round =>
      clear hb0 ho0
      obtain ⟨rfl, hown, hb⟩ := hrel
      go_wp2_with fail
      refine (specSchemaOk A s.length c s ok _ (h.below TbR.stays hb) HCP.out HS.out).mono ?_
      rintro e w1 ⟨rfl, hb1⟩
      rw [HB.out]
      have hown1 := Lib.hid (hown.out.below hb1)
      have hbz := hb.trans (hb1.mono hb.size)
      clear hown
      obtain ⟨AO, cO, rfl, hcO, hcm, hsl⟩ := hown1.out.sl
      clear hown1
      go_wp2_with fail
      go_ret
      exact ⟨AO, cO, by rw [HR.out]; rfl, by rw [HR.out]; exact hcO, by rw [HR.out]; exact hsl, hbz⟩
  have HB := Lib.hid hB
  have HR := Lib.hid (show refsB nm s = refsK nm s s.length by unfold refsB; rw [hB]; rfl)
  clear hB
  go_enter Try.func21, Try.ntmps21
  go_wp2_with fail
  generalize w.alloc (.cells #[] 2) = z0 at *
  go_loopw [5, 6] (fun v i wr => ∃ k : Nat, k ≤ s.length ∧ i = .int .i64 k ∧ Hid (OwnI wr w.heap.size v (refsK nm s k)) ∧ Below w.heap.size w wr) (fun _ i _ => s.length - (intOf i).toNat)
  case atStart => exact ⟨0, by omega, rfl, ho0, hb0⟩
  case round =>
    clear hb0 ho0
    obtain ⟨k, hk, rfl, hown, hb⟩ := hrel
    have hsc := specSchemaOk A s.length c s ok wr (h.below TbR.stays hb) HCP.out HS.out
    rw [HB.out] at hsc
    have HSC := Lib.hid hsc
    clear hsc
    by_cases hlt : k < s.length
    · have i0' : (0 : Int) ≤ k := by omega
      have i1' : (k : Int) < s.length := by omega
      go_wp2_with fail
      refine HSC.out.mono ?_
      rintro e w1 ⟨rfl, hb1⟩
      have hown1 := Lib.hid (hown.out.below hb1)
      have hbz := hb.trans (hb1.mono hb.size)
      clear hown hb hb1 HSC
      go_wp2_with fail
      go_loopw [5, 7] (fun v j wq => ∃ m : Nat, m ≤ s[k].fks.length ∧ j = .int .i64 m ∧ Hid (OwnI wq w.heap.size v (refsJ nm s k s[k].fks m)) ∧ Below w.heap.size w wq) (fun _ j _ => s[k].fks.length - (intOf j).toNat)
      case atStart => exact ⟨0, by omega, rfl, Lib.hid (by rw [refsJ_zero]; exact hown1.out), hbz⟩
      case round =>
        clear hown1 hbz
        obtain ⟨m, hm, rfl, hown, hb⟩ := hrel
        obtain ⟨b, off, A1, n1, c1, A2, n2, c2, A3, n3, c3, A4, n4, c4, A5, n5, c5, -, rfl, q0, q1, q2, q3, q4, q5, -, -, -, -, s5, -⟩ := TbR.at_ (h.below TbR.stays hb) hlt
        obtain rfl : s[k].fks.length = n5 := s5.1
        have hfn : s[k].fks.length ≤ 1048576 := by have h1 := HS.out; have := sum_mem_le Tb.sz s k hlt; simp only [szL, Tb.sz] at *; omega
        by_cases hlm : m < s[k].fks.length
        · obtain ⟨bf, offf, A0, m0, d0, -, rfl, y0, y1, y2, y3, y4, -⟩ := FkR.at_ s5 hlm
          have j0 : (0 : Int) ≤ m := by omega
          have j1 : (m : Int) < s[k].fks.length := by omega
          cases he : (s[k].fks[m].table.toList == nm.toList)
          · have HJ := Lib.hid (refsJ_no (s := s) (k := k) hlm he)
            go_wp2_with fail
            go_roundw
            case rel => exact ⟨m + 1, by omega, by go_num, Lib.hid (by rw [HJ.out]; exact hown.out), hb⟩
            case measure => simp [intOf]; omega
          · have HLEN := Lib.hid (refsJ_len nm s k s[k].fks m)
            have ho := hown.out
            obtain ⟨AO, cO, ev, hcO, hcm, hsl⟩ := ho.sl
            subst ev
            have hown' := Lib.hid ho
            clear hown ho
            have hol : (refsJ nm s k s[k].fks m).length ≤ 1048576 := by have := HLEN.out; omega
            cases ha : (s[k].fks.take m).any (fun f => f.table.toList == nm.toList)
            · have HJ := Lib.hid (refsJ_new (s := s) (k := k) hlm he ha)
              have HC := Lib.hid (specHasV (c := cO) (refsJ_hasnot (nm := nm) (s := s) (k := k) (l := s[k].fks) (j := m) ha) wr hsl hol)
              clear ha hsl
              generalize hgv : refsJ nm s k s[k].fks m = xs at *
              have HGV := Lib.hid hgv
              clear hgv
              go_wp2_with fail
              refine HC.out.mono ?_
              rintro e w2 ⟨rfl, rfl⟩
              go_wp2_with (at_builtin; refine wpList_append_own _ rfl _ _ 29 rfl w.heap.size 2 i0 (.int .i64 0) 1 8 Try.underlying29 H1.out H2.out H3.out H4.out rfl (by decide) _ _ _ rfl (World.ownsRow.alloc hown'.out _) ⟨_, 0, none⟩ 1 1 [.int .i64 k] rfl rfl ?c1 ?c2 ?c3 ?c4 ?c5 ?_)
              case c1 => exact cell_one_new _ _ _
              case c2 => intro u hu; simp at hu; subst hu; rfl
              case c3 => have := HLEN.out; unfold maxLen; omega
              case c4 => have := HLEN.out; omega
              case c5 => have := hb.size; simp; omega
              intro v' w3 hown3 hgrow _
              have R := Lib.hid (OwnI.app hown'.out hb.size hown3 hgrow)
              clear hown3 hgrow hown'
              go_wp2_with fail
              go_roundw
              case rel => exact ⟨m + 1, by omega, by go_num, Lib.hid (by rw [HJ.out]; exact R.out.1), hb.trans R.out.2⟩
              case measure => simp [intOf]; omega
            · have HJ := Lib.hid (refsJ_old (s := s) (k := k) hlm ha)
              have HC := Lib.hid (specHasV (c := cO) (refsJ_has (nm := nm) (s := s) (k := k) (l := s[k].fks) (j := m) ha) wr hsl hol)
              clear ha hsl
              go_wp2_with fail
              refine HC.out.mono ?_
              rintro e w2 ⟨rfl, rfl⟩
              go_wp2_with fail
              go_roundw
              case rel => exact ⟨m + 1, by omega, by go_num, Lib.hid (by rw [HJ.out]; exact hown'.out), hb⟩
              case measure => simp [intOf]; omega
        · obtain rfl : m = s[k].fks.length := by omega
          have hown' := Lib.hid (show OwnI wr w.heap.size u5 (refsK nm s (k + 1)) by rw [← refsJ_end hlt]; exact hown.out)
          clear hown
          go_wp2_with fail
          go_roundw
          case rel => exact ⟨k + 1, by omega, by go_num, hown', hb⟩
          case measure => simp [intOf]; omega
    · obtain rfl : k = s.length := by omega
      go_wp2_with fail
      refine HSC.out.mono ?_
      rintro e w1 ⟨rfl, hb1⟩
      have hown1 := Lib.hid (hown.out.below hb1)
      have hbz := hb.trans (hb1.mono hb.size)
      clear hown hb hb1 HSC
      obtain ⟨AO, cO, rfl, hcO, hcm, hsl⟩ := hown1.out.sl
      clear hown1
      go_wp2_with fail
      go_ret
      exact ⟨AO, cO, by rw [HR.out]; rfl, by rw [HR.out]; exact hcO, by rw [HR.out]; exact hsl, hbz⟩
end Go.Proofs.Ytjlolfikaahobaa
