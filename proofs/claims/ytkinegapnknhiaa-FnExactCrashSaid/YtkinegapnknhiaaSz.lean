/-
  Contracts of what the exact laws do with tables and rows: their sizes.
-/
import Derived.Test.YtkinegapnknhiaaTypes
namespace Go.Proofs.Ytkinegapnknhiaa
open Go.RowKit
set_option linter.unusedVariables false

set_option maxRecDepth 100000 in
set_option maxHeartbeats 1000000 in
theorem lawsSzFile (x : Fz)  (left : Int) (ok : Nat → Prop) (w : World)  (hwf : x.wf) (hp0 : 0 ≤ left) (hle : left ≤ 1048576) :
    Calls Try.prog 92 #[.agg #[.string x.name, .string x.data], .int .i64 left] w fun e w' => e = .returned (.int .i64 (szR left x.sz)) ∧ Below w.heap.size w w' := by
  obtain ⟨wf0, wf1⟩ := hwf
  unfold maxLen at wf0
  unfold maxLen at wf1
  have HB := Lib.hid ((Below.refl w.heap.size w).alloc (Nat.le_refl _) (.cells #[.string x.name, .string x.data] 124))
  have RB := Lib.hid (Row.new w 124 #[.string x.name, .string x.data])
  by_cases hs0 : left - (x.name.size : Int) < 0
  · go_enter Try.func92, Try.ntmps92
    go_wp2_with fail
    go_ret
    exact ⟨retI (szR_no (by simp only [Fz.sz]; omega)), HB.out⟩
  have hs0' : decide (left - (x.name.size : Int) < 0) = false := by simpa using hs0
  go_enter Try.func92, Try.ntmps92
  by_cases hs1 : (left - (x.name.size : Int)) - (x.data.size : Int) < 0
  · go_wp2_with fail
    go_ret
    exact ⟨retI (szR_no (by simp only [Fz.sz]; omega)), HB.out⟩
  have hs1' : decide ((left - (x.name.size : Int)) - (x.data.size : Int) < 0) = false := by simpa using hs1
  go_wp2_with fail
  go_ret
  exact ⟨retI (szR_yes (by omega) (by simp only [Fz.sz]; omega)), HB.out⟩

set_option maxHeartbeats 1000000 in
theorem lawsSzFileL (A : Option Addr) (n c : Nat) (l : List Fz) (left : Int) (ok : Nat → Prop) (w : World) (h : Sl FzR 2 ok w A n l) (hwf : (l.length ≤ maxLen ∧ ∀ y ∈ l, y.wf)) (hp0 : 0 ≤ left) (hle : left ≤ 1048576) :
    Calls Try.prog 66 #[.slice A n c, .int .i64 left] w fun e w' => e = .returned (.int .i64 (szR left (szL Fz.sz l))) ∧ Below w.heap.size w w' := by
  obtain rfl : l.length = n := h.1
  obtain ⟨hlen, hall⟩ := hwf
  unfold maxLen at hlen
  have HW := Lib.hid hall
  clear hall
  by_cases hs : left - (l.length : Int) < 0
  · go_enter Try.func66, Try.ntmps66
    go_wp2
    go_ret
    exact ⟨retI (szR_no (by unfold szL; omega)), Below.refl _ _⟩
  have hs' : decide (left - (l.length : Int) < 0) = false := by simpa using hs
  go_enter Try.func66, Try.ntmps66
  go_wp2
  go_loopw [1, 5] (fun m i wr => ∃ (k : Nat) (u : Int), k ≤ l.length ∧ i = .int .i64 k ∧ m = .int .i64 u ∧ 0 ≤ u ∧ u ≤ left ∧ Hid (u = left - l.length - ((l.take k).map (Fz.sz)).sum) ∧ Below w.heap.size w wr) (fun _ i _ => l.length - (intOf i).toNat)
  case atStart => exact ⟨0, _, by omega, rfl, rfl, by omega, by omega, Lib.hid (by simp), Below.refl _ _⟩
  case round =>
    obtain ⟨k, u, hk, rfl, rfl, hu0, hu1, hu, hb⟩ := hrel
    by_cases hlt : k < l.length
    · obtain ⟨b, off, -, rfl, q0, q1⟩ := FzR.at_ (h.below FzR.stays hb) hlt
      have hx := HW.out _ (List.getElem_mem hlt)
      have hst := sum_take (Fz.sz) l k hlt
      have hsl := sum_take_le (Fz.sz) l (k + 1)
      have HST := Lib.hid hst
      have HSL := Lib.hid hsl
      have HX := Lib.hid hx
      clear hst hsl hx
      rcases szR_cases u (l[k].sz) hu0 with ⟨hno, hv⟩ | ⟨u', hv, hu', hu0', hu1', -⟩
      · go_wp2_with fail
        refine (lawsSzFile l[k]  u ok _  HX.out hu0 (by omega)).mono ?_
        rintro e w1 ⟨rfl, hb1⟩
        rw [hv.out]
        go_wp2_with fail
        go_ret
        exact ⟨retI (szR_no (by have e1 := hu.out; have e2 := HST.out; have e3 := HSL.out; unfold szL; (try simp only at e1 e2 e3 ⊢); omega)), hb.trans (hb1.mono hb.size)⟩
      · go_wp2_with fail
        refine (lawsSzFile l[k]  u ok _  HX.out hu0 (by omega)).mono ?_
        rintro e w1 ⟨rfl, hb1⟩
        rw [hv.out]
        go_wp2_with fail
        go_roundw
        case rel => exact ⟨k + 1, _, by omega, by go_num, rfl, by omega, by omega, Lib.hid (by have e1 := hu.out; have e2 := HST.out; have e3 := hu'.out; (try simp only at e1 e2 e3 ⊢); omega), hb.trans (hb1.mono hb.size)⟩
        case measure => simp [intOf]; omega
    · have e : l.take k = l := List.take_of_length_le (by omega)
      have e1 := hu.out
      rw [e] at e1
      have HU := Lib.hid e1
      clear e1 hu e
      go_wp2
      go_ret
      exact ⟨retI (szR_yes (by omega) (by have e1 := HU.out; unfold szL; omega)), hb⟩

set_option maxRecDepth 100000 in
set_option maxHeartbeats 1000000 in
theorem lawsSzDOp (x : Oz)  (left : Int) (ok : Nat → Prop) (w : World)  (hwf : x.wf) (hp0 : 0 ≤ left) (hle : left ≤ 1048576) :
    Calls Try.prog 29 #[.agg #[.int .i64 x.kind, .string x.name, .string x.to, .string x.data], .int .i64 left] w fun e w' => e = .returned (.int .i64 (szR left x.sz)) ∧ Below w.heap.size w w' := by
  obtain ⟨wf1, wf2, wf3⟩ := hwf
  unfold maxLen at wf1
  unfold maxLen at wf2
  unfold maxLen at wf3
  have HB := Lib.hid ((Below.refl w.heap.size w).alloc (Nat.le_refl _) (.cells #[.int .i64 x.kind, .string x.name, .string x.to, .string x.data] 55))
  have RB := Lib.hid (Row.new w 55 #[.int .i64 x.kind, .string x.name, .string x.to, .string x.data])
  by_cases hs1 : left - (x.name.size : Int) < 0
  · go_enter Try.func29, Try.ntmps29
    go_wp2_with fail
    go_ret
    exact ⟨retI (szR_no (by simp only [Oz.sz]; omega)), HB.out⟩
  have hs1' : decide (left - (x.name.size : Int) < 0) = false := by simpa using hs1
  go_enter Try.func29, Try.ntmps29
  by_cases hs2 : (left - (x.name.size : Int)) - (x.to.size : Int) < 0
  · go_wp2_with fail
    go_ret
    exact ⟨retI (szR_no (by simp only [Oz.sz]; omega)), HB.out⟩
  have hs2' : decide ((left - (x.name.size : Int)) - (x.to.size : Int) < 0) = false := by simpa using hs2
  by_cases hs3 : ((left - (x.name.size : Int)) - (x.to.size : Int)) - (x.data.size : Int) < 0
  · go_wp2_with fail
    go_ret
    exact ⟨retI (szR_no (by simp only [Oz.sz]; omega)), HB.out⟩
  have hs3' : decide (((left - (x.name.size : Int)) - (x.to.size : Int)) - (x.data.size : Int) < 0) = false := by simpa using hs3
  go_wp2_with fail
  go_ret
  exact ⟨retI (szR_yes (by omega) (by simp only [Oz.sz]; omega)), HB.out⟩

set_option maxHeartbeats 1000000 in
theorem lawsSzDOpL (A : Option Addr) (n c : Nat) (l : List Oz) (left : Int) (ok : Nat → Prop) (w : World) (h : Sl OzR 4 ok w A n l) (hwf : (l.length ≤ maxLen ∧ ∀ y ∈ l, y.wf)) (hp0 : 0 ≤ left) (hle : left ≤ 1048576) :
    Calls Try.prog 67 #[.slice A n c, .int .i64 left] w fun e w' => e = .returned (.int .i64 (szR left (szL Oz.sz l))) ∧ Below w.heap.size w w' := by
  obtain rfl : l.length = n := h.1
  obtain ⟨hlen, hall⟩ := hwf
  unfold maxLen at hlen
  have HW := Lib.hid hall
  clear hall
  by_cases hs : left - (l.length : Int) < 0
  · go_enter Try.func67, Try.ntmps67
    go_wp2
    go_ret
    exact ⟨retI (szR_no (by unfold szL; omega)), Below.refl _ _⟩
  have hs' : decide (left - (l.length : Int) < 0) = false := by simpa using hs
  go_enter Try.func67, Try.ntmps67
  go_wp2
  go_loopw [1, 5] (fun m i wr => ∃ (k : Nat) (u : Int), k ≤ l.length ∧ i = .int .i64 k ∧ m = .int .i64 u ∧ 0 ≤ u ∧ u ≤ left ∧ Hid (u = left - l.length - ((l.take k).map (Oz.sz)).sum) ∧ Below w.heap.size w wr) (fun _ i _ => l.length - (intOf i).toNat)
  case atStart => exact ⟨0, _, by omega, rfl, rfl, by omega, by omega, Lib.hid (by simp), Below.refl _ _⟩
  case round =>
    obtain ⟨k, u, hk, rfl, rfl, hu0, hu1, hu, hb⟩ := hrel
    by_cases hlt : k < l.length
    · obtain ⟨b, off, -, rfl, q0, q1, q2, q3⟩ := OzR.at_ (h.below OzR.stays hb) hlt
      have hx := HW.out _ (List.getElem_mem hlt)
      have hst := sum_take (Oz.sz) l k hlt
      have hsl := sum_take_le (Oz.sz) l (k + 1)
      have HST := Lib.hid hst
      have HSL := Lib.hid hsl
      have HX := Lib.hid hx
      clear hst hsl hx
      rcases szR_cases u (l[k].sz) hu0 with ⟨hno, hv⟩ | ⟨u', hv, hu', hu0', hu1', -⟩
      · go_wp2_with fail
        refine (lawsSzDOp l[k]  u ok _  HX.out hu0 (by omega)).mono ?_
        rintro e w1 ⟨rfl, hb1⟩
        rw [hv.out]
        go_wp2_with fail
        go_ret
        exact ⟨retI (szR_no (by have e1 := hu.out; have e2 := HST.out; have e3 := HSL.out; unfold szL; (try simp only at e1 e2 e3 ⊢); omega)), hb.trans (hb1.mono hb.size)⟩
      · go_wp2_with fail
        refine (lawsSzDOp l[k]  u ok _  HX.out hu0 (by omega)).mono ?_
        rintro e w1 ⟨rfl, hb1⟩
        rw [hv.out]
        go_wp2_with fail
        go_roundw
        case rel => exact ⟨k + 1, _, by omega, by go_num, rfl, by omega, by omega, Lib.hid (by have e1 := hu.out; have e2 := HST.out; have e3 := hu'.out; (try simp only at e1 e2 e3 ⊢); omega), hb.trans (hb1.mono hb.size)⟩
        case measure => simp [intOf]; omega
    · have e : l.take k = l := List.take_of_length_le (by omega)
      have e1 := hu.out
      rw [e] at e1
      have HU := Lib.hid e1
      clear e1 hu e
      go_wp2
      go_ret
      exact ⟨retI (szR_yes (by omega) (by have e1 := HU.out; unfold szL; omega)), hb⟩

set_option maxRecDepth 100000 in
set_option maxHeartbeats 1000000 in
theorem lawsSzDisk (x : Dz) (A0 : Option Addr) (n0 c0 : Nat) (A1 : Option Addr) (n1 c1 : Nat) (A2 : Option Addr) (n2 c2 : Nat) (left : Int) (ok : Nat → Prop) (w : World) (h0 : Sl FzR 2 ok w A0 n0 x.live) (h1 : Sl FzR 2 ok w A1 n1 x.safe) (h2 : Sl OzR 4 ok w A2 n2 x.ops) (hwf : x.wf) (hp0 : 0 ≤ left) (hle : left ≤ 1048576) :
    Calls Try.prog 26 #[.agg #[.slice A0 n0 c0, .slice A1 n1 c1, .slice A2 n2 c2], .int .i64 left] w fun e w' => e = .returned (.int .i64 (szR left x.sz)) ∧ Below w.heap.size w w' := by
  obtain ⟨wf0, wf1, wf2⟩ := hwf
  have WF0 := Lib.hid wf0
  clear wf0
  have WF1 := Lib.hid wf1
  clear wf1
  have WF2 := Lib.hid wf2
  clear wf2
  have HB := Lib.hid ((Below.refl w.heap.size w).alloc (Nat.le_refl _) (.cells #[.slice A0 n0 c0, .slice A1 n1 c1, .slice A2 n2 c2] 50))
  have RB := Lib.hid (Row.new w 50 #[.slice A0 n0 c0, .slice A1 n1 c1, .slice A2 n2 c2])
  go_enter Try.func26, Try.ntmps26
  go_wp2_with fail
  refine (lawsSzFileL A0 n0 c0 x.live left ok _ (h0.below FzR.stays HB.out) WF0.out (by omega) (by omega)).mono ?_
  rintro e w1 ⟨rfl, hb1⟩
  have hbb1 := (HB.out).trans (hb1.mono (HB.out).size)
  have RB1 := Lib.hid ((RB.out).below hb1)
  obtain ⟨⟨p1_0, p1_1, p1_2⟩, -⟩ := RB1.out.three
  rcases szR_cases left (szL Fz.sz x.live) (by omega) with ⟨hno1, hv1⟩ | ⟨l1, hv1, hl1, h01, h11, -⟩
  · rw [hv1.out]
    go_wp2_with fail
    go_ret
    exact ⟨retI (szR_no (by simp only [Dz.sz]; omega)), hbb1⟩
  rw [hv1.out]
  go_wp2_with fail
  refine (lawsSzFileL A1 n1 c1 x.safe l1 ok _ (h1.below FzR.stays hbb1) WF1.out (by omega) (by omega)).mono ?_
  rintro e w2 ⟨rfl, hb2⟩
  have hbb2 := (hbb1).trans (hb2.mono (hbb1).size)
  have RB2 := Lib.hid ((RB1.out).below hb2)
  obtain ⟨⟨p2_0, p2_1, p2_2⟩, -⟩ := RB2.out.three
  rcases szR_cases l1 (szL Fz.sz x.safe) (by omega) with ⟨hno2, hv2⟩ | ⟨l2, hv2, hl2, h02, h12, -⟩
  · rw [hv2.out]
    go_wp2_with fail
    go_ret
    exact ⟨retI (szR_no (by have := hl1.out; simp only [Dz.sz]; omega)), hbb2⟩
  rw [hv2.out]
  go_wp2_with fail
  refine (lawsSzDOpL A2 n2 c2 x.ops l2 ok _ (h2.below OzR.stays hbb2) WF2.out (by omega) (by omega)).mono ?_
  rintro e w3 ⟨rfl, hb3⟩
  have hbb3 := (hbb2).trans (hb3.mono (hbb2).size)
  have RB3 := Lib.hid ((RB2.out).below hb3)
  obtain ⟨⟨p3_0, p3_1, p3_2⟩, -⟩ := RB3.out.three
  rcases szR_cases l2 (szL Oz.sz x.ops) (by omega) with ⟨hno3, hv3⟩ | ⟨l3, hv3, hl3, h03, h13, -⟩
  · rw [hv3.out]
    go_wp2_with fail
    go_ret
    exact ⟨retI (szR_no (by have := hl1.out; have := hl2.out; simp only [Dz.sz]; omega)), hbb3⟩
  rw [hv3.out]
  go_wp2_with fail
  go_ret
  exact ⟨retI (szR_yes (by omega) (by have := hl1.out; have := hl2.out; have := hl3.out; simp only [Dz.sz]; omega)), hbb3⟩


end Go.Proofs.Ytkinegapnknhiaa
