/-
  Several texts in one: what the proof leans on, part 4.
-/
import Derived.Test.YtemimhghhihllaaGreatVa
set_option linter.unusedVariables false
set_option linter.unusedSimpArgs false
namespace Go.Proofs.YtemimhghhihllaaGreat
open Go.RowKit
theorem lawsSzInts (A : Option Addr) (n c : Nat) (l : List Int) (left : Int) (ok : Nat → Prop) (w : World) (h : Sl IntR 1 ok w A n l) (hwf : l.length ≤ maxLen) (hp0 : 0 ≤ left) (hle : left ≤ 1048576) :
    Calls Tryz.prog 81 #[.slice A n c, .int .i64 left] w fun e w' => e = .returned (.int .i64 (szR left l.length)) ∧ Below w.heap.size w w' := by
  obtain rfl : l.length = n := h.1
  unfold maxLen at hwf
  by_cases hs : left - (l.length : Int) < 0
  · go_enter Tryz.func81, Tryz.ntmps81
    go_wp2
    go_ret
    exact ⟨retI (szR_no (by omega)), Below.refl _ _⟩
  · have hs' : decide (left - (l.length : Int) < 0) = false := by simpa using hs
    go_enter Tryz.func81, Tryz.ntmps81
    go_wp2
    go_ret
    exact ⟨retI (szR_yes (by omega) rfl), Below.refl _ _⟩
theorem lawsSzValR (v : Vl) (left : Int) (w : World) (hs : v.s.size ≤ maxLen) (h0 : 0 ≤ left) (h1 : left ≤ 1048576) :
    Calls Tryz.prog 39 #[.agg #[.int .i64 v.k, .int .i64 v.n, .string v.s], .int .i64 left] w fun e w' => e = .returned (.int .i64 (szR left v.s.size)) ∧ Below w.heap.size w w' :=
  (lawsSzVal v.k v.n v.s left w h0 h1 hs).mono fun e w' ⟨he, hb⟩ => ⟨by rw [he, show szN left v.s = szR left v.s.size by unfold szN szR; split <;> split <;> omega], hb⟩
theorem lawsSzTokR (x : Tk) (left : Int) (w : World) (hs : x.vs.size ≤ maxLen) (h0 : 0 ≤ left) (h1 : left ≤ 1048576) :
    Calls Tryz.prog 131 #[.agg #[.int .i64 x.k, .int .i64 x.c, .int .i64 x.vk, .int .i64 x.vn, .string x.vs], .int .i64 left] w fun e w' => e = .returned (.int .i64 (szR left x.vs.size)) ∧ Below w.heap.size w w' :=
  (lawsSzTok x left w h0 h1 hs).mono fun e w' ⟨he, hb⟩ => ⟨by rw [he, show szN left x.vs = szR left x.vs.size by unfold szN szR; split <;> split <;> omega], hb⟩
set_option maxHeartbeats 1000000 in
theorem lawsSzTokL (A : Option Addr) (n c : Nat) (l : List Tk) (left : Int) (ok : Nat → Prop) (w : World) (h : Sl TkR 5 ok w A n l) (hwf : (l.length ≤ maxLen ∧ ∀ t ∈ l, t.vs.size ≤ maxLen)) (hp0 : 0 ≤ left) (hle : left ≤ 1048576) :
    Calls Tryz.prog 85 #[.slice A n c, .int .i64 left] w fun e w' => e = .returned (.int .i64 (szR left (szL (fun t : Tk => t.vs.size) l))) ∧ Below w.heap.size w w' := by
  obtain rfl : l.length = n := h.1
  obtain ⟨hlen, hall⟩ := hwf
  unfold maxLen at hlen
  have HW := Lib.hid hall
  clear hall
  by_cases hs : left - (l.length : Int) < 0
  · go_enter Tryz.func85, Tryz.ntmps85
    go_wp2
    go_ret
    exact ⟨retI (szR_no (by unfold szL; omega)), Below.refl _ _⟩
  have hs' : decide (left - (l.length : Int) < 0) = false := by simpa using hs
  go_enter Tryz.func85, Tryz.ntmps85
  go_wp2
  go_loopw [1, 5] (fun m i wr => ∃ (k : Nat) (u : Int), k ≤ l.length ∧ i = .int .i64 k ∧ m = .int .i64 u ∧ 0 ≤ u ∧ u ≤ left ∧ Hid (u = left - l.length - ((l.take k).map (fun t : Tk => t.vs.size)).sum) ∧ Below w.heap.size w wr) (fun _ i _ => l.length - (intOf i).toNat)
  case atStart => exact ⟨0, _, by omega, rfl, rfl, by omega, by omega, Lib.hid (by simp), Below.refl _ _⟩
  case round =>
    obtain ⟨k, u, hk, rfl, rfl, hu0, hu1, hu, hb⟩ := hrel
    by_cases hlt : k < l.length
    · obtain ⟨b, off, -, rfl, q0, q1, q2, q3, q4⟩ := TkR.at_ (h.below TkR.stays hb) hlt
      have hx := HW.out _ (List.getElem_mem hlt)
      have hst := sum_take (fun t : Tk => t.vs.size) l k hlt
      have hsl := sum_take_le (fun t : Tk => t.vs.size) l (k + 1)
      have HST := Lib.hid hst
      have HSL := Lib.hid hsl
      have HX := Lib.hid hx
      clear hst hsl hx
      rcases szR_cases u (l[k].vs.size) hu0 with ⟨hno, hv⟩ | ⟨u', hv, hu', hu0', hu1', -⟩
      · go_wp2_with fail
        refine (lawsSzTokR l[k] u _ HX.out hu0 (by omega)).mono ?_
        rintro e w1 ⟨rfl, hb1⟩
        rw [hv.out]
        go_wp2_with fail
        go_ret
        exact ⟨retI (szR_no (by have e1 := hu.out; have e2 := HST.out; have e3 := HSL.out; unfold szL; (try simp only at e1 e2 e3 ⊢); omega)), hb.trans (hb1.mono hb.size)⟩
      · go_wp2_with fail
        refine (lawsSzTokR l[k] u _ HX.out hu0 (by omega)).mono ?_
        rintro e w1 ⟨rfl, hb1⟩
        rw [hv.out]
        go_wp2_with fail
        go_roundw
        case rel => exact ⟨k + 1, _, by omega, by go_num, rfl, by omega, by omega, Lib.hid (by have e1 := hu.out; have e2 := HST.out; have e3 := hu'.out; (try simp only at e1 e2 e3 ⊢); omega), hb.trans (hb1.mono hb.size)⟩
        case measure => simp [intOf]; omega
    · have e : l.take k = l := List.take_of_length_le (by omega)
      have e1 := hu.out
      rw [e] at e1
      have HU := Lib.hid e1
      clear e1 hu e
      go_wp2
      go_ret
      exact ⟨retI (szR_yes (by omega) (by have e1 := HU.out; unfold szL; omega)), hb⟩
set_option maxHeartbeats 1000000 in
theorem lawsSzValL (A : Option Addr) (n c : Nat) (l : List Vl) (left : Int) (ok : Nat → Prop) (w : World) (h : Sl VlR 3 ok w A n l) (hwf : (l.length ≤ maxLen ∧ ∀ v ∈ l, v.s.size ≤ maxLen)) (hp0 : 0 ≤ left) (hle : left ≤ 1048576) :
    Calls Tryz.prog 8 #[.slice A n c, .int .i64 left] w fun e w' => e = .returned (.int .i64 (szR left (szL (fun v : Vl => v.s.size) l))) ∧ Below w.heap.size w w' := by
  obtain rfl : l.length = n := h.1
  obtain ⟨hlen, hall⟩ := hwf
  unfold maxLen at hlen
  have HW := Lib.hid hall
  clear hall
  by_cases hs : left - (l.length : Int) < 0
  · go_enter Tryz.func8, Tryz.ntmps8
    go_wp2
    go_ret
    exact ⟨retI (szR_no (by unfold szL; omega)), Below.refl _ _⟩
  have hs' : decide (left - (l.length : Int) < 0) = false := by simpa using hs
  go_enter Tryz.func8, Tryz.ntmps8
  go_wp2
  go_loopw [1, 5] (fun m i wr => ∃ (k : Nat) (u : Int), k ≤ l.length ∧ i = .int .i64 k ∧ m = .int .i64 u ∧ 0 ≤ u ∧ u ≤ left ∧ Hid (u = left - l.length - ((l.take k).map (fun v : Vl => v.s.size)).sum) ∧ Below w.heap.size w wr) (fun _ i _ => l.length - (intOf i).toNat)
  case atStart => exact ⟨0, _, by omega, rfl, rfl, by omega, by omega, Lib.hid (by simp), Below.refl _ _⟩
  case round =>
    obtain ⟨k, u, hk, rfl, rfl, hu0, hu1, hu, hb⟩ := hrel
    by_cases hlt : k < l.length
    · obtain ⟨b, off, -, rfl, q0, q1, q2⟩ := VlR.at_ (h.below VlR.stays hb) hlt
      have hx := HW.out _ (List.getElem_mem hlt)
      have hst := sum_take (fun v : Vl => v.s.size) l k hlt
      have hsl := sum_take_le (fun v : Vl => v.s.size) l (k + 1)
      have HST := Lib.hid hst
      have HSL := Lib.hid hsl
      have HX := Lib.hid hx
      clear hst hsl hx
      rcases szR_cases u (l[k].s.size) hu0 with ⟨hno, hv⟩ | ⟨u', hv, hu', hu0', hu1', -⟩
      · go_wp2_with fail
        refine (lawsSzValR l[k] u _ HX.out hu0 (by omega)).mono ?_
        rintro e w1 ⟨rfl, hb1⟩
        rw [hv.out]
        go_wp2_with fail
        go_ret
        exact ⟨retI (szR_no (by have e1 := hu.out; have e2 := HST.out; have e3 := HSL.out; unfold szL; (try simp only at e1 e2 e3 ⊢); omega)), hb.trans (hb1.mono hb.size)⟩
      · go_wp2_with fail
        refine (lawsSzValR l[k] u _ HX.out hu0 (by omega)).mono ?_
        rintro e w1 ⟨rfl, hb1⟩
        rw [hv.out]
        go_wp2_with fail
        go_roundw
        case rel => exact ⟨k + 1, _, by omega, by go_num, rfl, by omega, by omega, Lib.hid (by have e1 := hu.out; have e2 := HST.out; have e3 := hu'.out; (try simp only at e1 e2 e3 ⊢); omega), hb.trans (hb1.mono hb.size)⟩
        case measure => simp [intOf]; omega
    · have e : l.take k = l := List.take_of_length_le (by omega)
      have e1 := hu.out
      rw [e] at e1
      have HU := Lib.hid e1
      clear e1 hu e
      go_wp2
      go_ret
      exact ⟨retI (szR_yes (by omega) (by have e1 := HU.out; unfold szL; omega)), hb⟩
set_option maxRecDepth 100000 in
set_option maxHeartbeats 1000000 in
theorem lawsSzCol (x : Cl)  (left : Int) (ok : Nat → Prop) (w : World)  (hwf : x.wf) (hp0 : 0 ≤ left) (hle : left ≤ 1048576) :
    Calls Tryz.prog 127 #[.agg #[.string x.name, .int .i64 x.kind, .bool x.nn, .int .i64 x.d.k, .int .i64 x.d.n, .string x.d.s], .int .i64 left] w fun e w' => e = .returned (.int .i64 (szR left x.sz)) ∧ Below w.heap.size w w' := by
  obtain ⟨wf0, wf3⟩ := hwf
  unfold maxLen at wf0
  have WF3 := Lib.hid wf3
  clear wf3
  have HB := Lib.hid ((Below.refl w.heap.size w).alloc (Nat.le_refl _) (.cells #[.string x.name, .int .i64 x.kind, .bool x.nn, .int .i64 x.d.k, .int .i64 x.d.n, .string x.d.s] 200))
  have RB := Lib.hid (Row.new w 200 #[.string x.name, .int .i64 x.kind, .bool x.nn, .int .i64 x.d.k, .int .i64 x.d.n, .string x.d.s])
  by_cases hs0 : left - (x.name.size : Int) < 0
  · go_enter Tryz.func127, Tryz.ntmps127
    go_wp2_with fail
    go_ret
    exact ⟨retI (szR_no (by simp only [Cl.sz]; omega)), HB.out⟩
  have hs0' : decide (left - (x.name.size : Int) < 0) = false := by simpa using hs0
  go_enter Tryz.func127, Tryz.ntmps127
  go_wp2_with fail
  refine (lawsSzValR x.d (left - (x.name.size : Int)) _ WF3.out (by omega) (by omega)).mono ?_
  rintro e w1 ⟨rfl, hb1⟩
  have hbb1 := (HB.out).trans (hb1.mono (HB.out).size)
  have RB1 := Lib.hid ((RB.out).below hb1)
  obtain ⟨⟨p1_0, p1_1, p1_2, p1_3, p1_4, p1_5⟩, -⟩ := RB1.out.all6
  rcases szR_cases (left - (x.name.size : Int)) (x.d.s.size) (by omega) with ⟨hno1, hv1⟩ | ⟨l1, hv1, hl1, h01, h11, -⟩
  · rw [hv1.out]
    go_wp2_with fail
    go_ret
    exact ⟨retI (szR_no (by simp only [Cl.sz]; omega)), hbb1⟩
  rw [hv1.out]
  go_wp2_with fail
  go_ret
  exact ⟨retI (szR_yes (by omega) (by have := hl1.out; simp only [Cl.sz]; omega)), hbb1⟩
set_option maxHeartbeats 1000000 in
theorem lawsSzColL (A : Option Addr) (n c : Nat) (l : List Cl) (left : Int) (ok : Nat → Prop) (w : World) (h : Sl ClR 6 ok w A n l) (hwf : (l.length ≤ maxLen ∧ ∀ y ∈ l, y.wf)) (hp0 : 0 ≤ left) (hle : left ≤ 1048576) :
    Calls Tryz.prog 80 #[.slice A n c, .int .i64 left] w fun e w' => e = .returned (.int .i64 (szR left (szL Cl.sz l))) ∧ Below w.heap.size w w' := by
  obtain rfl : l.length = n := h.1
  obtain ⟨hlen, hall⟩ := hwf
  unfold maxLen at hlen
  have HW := Lib.hid hall
  clear hall
  by_cases hs : left - (l.length : Int) < 0
  · go_enter Tryz.func80, Tryz.ntmps80
    go_wp2
    go_ret
    exact ⟨retI (szR_no (by unfold szL; omega)), Below.refl _ _⟩
  have hs' : decide (left - (l.length : Int) < 0) = false := by simpa using hs
  go_enter Tryz.func80, Tryz.ntmps80
  go_wp2
  go_loopw [1, 5] (fun m i wr => ∃ (k : Nat) (u : Int), k ≤ l.length ∧ i = .int .i64 k ∧ m = .int .i64 u ∧ 0 ≤ u ∧ u ≤ left ∧ Hid (u = left - l.length - ((l.take k).map (Cl.sz)).sum) ∧ Below w.heap.size w wr) (fun _ i _ => l.length - (intOf i).toNat)
  case atStart => exact ⟨0, _, by omega, rfl, rfl, by omega, by omega, Lib.hid (by simp), Below.refl _ _⟩
  case round =>
    obtain ⟨k, u, hk, rfl, rfl, hu0, hu1, hu, hb⟩ := hrel
    by_cases hlt : k < l.length
    · obtain ⟨b, off, -, rfl, q0, q1, q2, q3, q4, q5⟩ := ClR.at_ (h.below ClR.stays hb) hlt
      have hx := HW.out _ (List.getElem_mem hlt)
      have hst := sum_take (Cl.sz) l k hlt
      have hsl := sum_take_le (Cl.sz) l (k + 1)
      have HST := Lib.hid hst
      have HSL := Lib.hid hsl
      have HX := Lib.hid hx
      clear hst hsl hx
      rcases szR_cases u (l[k].sz) hu0 with ⟨hno, hv⟩ | ⟨u', hv, hu', hu0', hu1', -⟩
      · go_wp2_with fail
        refine (lawsSzCol l[k]  u ok _  HX.out hu0 (by omega)).mono ?_
        rintro e w1 ⟨rfl, hb1⟩
        rw [hv.out]
        go_wp2_with fail
        go_ret
        exact ⟨retI (szR_no (by have e1 := hu.out; have e2 := HST.out; have e3 := HSL.out; unfold szL; (try simp only at e1 e2 e3 ⊢); omega)), hb.trans (hb1.mono hb.size)⟩
      · go_wp2_with fail
        refine (lawsSzCol l[k]  u ok _  HX.out hu0 (by omega)).mono ?_
        rintro e w1 ⟨rfl, hb1⟩
        rw [hv.out]
        go_wp2_with fail
        go_roundw
        case rel => exact ⟨k + 1, _, by omega, by go_num, rfl, by omega, by omega, Lib.hid (by have e1 := hu.out; have e2 := HST.out; have e3 := hu'.out; (try simp only at e1 e2 e3 ⊢); omega), hb.trans (hb1.mono hb.size)⟩
        case measure => simp [intOf]; omega
    · have e : l.take k = l := List.take_of_length_le (by omega)
      have e1 := hu.out
      rw [e] at e1
      have HU := Lib.hid e1
      clear e1 hu e
      go_wp2
      go_ret
      exact ⟨retI (szR_yes (by omega) (by have e1 := HU.out; unfold szL; omega)), hb⟩
set_option maxRecDepth 100000 in
set_option maxHeartbeats 1000000 in
theorem lawsSzUnique (x : Uq) (A0 : Option Addr) (n0 c0 : Nat) (left : Int) (ok : Nat → Prop) (w : World) (h0 : Sl IntR 1 ok w A0 n0 x.cols) (hwf : x.wf) (hp0 : 0 ≤ left) (hle : left ≤ 1048576) :
    Calls Tryz.prog 128 #[.agg #[.slice A0 n0 c0], .int .i64 left] w fun e w' => e = .returned (.int .i64 (szR left x.sz)) ∧ Below w.heap.size w w' := by
  have wf0 := hwf
  have WF0 := Lib.hid wf0
  clear wf0
  have HB := Lib.hid ((Below.refl w.heap.size w).alloc (Nat.le_refl _) (.cells #[.slice A0 n0 c0] 202))
  have RB := Lib.hid (Row.new w 202 #[.slice A0 n0 c0])
  go_enter Tryz.func128, Tryz.ntmps128
  go_wp2_with fail
  refine (lawsSzInts A0 n0 c0 x.cols left ok _ (h0.below IntR.stays HB.out) WF0.out (by omega) (by omega)).mono ?_
  rintro e w1 ⟨rfl, hb1⟩
  have hbb1 := (HB.out).trans (hb1.mono (HB.out).size)
  have RB1 := Lib.hid ((RB.out).below hb1)
  obtain ⟨p1_0, -⟩ := RB1.out.all1
  rcases szR_cases left (x.cols.length) (by omega) with ⟨hno1, hv1⟩ | ⟨l1, hv1, hl1, h01, h11, -⟩
  · rw [hv1.out]
    go_wp2_with fail
    go_ret
    exact ⟨retI (szR_no (by simp only [Uq.sz]; omega)), hbb1⟩
  rw [hv1.out]
  go_wp2_with fail
  go_ret
  exact ⟨retI (szR_yes (by omega) (by have := hl1.out; simp only [Uq.sz]; omega)), hbb1⟩
set_option maxHeartbeats 1000000 in
theorem lawsSzUniqueL (A : Option Addr) (n c : Nat) (l : List Uq) (left : Int) (ok : Nat → Prop) (w : World) (h : Sl UqR 1 ok w A n l) (hwf : (l.length ≤ maxLen ∧ ∀ y ∈ l, y.wf)) (hp0 : 0 ≤ left) (hle : left ≤ 1048576) :
    Calls Tryz.prog 82 #[.slice A n c, .int .i64 left] w fun e w' => e = .returned (.int .i64 (szR left (szL Uq.sz l))) ∧ Below w.heap.size w w' := by
  obtain rfl : l.length = n := h.1
  obtain ⟨hlen, hall⟩ := hwf
  unfold maxLen at hlen
  have HW := Lib.hid hall
  clear hall
  by_cases hs : left - (l.length : Int) < 0
  · go_enter Tryz.func82, Tryz.ntmps82
    go_wp2
    go_ret
    exact ⟨retI (szR_no (by unfold szL; omega)), Below.refl _ _⟩
  have hs' : decide (left - (l.length : Int) < 0) = false := by simpa using hs
  go_enter Tryz.func82, Tryz.ntmps82
  go_wp2
  go_loopw [1, 5] (fun m i wr => ∃ (k : Nat) (u : Int), k ≤ l.length ∧ i = .int .i64 k ∧ m = .int .i64 u ∧ 0 ≤ u ∧ u ≤ left ∧ Hid (u = left - l.length - ((l.take k).map (Uq.sz)).sum) ∧ Below w.heap.size w wr) (fun _ i _ => l.length - (intOf i).toNat)
  case atStart => exact ⟨0, _, by omega, rfl, rfl, by omega, by omega, Lib.hid (by simp), Below.refl _ _⟩
  case round =>
    obtain ⟨k, u, hk, rfl, rfl, hu0, hu1, hu, hb⟩ := hrel
    by_cases hlt : k < l.length
    · obtain ⟨b, off, A0, n0, c0, -, rfl, q0, s0, -⟩ := UqR.at_ (h.below UqR.stays hb) hlt
      have hx := HW.out _ (List.getElem_mem hlt)
      have hst := sum_take (Uq.sz) l k hlt
      have hsl := sum_take_le (Uq.sz) l (k + 1)
      have HST := Lib.hid hst
      have HSL := Lib.hid hsl
      have HX := Lib.hid hx
      clear hst hsl hx
      rcases szR_cases u (l[k].sz) hu0 with ⟨hno, hv⟩ | ⟨u', hv, hu', hu0', hu1', -⟩
      · go_wp2_with fail
        refine (lawsSzUnique l[k] A0 n0 c0 u ok _ s0 HX.out hu0 (by omega)).mono ?_
        rintro e w1 ⟨rfl, hb1⟩
        rw [hv.out]
        go_wp2_with fail
        go_ret
        exact ⟨retI (szR_no (by have e1 := hu.out; have e2 := HST.out; have e3 := HSL.out; unfold szL; (try simp only at e1 e2 e3 ⊢); omega)), hb.trans (hb1.mono hb.size)⟩
      · go_wp2_with fail
        refine (lawsSzUnique l[k] A0 n0 c0 u ok _ s0 HX.out hu0 (by omega)).mono ?_
        rintro e w1 ⟨rfl, hb1⟩
        rw [hv.out]
        go_wp2_with fail
        go_roundw
        case rel => exact ⟨k + 1, _, by omega, by go_num, rfl, by omega, by omega, Lib.hid (by have e1 := hu.out; have e2 := HST.out; have e3 := hu'.out; (try simp only at e1 e2 e3 ⊢); omega), hb.trans (hb1.mono hb.size)⟩
        case measure => simp [intOf]; omega
    · have e : l.take k = l := List.take_of_length_le (by omega)
      have e1 := hu.out
      rw [e] at e1
      have HU := Lib.hid e1
      clear e1 hu e
      go_wp2
      go_ret
      exact ⟨retI (szR_yes (by omega) (by have e1 := HU.out; unfold szL; omega)), hb⟩
set_option maxRecDepth 100000 in
set_option maxHeartbeats 1000000 in
theorem lawsSzCheck (x : Ck) (A0 : Option Addr) (n0 c0 : Nat) (left : Int) (ok : Nat → Prop) (w : World) (h0 : Sl TkR 5 ok w A0 n0 x.expr) (hwf : x.wf) (hp0 : 0 ≤ left) (hle : left ≤ 1048576) :
    Calls Tryz.prog 129 #[.agg #[.slice A0 n0 c0], .int .i64 left] w fun e w' => e = .returned (.int .i64 (szR left x.sz)) ∧ Below w.heap.size w w' := by
  have wf0 := hwf
  have WF0 := Lib.hid wf0
  clear wf0
  have HB := Lib.hid ((Below.refl w.heap.size w).alloc (Nat.le_refl _) (.cells #[.slice A0 n0 c0] 205))
  have RB := Lib.hid (Row.new w 205 #[.slice A0 n0 c0])
  go_enter Tryz.func129, Tryz.ntmps129
  go_wp2_with fail
  refine (lawsSzTokL A0 n0 c0 x.expr left ok _ (h0.below TkR.stays HB.out) WF0.out (by omega) (by omega)).mono ?_
  rintro e w1 ⟨rfl, hb1⟩
  have hbb1 := (HB.out).trans (hb1.mono (HB.out).size)
  have RB1 := Lib.hid ((RB.out).below hb1)
  obtain ⟨p1_0, -⟩ := RB1.out.all1
  rcases szR_cases left (szL (fun t : Tk => t.vs.size) x.expr) (by omega) with ⟨hno1, hv1⟩ | ⟨l1, hv1, hl1, h01, h11, -⟩
  · rw [hv1.out]
    go_wp2_with fail
    go_ret
    exact ⟨retI (szR_no (by simp only [Ck.sz]; omega)), hbb1⟩
  rw [hv1.out]
  go_wp2_with fail
  go_ret
  exact ⟨retI (szR_yes (by omega) (by have := hl1.out; simp only [Ck.sz]; omega)), hbb1⟩
set_option maxHeartbeats 1000000 in
theorem lawsSzCheckL (A : Option Addr) (n c : Nat) (l : List Ck) (left : Int) (ok : Nat → Prop) (w : World) (h : Sl CkR 1 ok w A n l) (hwf : (l.length ≤ maxLen ∧ ∀ y ∈ l, y.wf)) (hp0 : 0 ≤ left) (hle : left ≤ 1048576) :
    Calls Tryz.prog 83 #[.slice A n c, .int .i64 left] w fun e w' => e = .returned (.int .i64 (szR left (szL Ck.sz l))) ∧ Below w.heap.size w w' := by
  obtain rfl : l.length = n := h.1
  obtain ⟨hlen, hall⟩ := hwf
  unfold maxLen at hlen
  have HW := Lib.hid hall
  clear hall
  by_cases hs : left - (l.length : Int) < 0
  · go_enter Tryz.func83, Tryz.ntmps83
    go_wp2
    go_ret
    exact ⟨retI (szR_no (by unfold szL; omega)), Below.refl _ _⟩
  have hs' : decide (left - (l.length : Int) < 0) = false := by simpa using hs
  go_enter Tryz.func83, Tryz.ntmps83
  go_wp2
  go_loopw [1, 5] (fun m i wr => ∃ (k : Nat) (u : Int), k ≤ l.length ∧ i = .int .i64 k ∧ m = .int .i64 u ∧ 0 ≤ u ∧ u ≤ left ∧ Hid (u = left - l.length - ((l.take k).map (Ck.sz)).sum) ∧ Below w.heap.size w wr) (fun _ i _ => l.length - (intOf i).toNat)
  case atStart => exact ⟨0, _, by omega, rfl, rfl, by omega, by omega, Lib.hid (by simp), Below.refl _ _⟩
  case round =>
    obtain ⟨k, u, hk, rfl, rfl, hu0, hu1, hu, hb⟩ := hrel
    by_cases hlt : k < l.length
    · obtain ⟨b, off, A0, n0, c0, -, rfl, q0, s0, -⟩ := CkR.at_ (h.below CkR.stays hb) hlt
      have hx := HW.out _ (List.getElem_mem hlt)
      have hst := sum_take (Ck.sz) l k hlt
      have hsl := sum_take_le (Ck.sz) l (k + 1)
      have HST := Lib.hid hst
      have HSL := Lib.hid hsl
      have HX := Lib.hid hx
      clear hst hsl hx
      rcases szR_cases u (l[k].sz) hu0 with ⟨hno, hv⟩ | ⟨u', hv, hu', hu0', hu1', -⟩
      · go_wp2_with fail
        refine (lawsSzCheck l[k] A0 n0 c0 u ok _ s0 HX.out hu0 (by omega)).mono ?_
        rintro e w1 ⟨rfl, hb1⟩
        rw [hv.out]
        go_wp2_with fail
        go_ret
        exact ⟨retI (szR_no (by have e1 := hu.out; have e2 := HST.out; have e3 := HSL.out; unfold szL; (try simp only at e1 e2 e3 ⊢); omega)), hb.trans (hb1.mono hb.size)⟩
      · go_wp2_with fail
        refine (lawsSzCheck l[k] A0 n0 c0 u ok _ s0 HX.out hu0 (by omega)).mono ?_
        rintro e w1 ⟨rfl, hb1⟩
        rw [hv.out]
        go_wp2_with fail
        go_roundw
        case rel => exact ⟨k + 1, _, by omega, by go_num, rfl, by omega, by omega, Lib.hid (by have e1 := hu.out; have e2 := HST.out; have e3 := hu'.out; (try simp only at e1 e2 e3 ⊢); omega), hb.trans (hb1.mono hb.size)⟩
        case measure => simp [intOf]; omega
    · have e : l.take k = l := List.take_of_length_le (by omega)
      have e1 := hu.out
      rw [e] at e1
      have HU := Lib.hid e1
      clear e1 hu e
      go_wp2
      go_ret
      exact ⟨retI (szR_yes (by omega) (by have e1 := HU.out; unfold szL; omega)), hb⟩
set_option maxRecDepth 100000 in
set_option maxHeartbeats 1000000 in
theorem lawsSzFk (x : Fk) (A0 : Option Addr) (n0 c0 : Nat) (left : Int) (ok : Nat → Prop) (w : World) (h0 : Sl IntR 1 ok w A0 n0 x.cols) (hwf : x.wf) (hp0 : 0 ≤ left) (hle : left ≤ 1048576) :
    Calls Tryz.prog 130 #[.agg #[.slice A0 n0 c0, .string x.table, .int .i64 x.del, .int .i64 x.upd, .bool x.dfr], .int .i64 left] w fun e w' => e = .returned (.int .i64 (szR left x.sz)) ∧ Below w.heap.size w w' := by
  obtain ⟨wf0, wf1⟩ := hwf
  have WF0 := Lib.hid wf0
  clear wf0
  unfold maxLen at wf1
  have HB := Lib.hid ((Below.refl w.heap.size w).alloc (Nat.le_refl _) (.cells #[.slice A0 n0 c0, .string x.table, .int .i64 x.del, .int .i64 x.upd, .bool x.dfr] 207))
  have RB := Lib.hid (Row.new w 207 #[.slice A0 n0 c0, .string x.table, .int .i64 x.del, .int .i64 x.upd, .bool x.dfr])
  go_enter Tryz.func130, Tryz.ntmps130
  go_wp2_with fail
  refine (lawsSzInts A0 n0 c0 x.cols left ok _ (h0.below IntR.stays HB.out) WF0.out (by omega) (by omega)).mono ?_
  rintro e w1 ⟨rfl, hb1⟩
  have hbb1 := (HB.out).trans (hb1.mono (HB.out).size)
  have RB1 := Lib.hid ((RB.out).below hb1)
  obtain ⟨⟨p1_0, p1_1, p1_2, p1_3, p1_4⟩, -⟩ := RB1.out.five
  rcases szR_cases left (x.cols.length) (by omega) with ⟨hno1, hv1⟩ | ⟨l1, hv1, hl1, h01, h11, -⟩
  · rw [hv1.out]
    go_wp2_with fail
    go_ret
    exact ⟨retI (szR_no (by simp only [Fk.sz]; omega)), hbb1⟩
  rw [hv1.out]
  by_cases hs1 : l1 - (x.table.size : Int) < 0
  · go_wp2_with fail
    go_ret
    exact ⟨retI (szR_no (by have := hl1.out; simp only [Fk.sz]; omega)), hbb1⟩
  have hs1' : decide (l1 - (x.table.size : Int) < 0) = false := by simpa using hs1
  go_wp2_with fail
  go_ret
  exact ⟨retI (szR_yes (by omega) (by have := hl1.out; simp only [Fk.sz]; omega)), hbb1⟩
set_option maxHeartbeats 1000000 in
theorem lawsSzFkL (A : Option Addr) (n c : Nat) (l : List Fk) (left : Int) (ok : Nat → Prop) (w : World) (h : Sl FkR 5 ok w A n l) (hwf : (l.length ≤ maxLen ∧ ∀ y ∈ l, y.wf)) (hp0 : 0 ≤ left) (hle : left ≤ 1048576) :
    Calls Tryz.prog 84 #[.slice A n c, .int .i64 left] w fun e w' => e = .returned (.int .i64 (szR left (szL Fk.sz l))) ∧ Below w.heap.size w w' := by
  obtain rfl : l.length = n := h.1
  obtain ⟨hlen, hall⟩ := hwf
  unfold maxLen at hlen
  have HW := Lib.hid hall
  clear hall
  by_cases hs : left - (l.length : Int) < 0
  · go_enter Tryz.func84, Tryz.ntmps84
    go_wp2
    go_ret
    exact ⟨retI (szR_no (by unfold szL; omega)), Below.refl _ _⟩
  have hs' : decide (left - (l.length : Int) < 0) = false := by simpa using hs
  go_enter Tryz.func84, Tryz.ntmps84
  go_wp2
  go_loopw [1, 5] (fun m i wr => ∃ (k : Nat) (u : Int), k ≤ l.length ∧ i = .int .i64 k ∧ m = .int .i64 u ∧ 0 ≤ u ∧ u ≤ left ∧ Hid (u = left - l.length - ((l.take k).map (Fk.sz)).sum) ∧ Below w.heap.size w wr) (fun _ i _ => l.length - (intOf i).toNat)
  case atStart => exact ⟨0, _, by omega, rfl, rfl, by omega, by omega, Lib.hid (by simp), Below.refl _ _⟩
  case round =>
    obtain ⟨k, u, hk, rfl, rfl, hu0, hu1, hu, hb⟩ := hrel
    by_cases hlt : k < l.length
    · obtain ⟨b, off, A0, n0, c0, -, rfl, q0, q1, q2, q3, q4, s0, -⟩ := FkR.at_ (h.below FkR.stays hb) hlt
      have hx := HW.out _ (List.getElem_mem hlt)
      have hst := sum_take (Fk.sz) l k hlt
      have hsl := sum_take_le (Fk.sz) l (k + 1)
      have HST := Lib.hid hst
      have HSL := Lib.hid hsl
      have HX := Lib.hid hx
      clear hst hsl hx
      rcases szR_cases u (l[k].sz) hu0 with ⟨hno, hv⟩ | ⟨u', hv, hu', hu0', hu1', -⟩
      · go_wp2_with fail
        refine (lawsSzFk l[k] A0 n0 c0 u ok _ s0 HX.out hu0 (by omega)).mono ?_
        rintro e w1 ⟨rfl, hb1⟩
        rw [hv.out]
        go_wp2_with fail
        go_ret
        exact ⟨retI (szR_no (by have e1 := hu.out; have e2 := HST.out; have e3 := HSL.out; unfold szL; (try simp only at e1 e2 e3 ⊢); omega)), hb.trans (hb1.mono hb.size)⟩
      · go_wp2_with fail
        refine (lawsSzFk l[k] A0 n0 c0 u ok _ s0 HX.out hu0 (by omega)).mono ?_
        rintro e w1 ⟨rfl, hb1⟩
        rw [hv.out]
        go_wp2_with fail
        go_roundw
        case rel => exact ⟨k + 1, _, by omega, by go_num, rfl, by omega, by omega, Lib.hid (by have e1 := hu.out; have e2 := HST.out; have e3 := hu'.out; (try simp only at e1 e2 e3 ⊢); omega), hb.trans (hb1.mono hb.size)⟩
        case measure => simp [intOf]; omega
    · have e : l.take k = l := List.take_of_length_le (by omega)
      have e1 := hu.out
      rw [e] at e1
      have HU := Lib.hid e1
      clear e1 hu e
      go_wp2
      go_ret
      exact ⟨retI (szR_yes (by omega) (by have e1 := HU.out; unfold szL; omega)), hb⟩
set_option maxRecDepth 100000 in
set_option maxHeartbeats 1000000 in
theorem lawsSzTable (x : Tb) (A1 : Option Addr) (n1 c1 : Nat) (A2 : Option Addr) (n2 c2 : Nat) (A3 : Option Addr) (n3 c3 : Nat) (A4 : Option Addr) (n4 c4 : Nat) (A5 : Option Addr) (n5 c5 : Nat) (left : Int) (ok : Nat → Prop) (w : World) (h1 : Sl ClR 6 ok w A1 n1 x.cols) (h2 : Sl IntR 1 ok w A2 n2 x.key) (h3 : Sl UqR 1 ok w A3 n3 x.uniqs) (h4 : Sl CkR 1 ok w A4 n4 x.checks) (h5 : Sl FkR 5 ok w A5 n5 x.fks) (hwf : x.wf) (hp0 : 0 ≤ left) (hle : left ≤ 1048576) :
    Calls Tryz.prog 37 #[.agg #[.string x.name, .slice A1 n1 c1, .slice A2 n2 c2, .slice A3 n3 c3, .slice A4 n4 c4, .slice A5 n5 c5], .int .i64 left] w fun e w' => e = .returned (.int .i64 (szR left x.sz)) ∧ Below w.heap.size w w' := by
  obtain ⟨wf0, wf1, wf2, wf3, wf4, wf5⟩ := hwf
  unfold maxLen at wf0
  have WF1 := Lib.hid wf1
  clear wf1
  have WF2 := Lib.hid wf2
  clear wf2
  have WF3 := Lib.hid wf3
  clear wf3
  have WF4 := Lib.hid wf4
  clear wf4
  have WF5 := Lib.hid wf5
  clear wf5
  have HB := Lib.hid ((Below.refl w.heap.size w).alloc (Nat.le_refl _) (.cells #[.string x.name, .slice A1 n1 c1, .slice A2 n2 c2, .slice A3 n3 c3, .slice A4 n4 c4, .slice A5 n5 c5] 69))
  have RB := Lib.hid (Row.new w 69 #[.string x.name, .slice A1 n1 c1, .slice A2 n2 c2, .slice A3 n3 c3, .slice A4 n4 c4, .slice A5 n5 c5])
  by_cases hs0 : left - (x.name.size : Int) < 0
  · go_enter Tryz.func37, Tryz.ntmps37
    go_wp2_with fail
    go_ret
    exact ⟨retI (szR_no (by simp only [Tb.sz]; omega)), HB.out⟩
  have hs0' : decide (left - (x.name.size : Int) < 0) = false := by simpa using hs0
  go_enter Tryz.func37, Tryz.ntmps37
  go_wp2_with fail
  refine (lawsSzColL A1 n1 c1 x.cols (left - (x.name.size : Int)) ok _ (h1.below ClR.stays HB.out) WF1.out (by omega) (by omega)).mono ?_
  rintro e w1 ⟨rfl, hb1⟩
  have hbb1 := (HB.out).trans (hb1.mono (HB.out).size)
  have RB1 := Lib.hid ((RB.out).below hb1)
  obtain ⟨⟨p1_0, p1_1, p1_2, p1_3, p1_4, p1_5⟩, -⟩ := RB1.out.all6
  rcases szR_cases (left - (x.name.size : Int)) (szL Cl.sz x.cols) (by omega) with ⟨hno1, hv1⟩ | ⟨l1, hv1, hl1, h01, h11, -⟩
  · rw [hv1.out]
    go_wp2_with fail
    go_ret
    exact ⟨retI (szR_no (by simp only [Tb.sz]; omega)), hbb1⟩
  rw [hv1.out]
  go_wp2_with fail
  refine (lawsSzInts A2 n2 c2 x.key l1 ok _ (h2.below IntR.stays hbb1) WF2.out (by omega) (by omega)).mono ?_
  rintro e w2 ⟨rfl, hb2⟩
  have hbb2 := (hbb1).trans (hb2.mono (hbb1).size)
  have RB2 := Lib.hid ((RB1.out).below hb2)
  obtain ⟨⟨p2_0, p2_1, p2_2, p2_3, p2_4, p2_5⟩, -⟩ := RB2.out.all6
  rcases szR_cases l1 (x.key.length) (by omega) with ⟨hno2, hv2⟩ | ⟨l2, hv2, hl2, h02, h12, -⟩
  · rw [hv2.out]
    go_wp2_with fail
    go_ret
    exact ⟨retI (szR_no (by have := hl1.out; simp only [Tb.sz]; omega)), hbb2⟩
  rw [hv2.out]
  go_wp2_with fail
  refine (lawsSzUniqueL A3 n3 c3 x.uniqs l2 ok _ (h3.below UqR.stays hbb2) WF3.out (by omega) (by omega)).mono ?_
  rintro e w3 ⟨rfl, hb3⟩
  have hbb3 := (hbb2).trans (hb3.mono (hbb2).size)
  have RB3 := Lib.hid ((RB2.out).below hb3)
  obtain ⟨⟨p3_0, p3_1, p3_2, p3_3, p3_4, p3_5⟩, -⟩ := RB3.out.all6
  rcases szR_cases l2 (szL Uq.sz x.uniqs) (by omega) with ⟨hno3, hv3⟩ | ⟨l3, hv3, hl3, h03, h13, -⟩
  · rw [hv3.out]
    go_wp2_with fail
    go_ret
    exact ⟨retI (szR_no (by have := hl1.out; have := hl2.out; simp only [Tb.sz]; omega)), hbb3⟩
  rw [hv3.out]
  go_wp2_with fail
  refine (lawsSzCheckL A4 n4 c4 x.checks l3 ok _ (h4.below CkR.stays hbb3) WF4.out (by omega) (by omega)).mono ?_
  rintro e w4 ⟨rfl, hb4⟩
  have hbb4 := (hbb3).trans (hb4.mono (hbb3).size)
  have RB4 := Lib.hid ((RB3.out).below hb4)
  obtain ⟨⟨p4_0, p4_1, p4_2, p4_3, p4_4, p4_5⟩, -⟩ := RB4.out.all6
  rcases szR_cases l3 (szL Ck.sz x.checks) (by omega) with ⟨hno4, hv4⟩ | ⟨l4, hv4, hl4, h04, h14, -⟩
  · rw [hv4.out]
    go_wp2_with fail
    go_ret
    exact ⟨retI (szR_no (by have := hl1.out; have := hl2.out; have := hl3.out; simp only [Tb.sz]; omega)), hbb4⟩
  rw [hv4.out]
  go_wp2_with fail
  refine (lawsSzFkL A5 n5 c5 x.fks l4 ok _ (h5.below FkR.stays hbb4) WF5.out (by omega) (by omega)).mono ?_
  rintro e w5 ⟨rfl, hb5⟩
  have hbb5 := (hbb4).trans (hb5.mono (hbb4).size)
  have RB5 := Lib.hid ((RB4.out).below hb5)
  obtain ⟨⟨p5_0, p5_1, p5_2, p5_3, p5_4, p5_5⟩, -⟩ := RB5.out.all6
  rcases szR_cases l4 (szL Fk.sz x.fks) (by omega) with ⟨hno5, hv5⟩ | ⟨l5, hv5, hl5, h05, h15, -⟩
  · rw [hv5.out]
    go_wp2_with fail
    go_ret
    exact ⟨retI (szR_no (by have := hl1.out; have := hl2.out; have := hl3.out; have := hl4.out; simp only [Tb.sz]; omega)), hbb5⟩
  rw [hv5.out]
  go_wp2_with fail
  go_ret
  exact ⟨retI (szR_yes (by omega) (by have := hl1.out; have := hl2.out; have := hl3.out; have := hl4.out; have := hl5.out; simp only [Tb.sz]; omega)), hbb5⟩
set_option maxHeartbeats 1000000 in
theorem lawsSzTableL (A : Option Addr) (n c : Nat) (l : List Tb) (left : Int) (ok : Nat → Prop) (w : World) (h : Sl TbR 6 ok w A n l) (hwf : (l.length ≤ maxLen ∧ ∀ y ∈ l, y.wf)) (hp0 : 0 ≤ left) (hle : left ≤ 1048576) :
    Calls Tryz.prog 6 #[.slice A n c, .int .i64 left] w fun e w' => e = .returned (.int .i64 (szR left (szL Tb.sz l))) ∧ Below w.heap.size w w' := by
  obtain rfl : l.length = n := h.1
  obtain ⟨hlen, hall⟩ := hwf
  unfold maxLen at hlen
  have HW := Lib.hid hall
  clear hall
  by_cases hs : left - (l.length : Int) < 0
  · go_enter Tryz.func6, Tryz.ntmps6
    go_wp2
    go_ret
    exact ⟨retI (szR_no (by unfold szL; omega)), Below.refl _ _⟩
  have hs' : decide (left - (l.length : Int) < 0) = false := by simpa using hs
  go_enter Tryz.func6, Tryz.ntmps6
  go_wp2
  go_loopw [1, 5] (fun m i wr => ∃ (k : Nat) (u : Int), k ≤ l.length ∧ i = .int .i64 k ∧ m = .int .i64 u ∧ 0 ≤ u ∧ u ≤ left ∧ Hid (u = left - l.length - ((l.take k).map (Tb.sz)).sum) ∧ Below w.heap.size w wr) (fun _ i _ => l.length - (intOf i).toNat)
  case atStart => exact ⟨0, _, by omega, rfl, rfl, by omega, by omega, Lib.hid (by simp), Below.refl _ _⟩
  case round =>
    obtain ⟨k, u, hk, rfl, rfl, hu0, hu1, hu, hb⟩ := hrel
    by_cases hlt : k < l.length
    · obtain ⟨b, off, A1, n1, c1, A2, n2, c2, A3, n3, c3, A4, n4, c4, A5, n5, c5, -, rfl, q0, q1, q2, q3, q4, q5, s1, s2, s3, s4, s5, -⟩ := TbR.at_ (h.below TbR.stays hb) hlt
      have hx := HW.out _ (List.getElem_mem hlt)
      have hst := sum_take (Tb.sz) l k hlt
      have hsl := sum_take_le (Tb.sz) l (k + 1)
      have HST := Lib.hid hst
      have HSL := Lib.hid hsl
      have HX := Lib.hid hx
      clear hst hsl hx
      rcases szR_cases u (l[k].sz) hu0 with ⟨hno, hv⟩ | ⟨u', hv, hu', hu0', hu1', -⟩
      · go_wp2_with fail
        refine (lawsSzTable l[k] A1 n1 c1 A2 n2 c2 A3 n3 c3 A4 n4 c4 A5 n5 c5 u ok _ s1 s2 s3 s4 s5 HX.out hu0 (by omega)).mono ?_
        rintro e w1 ⟨rfl, hb1⟩
        rw [hv.out]
        go_wp2_with fail
        go_ret
        exact ⟨retI (szR_no (by have e1 := hu.out; have e2 := HST.out; have e3 := HSL.out; unfold szL; (try simp only at e1 e2 e3 ⊢); omega)), hb.trans (hb1.mono hb.size)⟩
      · go_wp2_with fail
        refine (lawsSzTable l[k] A1 n1 c1 A2 n2 c2 A3 n3 c3 A4 n4 c4 A5 n5 c5 u ok _ s1 s2 s3 s4 s5 HX.out hu0 (by omega)).mono ?_
        rintro e w1 ⟨rfl, hb1⟩
        rw [hv.out]
        go_wp2_with fail
        go_roundw
        case rel => exact ⟨k + 1, _, by omega, by go_num, rfl, by omega, by omega, Lib.hid (by have e1 := hu.out; have e2 := HST.out; have e3 := hu'.out; (try simp only at e1 e2 e3 ⊢); omega), hb.trans (hb1.mono hb.size)⟩
        case measure => simp [intOf]; omega
    · have e : l.take k = l := List.take_of_length_le (by omega)
      have e1 := hu.out
      rw [e] at e1
      have HU := Lib.hid e1
      clear e1 hu e
      go_wp2
      go_ret
      exact ⟨retI (szR_yes (by omega) (by have e1 := HU.out; unfold szL; omega)), hb⟩
set_option maxRecDepth 100000 in
set_option maxHeartbeats 1000000 in
theorem lawsSzTerm (x : Te) (A0 : Option Addr) (n0 c0 : Nat) (left : Int) (ok : Nat → Prop) (w : World) (h0 : Sl TkR 5 ok w A0 n0 x.expr) (hwf : x.wf) (hp0 : 0 ≤ left) (hle : left ≤ 1048576) :
    Calls Tryz.prog 132 #[.agg #[.slice A0 n0 c0], .int .i64 left] w fun e w' => e = .returned (.int .i64 (szR left x.sz)) ∧ Below w.heap.size w w' := by
  have wf0 := hwf
  have WF0 := Lib.hid wf0
  clear wf0
  have HB := Lib.hid ((Below.refl w.heap.size w).alloc (Nat.le_refl _) (.cells #[.slice A0 n0 c0] 212))
  have RB := Lib.hid (Row.new w 212 #[.slice A0 n0 c0])
  go_enter Tryz.func132, Tryz.ntmps132
  go_wp2_with fail
  refine (lawsSzTokL A0 n0 c0 x.expr left ok _ (h0.below TkR.stays HB.out) WF0.out (by omega) (by omega)).mono ?_
  rintro e w1 ⟨rfl, hb1⟩
  have hbb1 := (HB.out).trans (hb1.mono (HB.out).size)
  have RB1 := Lib.hid ((RB.out).below hb1)
  obtain ⟨p1_0, -⟩ := RB1.out.all1
  rcases szR_cases left (szL (fun t : Tk => t.vs.size) x.expr) (by omega) with ⟨hno1, hv1⟩ | ⟨l1, hv1, hl1, h01, h11, -⟩
  · rw [hv1.out]
    go_wp2_with fail
    go_ret
    exact ⟨retI (szR_no (by simp only [Te.sz]; omega)), hbb1⟩
  rw [hv1.out]
  go_wp2_with fail
  go_ret
  exact ⟨retI (szR_yes (by omega) (by have := hl1.out; simp only [Te.sz]; omega)), hbb1⟩
set_option maxHeartbeats 1000000 in
theorem lawsSzTermL (A : Option Addr) (n c : Nat) (l : List Te) (left : Int) (ok : Nat → Prop) (w : World) (h : Sl TeR 1 ok w A n l) (hwf : (l.length ≤ maxLen ∧ ∀ y ∈ l, y.wf)) (hp0 : 0 ≤ left) (hle : left ≤ 1048576) :
    Calls Tryz.prog 86 #[.slice A n c, .int .i64 left] w fun e w' => e = .returned (.int .i64 (szR left (szL Te.sz l))) ∧ Below w.heap.size w w' := by
  obtain rfl : l.length = n := h.1
  obtain ⟨hlen, hall⟩ := hwf
  unfold maxLen at hlen
  have HW := Lib.hid hall
  clear hall
  by_cases hs : left - (l.length : Int) < 0
  · go_enter Tryz.func86, Tryz.ntmps86
    go_wp2
    go_ret
    exact ⟨retI (szR_no (by unfold szL; omega)), Below.refl _ _⟩
  have hs' : decide (left - (l.length : Int) < 0) = false := by simpa using hs
  go_enter Tryz.func86, Tryz.ntmps86
  go_wp2
  go_loopw [1, 5] (fun m i wr => ∃ (k : Nat) (u : Int), k ≤ l.length ∧ i = .int .i64 k ∧ m = .int .i64 u ∧ 0 ≤ u ∧ u ≤ left ∧ Hid (u = left - l.length - ((l.take k).map (Te.sz)).sum) ∧ Below w.heap.size w wr) (fun _ i _ => l.length - (intOf i).toNat)
  case atStart => exact ⟨0, _, by omega, rfl, rfl, by omega, by omega, Lib.hid (by simp), Below.refl _ _⟩
  case round =>
    obtain ⟨k, u, hk, rfl, rfl, hu0, hu1, hu, hb⟩ := hrel
    by_cases hlt : k < l.length
    · obtain ⟨b, off, A0, n0, c0, -, rfl, q0, s0, -⟩ := TeR.at_ (h.below TeR.stays hb) hlt
      have hx := HW.out _ (List.getElem_mem hlt)
      have hst := sum_take (Te.sz) l k hlt
      have hsl := sum_take_le (Te.sz) l (k + 1)
      have HST := Lib.hid hst
      have HSL := Lib.hid hsl
      have HX := Lib.hid hx
      clear hst hsl hx
      rcases szR_cases u (l[k].sz) hu0 with ⟨hno, hv⟩ | ⟨u', hv, hu', hu0', hu1', -⟩
      · go_wp2_with fail
        refine (lawsSzTerm l[k] A0 n0 c0 u ok _ s0 HX.out hu0 (by omega)).mono ?_
        rintro e w1 ⟨rfl, hb1⟩
        rw [hv.out]
        go_wp2_with fail
        go_ret
        exact ⟨retI (szR_no (by have e1 := hu.out; have e2 := HST.out; have e3 := HSL.out; unfold szL; (try simp only at e1 e2 e3 ⊢); omega)), hb.trans (hb1.mono hb.size)⟩
      · go_wp2_with fail
        refine (lawsSzTerm l[k] A0 n0 c0 u ok _ s0 HX.out hu0 (by omega)).mono ?_
        rintro e w1 ⟨rfl, hb1⟩
        rw [hv.out]
        go_wp2_with fail
        go_roundw
        case rel => exact ⟨k + 1, _, by omega, by go_num, rfl, by omega, by omega, Lib.hid (by have e1 := hu.out; have e2 := HST.out; have e3 := hu'.out; (try simp only at e1 e2 e3 ⊢); omega), hb.trans (hb1.mono hb.size)⟩
        case measure => simp [intOf]; omega
    · have e : l.take k = l := List.take_of_length_le (by omega)
      have e1 := hu.out
      rw [e] at e1
      have HU := Lib.hid e1
      clear e1 hu e
      go_wp2
      go_ret
      exact ⟨retI (szR_yes (by omega) (by have e1 := HU.out; unfold szL; omega)), hb⟩
set_option maxRecDepth 100000 in
set_option maxHeartbeats 1000000 in
theorem lawsSzTrigger (x : Tg) (A2 : Option Addr) (n2 c2 : Nat) (A4 : Option Addr) (n4 c4 : Nat) (left : Int) (ok : Nat → Prop) (w : World) (h2 : Sl TkR 5 ok w A2 n2 x.wher) (h4 : Sl TeR 1 ok w A4 n4 x.terms) (hwf : x.wf) (hp0 : 0 ≤ left) (hle : left ≤ 1048576) :
    Calls Tryz.prog 38 #[.agg #[.string x.table, .int .i64 x.event, .slice A2 n2 c2, .string x.into, .slice A4 n4 c4], .int .i64 left] w fun e w' => e = .returned (.int .i64 (szR left x.sz)) ∧ Below w.heap.size w w' := by
  obtain ⟨wf0, wf2, wf3, wf4⟩ := hwf
  unfold maxLen at wf0
  have WF2 := Lib.hid wf2
  clear wf2
  unfold maxLen at wf3
  have WF4 := Lib.hid wf4
  clear wf4
  have HB := Lib.hid ((Below.refl w.heap.size w).alloc (Nat.le_refl _) (.cells #[.string x.table, .int .i64 x.event, .slice A2 n2 c2, .string x.into, .slice A4 n4 c4] 74))
  have RB := Lib.hid (Row.new w 74 #[.string x.table, .int .i64 x.event, .slice A2 n2 c2, .string x.into, .slice A4 n4 c4])
  by_cases hs0 : left - (x.table.size : Int) < 0
  · go_enter Tryz.func38, Tryz.ntmps38
    go_wp2_with fail
    go_ret
    exact ⟨retI (szR_no (by simp only [Tg.sz]; omega)), HB.out⟩
  have hs0' : decide (left - (x.table.size : Int) < 0) = false := by simpa using hs0
  go_enter Tryz.func38, Tryz.ntmps38
  go_wp2_with fail
  refine (lawsSzTokL A2 n2 c2 x.wher (left - (x.table.size : Int)) ok _ (h2.below TkR.stays HB.out) WF2.out (by omega) (by omega)).mono ?_
  rintro e w1 ⟨rfl, hb1⟩
  have hbb1 := (HB.out).trans (hb1.mono (HB.out).size)
  have RB1 := Lib.hid ((RB.out).below hb1)
  obtain ⟨⟨p1_0, p1_1, p1_2, p1_3, p1_4⟩, -⟩ := RB1.out.five
  rcases szR_cases (left - (x.table.size : Int)) (szL (fun t : Tk => t.vs.size) x.wher) (by omega) with ⟨hno1, hv1⟩ | ⟨l1, hv1, hl1, h01, h11, -⟩
  · rw [hv1.out]
    go_wp2_with fail
    go_ret
    exact ⟨retI (szR_no (by simp only [Tg.sz]; omega)), hbb1⟩
  rw [hv1.out]
  by_cases hs3 : l1 - (x.into.size : Int) < 0
  · go_wp2_with fail
    go_ret
    exact ⟨retI (szR_no (by have := hl1.out; simp only [Tg.sz]; omega)), hbb1⟩
  have hs3' : decide (l1 - (x.into.size : Int) < 0) = false := by simpa using hs3
  go_wp2_with fail
  refine (lawsSzTermL A4 n4 c4 x.terms (l1 - (x.into.size : Int)) ok _ (h4.below TeR.stays hbb1) WF4.out (by omega) (by omega)).mono ?_
  rintro e w2 ⟨rfl, hb2⟩
  have hbb2 := (hbb1).trans (hb2.mono (hbb1).size)
  have RB2 := Lib.hid ((RB1.out).below hb2)
  obtain ⟨⟨p2_0, p2_1, p2_2, p2_3, p2_4⟩, -⟩ := RB2.out.five
  rcases szR_cases (l1 - (x.into.size : Int)) (szL Te.sz x.terms) (by omega) with ⟨hno2, hv2⟩ | ⟨l2, hv2, hl2, h02, h12, -⟩
  · rw [hv2.out]
    go_wp2_with fail
    go_ret
    exact ⟨retI (szR_no (by have := hl1.out; simp only [Tg.sz]; omega)), hbb2⟩
  rw [hv2.out]
  go_wp2_with fail
  go_ret
  exact ⟨retI (szR_yes (by omega) (by have := hl1.out; have := hl2.out; simp only [Tg.sz]; omega)), hbb2⟩
set_option maxHeartbeats 1000000 in
theorem lawsSzTriggerL (A : Option Addr) (n c : Nat) (l : List Tg) (left : Int) (ok : Nat → Prop) (w : World) (h : Sl TgR 5 ok w A n l) (hwf : (l.length ≤ maxLen ∧ ∀ y ∈ l, y.wf)) (hp0 : 0 ≤ left) (hle : left ≤ 1048576) :
    Calls Tryz.prog 7 #[.slice A n c, .int .i64 left] w fun e w' => e = .returned (.int .i64 (szR left (szL Tg.sz l))) ∧ Below w.heap.size w w' := by
  obtain rfl : l.length = n := h.1
  obtain ⟨hlen, hall⟩ := hwf
  unfold maxLen at hlen
  have HW := Lib.hid hall
  clear hall
  by_cases hs : left - (l.length : Int) < 0
  · go_enter Tryz.func7, Tryz.ntmps7
    go_wp2
    go_ret
    exact ⟨retI (szR_no (by unfold szL; omega)), Below.refl _ _⟩
  have hs' : decide (left - (l.length : Int) < 0) = false := by simpa using hs
  go_enter Tryz.func7, Tryz.ntmps7
  go_wp2
  go_loopw [1, 5] (fun m i wr => ∃ (k : Nat) (u : Int), k ≤ l.length ∧ i = .int .i64 k ∧ m = .int .i64 u ∧ 0 ≤ u ∧ u ≤ left ∧ Hid (u = left - l.length - ((l.take k).map (Tg.sz)).sum) ∧ Below w.heap.size w wr) (fun _ i _ => l.length - (intOf i).toNat)
  case atStart => exact ⟨0, _, by omega, rfl, rfl, by omega, by omega, Lib.hid (by simp), Below.refl _ _⟩
  case round =>
    obtain ⟨k, u, hk, rfl, rfl, hu0, hu1, hu, hb⟩ := hrel
    by_cases hlt : k < l.length
    · obtain ⟨b, off, A2, n2, c2, A4, n4, c4, -, rfl, q0, q1, q2, q3, q4, s2, s4, -⟩ := TgR.at_ (h.below TgR.stays hb) hlt
      have hx := HW.out _ (List.getElem_mem hlt)
      have hst := sum_take (Tg.sz) l k hlt
      have hsl := sum_take_le (Tg.sz) l (k + 1)
      have HST := Lib.hid hst
      have HSL := Lib.hid hsl
      have HX := Lib.hid hx
      clear hst hsl hx
      rcases szR_cases u (l[k].sz) hu0 with ⟨hno, hv⟩ | ⟨u', hv, hu', hu0', hu1', -⟩
      · go_wp2_with fail
        refine (lawsSzTrigger l[k] A2 n2 c2 A4 n4 c4 u ok _ s2 s4 HX.out hu0 (by omega)).mono ?_
        rintro e w1 ⟨rfl, hb1⟩
        rw [hv.out]
        go_wp2_with fail
        go_ret
        exact ⟨retI (szR_no (by have e1 := hu.out; have e2 := HST.out; have e3 := HSL.out; unfold szL; (try simp only at e1 e2 e3 ⊢); omega)), hb.trans (hb1.mono hb.size)⟩
      · go_wp2_with fail
        refine (lawsSzTrigger l[k] A2 n2 c2 A4 n4 c4 u ok _ s2 s4 HX.out hu0 (by omega)).mono ?_
        rintro e w1 ⟨rfl, hb1⟩
        rw [hv.out]
        go_wp2_with fail
        go_roundw
        case rel => exact ⟨k + 1, _, by omega, by go_num, rfl, by omega, by omega, Lib.hid (by have e1 := hu.out; have e2 := HST.out; have e3 := hu'.out; (try simp only at e1 e2 e3 ⊢); omega), hb.trans (hb1.mono hb.size)⟩
        case measure => simp [intOf]; omega
    · have e : l.take k = l := List.take_of_length_le (by omega)
      have e1 := hu.out
      rw [e] at e1
      have HU := Lib.hid e1
      clear e1 hu e
      go_wp2
      go_ret
      exact ⟨retI (szR_yes (by omega) (by have e1 := HU.out; unfold szL; omega)), hb⟩
end Go.Proofs.YtemimhghhihllaaGreat
