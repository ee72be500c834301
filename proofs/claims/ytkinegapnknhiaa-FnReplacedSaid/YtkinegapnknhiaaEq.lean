/-
  Contracts of what the exact laws do with tables and rows: whether two are one.
-/
import Derived.Test.YtkinegapnknhiaaTo
namespace Go.Proofs.Ytkinegapnknhiaa
open Go.RowKit
set_option linter.unusedVariables false

theorem Sl.drew {α : Type} {R : Rd α} (hR : Stays R) {sz : Nat} {ok : Nat → Prop} {w : World} {A : Option Addr} {n : Nat} {ds : List α} (h : Sl R sz ok w A n ds) : Sl R sz ok w.drew A n ds := h.stays hR (fun _ h => h) fun _ _ _ h => h
theorem keepE2 {w w' : World} {a0 a1 : Addr} {v0 v1 : Value} (h : w.cell? a0 = some v0 ∧ w.cell? a1 = some v1) (hb : Below w.heap.size w w') : w'.cell? a0 = some v0 ∧ w'.cell? a1 = some v1 := by
  obtain ⟨h0, h1⟩ := h
  exact ⟨(hb.cell (cell_lt h0)).trans h0, (hb.cell (cell_lt h1)).trans h1⟩
theorem keepE4 {w w' : World} {a0 a1 a2 a3 : Addr} {v0 v1 v2 v3 : Value} (h : w.cell? a0 = some v0 ∧ w.cell? a1 = some v1 ∧ w.cell? a2 = some v2 ∧ w.cell? a3 = some v3) (hb : Below w.heap.size w w') : w'.cell? a0 = some v0 ∧ w'.cell? a1 = some v1 ∧ w'.cell? a2 = some v2 ∧ w'.cell? a3 = some v3 := by
  obtain ⟨h0, h1, h2, h3⟩ := h
  exact ⟨(hb.cell (cell_lt h0)).trans h0, (hb.cell (cell_lt h1)).trans h1, (hb.cell (cell_lt h2)).trans h2, (hb.cell (cell_lt h3)).trans h3⟩
theorem keepE6 {w w' : World} {a0 a1 a2 a3 a4 a5 : Addr} {v0 v1 v2 v3 v4 v5 : Value} (h : w.cell? a0 = some v0 ∧ w.cell? a1 = some v1 ∧ w.cell? a2 = some v2 ∧ w.cell? a3 = some v3 ∧ w.cell? a4 = some v4 ∧ w.cell? a5 = some v5) (hb : Below w.heap.size w w') : w'.cell? a0 = some v0 ∧ w'.cell? a1 = some v1 ∧ w'.cell? a2 = some v2 ∧ w'.cell? a3 = some v3 ∧ w'.cell? a4 = some v4 ∧ w'.cell? a5 = some v5 := by
  obtain ⟨h0, h1, h2, h3, h4, h5⟩ := h
  exact ⟨(hb.cell (cell_lt h0)).trans h0, (hb.cell (cell_lt h1)).trans h1, (hb.cell (cell_lt h2)).trans h2, (hb.cell (cell_lt h3)).trans h3, (hb.cell (cell_lt h4)).trans h4, (hb.cell (cell_lt h5)).trans h5⟩
theorem keepE8 {w w' : World} {a0 a1 a2 a3 a4 a5 a6 a7 : Addr} {v0 v1 v2 v3 v4 v5 v6 v7 : Value} (h : w.cell? a0 = some v0 ∧ w.cell? a1 = some v1 ∧ w.cell? a2 = some v2 ∧ w.cell? a3 = some v3 ∧ w.cell? a4 = some v4 ∧ w.cell? a5 = some v5 ∧ w.cell? a6 = some v6 ∧ w.cell? a7 = some v7) (hb : Below w.heap.size w w') : w'.cell? a0 = some v0 ∧ w'.cell? a1 = some v1 ∧ w'.cell? a2 = some v2 ∧ w'.cell? a3 = some v3 ∧ w'.cell? a4 = some v4 ∧ w'.cell? a5 = some v5 ∧ w'.cell? a6 = some v6 ∧ w'.cell? a7 = some v7 := by
  obtain ⟨h0, h1, h2, h3, h4, h5, h6, h7⟩ := h
  exact ⟨(hb.cell (cell_lt h0)).trans h0, (hb.cell (cell_lt h1)).trans h1, (hb.cell (cell_lt h2)).trans h2, (hb.cell (cell_lt h3)).trans h3, (hb.cell (cell_lt h4)).trans h4, (hb.cell (cell_lt h5)).trans h5, (hb.cell (cell_lt h6)).trans h6, (hb.cell (cell_lt h7)).trans h7⟩
theorem keepE10 {w w' : World} {a0 a1 a2 a3 a4 a5 a6 a7 a8 a9 : Addr} {v0 v1 v2 v3 v4 v5 v6 v7 v8 v9 : Value} (h : w.cell? a0 = some v0 ∧ w.cell? a1 = some v1 ∧ w.cell? a2 = some v2 ∧ w.cell? a3 = some v3 ∧ w.cell? a4 = some v4 ∧ w.cell? a5 = some v5 ∧ w.cell? a6 = some v6 ∧ w.cell? a7 = some v7 ∧ w.cell? a8 = some v8 ∧ w.cell? a9 = some v9) (hb : Below w.heap.size w w') : w'.cell? a0 = some v0 ∧ w'.cell? a1 = some v1 ∧ w'.cell? a2 = some v2 ∧ w'.cell? a3 = some v3 ∧ w'.cell? a4 = some v4 ∧ w'.cell? a5 = some v5 ∧ w'.cell? a6 = some v6 ∧ w'.cell? a7 = some v7 ∧ w'.cell? a8 = some v8 ∧ w'.cell? a9 = some v9 := by
  obtain ⟨h0, h1, h2, h3, h4, h5, h6, h7, h8, h9⟩ := h
  exact ⟨(hb.cell (cell_lt h0)).trans h0, (hb.cell (cell_lt h1)).trans h1, (hb.cell (cell_lt h2)).trans h2, (hb.cell (cell_lt h3)).trans h3, (hb.cell (cell_lt h4)).trans h4, (hb.cell (cell_lt h5)).trans h5, (hb.cell (cell_lt h6)).trans h6, (hb.cell (cell_lt h7)).trans h7, (hb.cell (cell_lt h8)).trans h8, (hb.cell (cell_lt h9)).trans h9⟩
theorem keepE12 {w w' : World} {a0 a1 a2 a3 a4 a5 a6 a7 a8 a9 a10 a11 : Addr} {v0 v1 v2 v3 v4 v5 v6 v7 v8 v9 v10 v11 : Value} (h : w.cell? a0 = some v0 ∧ w.cell? a1 = some v1 ∧ w.cell? a2 = some v2 ∧ w.cell? a3 = some v3 ∧ w.cell? a4 = some v4 ∧ w.cell? a5 = some v5 ∧ w.cell? a6 = some v6 ∧ w.cell? a7 = some v7 ∧ w.cell? a8 = some v8 ∧ w.cell? a9 = some v9 ∧ w.cell? a10 = some v10 ∧ w.cell? a11 = some v11) (hb : Below w.heap.size w w') : w'.cell? a0 = some v0 ∧ w'.cell? a1 = some v1 ∧ w'.cell? a2 = some v2 ∧ w'.cell? a3 = some v3 ∧ w'.cell? a4 = some v4 ∧ w'.cell? a5 = some v5 ∧ w'.cell? a6 = some v6 ∧ w'.cell? a7 = some v7 ∧ w'.cell? a8 = some v8 ∧ w'.cell? a9 = some v9 ∧ w'.cell? a10 = some v10 ∧ w'.cell? a11 = some v11 := by
  obtain ⟨h0, h1, h2, h3, h4, h5, h6, h7, h8, h9, h10, h11⟩ := h
  exact ⟨(hb.cell (cell_lt h0)).trans h0, (hb.cell (cell_lt h1)).trans h1, (hb.cell (cell_lt h2)).trans h2, (hb.cell (cell_lt h3)).trans h3, (hb.cell (cell_lt h4)).trans h4, (hb.cell (cell_lt h5)).trans h5, (hb.cell (cell_lt h6)).trans h6, (hb.cell (cell_lt h7)).trans h7, (hb.cell (cell_lt h8)).trans h8, (hb.cell (cell_lt h9)).trans h9, (hb.cell (cell_lt h10)).trans h10, (hb.cell (cell_lt h11)).trans h11⟩
set_option maxRecDepth 100000 in
set_option maxHeartbeats 1000000 in
theorem lawsEqIntL (A A' : Option Addr) (n c c' : Nat) (l : List Int) (ok ok' : Nat → Prop) (w : World) (h : Sl IntR 1 ok w A n l) (h' : Sl IntR 1 ok' w A' n l) (hs : l.length ≤ 1048576) :
    Calls Try.prog 36 #[.slice A n c, .slice A' n c'] w fun e w' => e = .returned (.bool true) ∧ Below w.heap.size w w' := by
  obtain rfl : l.length = n := h.1
  have hn : l.length ≤ 1048576 := by exact hs
  have HS := Lib.hid hs
  clear hs
  go_enter Try.func36, Try.ntmps36
  go_wp2
  go_loopw [5] (fun i wr => ∃ k : Nat, k ≤ l.length ∧ i = .int .i64 k ∧ Below w.heap.size w wr) (fun i _ => l.length - (intOf i).toNat)
  case atStart => exact ⟨0, by omega, rfl, Below.refl _ _⟩
  case round =>
    obtain ⟨k, hk, rfl, hb⟩ := hrel
    by_cases hlt : k < l.length
    · obtain ⟨b, off, -, rfl, q0⟩ := IntR.at_ (h.below IntR.stays hb) hlt
      obtain ⟨b', off', -, rfl, r0⟩ := IntR.at_ (h'.below IntR.stays hb) hlt
      have i0 : (0 : Int) ≤ k := by omega
      have i1 : (k : Int) < l.length := by omega
      go_wp2_with fail
      go_region_held3 (fun w' => w'.cell? ⟨b, off + k, none⟩ = some (.int .i64 l[k]) ∧ w'.cell? ⟨b', off' + k, none⟩ = some (.int .i64 l[k]))
        (go_keep) (fail)
      go_wp2
      go_roundw
      case rel => exact ⟨k + 1, by omega, by go_num, hb.drew⟩
      case measure => simp [intOf]; omega
    · go_wp2
      go_ret
      exact ⟨rfl, hb⟩

set_option maxRecDepth 100000 in
set_option maxHeartbeats 1000000 in
theorem lawsEqFile (x : Fz)  (ok ok' : Nat → Prop) (w : World)   (hs : x.sz ≤ 1048576) :
    Calls Try.prog 94 #[.agg #[.string x.name, .string x.data], .agg #[.string x.name, .string x.data]] w fun e w' => e = .returned (.bool true) ∧ Below w.heap.size w w' := by
  clear hs
  have ra := (Row.new w 75 #[.string x.name, .string x.data]).alloc (.cells #[.string x.name, .string x.data] 75)
  have rb := Row.newAt (w.alloc (.cells #[.string x.name, .string x.data] 75)) 75 #[.string x.name, .string x.data] (w.heap.size + 1) (by simp)
  have hb0 := ((Below.refl w.heap.size w).alloc (Nat.le_refl _) (.cells #[.string x.name, .string x.data] 75)).alloc (by simp) (.cells #[.string x.name, .string x.data] 75)
  go_enter Try.func94, Try.ntmps94
  go_wp2
  go_ret
  exact ⟨rfl, hb0⟩

set_option maxRecDepth 100000 in
set_option maxHeartbeats 1000000 in
theorem lawsEqFileL (A A' : Option Addr) (n c c' : Nat) (l : List Fz) (ok ok' : Nat → Prop) (w : World) (h : Sl FzR 2 ok w A n l) (h' : Sl FzR 2 ok' w A' n l) (hs : szL Fz.sz l ≤ 1048576) :
    Calls Try.prog 70 #[.slice A n c, .slice A' n c'] w fun e w' => e = .returned (.bool true) ∧ Below w.heap.size w w' := by
  obtain rfl : l.length = n := h.1
  have hn : l.length ≤ 1048576 := by unfold szL at hs; omega
  have HS := Lib.hid hs
  clear hs
  go_enter Try.func70, Try.ntmps70
  go_wp2
  go_loopw [5] (fun i wr => ∃ k : Nat, k ≤ l.length ∧ i = .int .i64 k ∧ Below w.heap.size w wr) (fun i _ => l.length - (intOf i).toNat)
  case atStart => exact ⟨0, by omega, rfl, Below.refl _ _⟩
  case round =>
    obtain ⟨k, hk, rfl, hb⟩ := hrel
    by_cases hlt : k < l.length
    · obtain ⟨b, off, -, rfl, q0, q1⟩ := FzR.at_ (h.below FzR.stays hb) hlt
      obtain ⟨b', off', -, rfl, r0, r1⟩ := FzR.at_ (h'.below FzR.stays hb) hlt
      have i0 : (0 : Int) ≤ k := by omega
      have i1 : (k : Int) < l.length := by omega
      have hszk : l[k].sz ≤ 1048576 := by have := HS.out; have := sum_mem_le (Fz.sz) l k hlt; unfold szL at *; (try simp only at *); omega
      have HSK := Lib.hid hszk
      clear hszk
      go_wp2_with fail
      go_region_held3 (fun w' => w'.cell? ⟨b, off + k * 2, none⟩ = some (.string l[k].name) ∧ w'.cell? ⟨b, off + k * 2 + 1, none⟩ = some (.string l[k].data) ∧ w'.cell? ⟨b', off' + k * 2, none⟩ = some (.string l[k].name) ∧ w'.cell? ⟨b', off' + k * 2 + 1, none⟩ = some (.string l[k].data))
        (first | go_keep | exact keepE4 (by assumption) hb1)
        (first | (go_at_call 94; refine (lawsEqFile l[k]  ok ok' _   HSK.out).mono ?_; rintro e w1 ⟨rfl, hb1⟩))
      go_wp2
      go_roundw
      case rel => exact ⟨k + 1, by omega, by go_num, hb.drew.trans (hb1.mono hb.size)⟩
      case measure => simp [intOf]; omega
    · go_wp2
      go_ret
      exact ⟨rfl, hb⟩

set_option maxRecDepth 100000 in
set_option maxHeartbeats 1000000 in
theorem lawsEqDOp (x : Oz)  (ok ok' : Nat → Prop) (w : World)   (hs : x.sz ≤ 1048576) :
    Calls Try.prog 95 #[.agg #[.int .i64 x.kind, .string x.name, .string x.to, .string x.data], .agg #[.int .i64 x.kind, .string x.name, .string x.to, .string x.data]] w fun e w' => e = .returned (.bool true) ∧ Below w.heap.size w w' := by
  clear hs
  have ra := (Row.new w 36 #[.int .i64 x.kind, .string x.name, .string x.to, .string x.data]).alloc (.cells #[.int .i64 x.kind, .string x.name, .string x.to, .string x.data] 36)
  have rb := Row.newAt (w.alloc (.cells #[.int .i64 x.kind, .string x.name, .string x.to, .string x.data] 36)) 36 #[.int .i64 x.kind, .string x.name, .string x.to, .string x.data] (w.heap.size + 1) (by simp)
  have hb0 := ((Below.refl w.heap.size w).alloc (Nat.le_refl _) (.cells #[.int .i64 x.kind, .string x.name, .string x.to, .string x.data] 36)).alloc (by simp) (.cells #[.int .i64 x.kind, .string x.name, .string x.to, .string x.data] 36)
  go_enter Try.func95, Try.ntmps95
  go_wp2
  go_ret
  exact ⟨rfl, hb0⟩

set_option maxRecDepth 100000 in
set_option maxHeartbeats 1000000 in
theorem lawsEqDOpL (A A' : Option Addr) (n c c' : Nat) (l : List Oz) (ok ok' : Nat → Prop) (w : World) (h : Sl OzR 4 ok w A n l) (h' : Sl OzR 4 ok' w A' n l) (hs : szL Oz.sz l ≤ 1048576) :
    Calls Try.prog 71 #[.slice A n c, .slice A' n c'] w fun e w' => e = .returned (.bool true) ∧ Below w.heap.size w w' := by
  obtain rfl : l.length = n := h.1
  have hn : l.length ≤ 1048576 := by unfold szL at hs; omega
  have HS := Lib.hid hs
  clear hs
  go_enter Try.func71, Try.ntmps71
  go_wp2
  go_loopw [5] (fun i wr => ∃ k : Nat, k ≤ l.length ∧ i = .int .i64 k ∧ Below w.heap.size w wr) (fun i _ => l.length - (intOf i).toNat)
  case atStart => exact ⟨0, by omega, rfl, Below.refl _ _⟩
  case round =>
    obtain ⟨k, hk, rfl, hb⟩ := hrel
    by_cases hlt : k < l.length
    · obtain ⟨b, off, -, rfl, q0, q1, q2, q3⟩ := OzR.at_ (h.below OzR.stays hb) hlt
      obtain ⟨b', off', -, rfl, r0, r1, r2, r3⟩ := OzR.at_ (h'.below OzR.stays hb) hlt
      have i0 : (0 : Int) ≤ k := by omega
      have i1 : (k : Int) < l.length := by omega
      have hszk : l[k].sz ≤ 1048576 := by have := HS.out; have := sum_mem_le (Oz.sz) l k hlt; unfold szL at *; (try simp only at *); omega
      have HSK := Lib.hid hszk
      clear hszk
      go_wp2_with fail
      go_region_held3 (fun w' => w'.cell? ⟨b, off + k * 4, none⟩ = some (.int .i64 l[k].kind) ∧ w'.cell? ⟨b, off + k * 4 + 1, none⟩ = some (.string l[k].name) ∧ w'.cell? ⟨b, off + k * 4 + 2, none⟩ = some (.string l[k].to) ∧ w'.cell? ⟨b, off + k * 4 + 3, none⟩ = some (.string l[k].data) ∧ w'.cell? ⟨b', off' + k * 4, none⟩ = some (.int .i64 l[k].kind) ∧ w'.cell? ⟨b', off' + k * 4 + 1, none⟩ = some (.string l[k].name) ∧ w'.cell? ⟨b', off' + k * 4 + 2, none⟩ = some (.string l[k].to) ∧ w'.cell? ⟨b', off' + k * 4 + 3, none⟩ = some (.string l[k].data))
        (first | go_keep | exact keepE8 (by assumption) hb1)
        (first | (go_at_call 95; refine (lawsEqDOp l[k]  ok ok' _   HSK.out).mono ?_; rintro e w1 ⟨rfl, hb1⟩))
      go_wp2
      go_roundw
      case rel => exact ⟨k + 1, by omega, by go_num, hb.drew.trans (hb1.mono hb.size)⟩
      case measure => simp [intOf]; omega
    · go_wp2
      go_ret
      exact ⟨rfl, hb⟩

set_option maxRecDepth 100000 in
set_option maxHeartbeats 1000000 in
theorem lawsEqDisk (x : Dz) (A0 B0 : Option Addr) (n0 c0 d0 : Nat) (A1 B1 : Option Addr) (n1 c1 d1 : Nat) (A2 B2 : Option Addr) (n2 c2 d2 : Nat) (ok ok' : Nat → Prop) (w : World) (h0 : Sl FzR 2 ok w A0 n0 x.live) (h1 : Sl FzR 2 ok w A1 n1 x.safe) (h2 : Sl OzR 4 ok w A2 n2 x.ops) (k0 : Sl FzR 2 ok' w B0 n0 x.live) (k1 : Sl FzR 2 ok' w B1 n1 x.safe) (k2 : Sl OzR 4 ok' w B2 n2 x.ops) (hs : x.sz ≤ 1048576) :
    Calls Try.prog 28 #[.agg #[.slice A0 n0 c0, .slice A1 n1 c1, .slice A2 n2 c2], .agg #[.slice B0 n0 d0, .slice B1 n1 d1, .slice B2 n2 d2]] w fun e w' => e = .returned (.bool true) ∧ Below w.heap.size w w' := by
  have HS0 := Lib.hid (show szL Fz.sz x.live ≤ 1048576 by have := hs; unfold Dz.sz at this; omega)
  have HS1 := Lib.hid (show szL Fz.sz x.safe ≤ 1048576 by have := hs; unfold Dz.sz at this; omega)
  have HS2 := Lib.hid (show szL Oz.sz x.ops ≤ 1048576 by have := hs; unfold Dz.sz at this; omega)
  clear hs
  have ra := (Row.new w 27 #[.slice A0 n0 c0, .slice A1 n1 c1, .slice A2 n2 c2]).alloc (.cells #[.slice B0 n0 d0, .slice B1 n1 d1, .slice B2 n2 d2] 27)
  have rb := Row.newAt (w.alloc (.cells #[.slice A0 n0 c0, .slice A1 n1 c1, .slice A2 n2 c2] 27)) 27 #[.slice B0 n0 d0, .slice B1 n1 d1, .slice B2 n2 d2] (w.heap.size + 1) (by simp)
  have hb0 := ((Below.refl w.heap.size w).alloc (Nat.le_refl _) (.cells #[.slice A0 n0 c0, .slice A1 n1 c1, .slice A2 n2 c2] 27)).alloc (by simp) (.cells #[.slice B0 n0 d0, .slice B1 n1 d1, .slice B2 n2 d2] 27)
  go_enter Try.func28, Try.ntmps28
  go_wp2_with fail
  generalize (w.alloc (.cells #[.slice A0 n0 c0, .slice A1 n1 c1, .slice A2 n2 c2] 27)).alloc (.cells #[.slice B0 n0 d0, .slice B1 n1 d1, .slice B2 n2 d2] 27) = x0 at *
  refine (lawsEqFileL A0 B0 n0 c0 d0 x.live ok ok' _ (h0.below FzR.stays hb0) (k0.below FzR.stays hb0) HS0.out).mono ?_
  rintro e w1 ⟨rfl, hc0⟩
  have ra := ra.below hc0
  have rb := rb.below hc0
  have hb1 := hb0.trans (hc0.mono hb0.size)
  obtain ⟨⟨a_0_0, a_0_1, a_0_2⟩, -⟩ := ra.three
  obtain ⟨⟨b_0_0, b_0_1, b_0_2⟩, -⟩ := rb.three
  go_wp2_with fail
  refine (lawsEqFileL A1 B1 n1 c1 d1 x.safe ok ok' _ (h1.below FzR.stays hb1) (k1.below FzR.stays hb1) HS1.out).mono ?_
  rintro e w2 ⟨rfl, hc1⟩
  have ra := ra.below hc1
  have rb := rb.below hc1
  have hb2 := hb1.trans (hc1.mono hb1.size)
  obtain ⟨⟨a_1_0, a_1_1, a_1_2⟩, -⟩ := ra.three
  obtain ⟨⟨b_1_0, b_1_1, b_1_2⟩, -⟩ := rb.three
  go_wp2_with fail
  refine (lawsEqDOpL A2 B2 n2 c2 d2 x.ops ok ok' _ (h2.below OzR.stays hb2) (k2.below OzR.stays hb2) HS2.out).mono ?_
  rintro e w3 ⟨rfl, hc2⟩
  have ra := ra.below hc2
  have rb := rb.below hc2
  have hb3 := hb2.trans (hc2.mono hb2.size)
  obtain ⟨⟨a_2_0, a_2_1, a_2_2⟩, -⟩ := ra.three
  obtain ⟨⟨b_2_0, b_2_1, b_2_2⟩, -⟩ := rb.three
  go_wp2_with fail
  go_ret
  exact ⟨rfl, hb3⟩


end Go.Proofs.Ytkinegapnknhiaa
