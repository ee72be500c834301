/-
  Several texts in one: what the proof leans on, part 3.
-/
import Derived.Test.YtciaidjmehelpaaGreatMa
import Derived.Test.YtciaidjmehelpaaGreatMb
import Derived.Deep.RegionWith
import Derived.Deep.RegionHeld3
import Derived.Deep.CutRange
import Derived.BigRegion
import Derived.IntWalk
import Derived.Laws.IdiomStrings
import Derived.Deep.AppendLies
import Derived.Deep.Cut
set_option linter.unusedVariables false
set_option linter.unusedSimpArgs false
namespace Go.Proofs.YtciaidjmehelpaaGreat
open Go.RowKit
structure Rdr (w : World) (R : Nat) (a : Option Addr) (len cap : Nat) (zs : List Int) : Prop where
 code : w.cell? ⟨R, 0, none⟩ = some (.slice a len cap)
 place : ∃ p : Nat, p ≤ len ∧ w.cell? ⟨R, 1, none⟩ = some (.int .i64 p)
 free : w.frozen? ⟨R, 1, none⟩ = false
 row : IsRow .u8 w a len cap zs
 apart : ∀ x, a = some x → 0 < cap → x.block ≠ R
def Drew (R : Nat) (a : Option Addr) (len cap : Nat) (zs : List Int) (P : Value → World → Prop) (w : World) (e : Ending) (w' : World) : Prop :=
 ∃ v, e = .returned v ∧ P v w' ∧ But R w w' ∧ Rdr w' R a len cap zs
def isInt (lo hi : Int) (v : Value) (_ : World) : Prop := ∃ n : Int, v = .int .i64 n ∧ lo ≤ n ∧ n ≤ hi
theorem Rdr.drewN {w : World} {R : Nat} {a : Option Addr} {len cap : Nat} {zs : List Int} (h : Rdr w R a len cap zs) (n : Nat) : Rdr (w.drewN n) R a len cap zs := ⟨h.code, h.place, h.free, h.row, h.apart⟩
theorem Rdr.step {w : World} {R : Nat} {a : Option Addr} {len cap : Nat} {zs : List Int} (h : Rdr w R a len cap zs) (p : Nat) (hp : p ≤ len) (n : Nat) : Rdr ((w.drewN n).setCell ⟨R, 1, none⟩ (.int .i64 p)) R a len cap zs := by
 obtain ⟨q, _, hq⟩ := h.place
 exact ⟨(World.cell?_setCell_other _ _ _ _ (by simp)).trans h.code, ⟨p, hp, World.cell?_setCell_same _ _ _ (u := .int .i64 q) hq⟩, (World.frozen?_setCell _ _ _ _).trans h.free,
  h.row.but (((But.refl R w).drewN n).setCell rfl _) h.apart, h.apart⟩
set_option maxHeartbeats 400000 in
theorem rdNext (w : World) (R : Nat) (a : Option Addr) (len cap : Nat) (zs : List Int) (h : Rdr w R a len cap zs) :
  Calls Tryz.prog 102 #[.pointer (some ⟨R, 0, none⟩)] w (Drew R a len cap zs (isInt 0 255) w) := by
 have hc0 := h.code
 obtain ⟨p, hp, hc1⟩ := h.place
 have hfz := h.free
 have hlen := h.row.len_le
 by_cases hlt : p < len
 ·have hge : decide ((len : Int) ≤ p) = false := by simp; omega
  go_enter Tryz.func102, Tryz.ntmps102
  go_wp2
  go_quiet (fail)
  go_wp2
  have h2 := h.step (p + 1) (by omega) nq
  have hb := ((But.refl R w).drewN nq).setCell (p := ⟨R, 1, none⟩) rfl (.int .i64 ((p + 1 : Nat) : Int))
  have d1 := World.cell?_setCell_same (w.drewN nq) ⟨R, 1, none⟩ (.int .i64 ((p + 1 : Nat) : Int)) (u := .int .i64 p) hc1
  rw [show ((p + 1 : Nat) : Int) = (p : Int) + 1 by omega] at h2 hb d1
  generalize (w.drewN nq).setCell ⟨R, 1, none⟩ (.int .i64 ((p : Int) + 1)) = w2 at *
  clear hc0 hc1 hfz hge
  have d0 := h2.code
  obtain ⟨b, off, z, ha, hz, z0, z1⟩ := h2.row.byte hlt
  subst ha
  have H2 := Lib.hid h2; have HB := Lib.hid hb
  clear h2 hb h
  go_quiet (fail)
  go_wp2
  go_ret
  exact ⟨_, rfl, ⟨z, rfl, z0, z1⟩, HB.out.drewN _, H2.out.drewN _⟩
 ·go_enter Tryz.func102, Tryz.ntmps102
  go_wp2
  go_quiet (fail)
  go_wp2
  go_ret
  exact ⟨_, rfl, ⟨0, rfl, by omega, by omega⟩, (But.refl _ _).drewN _, ⟨hc0, ⟨p, hp, hc1⟩, hfz, h.row, h.apart⟩⟩
def isBelow (n : Int) (v : Value) (_ : World) : Prop := ∃ r : Int, v = .int .i64 r ∧ 0 ≤ r ∧ (r = 0 ∨ r < n)
set_option maxHeartbeats 400000 in
theorem rdBelow (n : Int) (w : World) (R : Nat) (a : Option Addr) (len cap : Nat) (zs : List Int) (h : Rdr w R a len cap zs) :
  Calls Tryz.prog 59 #[.pointer (some ⟨R, 0, none⟩), .int .i64 n] w (Drew R a len cap zs (isBelow n) w) := by
 by_cases h1 : n ≤ 1
 ·go_enter Tryz.func59, Tryz.ntmps59
  go_wp2
  go_ret
  exact ⟨_, rfl, ⟨0, rfl, by omega, .inl rfl⟩, But.refl _ _, h⟩
 by_cases h2 : n ≤ 256
 ·have g1 : 1 < n := by omega
  go_enter Tryz.func59, Tryz.ntmps59
  go_wp2_with fail
  refine (rdNext w R a len cap zs h).mono ?_
  rintro e w' ⟨v, rfl, ⟨x, rfl, x0, x1⟩, hb, hr⟩
  go_wp2_with fail
  go_ret
  exact ⟨_, rfl, ⟨x % n, rfl, Int.emod_nonneg _ (by omega), .inr (Int.emod_lt_of_pos _ (by omega))⟩, hb, hr⟩
 ·have g1 : 256 < n := by omega
  go_enter Tryz.func59, Tryz.ntmps59
  go_wp2_with fail
  refine (rdNext w R a len cap zs h).mono ?_
  rintro e w' ⟨v, rfl, ⟨x, rfl, x0, x1⟩, hb, hr⟩
  go_wp2_with fail
  refine (rdNext w' R a len cap zs hr).mono ?_
  rintro e w2 ⟨v, rfl, ⟨y, rfl, y0, y1⟩, hb2, hr2⟩
  go_wp2_with fail
  go_ret
  exact ⟨_, rfl, ⟨(x * 256 + y) % n, rfl, Int.emod_nonneg _ (by omega), .inr (Int.emod_lt_of_pos _ (by omega))⟩, hb.trans hb2, hr2⟩
def isBool (v : Value) (_ : World) : Prop := ∃ b : Bool, v = .bool b
theorem rdOnce (n : Int) (w : World) (R : Nat) (a : Option Addr) (len cap : Nat) (zs : List Int) (h : Rdr w R a len cap zs) :
  Calls Tryz.prog 50 #[.pointer (some ⟨R, 0, none⟩), .int .i64 n] w (Drew R a len cap zs isBool w) := by
 go_enter Tryz.func50, Tryz.ntmps50
 go_wp2_with fail
 refine (rdBelow n w R a len cap zs h).mono ?_
 rintro e w' ⟨v, rfl, ⟨x, rfl, x0, x1⟩, hb, hr⟩
 go_wp2_with fail
 go_ret
 exact ⟨_, rfl, ⟨_, rfl⟩, hb, hr⟩
def isU64 (v : Value) (_ : World) : Prop := ∃ n : Int, v = .int .u64 n ∧ (Lit.int .u64 n).wf = true
set_option maxHeartbeats 1000000 in
theorem rdWord (w : World) (R : Nat) (a : Option Addr) (len cap : Nat) (zs : List Int) (h : Rdr w R a len cap zs) :
  Calls Tryz.prog 132 #[.pointer (some ⟨R, 0, none⟩)] w (Drew R a len cap zs isU64 w) := by
 go_enter Tryz.func132, Tryz.ntmps132
 go_wp2
 go_loopw [3, 4] (fun x i wr => ∃ (k : Nat) (n : Int), k ≤ 8 ∧ i = .int .i64 k ∧ x = .int .u64 n ∧ Hid ((Lit.int .u64 n).wf = true) ∧ But R w wr ∧ Rdr wr R a len cap zs) (fun _ i _ => 8 - (intOf i).toNat)
 case atStart => exact ⟨0, 0, by omega, rfl, rfl, Lib.hid (by decide), But.refl _ _, h⟩
 case round =>
  obtain ⟨k, n, hk, rfl, rfl, hn, hb, hr⟩ := hrel
  by_cases hlt : k < 8
  ·go_wp2_with fail
   refine (rdNext wr R a len cap zs hr).mono ?_
   rintro e w' ⟨v, rfl, ⟨x, rfl, x0, x1⟩, hb2, hr2⟩
   go_wp2_with fail
   go_roundw
   case rel => exact ⟨k + 1, _, by omega, by go_num, rfl, Lib.hid (wf_bits _ _ _ _), hb.trans hb2, hr2⟩
   case measure => simp [intOf]; omega
  ·go_wp2
   go_ret
   exact ⟨_, rfl, ⟨n, rfl, hn.out⟩, hb, hr⟩
set_option maxHeartbeats 400000 in
theorem rdNear (lo hi : Int) (h1 : -2000000000 ≤ lo) (h2 : lo ≤ hi) (h3 : hi ≤ 2000000000) (w : World) (R : Nat) (a : Option Addr) (len cap : Nat) (zs : List Int) (h : Rdr w R a len cap zs) :
  Calls Tryz.prog 103 #[.pointer (some ⟨R, 0, none⟩), .int .i64 lo, .int .i64 hi] w (Drew R a len cap zs (isInt lo hi) w) := by
 go_enter Tryz.func103, Tryz.ntmps103
 go_wp2_with fail
 refine (rdBelow _ w R a len cap zs h).mono ?_
 rintro e w' ⟨v, rfl, ⟨x, rfl, x0, x1⟩, hb, hr⟩
 by_cases c0 : x = 0
 ·subst c0
  go_wp2
  go_ret
  exact ⟨_, rfl, ⟨lo, rfl, by omega, by omega⟩, hb, hr⟩
 by_cases c1 : x = 1
 ·subst c1
  go_wp2
  go_ret
  exact ⟨_, rfl, ⟨hi, rfl, by omega, by omega⟩, hb, hr⟩
 have d0 : (x == 0) = false := by simpa using c0
 have d1 : (x == 1) = false := by simpa using c1
 go_wp2_with fail
 refine (rdWord w' R a len cap zs hr).mono ?_
 rintro e w2 ⟨v, rfl, ⟨y, rfl, hy⟩, hb2, hr2⟩
 obtain ⟨y0, y1⟩ := bounds_u64 hy
 clear hy
 go_wp2_with fail
 go_ret
 have m0 := Int.emod_nonneg (y / 2) (show hi - lo + 1 ≠ 0 by omega)
 have m1 := Int.emod_lt_of_pos (y / 2) (show 0 < hi - lo + 1 by omega)
 exact ⟨_, rfl, ⟨_, rfl, by unfold wrap64; omega, by unfold wrap64; omega⟩, hb.trans hb2, hr2⟩
theorem Rdr.alloc {w : World} {R : Nat} {a : Option Addr} {len cap : Nat} {zs : List Int} (h : Rdr w R a len cap zs) (o : Obj) : Rdr (w.alloc o) R a len cap zs := by
 obtain ⟨p, hp, hc1⟩ := h.place
 have hlt : R < w.heap.size := cell_lt h.code
 have hb : But (w.heap.size) w (w.alloc o) := (But.refl _ _).alloc o
 exact ⟨(hb.cell hlt (Nat.ne_of_lt hlt)).trans h.code, ⟨p, hp, (hb.cell hlt (Nat.ne_of_lt hlt)).trans hc1⟩, (hb.frozen hlt (Nat.ne_of_lt hlt)).trans h.free,
  h.row.but ((But.refl R w).alloc o) h.apart, h.apart⟩
theorem new_cell {R : Nat} {w w' : World} {xs : Array Value} {T : TypeId} (hb : But R (w.alloc (.cells xs T)) w') (hR : R < w.heap.size) (k : Nat) (hk : k < xs.size) : w'.cell? ⟨w.heap.size, k, none⟩ = some xs[k] := by
 rw [hb.cell (by simp) (by simpa using Nat.ne_of_gt hR), World.cell?_alloc_new]
 simp [hk]
theorem new_free {R : Nat} {w w' : World} {xs : Array Value} {T : TypeId} (hb : But R (w.alloc (.cells xs T)) w') (hR : R < w.heap.size) (k : Nat) : w'.frozen? ⟨w.heap.size, k, none⟩ = false := by
 rw [hb.frozen (by simp) (by simpa using Nat.ne_of_gt hR)]
 exact World.frozen?_alloc_at xs T _ k rfl
theorem Rdr.setNew {w w' : World} {R : Nat} {a : Option Addr} {len cap : Nat} {zs : List Int} (h0 : Rdr w R a len cap zs) (h : Rdr w' R a len cap zs) {p : Addr} (hp : w.heap.size ≤ p.block) (v : Value) : Rdr (w'.setCell p v) R a len cap zs := by
 have hR : R < w.heap.size := cell_lt h0.code
 have hc : ∀ q : Addr, q.block < w.heap.size → (w'.setCell p v).cell? q = w'.cell? q := fun q hq => World.cell?_setCell_other _ _ _ _ (fun e => by subst e; omega)
 obtain ⟨i, hi, hi1⟩ := h.place
 refine ⟨(hc _ hR).trans h.code, ⟨i, hi, (hc _ hR).trans hi1⟩, (World.frozen?_setCell _ _ _ _).trans h.free, ?_, h.apart⟩
 rcases h0.row with e | ⟨x, rfl, hl, hm, hz, hcell, hwz⟩
 ·exact .inl e
 ·rcases h.row with ⟨e, _⟩ | ⟨x', e, _, _, _, hcell', _⟩
  ·cases e
  ·cases e
   exact .inr ⟨x, rfl, hl, hm, hz, fun i hi => (hc _ (cell_lt (hcell i hi))).trans (hcell' i hi), hwz⟩
theorem short_str {xs : List Value} (h : ∀ v ∈ xs, ∃ s : ByteArray, v = .string s ∧ s.size ≤ 12) {j : Nat} (hj : j < xs.length) : ∃ s : ByteArray, xs[j] = .string s ∧ s.size ≤ 12 := h _ (List.getElem_mem _)
theorem small_int {xs : List Value} (h : ∀ v ∈ xs, ∃ n : Int, v = .int .i64 n ∧ -1000000000 ≤ n ∧ n ≤ 1000000000) {j : Nat} (hj : j < xs.length) : ∃ n : Int, xs[j] = .int .i64 n ∧ -1000000000 ≤ n ∧ n ≤ 1000000000 := h _ (List.getElem_mem _)
theorem below_nat {y n : Int} (h0 : 0 ≤ y) (h1 : y = 0 ∨ y < n) (hn : 0 < n) : ∃ j : Nat, y = (j : Int) ∧ (j : Int) < n := by
 obtain ⟨j, rfl⟩ := Int.eq_ofNat_of_zero_le h0
 exact ⟨j, rfl, by omega⟩
theorem four {x n : Int} (h0 : 0 ≤ x) (h1 : x = 0 ∨ x < n) (hn : n = 4) : x = 0 ∨ x = 1 ∨ x = 2 ∨ x = 3 := by omega
set_option maxHeartbeats 400000 in
theorem rdOff (lo hi : Int) (h1 : -2000000000 ≤ lo) (h2 : lo ≤ hi) (h3 : hi ≤ 2000000000) (w : World) (R : Nat) (a : Option Addr) (len cap : Nat) (zs : List Int) (h : Rdr w R a len cap zs) :
  Calls Tryz.prog 60 #[.pointer (some ⟨R, 0, none⟩), .int .i64 lo, .int .i64 hi] w (Drew R a len cap zs (isInt (-9223372036854775808) 9223372036854775807) w) := by
 go_enter Tryz.func60, Tryz.ntmps60
 go_wp2_with fail
 refine (rdOnce _ w R a len cap zs h).mono ?_
 rintro e w' ⟨v, rfl, ⟨x, rfl⟩, hb, hr⟩
 have hlt : R < w'.heap.size := cell_lt hr.code
 cases x with
 | false =>
  go_wp2_with fail
  refine (rdNear lo hi h1 h2 h3 w' R a len cap zs hr).mono ?_
  rintro e w2 ⟨v, rfl, ⟨y, rfl, y0, y1⟩, hb2, hr2⟩
  go_wp2_with fail
  go_ret
  exact ⟨_, rfl, ⟨_, rfl, by omega, by omega⟩, hb.trans hb2, hr2⟩
 | true =>
  go_wp2_with fail
  refine (rdBelow _ _ R a len cap zs (hr.alloc _)).mono ?_
  rintro e w2 ⟨v, rfl, ⟨y, rfl, y0, y1⟩, hb2, hr2⟩
  have hb3 := (hb.alloc _).trans hb2
  rcases four y0 y1 rfl with rfl | rfl | rfl | rfl
  ·have c := new_cell hb2 hlt 0 (by simp)
   go_wp2_with fail
   go_ret
   exact ⟨_, rfl, ⟨_, rfl, by omega, by omega⟩, hb3, hr2⟩
  ·have c := new_cell hb2 hlt 1 (by simp)
   go_wp2_with fail
   go_ret
   exact ⟨_, rfl, ⟨_, rfl, by omega, by omega⟩, hb3, hr2⟩
  ·have c := new_cell hb2 hlt 2 (by simp)
   go_wp2_with fail
   go_ret
   exact ⟨_, rfl, ⟨_, rfl, by omega, by omega⟩, hb3, hr2⟩
  ·have c := new_cell hb2 hlt 3 (by simp)
   go_wp2_with fail
   go_ret
   exact ⟨_, rfl, ⟨_, rfl, by omega, by omega⟩, hb3, hr2⟩
def okV (k n : Int) (s : ByteArray) : Prop := (k = 0 ∧ n = 0 ∧ s = ⟨#[]⟩) ∨ (k = 1 ∧ -1000000000 ≤ n ∧ n ≤ 1000000000 ∧ s = ⟨#[]⟩) ∨ (k = 2 ∧ n = 0 ∧ s.size ≤ 12)
def isOkVal (v : Value) (_ : World) : Prop := ∃ k n s, v = .agg #[.int .i64 k, .int .i64 n, .string s] ∧ okV k n s
set_option maxHeartbeats 400000 in
theorem rdVal (w : World) (R : Nat) (a : Option Addr) (len cap : Nat) (zs : List Int) (h : Rdr w R a len cap zs) :
  Calls Tryz.prog 49 #[.pointer (some ⟨R, 0, none⟩)] w (Drew R a len cap zs isOkVal w) := by
 have hlt : R < w.heap.size := cell_lt h.code
 go_enter Tryz.func49, Tryz.ntmps49
 go_wp2_with fail
 refine (rdBelow _ _ R a len cap zs (h.alloc _)).mono ?_
 rintro e w' ⟨v, rfl, ⟨x, rfl, x0, x1⟩, hb, hr⟩
 have hb1 := ((But.refl R w).alloc _).trans hb
 have q0 := new_cell hb hlt 0 (by simp)
 have q1 := new_cell hb hlt 1 (by simp)
 have q2 := new_cell hb hlt 2 (by simp)
 simp only [List.getElem_toArray, List.getElem_cons_zero, List.getElem_cons_succ] at q0 q1 q2
 have f0 := new_free hb hlt 0
 have f1 := new_free hb hlt 1
 have f2 := new_free hb hlt 2
 have hx : x = 0 ∨ x = 1 ∨ x = 2 ∨ x = 3 ∨ x = 4 ∨ 4 < x := by omega
 rcases hx with rfl | rfl | rfl | rfl | rfl | hx
 ·go_wp2_with fail
  exact bodyPost_ret (v := .agg #[.int .i64 0, .int .i64 0, .string ⟨#[]⟩]) (by simp [results, Tryz.results49, go_sem, q0, q1, q2]) rfl
   ⟨_, rfl, ⟨0, 0, _, rfl, .inl ⟨rfl, rfl, rfl⟩⟩, ((hb1.setNew (Nat.le_refl _) _).setNew (Nat.le_refl _) _).setNew (Nat.le_refl _) _,
    h.setNew (h.setNew (h.setNew hr (Nat.le_refl _) _) (Nat.le_refl _) _) (Nat.le_refl _) _⟩
 ·go_wp2_with fail
  exact bodyPost_ret (v := .agg #[.int .i64 0, .int .i64 0, .string ⟨#[]⟩]) (by simp [results, Tryz.results49, go_sem, q0, q1, q2]) rfl
   ⟨_, rfl, ⟨0, 0, _, rfl, .inl ⟨rfl, rfl, rfl⟩⟩, ((hb1.setNew (Nat.le_refl _) _).setNew (Nat.le_refl _) _).setNew (Nat.le_refl _) _,
    h.setNew (h.setNew (h.setNew hr (Nat.le_refl _) _) (Nat.le_refl _) _) (Nat.le_refl _) _⟩
 ·have hlt2 : R < w'.heap.size := cell_lt hr.code
  have hs : w.heap.size < w'.heap.size := by have := hb.size; simp at this; omega
  go_wp2_with fail
  refine (rdBelow _ _ R a len cap zs (hr.alloc _)).mono ?_
  rintro e w2 ⟨v, rfl, ⟨y, rfl, y0, y1⟩, hb2, hr2⟩
  have hb3 := ((But.refl R w').alloc _).trans hb2
  have p0 := (hb3.cell (p := ⟨w.heap.size, 0, none⟩) hs (Nat.ne_of_gt hlt)).trans q0
  have p1 := (hb3.cell (p := ⟨w.heap.size, 1, none⟩) hs (Nat.ne_of_gt hlt)).trans q1
  have p2 := (hb3.cell (p := ⟨w.heap.size, 2, none⟩) hs (Nat.ne_of_gt hlt)).trans q2
  have g0 := (hb3.frozen (p := ⟨w.heap.size, 0, none⟩) hs (Nat.ne_of_gt hlt)).trans f0
  have g1 := (hb3.frozen (p := ⟨w.heap.size, 1, none⟩) hs (Nat.ne_of_gt hlt)).trans f1
  have g2 := (hb3.frozen (p := ⟨w.heap.size, 2, none⟩) hs (Nat.ne_of_gt hlt)).trans f2
  obtain ⟨j, rfl, hj⟩ := below_nat y0 y1 (by omega)
  have hb4 := hb1.trans hb3
  have hs2 : w.heap.size < w2.heap.size := Nat.lt_of_lt_of_le hs hb3.size
  have hj' : j < 6 := by omega
  have hcj := new_cell hb2 hlt2 j (by simpa using hj')
  obtain ⟨s, es, hs12⟩ := short_str (xs := [Value.string ⟨#[]⟩, .string ⟨#[97]⟩, .string ⟨#[98]⟩, .string ⟨#[97, 32, 98]⟩, .string ⟨#[105, 116, 39, 115]⟩, .string ⟨#[120, 44, 37]⟩]) (by simp; decide) (j := j) (by simpa using hj')
  simp only [List.getElem_toArray, es] at hcj
  clear hb hb1 hb2 hb3 q0 q1 q2 f0 f1 f2 es y0 y1
  go_wp2_with fail
  refine (specStr _ _).mono ?_
  rintro e w3 ⟨rfl, o, rfl⟩
  go_wp2_with fail
  exact bodyPost_ret (v := .agg #[.int .i64 2, .int .i64 0, .string s]) (by simp [results, Tryz.results49, go_sem, p0, p1, p2, hs2]) rfl
   ⟨_, rfl, ⟨2, 0, s, rfl, .inr (.inr ⟨rfl, rfl, hs12⟩)⟩, ((hb4.setNew (Nat.le_refl _) _).setNew (Nat.le_refl _) _).setNew (Nat.le_refl _) _ |>.alloc _,
    (h.setNew (h.setNew (h.setNew hr2 (Nat.le_refl _) _) (Nat.le_refl _) _) (Nat.le_refl _) _).alloc _⟩
 ·have hlt2 : R < w'.heap.size := cell_lt hr.code
  have hs : w.heap.size < w'.heap.size := by have := hb.size; simp at this; omega
  go_wp2_with fail
  refine (rdBelow _ _ R a len cap zs (hr.alloc _)).mono ?_
  rintro e w2 ⟨v, rfl, ⟨y, rfl, y0, y1⟩, hb2, hr2⟩
  have hb3 := ((But.refl R w').alloc _).trans hb2
  have p0 := (hb3.cell (p := ⟨w.heap.size, 0, none⟩) hs (Nat.ne_of_gt hlt)).trans q0
  have p1 := (hb3.cell (p := ⟨w.heap.size, 1, none⟩) hs (Nat.ne_of_gt hlt)).trans q1
  have p2 := (hb3.cell (p := ⟨w.heap.size, 2, none⟩) hs (Nat.ne_of_gt hlt)).trans q2
  have g0 := (hb3.frozen (p := ⟨w.heap.size, 0, none⟩) hs (Nat.ne_of_gt hlt)).trans f0
  have g1 := (hb3.frozen (p := ⟨w.heap.size, 1, none⟩) hs (Nat.ne_of_gt hlt)).trans f1
  have g2 := (hb3.frozen (p := ⟨w.heap.size, 2, none⟩) hs (Nat.ne_of_gt hlt)).trans f2
  obtain ⟨j, rfl, hj⟩ := below_nat y0 y1 (by omega)
  have hb4 := hb1.trans hb3
  have hs2 : w.heap.size < w2.heap.size := Nat.lt_of_lt_of_le hs hb3.size
  have hj' : j < 6 := by omega
  have hcj := new_cell hb2 hlt2 j (by simpa using hj')
  obtain ⟨s, es, hs12⟩ := short_str (xs := [Value.string ⟨#[]⟩, .string ⟨#[97]⟩, .string ⟨#[98]⟩, .string ⟨#[97, 32, 98]⟩, .string ⟨#[105, 116, 39, 115]⟩, .string ⟨#[120, 44, 37]⟩]) (by simp; decide) (j := j) (by simpa using hj')
  simp only [List.getElem_toArray, es] at hcj
  clear hb hb1 hb2 hb3 q0 q1 q2 f0 f1 f2 es y0 y1
  go_wp2_with fail
  refine (specStr _ _).mono ?_
  rintro e w3 ⟨rfl, o, rfl⟩
  go_wp2_with fail
  exact bodyPost_ret (v := .agg #[.int .i64 2, .int .i64 0, .string s]) (by simp [results, Tryz.results49, go_sem, p0, p1, p2, hs2]) rfl
   ⟨_, rfl, ⟨2, 0, s, rfl, .inr (.inr ⟨rfl, rfl, hs12⟩)⟩, ((hb4.setNew (Nat.le_refl _) _).setNew (Nat.le_refl _) _).setNew (Nat.le_refl _) _ |>.alloc _,
    (h.setNew (h.setNew (h.setNew hr2 (Nat.le_refl _) _) (Nat.le_refl _) _) (Nat.le_refl _) _).alloc _⟩
 ·have hlt2 : R < w'.heap.size := cell_lt hr.code
  have hs : w.heap.size < w'.heap.size := by have := hb.size; simp at this; omega
  go_wp2_with fail
  refine (rdBelow _ _ R a len cap zs (hr.alloc _)).mono ?_
  rintro e w2 ⟨v, rfl, ⟨y, rfl, y0, y1⟩, hb2, hr2⟩
  have hb3 := ((But.refl R w').alloc _).trans hb2
  have p0 := (hb3.cell (p := ⟨w.heap.size, 0, none⟩) hs (Nat.ne_of_gt hlt)).trans q0
  have p1 := (hb3.cell (p := ⟨w.heap.size, 1, none⟩) hs (Nat.ne_of_gt hlt)).trans q1
  have p2 := (hb3.cell (p := ⟨w.heap.size, 2, none⟩) hs (Nat.ne_of_gt hlt)).trans q2
  have g0 := (hb3.frozen (p := ⟨w.heap.size, 0, none⟩) hs (Nat.ne_of_gt hlt)).trans f0
  have g1 := (hb3.frozen (p := ⟨w.heap.size, 1, none⟩) hs (Nat.ne_of_gt hlt)).trans f1
  have g2 := (hb3.frozen (p := ⟨w.heap.size, 2, none⟩) hs (Nat.ne_of_gt hlt)).trans f2
  obtain ⟨j, rfl, hj⟩ := below_nat y0 y1 (by omega)
  have hb4 := hb1.trans hb3
  have hs2 : w.heap.size < w2.heap.size := Nat.lt_of_lt_of_le hs hb3.size
  have hj' : j < 4 := by omega
  have hcj := new_cell hb2 hlt2 j (by simpa using hj')
  obtain ⟨m, es, m0, m1⟩ := small_int (xs := [Value.int .i64 (-1000000000), .int .i64 1000000000, .int .i64 (-5), .int .i64 70]) (by simp) (j := j) (by simpa using hj')
  simp only [List.getElem_toArray, es] at hcj
  clear hb hb1 hb2 hb3 q0 q1 q2 f0 f1 f2 es y0 y1
  go_wp2_with fail
  refine (specInt _ _).mono ?_
  rintro e w3 ⟨rfl, o, rfl⟩
  go_wp2_with fail
  exact bodyPost_ret (v := .agg #[.int .i64 1, .int .i64 m, .string ⟨#[]⟩]) (by simp [results, Tryz.results49, go_sem, p0, p1, p2, hs2]) rfl
   ⟨_, rfl, ⟨1, m, _, rfl, .inr (.inl ⟨rfl, m0, m1, rfl⟩)⟩, ((hb4.setNew (Nat.le_refl _) _).setNew (Nat.le_refl _) _).setNew (Nat.le_refl _) _ |>.alloc _,
    (h.setNew (h.setNew (h.setNew hr2 (Nat.le_refl _) _) (Nat.le_refl _) _) (Nat.le_refl _) _).alloc _⟩
 ·have hlt2 : R < w'.heap.size := cell_lt hr.code
  have hs : w.heap.size < w'.heap.size := by have := hb.size; simp at this; omega
  have d0 : (x == 0) = false := by simp; omega
  have d1 : (x == 1) = false := by simp; omega
  have d2 : (x == 2) = false := by simp; omega
  have d3 : (x == 3) = false := by simp; omega
  have d4 : (x == 4) = false := by simp; omega
  go_wp2_with fail
  refine (rdBelow _ _ R a len cap zs hr).mono ?_
  rintro e w2 ⟨v, rfl, ⟨y, rfl, y0, y1⟩, hb2, hr2⟩
  have hb3 := hb2
  have p0 := (hb3.cell (p := ⟨w.heap.size, 0, none⟩) hs (Nat.ne_of_gt hlt)).trans q0
  have p1 := (hb3.cell (p := ⟨w.heap.size, 1, none⟩) hs (Nat.ne_of_gt hlt)).trans q1
  have p2 := (hb3.cell (p := ⟨w.heap.size, 2, none⟩) hs (Nat.ne_of_gt hlt)).trans q2
  have g0 := (hb3.frozen (p := ⟨w.heap.size, 0, none⟩) hs (Nat.ne_of_gt hlt)).trans f0
  have g1 := (hb3.frozen (p := ⟨w.heap.size, 1, none⟩) hs (Nat.ne_of_gt hlt)).trans f1
  have g2 := (hb3.frozen (p := ⟨w.heap.size, 2, none⟩) hs (Nat.ne_of_gt hlt)).trans f2
  obtain ⟨j, rfl, hj⟩ := below_nat y0 y1 (by omega)
  have hb4 := hb1.trans hb3
  have hs2 : w.heap.size < w2.heap.size := Nat.lt_of_lt_of_le hs hb3.size
  clear hb hb1 hb2 hb3 q0 q1 q2 f0 f1 f2 y0 y1
  go_wp2_with fail
  refine (specInt _ _).mono ?_
  rintro e w3 ⟨rfl, o, rfl⟩
  go_wp2_with fail
  exact bodyPost_ret (v := .agg #[.int .i64 1, .int .i64 j, .string ⟨#[]⟩]) (by simp [results, Tryz.results49, go_sem, p0, p1, p2, hs2]) rfl
   ⟨_, rfl, ⟨1, j, _, rfl, .inr (.inl ⟨rfl, by omega, by omega, rfl⟩)⟩, ((hb4.setNew (Nat.le_refl _) _).setNew (Nat.le_refl _) _).setNew (Nat.le_refl _) _ |>.alloc _,
    (h.setNew (h.setNew (h.setNew hr2 (Nat.le_refl _) _) (Nat.le_refl _) _) (Nat.le_refl _) _).alloc _⟩
theorem Rdr.new {w : World} {a : Option Addr} {len cap : Nat} {zs : List Int} (h : IsRow .u8 w a len cap zs) (T : TypeId) : Rdr (w.alloc (.cells #[.slice a len cap, .int .i64 0] T)) w.heap.size a len cap zs := by
 refine ⟨by simp, ⟨0, by omega, by simp⟩, World.frozen?_alloc_at _ _ _ _ rfl, ?_, ?_⟩
 ·rcases h with e | ⟨x, rfl, hl, hm, hz, hcell, hwz⟩
  ·exact .inl e
  ·exact .inr ⟨x, rfl, hl, hm, hz, fun i hi => (((But.refl w.heap.size w).alloc _).cell (cell_lt (hcell i hi)) (Nat.ne_of_lt (cell_lt (hcell i hi)))).trans (hcell i hi), hwz⟩
 ·intro x e hc
  rcases h with ⟨_, _, e0, _⟩ | ⟨y, rfl, hl, hm, hz, hcell, hwz⟩
  ·omega
  ·cases e
   have := cell_lt (hcell 0 (by omega))
   rw [add_block] at this
   omega
theorem specOpen (a : Option Addr) (len cap : Nat) (w : World) :
  Calls Tryz.prog 36 #[.slice a len cap] w fun e w' => e = .returned (.pointer (some ⟨w.heap.size, 0, none⟩)) ∧ w.alloc (.cells #[.slice a len cap, .int .i64 0] 116) = w' := by
 go_enter Tryz.func36, Tryz.ntmps36
 go_wp2
 go_ret
 exact ⟨rfl, rfl⟩
theorem lawsBig (a : Option Addr) (len cap : Nat) (w : World) :
  Calls Tryz.prog 9 #[.slice a len cap] w fun e w' => e = .returned (.bool (decide ((1048576 : Int) < len))) ∧ w = w' := by
 go_enter Tryz.func9, Tryz.ntmps9
 go_wp2
 go_ret
 exact ⟨rfl, rfl⟩
def Drawn (P : Value → World → Prop) (w : World) (e : Ending) (w' : World) : Prop := ∃ v, e = .returned v ∧ P v w' ∧ Below w.heap.size w w'
theorem IsRow.below {w w' : World} {a : Option Addr} {len cap : Nat} {zs : List Int} (h : IsRow .u8 w a len cap zs) (hb : Below w.heap.size w w') : IsRow .u8 w' a len cap zs := by
 rcases h with e | ⟨x, rfl, hl, hm, hz, hcell, hwz⟩
 ·exact .inl e
 ·exact .inr ⟨x, rfl, hl, hm, hz, fun i hi => (hb.cell (cell_lt (hcell i hi))).trans (hcell i hi), hwz⟩
def isI64 (v : Value) (_ : World) : Prop := ∃ n : Int, v = .int .i64 n ∧ -9223372036854775808 ≤ n ∧ n ≤ 9223372036854775807
def Hold (base : Nat) (w w' : World) : Prop := w.heap.size ≤ w'.heap.size ∧ ∀ g, base ≤ g → g < w.heap.size → w'.heap[g]? = w.heap[g]?
theorem Hold.trans {base : Nat} {a b c : World} (h : Hold base a b) (k : Hold base b c) : Hold base a c := ⟨Nat.le_trans h.1 k.1, fun g hg hl => (k.2 g hg (Nat.lt_of_lt_of_le hl h.1)).trans (h.2 g hg hl)⟩
theorem Hold.but {base R : Nat} {w w' : World} (h : But R w w') (hR : R < base) : Hold base w w' := ⟨h.size, fun g hg hl => h.block g hl (by omega)⟩
theorem Hold.alloc (base : Nat) (w : World) (o : Obj) : Hold base w (w.alloc o) := ⟨by simp, fun g _ hl => Below.heap_alloc _ _ _ hl⟩
def Blo (w : World) (g : Nat) (xs : List Value) (T : TypeId) : Prop := w.heap[g]? = some (.cells xs.toArray T)
theorem Blo.lt {w : World} {g : Nat} {xs : List Value} {T : TypeId} (h : Blo w g xs T) : g < w.heap.size := lt_of_block h
theorem Blo.hold {base : Nat} {w w' : World} {g : Nat} {xs : List Value} {T : TypeId} (h : Blo w g xs T) (hb : base ≤ g) (hh : Hold base w w') : Blo w' g xs T := (hh.2 g hb h.lt).trans h
theorem Blo.new (w : World) (xs : List Value) (T : TypeId) : Blo (w.alloc (.cells xs.toArray T)) w.heap.size xs T := Go.heap_alloc_last w _
theorem Blo.put {w : World} {g : Nat} {xs : List Value} {T : TypeId} (h : Blo w g xs T) (k : Nat) (v : Value) : Blo (w.setCell ⟨g, k, none⟩ v) g (xs.set k v) T := by
 have h' : w.heap[g]? = some (.cells xs.toArray T) := h
 have hl := lt_of_block h'
 unfold Blo World.setCell
 simp [Array.getElem?_modify, h']
theorem Blo.cell {w : World} {g : Nat} {xs : List Value} {T : TypeId} (h : Blo w g xs T) (k : Nat) (v : Value) (hv : xs[k]? = some v) : w.cell? ⟨g, k, none⟩ = some v := by
 have h' : w.heap[g]? = some (.cells xs.toArray T) := h
 simp only [World.cell?, h']
 simpa using hv
theorem Blo.free {w : World} {g : Nat} {xs : List Value} {T : TypeId} (h : Blo w g xs T) (k : Nat) : w.frozen? ⟨g, k, none⟩ = false := by
 have h' : w.heap[g]? = some (.cells xs.toArray T) := h
 simp [World.frozen?, h']
theorem Blo.set {w : World} {g : Nat} {xs : List Value} {T : TypeId} (h : Blo w g xs T) (p : Addr) (hp : p.block ≠ g) (v : Value) : Blo (w.setCell p v) g xs T := (Below.heap_setCell _ _ _ _ (by omega)).trans h
def okY (base : Nat) (w : World) (b : Nat) : Prop := base ≤ b ∧ ∃ xs T, w.heap[b]? = some (.cells xs T) ∧ T ≠ 82 ∧ T ≠ 118
theorem okY.okF {base : Nat} {w : World} {b : Nat} (h : okY base w b) : okF base w b := by
 obtain ⟨h1, xs, T, h2, -⟩ := h
 exact ⟨h1, lt_of_block h2, fun off => by simp [World.frozen?, h2]⟩
theorem okY.hold {base : Nat} {w w' : World} (hh : Hold base w w') {b : Nat} (h : okY base w b) : okY base w' b := by
 obtain ⟨h1, xs, T, h2, h3⟩ := h
 exact ⟨h1, xs, T, (hh.2 b h1 (lt_of_block h2)).trans h2, h3⟩
theorem okY.cell {base : Nat} {w w' : World} (hh : Hold base w w') {p : Addr} {v : Value} (h : okY base w p.block) (hc : w.cell? p = some v) : w'.cell? p = some v := by
 obtain ⟨h1, xs, T, h2, h3⟩ := h
 exact (World.cell?_of_block (w := w) (hh.2 p.block h1 (lt_of_block h2))).trans hc
def TC (w : World) (g : Nat) : Prop := ∃ xs T, w.heap[g]? = some (.cells xs T) ∧ (T = 82 ∨ T = 118)
theorem okY.ne {base : Nat} {w : World} {b g : Nat} (h : okY base w b) (hg : TC w g) : b ≠ g := by
 rintro rfl
 obtain ⟨h1, xs, T, h2, h3, h4⟩ := h
 obtain ⟨ys, T', h5, h6⟩ := hg
 rw [h2] at h5
 simp only [Option.some.injEq, Obj.cells.injEq] at h5
 obtain ⟨-, rfl, -⟩ := h5
 rcases h6 with h6 | h6
 ·exact h3 h6
 ·exact h4 h6
theorem okY.set {base : Nat} {w : World} {p : Addr} (hp : TC w p.block) (v : Value) {b : Nat} (h : okY base w b) : okY base (w.setCell p v) b := by
 have hn := h.ne hp
 obtain ⟨h1, xs, T, h2, h3⟩ := h
 exact ⟨h1, xs, T, (Below.heap_setCell _ _ _ _ (fun e => hn e)).trans h2, h3⟩
theorem Sl.laid {α : Type} {R : Rd α} {sz : Nat} {ok : Nat → Prop} {w : World} {g : Nat} {T : TypeId} {css : List (List Value)} {ds : List α} (hB : Blo w g css.flatten T) (hl : css.length = ds.length) (hok : ok g)
  (h : ∀ (i : Nat) (hi : i < css.length) (hd : i < ds.length), css[i].length = sz ∧ R ok w css[i] ds[i]) : Sl R sz ok w (some ⟨g, 0, none⟩) ds.length ds := by
 refine ⟨rfl, fun _ => ⟨g, 0, rfl, hok, fun i hi => ⟨css[i]'(by omega), (h i (by omega) hi).1, (h i (by omega) hi).2, fun j v hv => ?_⟩⟩⟩
 have hj : j < sz := by
  rw [← (h i (by omega) hi).1]
  exact (List.getElem?_eq_some_iff.1 hv).1
 have hc : css.flatten[i * sz + j]? = some v := by
  have hall : ∀ c ∈ css, c.length = sz := by
   intro c hc
   obtain ⟨k, hk, rfl⟩ := List.getElem_of_mem hc
   exact (h k hk (by omega)).1
  have key : ∀ (l : List (List Value)) (i : Nat) (hi : i < l.length), (∀ c ∈ l, c.length = sz) → l.flatten[i * sz + j]? = l[i][j]? := by
   intro l
   induction l with
   | nil => intro i hi; simp at hi
   | cons x l ih =>
    intro i hi ha
    have hx := ha x (List.mem_cons_self ..)
    cases i with
    | zero => rw [List.flatten_cons, Nat.zero_mul, Nat.zero_add, List.getElem?_append_left (by omega)]; rfl
    | succ i =>
     rw [List.flatten_cons, List.getElem?_append_right (by rw [hx, Nat.succ_mul]; omega), hx, show (i + 1) * sz + j - sz = i * sz + j by rw [Nat.succ_mul]; omega]
     exact ih i (by simpa using hi) fun c hc => ha c (List.mem_cons_of_mem _ hc)
  rw [key css i (by omega) hall]; exact hv
 rw [Nat.zero_add]
 show w.cell? ⟨g, i * sz + j, none⟩ = some v
 have hb : w.heap[g]? = some (.cells css.flatten.toArray T) := hB
 simp only [World.cell?, hb]
 simpa using hc
def TabY (base : Nat) (w : World) (gc : Nat) (cs : List Value) (t : Tb) : Prop := ∃ (n1 : Nat) (A2 : Option Addr) (n2 c2 : Nat) (A3 : Option Addr) (n3 c3 : Nat) (A4 : Option Addr) (n4 c4 : Nat) (A5 : Option Addr) (n5 c5 : Nat),
 cs = [.string t.name, .slice (some ⟨gc, 0, none⟩) n1 n1, .slice A2 n2 c2, .slice A3 n3 c3, .slice A4 n4 c4, .slice A5 n5 c5] ∧ base ≤ gc ∧ Blo w gc (t.cols.map Cl.cells).flatten 118 ∧ t.cols.length = n1 ∧ 2 ≤ n1 ∧
 Sl IntR 1 (okY base w) w A2 n2 t.key ∧ Sl UqR 1 (okY base w) w A3 n3 t.uniqs ∧ Sl CkR 1 (okY base w) w A4 n4 t.checks ∧ Sl FkR 5 (okY base w) w A5 n5 t.fks ∧ (n2 ≤ c2 ∧ n3 = c3 ∧ n4 ≤ c4 ∧ n5 ≤ c5) ∧ t.sz ≤ 1000
theorem TabY.hold {base : Nat} {w w' : World} {gc : Nat} {cs : List Value} {t : Tb} (h : TabY base w gc cs t) (hh : Hold base w w') : TabY base w' gc cs t := by
 obtain ⟨n1, A2, n2, c2, A3, n3, c3, A4, n4, c4, A5, n5, c5, e, hb, hB, hn, hp, h2, h3, h4, h5, hc, hz⟩ := h
 have ho : ∀ b, okY base w b → okY base w' b := fun b h => h.hold hh
 have hk : ∀ p v, okY base w p.block → w.cell? p = some v → w'.cell? p = some v := fun p v h hc => h.cell hh hc
 exact ⟨n1, A2, n2, c2, A3, n3, c3, A4, n4, c4, A5, n5, c5, e, hb, hB.hold hb hh, hn, hp, h2.stays IntR.stays ho hk, h3.stays UqR.stays ho hk, h4.stays CkR.stays ho hk, h5.stays FkR.stays ho hk, hc, hz⟩
theorem TabY.set {base : Nat} {w : World} {gc : Nat} {cs : List Value} {t : Tb} (h : TabY base w gc cs t) {p : Addr} (hp : TC w p.block) (hne : p.block ≠ gc) (v : Value) : TabY base (w.setCell p v) gc cs t := by
 obtain ⟨n1, A2, n2, c2, A3, n3, c3, A4, n4, c4, A5, n5, c5, e, hb, hB, hn, hq, h2, h3, h4, h5, hc, hz⟩ := h
 have ho : ∀ b, okY base w b → okY base (w.setCell p v) b := fun b h => h.set hp v
 have hk : ∀ q u, okY base w q.block → w.cell? q = some u → (w.setCell p v).cell? q = some u := fun q u h hc => (World.cell?_setCell_other _ _ _ _ (fun e => h.ne hp (by rw [e]))).trans hc
 exact ⟨n1, A2, n2, c2, A3, n3, c3, A4, n4, c4, A5, n5, c5, e, hb, hB.set p hne v, hn, hq, h2.stays IntR.stays ho hk, h3.stays UqR.stays ho hk, h4.stays CkR.stays ho hk, h5.stays FkR.stays ho hk, hc, hz⟩
theorem cols_flat (l : List Cl) (i : Nat) (hi : i < (l.map Cl.cells).length) (hd : i < l.length) {ok : Nat → Prop} {w : World} : (l.map Cl.cells)[i].length = 6 ∧ ClR ok w (l.map Cl.cells)[i] l[i] := by
 rw [List.getElem_map]; exact ⟨rfl, rfl⟩
theorem okF_blo {base : Nat} {w : World} {g : Nat} {xs : List Value} {T : TypeId} (hb : base ≤ g) (h : Blo w g xs T) : okF base w g := ⟨hb, h.lt, fun off => by have h' : w.heap[g]? = some (.cells xs.toArray T) := h; simp [World.frozen?, h']⟩
theorem TabY.reads {base : Nat} {w : World} {gc : Nat} {cs : List Value} {t : Tb} (h : TabY base w gc cs t) : TbR (okF base w) w cs t := by
 obtain ⟨n1, A2, n2, c2, A3, n3, c3, A4, n4, c4, A5, n5, c5, e, hb, hB, rfl, hp, h2, h3, h4, h5, hc, hz⟩ := h
 have ho : ∀ b, okY base w b → okF base w b := fun b h => h.okF
 have hk : ∀ p v, okY base w p.block → w.cell? p = some v → w.cell? p = some v := fun p v _ hc => hc
 exact ⟨_, _, _, A2, n2, c2, A3, n3, c3, A4, n4, c4, A5, n5, c5, e, Sl.laid hB (by simp) (okF_blo hb hB) (fun i hi hd => cols_flat _ i hi hd), h2.stays IntR.stays ho hk, h3.stays UqR.stays ho hk, h4.stays CkR.stays ho hk, h5.stays FkR.stays ho hk, ⟨Nat.le_refl _, hc.1, Nat.le_of_eq hc.2.1, hc.2.2⟩⟩
theorem TabY.uniq {base : Nat} {w : World} {gc : Nat} {cs : List Value} {t : Tb} (h : TabY base w gc cs t) {A : Option Addr} {n c : Nat} {us : List Uq} (hu : Sl UqR 1 (okY base w) w A n us) (hc : n = c) (hz : ({ t with uniqs := us } : Tb).sz ≤ 1000) : TabY base w gc (cs.set 3 (.slice A n c)) { t with uniqs := us } := by
 obtain ⟨n1, A2, n2, c2, A3, n3, c3, A4, n4, c4, A5, n5, c5, rfl, hb, hB, hn, hp, h2, h3, h4, h5, ⟨k2, k3, k4, k5⟩, _⟩ := h
 exact ⟨n1, A2, n2, c2, A, n, c, A4, n4, c4, A5, n5, c5, rfl, hb, hB, hn, hp, h2, hu, h4, h5, ⟨k2, hc, k4, k5⟩, hz⟩
theorem TabY.chk {base : Nat} {w : World} {gc : Nat} {cs : List Value} {t : Tb} (h : TabY base w gc cs t) {A : Option Addr} {n c : Nat} {us : List Ck} (hu : Sl CkR 1 (okY base w) w A n us) (hc : n ≤ c) (hz : ({ t with checks := us } : Tb).sz ≤ 1000) : TabY base w gc (cs.set 4 (.slice A n c)) { t with checks := us } := by
 obtain ⟨n1, A2, n2, c2, A3, n3, c3, A4, n4, c4, A5, n5, c5, rfl, hb, hB, hn, hp, h2, h3, h4, h5, ⟨k2, k3, k4, k5⟩, _⟩ := h
 exact ⟨n1, A2, n2, c2, A3, n3, c3, A, n, c, A5, n5, c5, rfl, hb, hB, hn, hp, h2, h3, hu, h5, ⟨k2, k3, hc, k5⟩, hz⟩
theorem TabY.len {base : Nat} {w : World} {gc : Nat} {cs : List Value} {t : Tb} (h : TabY base w gc cs t) : ∃ x0 x1 x2 x3 x4 x5, cs = [x0, x1, x2, x3, x4, x5] := by
 obtain ⟨n1, A2, n2, c2, A3, n3, c3, A4, n4, c4, A5, n5, c5, rfl, -⟩ := h
 exact ⟨_, _, _, _, _, _, rfl⟩
theorem Sl.nilY {α : Type} {R : Rd α} {sz : Nat} {ok : Nat → Prop} {w : World} : Sl R sz ok w none 0 ([] : List α) := ⟨rfl, fun h => by omega⟩
theorem intsY {base : Nat} {w : World} {g : Nat} (ns : List Int) (hB : Blo w g (ns.map (Value.int .i64)) 2) (hb : base ≤ g) : Sl IntR 1 (okY base w) w (some ⟨g, 0, none⟩) ns.length ns := by
 have hB2 : Blo w g (ns.map fun n => [Value.int .i64 n]).flatten 2 := by
  have e : (ns.map fun n => [Value.int .i64 n]).flatten = ns.map (Value.int .i64) := by
   clear hB
   induction ns with
   | nil => rfl
   | cons n ns ih => rw [List.map_cons, List.flatten_cons, ih]; rfl
  rw [e]; exact hB
 refine Sl.laid hB2 (by simp) ⟨hb, _, _, hB2, by decide, by decide⟩ fun i hi hd => ?_
 rw [List.getElem_map]; exact ⟨rfl, rfl⟩
theorem uniqY {base : Nat} {w : World} {g g1 : Nat} (ns : List Int) (hB : Blo w g1 (ns.map (Value.int .i64)) 2) (hb : base ≤ g1) (hB2 : Blo w g [.slice (some ⟨g1, 0, none⟩) ns.length ns.length] 121) (hb2 : base ≤ g) : Sl UqR 1 (okY base w) w (some ⟨g, 0, none⟩) 1 [⟨ns⟩] := by
 have h := Sl.laid (R := UqR) (sz := 1) (ok := okY base w) (css := [[.slice (some ⟨g1, 0, none⟩) ns.length ns.length]]) (ds := [⟨ns⟩]) (g := g) (T := 121) hB2 rfl ⟨hb2, _, _, hB2, by decide, by decide⟩ fun i hi hd => by
  obtain rfl : i = 0 := by simpa using hi
  exact ⟨rfl, _, _, _, rfl, intsY ns hB hb, Nat.le_refl _⟩
 exact h
def SchY (base : Nat) (w : World) (v : Value) (xs : List (Nat × List Value × Tb)) : Prop :=
 w.ownsRow base 82 6 v xs.length (xs.map (·.2.1)).flatten ∧ (xs.map (·.1)).Nodup ∧ ∀ x ∈ xs, TabY base w x.1 x.2.1 x.2.2
def PB (w w' : World) (R : Nat) (a : Option Addr) (len cap : Nat) (zs : List Int) (gp gc : Nat) (m : Nat) : Prop := ∃ cs t, Blo w' gp cs 82 ∧ w.heap.size ≤ gp ∧ TabY w.heap.size w' gc cs t ∧ t.cols.length = 3 ∧ But R w w' ∧ Rdr w' R a len cap zs ∧ t.sz ≤ m
theorem PB.but {w w' w'' : World} {R : Nat} {a : Option Addr} {len cap : Nat} {zs : List Int} {gp gc m : Nat} (h : PB w w' R a len cap zs gp gc m) (hb : But R w' w'') (hr : Rdr w'' R a len cap zs) (hR : R < w.heap.size) : PB w w'' R a len cap zs gp gc m := by
 obtain ⟨cs, t, h1, h2, h3, h4, h5, h6, h7⟩ := h
 exact ⟨cs, t, h1.hold h2 (Hold.but hb hR), h2, h3.hold (Hold.but hb hR), h4, h5.trans hb, hr, h7⟩
theorem PB.mono {w w' : World} {R : Nat} {a : Option Addr} {len cap : Nat} {zs : List Int} {gp gc m m' : Nat} (h : PB w w' R a len cap zs gp gc m) (hm : m ≤ m') : PB w w' R a len cap zs gp gc m' := by
 obtain ⟨cs, t, h1, h2, h3, h4, h5, h6, h7⟩ := h
 exact ⟨cs, t, h1, h2, h3, h4, h5, h6, by omega⟩
theorem Blo.tc {w : World} {g : Nat} {xs : List Value} (h : Blo w g xs 82) : TC w g := ⟨_, _, h, .inl rfl⟩
theorem TabY.ne {base : Nat} {w : World} {gc g : Nat} {cs xs : List Value} {t : Tb} (h : TabY base w gc cs t) (hg : Blo w g xs 82) : g ≠ gc := by
 rintro rfl
 obtain ⟨n1, A2, n2, c2, A3, n3, c3, A4, n4, c4, A5, n5, c5, e, hb, hB, -⟩ := h
 unfold Blo at hB hg
 rw [hB] at hg
 simp only [Option.some.injEq, Obj.cells.injEq] at hg
 exact absurd hg.2.1 (by decide)
theorem PB.cell {w w' : World} {R : Nat} {a : Option Addr} {len cap : Nat} {zs : List Int} {gp gc m : Nat} (h : PB w w' R a len cap zs gp gc m) {w2 : World} (hh : Hold w.heap.size w' w2) (k : Nat) (hk : k < 6) : (∃ u, w2.cell? ⟨gp, k, none⟩ = some u) ∧ w2.frozen? ⟨gp, k, none⟩ = false := by
 obtain ⟨cs, t, h1, h2, h3, -⟩ := h
 obtain ⟨x0, x1, x2, x3, x4, x5, rfl⟩ := h3.len
 have hB := h1.hold h2 hh
 refine ⟨⟨[x0, x1, x2, x3, x4, x5][k]'(by simpa using hk), hB.cell k _ (by rw [List.getElem?_eq_getElem])⟩, hB.free k⟩
theorem PB.uniq {w y : World} {R : Nat} {a : Option Addr} {len cap : Nat} {zs : List Int} {gp gc m : Nat} (h : PB w y R a len cap zs gp gc m) (h0 : Rdr w R a len cap zs) (hm : m ≤ 900) :
  PB w (((y.alloc (.cells #[.int .i64 2] 2)).alloc (.cells #[.slice (some ⟨y.heap.size, 0, none⟩) 1 1] 121)).setCell ⟨gp, 3, none⟩ (.slice (some ⟨y.heap.size + 1, 0, none⟩) 1 1)) R a len cap zs gp gc (m + 2) := by
 obtain ⟨cs, t, h1, h2, h3, h4, h5, h6, h7⟩ := h
 have b1 := Blo.new y ([2].map (Value.int .i64)) 2
 have b2 := Blo.new (y.alloc (.cells ([2].map (Value.int .i64)).toArray 2)) [.slice (some ⟨y.heap.size, 0, none⟩) 1 1] 121
 rw [show (y.alloc (.cells ([2].map (Value.int .i64)).toArray 2)).heap.size = y.heap.size + 1 by simp] at b2
 have hw : w.heap.size ≤ y.heap.size := h5.size
 have k1 := Hold.alloc w.heap.size y (.cells ([2].map (Value.int .i64)).toArray 2)
 have k2 := Hold.alloc w.heap.size (y.alloc (.cells ([2].map (Value.int .i64)).toArray 2)) (.cells [.slice (some ⟨y.heap.size, 0, none⟩) 1 1].toArray 121)
 have hu := uniqY (base := w.heap.size) [2] (b1.hold hw k2) hw b2 (by omega)
 have hz : ({ t with uniqs := [⟨[2]⟩] } : Tb).sz ≤ t.sz + 2 := by
  have e : szL Uq.sz [⟨[2]⟩] = 2 := rfl
  unfold Tb.sz
  simp only [e]
  omega
 have t1 := (h3.hold (k1.trans k2)).uniq hu rfl (by omega)
 have B1 := h1.hold h2 (k1.trans k2)
 exact ⟨cs.set 3 (.slice (some ⟨y.heap.size + 1, 0, none⟩) 1 1), { t with uniqs := [⟨[2]⟩] }, B1.put 3 _, h2, t1.set B1.tc (t1.ne B1) _, h4, ((h5.alloc _).alloc _).setNew h2 _, h0.setNew ((h6.alloc _).alloc _) h2 _, by omega⟩
theorem chkY {base : Nat} {w : World} {g g1 : Nat} (ts : List Tk) (hB : Blo w g1 (ts.map Tk.cells).flatten 36) (hb : base ≤ g1) (hB2 : Blo w g [.slice (some ⟨g1, 0, none⟩) ts.length ts.length] 125) (hb2 : base ≤ g) : Sl CkR 1 (okY base w) w (some ⟨g, 0, none⟩) 1 [⟨ts⟩] := by
 have h := Sl.laid (R := CkR) (sz := 1) (ok := okY base w) (css := [[.slice (some ⟨g1, 0, none⟩) ts.length ts.length]]) (ds := [⟨ts⟩]) (g := g) (T := 125) hB2 rfl ⟨hb2, _, _, hB2, by decide, by decide⟩ fun i hi hd => by
  obtain rfl : i = 0 := by simpa using hi
  refine ⟨rfl, _, _, _, rfl, Sl.laid hB (by simp) ⟨hb, _, _, hB, by decide, by decide⟩ fun i hi hd => ?_, Nat.le_refl _⟩
  rw [List.getElem_map]; exact ⟨rfl, rfl⟩
 exact h
def toksP : List Tk := [⟨1, 0, 0, 0, ⟨#[]⟩⟩, ⟨2, 0, 1, 4, ⟨#[]⟩⟩, ⟨4, 0, 0, 0, ⟨#[]⟩⟩]
theorem PB.chk {w y : World} {R : Nat} {a : Option Addr} {len cap : Nat} {zs : List Int} {gp gc m : Nat} (h : PB w y R a len cap zs gp gc m) (h0 : Rdr w R a len cap zs) (hm : m ≤ 900) :
  PB w (((y.alloc (.cells #[.int .i64 1, .int .i64 0, .int .i64 0, .int .i64 0, .string ⟨#[]⟩, .int .i64 2, .int .i64 0, .int .i64 1, .int .i64 4, .string ⟨#[]⟩, .int .i64 4, .int .i64 0, .int .i64 0, .int .i64 0, .string ⟨#[]⟩] 36)).alloc (.cells #[.slice (some ⟨y.heap.size, 0, none⟩) 3 3] 125)).setCell ⟨gp, 4, none⟩ (.slice (some ⟨y.heap.size + 1, 0, none⟩) 1 1)) R a len cap zs gp gc (m + 4) := by
 obtain ⟨cs, t, h1, h2, h3, h4, h5, h6, h7⟩ := h
 have b1 := Blo.new y (toksP.map Tk.cells).flatten 36
 have b2 := Blo.new (y.alloc (.cells (toksP.map Tk.cells).flatten.toArray 36)) [.slice (some ⟨y.heap.size, 0, none⟩) 3 3] 125
 rw [show (y.alloc (.cells (toksP.map Tk.cells).flatten.toArray 36)).heap.size = y.heap.size + 1 by simp] at b2
 have hw : w.heap.size ≤ y.heap.size := h5.size
 have k1 := Hold.alloc w.heap.size y (.cells (toksP.map Tk.cells).flatten.toArray 36)
 have k2 := Hold.alloc w.heap.size (y.alloc (.cells (toksP.map Tk.cells).flatten.toArray 36)) (.cells [.slice (some ⟨y.heap.size, 0, none⟩) 3 3].toArray 125)
 have hu := chkY (base := w.heap.size) toksP (b1.hold hw k2) hw b2 (by omega)
 have hz : ({ t with checks := [⟨toksP⟩] } : Tb).sz ≤ t.sz + 4 := by
  have e : szL Ck.sz [⟨toksP⟩] = 4 := by decide
  unfold Tb.sz
  simp only [e]
  omega
 have t1 := (h3.hold (k1.trans k2)).chk hu (Nat.le_refl _) (by omega)
 have B1 := h1.hold h2 (k1.trans k2)
 exact ⟨cs.set 4 (.slice (some ⟨y.heap.size + 1, 0, none⟩) 1 1), { t with checks := [⟨toksP⟩] }, B1.put 4 _, h2, t1.set B1.tc (t1.ne B1) _, h4, ((h5.alloc _).alloc _).setNew h2 _, h0.setNew ((h6.alloc _).alloc _) h2 _, by omega⟩
theorem SchY.hold {base : Nat} {w w' : World} {v : Value} {xs : List (Nat × List Value × Tb)} (h : SchY base w v xs) (hh : Hold base w w') : SchY base w' v xs := by
 obtain ⟨⟨h1, h2⟩, h3, h4⟩ := h
 refine ⟨⟨h1, ?_⟩, h3, fun x hx => (h4 x hx).hold hh⟩
 rcases h2 with h2 | ⟨g, cap, cur, rfl, k1, k2, k3⟩
 ·exact .inl h2
 ·exact .inr ⟨g, cap, cur, rfl, k1, (hh.2 g k1 (lt_of_block k2)).trans k2, k3⟩
theorem TabY.grown {base : Nat} {w w' : World} {row : Option Nat} {gc : Nat} {cs : List Value} {t : Tb} (h : TabY base w gc cs t) (hg : w.grownBy w' row) (hr : ∀ k, row = some k → ∃ cur, w.heap[k]? = some (.cells cur 82)) : TabY base w' gc cs t := by
 obtain ⟨n1, A2, n2, c2, A3, n3, c3, A4, n4, c4, A5, n5, c5, e, hb, hB, hn, hp, h2, h3, h4, h5, hc, hz⟩ := h
 have hne : ∀ b, okY base w b → some b ≠ row := fun b hb he => by
  obtain ⟨cur, hcur⟩ := hr b he.symm
  exact hb.ne ⟨_, _, hcur, .inl rfl⟩ rfl
 have ho : ∀ b, okY base w b → okY base w' b := fun b h => by
  have hn := hne b h
  obtain ⟨k1, xs, T, k2, k3⟩ := h
  exact ⟨k1, xs, T, (hg.block b (lt_of_block k2) hn).trans k2, k3⟩
 have hk : ∀ p v, okY base w p.block → w.cell? p = some v → w'.cell? p = some v := fun p v h hc => hg.cell hc (hne _ h)
 have hgc : some gc ≠ row := fun he => by
  obtain ⟨cur, hcur⟩ := hr gc he.symm
  unfold Blo at hB
  rw [hB] at hcur
  simp only [Option.some.injEq, Obj.cells.injEq] at hcur
  exact absurd hcur.2.1 (by decide)
 exact ⟨n1, A2, n2, c2, A3, n3, c3, A4, n4, c4, A5, n5, c5, e, hb, (hg.block gc hB.lt hgc).trans hB, hn, hp, h2.stays IntR.stays ho hk, h3.stays UqR.stays ho hk, h4.stays CkR.stays ho hk, h5.stays FkR.stays ho hk, hc, hz⟩
theorem SchY.row {base : Nat} {w : World} {v : Value} {xs : List (Nat × List Value × Tb)} (h : SchY base w v xs) : ∀ k, v.ownBlock = some k → ∃ cur, w.heap[k]? = some (.cells cur 82) := fun k hk => by
 rcases h.1.2 with ⟨rfl, -⟩ | ⟨g, cap, cur, rfl, k1, k2, -⟩
 ·cases hk
 ·obtain rfl := Option.some.inj hk
  exact ⟨cur, k2⟩
theorem SchY.app {base : Nat} {w w' : World} {v v' : Value} {xs : List (Nat × List Value × Tb)} {gc : Nat} {cs : List Value} {t : Tb} (h : SchY base w v xs) (ht : TabY base w gc cs t) (hn : gc ∉ xs.map (·.1))
  (h' : w'.ownsRow base 82 6 v' (xs.length + 1) ((xs.map (·.2.1)).flatten ++ cs)) (hg : w.grownBy w' v.ownBlock) : SchY base w' v' (xs ++ [(gc, cs, t)]) := by
 have hnd : ((xs ++ [(gc, cs, t)]).map (·.1)).Nodup := by
  rw [List.map_append, List.nodup_append]
  refine ⟨h.2.1, by simp, ?_⟩
  intro b hb c hc he
  have e2 : c = gc := by simpa using hc
  exact hn (by rw [← e2, ← he]; exact hb)
 refine ⟨by rw [List.length_append, List.map_append, List.flatten_append]; simpa using h', hnd, fun x hx => ?_⟩
 rcases List.mem_append.1 hx with hx | hx
 ·exact (h.2.2 x hx).grown hg h.row
 ·rw [List.mem_singleton.1 hx]
  exact ht.grown hg h.row
theorem SchY.one {base : Nat} {w : World} {gc : Nat} {cs : List Value} {t : Tb} (h : TabY base w gc cs t) (hb : base ≤ w.heap.size) : SchY base (w.alloc (.cells cs.toArray 82)) (.slice (some ⟨w.heap.size, 0, none⟩) 1 1) [(gc, cs, t)] := by
 obtain ⟨x0, x1, x2, x3, x4, x5, rfl⟩ := h.len
 refine ⟨⟨rfl, .inr ⟨w.heap.size, 1, _, rfl, hb, Go.heap_alloc_last w _, Nat.le_refl _, by simp [maxLen], rfl, by simp⟩⟩, by simp, fun x hx => ?_⟩
 rw [List.mem_singleton.1 hx]
 exact h.hold (Hold.alloc base w _)
theorem mkTab {base : Nat} {w : World} {gc gk gf gx : Nat} (nm tn : ByteArray) (cols : List Cl) (d u : Int) (df : Bool) (n : Nat) (hn : cols.length = n) (h0 : 2 ≤ n)
  (h1 : Blo w gc (cols.map Cl.cells).flatten 118) (h2 : Blo w gk [.int .i64 0] 2) (h3 : Blo w gf [.int .i64 1] 2) (h4 : Blo w gx [.slice (some ⟨gf, 0, none⟩) 1 1, .string tn, .int .i64 d, .int .i64 u, .bool df] 128)
  (b1 : base ≤ gc) (b2 : base ≤ gk) (b3 : base ≤ gf) (b4 : base ≤ gx) (hz : (⟨nm, cols, [0], [], [], [⟨[1], tn, d, u, df⟩]⟩ : Tb).sz ≤ 1000) :
  TabY base w gc [.string nm, .slice (some ⟨gc, 0, none⟩) n n, .slice (some ⟨gk, 0, none⟩) 1 1, .slice none 0 0, .slice none 0 0, .slice (some ⟨gx, 0, none⟩) 1 1] ⟨nm, cols, [0], [], [], [⟨[1], tn, d, u, df⟩]⟩ := by
 have hf := Sl.laid (R := FkR) (sz := 5) (ok := okY base w) (css := [[.slice (some ⟨gf, 0, none⟩) 1 1, .string tn, .int .i64 d, .int .i64 u, .bool df]]) (ds := [⟨[1], tn, d, u, df⟩]) (g := gx) (T := 128) h4 rfl ⟨b4, _, _, h4, by decide, by decide⟩ fun i hi hd => by
  obtain rfl : i = 0 := by simpa using hi
  exact ⟨rfl, _, _, _, rfl, intsY [1] h3 b3, Nat.le_refl _⟩
 exact ⟨n, _, 1, 1, none, 0, 0, none, 0, 0, _, 1, 1, rfl, b1, h1, hn, h0, intsY [0] h2 b2, Sl.nilY, Sl.nilY, hf, by omega, hz⟩
theorem TabY.lt {base : Nat} {w : World} {gc : Nat} {cs : List Value} {t : Tb} (h : TabY base w gc cs t) : gc < w.heap.size := by
 obtain ⟨_, _, _, _, _, _, _, _, _, _, _, _, _, _, _, hB, _⟩ := h
 exact hB.lt
theorem cellsY (w : World) (l : List Value) (t : TypeId) {g : Nat} (hg : g = w.heap.size) : ∀ j u, l[j]? = some u → (w.alloc (.cells l.toArray t)).cell? ((⟨g, 0, none⟩ : Addr).add j) = some u := by
 subst hg
 intro j u hj
 rw [addr_add, Nat.zero_add, cell_of_row _ _ _ _ _ _ (Go.heap_alloc_last w _)]
 simpa using hj
theorem but_above {w w' w'' : World} {R : Nat} (h : But R w w') (hb : Below w.heap.size w' w'') : But R w w'' :=
 ⟨hb.os.trans h.os, hb.tape.trans h.tape, hb.output.trans h.output, Nat.le_trans h.size hb.size, fun k hk hr => (hb.block k hk).trans (h.block k hk hr)⟩
theorem rdr_above {w w' w'' : World} {R : Nat} {a : Option Addr} {len cap : Nat} {zs : List Int} (h0 : Rdr w R a len cap zs) (h : Rdr w' R a len cap zs) (hb : Below w.heap.size w' w'') : Rdr w'' R a len cap zs := by
 have hR : R < w.heap.size := cell_lt h0.code
 obtain ⟨i, hi, hi1⟩ := h.place
 refine ⟨(hb.cell (p := ⟨R, 0, none⟩) hR).trans h.code, ⟨i, hi, (hb.cell (p := ⟨R, 1, none⟩) hR).trans hi1⟩, (hb.frozen (p := ⟨R, 1, none⟩) hR).trans h.free, ?_, h.apart⟩
 rcases h0.row with e | ⟨x, rfl, hl, hm, hz, hcell, hwz⟩
 ·exact .inl e
 ·rcases h.row with ⟨e, _⟩ | ⟨x', e, _, _, _, hcell', _⟩
  ·cases e
  ·cases e
   exact .inr ⟨x, rfl, hl, hm, hz, fun i hi => (hb.cell (cell_lt (hcell i hi))).trans (hcell' i hi), hwz⟩
def SB (w w' : World) (R : Nat) (a : Option Addr) (len cap : Nat) (zs : List Int) (v : Value) (n m : Nat) : Prop := ∃ xs, SchY w.heap.size w' v xs ∧ 0 < xs.length ∧ xs.length ≤ n ∧ (∀ x ∈ xs, x.2.2.sz ≤ m) ∧ But R w w' ∧ Rdr w' R a len cap zs
theorem SB.but {w w' w'' : World} {R : Nat} {a : Option Addr} {len cap : Nat} {zs : List Int} {v : Value} {n m : Nat} (h : SB w w' R a len cap zs v n m) (hb : But R w' w'') (hr : Rdr w'' R a len cap zs) (hR : R < w.heap.size) : SB w w'' R a len cap zs v n m := by
 obtain ⟨xs, h1, h2, h3, h4, h5, h6⟩ := h
 exact ⟨xs, h1.hold (Hold.but hb hR), h2, h3, h4, h5.trans hb, hr⟩
theorem SB.mono {w w' : World} {R : Nat} {a : Option Addr} {len cap : Nat} {zs : List Int} {v : Value} {n m n' m' : Nat} (h : SB w w' R a len cap zs v n m) (hn : n ≤ n') (hm : m ≤ m') : SB w w' R a len cap zs v n' m' := by
 obtain ⟨xs, h1, h2, h3, h4, h5, h6⟩ := h
 exact ⟨xs, h1, h2, by omega, fun x hx => Nat.le_trans (h4 x hx) hm, h5, h6⟩
theorem SB.rdr {w w' : World} {R : Nat} {a : Option Addr} {len cap : Nat} {zs : List Int} {v : Value} {n m : Nat} (h : SB w w' R a len cap zs v n m) : Rdr w' R a len cap zs := by
 obtain ⟨_, _, _, _, _, _, hr⟩ := h; exact hr
theorem SB.add {w q w' : World} {R : Nat} {a : Option Addr} {len cap : Nat} {zs : List Int} {v v' : Value} {xs : List (Nat × List Value × Tb)} {gc n m : Nat} {cs : List Value} {t : Tb} (h0 : Rdr w R a len cap zs) (hs : SchY w.heap.size q v xs) (ht : TabY w.heap.size q gc cs t) (hn : gc ∉ xs.map (·.1))
  (hl : xs.length ≤ n) (hm : ∀ x ∈ xs, x.2.2.sz ≤ m) (hm2 : t.sz ≤ m) (hb : But R w q) (hr : Rdr q R a len cap zs)
  (h' : w'.ownsRow w.heap.size 82 6 v' (xs.length + 1) ((xs.map (·.2.1)).flatten ++ cs)) (hg : q.grownBy w' v.ownBlock) : SB w w' R a len cap zs v' (n + 1) m := by
 have hB : Below w.heap.size q w' := (Below.refl w.heap.size q).grown hg hb.size fun k hk => (hs.1.lt k hk).1
 refine ⟨_, hs.app ht hn h' hg, by simp, by simpa using hl, fun x hx => ?_, but_above hb hB, rdr_above h0 hr hB⟩
 rcases List.mem_append.1 hx with hx | hx
 ·exact hm x hx
 ·rw [List.mem_singleton.1 hx]; exact hm2
theorem SB.table {w z1 z4 : World} {R : Nat} {a : Option Addr} {len cap : Nat} {zs : List Int} {v : Value} {n m : Nat} (h : SB w z1 R a len cap zs v n m) (hR : R < w.heap.size) (nm tn : ByteArray) (cols : List Cl) (d u : Int) (df : Bool) (hc : cols.length = 2)
  (hb : But R (((z1.alloc (.cells (cols.map Cl.cells).flatten.toArray 118)).alloc (.cells #[.int .i64 0] 2)).alloc (.cells #[.int .i64 1] 2)) z4) (hr : Rdr z4 R a len cap zs) (hz : (⟨nm, cols, [0], [], [], [⟨[1], tn, d, u, df⟩]⟩ : Tb).sz ≤ 1000) (box : List Value) (S : List Value) :
  ∃ xs, SchY w.heap.size (((z4.alloc (.cells #[.slice (some ⟨z1.heap.size + 1 + 1, 0, none⟩) 1 1, .string tn, .int .i64 d, .int .i64 u, .bool df] 128)).alloc (.cells box.toArray 82)).alloc (.cells S.toArray 82)) v xs ∧ 0 < xs.length ∧ xs.length ≤ n ∧ (∀ x ∈ xs, x.2.2.sz ≤ m) ∧ z1.heap.size ∉ xs.map (·.1) ∧
   TabY w.heap.size (((z4.alloc (.cells #[.slice (some ⟨z1.heap.size + 1 + 1, 0, none⟩) 1 1, .string tn, .int .i64 d, .int .i64 u, .bool df] 128)).alloc (.cells box.toArray 82)).alloc (.cells S.toArray 82)) z1.heap.size
    [.string nm, .slice (some ⟨z1.heap.size, 0, none⟩) 2 2, .slice (some ⟨z1.heap.size + 1, 0, none⟩) 1 1, .slice none 0 0, .slice none 0 0, .slice (some ⟨z4.heap.size, 0, none⟩) 1 1] ⟨nm, cols, [0], [], [], [⟨[1], tn, d, u, df⟩]⟩ ∧
   But R w (((z4.alloc (.cells #[.slice (some ⟨z1.heap.size + 1 + 1, 0, none⟩) 1 1, .string tn, .int .i64 d, .int .i64 u, .bool df] 128)).alloc (.cells box.toArray 82)).alloc (.cells S.toArray 82)) ∧
   Rdr (((z4.alloc (.cells #[.slice (some ⟨z1.heap.size + 1 + 1, 0, none⟩) 1 1, .string tn, .int .i64 d, .int .i64 u, .bool df] 128)).alloc (.cells box.toArray 82)).alloc (.cells S.toArray 82)) R a len cap zs := by
 obtain ⟨xs, h1, h2, h3, h4, h5, h6⟩ := h
 have hw : w.heap.size ≤ z1.heap.size := h5.size
 obtain ⟨C, eC⟩ : ∃ C, (cols.map Cl.cells).flatten = C := ⟨_, rfl⟩
 rw [eC] at hb
 have b1 := Blo.new z1 C 118
 have b2 := Blo.new (z1.alloc (.cells C.toArray 118)) [.int .i64 0] 2
 have b3 := Blo.new ((z1.alloc (.cells C.toArray 118)).alloc (.cells [.int .i64 0].toArray 2)) [.int .i64 1] 2
 rw [show (z1.alloc (.cells C.toArray 118)).heap.size = z1.heap.size + 1 by simp] at b2
 rw [show ((z1.alloc (.cells C.toArray 118)).alloc (.cells [.int .i64 0].toArray 2)).heap.size = z1.heap.size + 1 + 1 by simp] at b3
 have k1 := Hold.alloc w.heap.size z1 (.cells C.toArray 118)
 have k2 := Hold.alloc w.heap.size (z1.alloc (.cells C.toArray 118)) (.cells [.int .i64 0].toArray 2)
 have k3 := Hold.alloc w.heap.size ((z1.alloc (.cells C.toArray 118)).alloc (.cells [.int .i64 0].toArray 2)) (.cells [.int .i64 1].toArray 2)
 have kb : Hold w.heap.size (((z1.alloc (.cells C.toArray 118)).alloc (.cells [.int .i64 0].toArray 2)).alloc (.cells [.int .i64 1].toArray 2)) z4 := Hold.but hb hR
 have b4 := Blo.new z4 [.slice (some ⟨z1.heap.size + 1 + 1, 0, none⟩) 1 1, .string tn, .int .i64 d, .int .i64 u, .bool df] 128
 have hz4 : z1.heap.size + 1 + 1 + 1 ≤ z4.heap.size := by have := hb.size; simpa using this
 obtain ⟨X, eX⟩ : ∃ X, (Obj.cells #[.slice (some ⟨z1.heap.size + 1 + 1, 0, none⟩) 1 1, .string tn, .int .i64 d, .int .i64 u, .bool df] 128) = X := ⟨_, rfl⟩
 rw [eX] at b4 ⊢
 have q1 := Hold.alloc w.heap.size z4 X
 have q2 := Hold.alloc w.heap.size (z4.alloc X) (.cells box.toArray 82)
 have q3 := Hold.alloc w.heap.size ((z4.alloc X).alloc (.cells box.toArray 82)) (.cells S.toArray 82)
 have qq := q1.trans (q2.trans q3)
 refine ⟨xs, h1.hold (((k1.trans k2).trans k3).trans (kb.trans qq)), h2, h3, h4, fun hx => ?_, mkTab nm tn cols d u df 2 hc (by omega) (by rw [eC]; exact b1.hold hw ((k2.trans k3).trans (kb.trans qq))) (b2.hold (by omega) (k3.trans (kb.trans qq))) (b3.hold (by omega) (kb.trans qq)) (b4.hold (by omega) (q2.trans q3)) hw (by omega) (by omega) (by omega) hz,
  (((((h5.alloc _).alloc _).alloc _).trans hb).alloc _).alloc _ |>.alloc _, ((hr.alloc _).alloc _).alloc _⟩
 obtain ⟨x, hx, e⟩ := List.mem_map.1 hx
 have := (h1.2.2 x hx).lt
 omega
theorem TabY.len6 {base : Nat} {w : World} {gc : Nat} {cs : List Value} {t : Tb} (h : TabY base w gc cs t) : cs.length = 6 := by
 obtain ⟨_, _, _, _, _, _, rfl⟩ := h.len; rfl
theorem TabY.noKey {base : Nat} {w : World} {gc : Nat} {cs : List Value} {t : Tb} (h : TabY base w gc cs t) : TabY base w gc (cs.set 2 (.slice none 0 0)) { t with key := [] } := by
 obtain ⟨n1, A2, n2, c2, A3, n3, c3, A4, n4, c4, A5, n5, c5, rfl, hb, hB, hn, hp, h2, h3, h4, h5, ⟨k2, k3, k4, k5⟩, hz⟩ := h
 refine ⟨n1, none, 0, 0, A3, n3, c3, A4, n4, c4, A5, n5, c5, rfl, hb, hB, hn, hp, Sl.nilY, h3, h4, h5, ⟨Nat.le_refl _, k3, k4, k5⟩, ?_⟩
 unfold Tb.sz at hz ⊢
 simp only [List.length_nil]
 omega
theorem TabY.named {base : Nat} {w : World} {gc : Nat} {cs : List Value} {t : Tb} (h : TabY base w gc cs t) (nm : ByteArray) (hz : ({ t with name := nm } : Tb).sz ≤ 1000) : TabY base w gc (cs.set 0 (.string nm)) { t with name := nm } := by
 obtain ⟨n1, A2, n2, c2, A3, n3, c3, A4, n4, c4, A5, n5, c5, rfl, hb, hB, hn, hp, h2, h3, h4, h5, hc, _⟩ := h
 exact ⟨n1, A2, n2, c2, A3, n3, c3, A4, n4, c4, A5, n5, c5, rfl, hb, hB, hn, hp, h2, h3, h4, h5, hc, hz⟩
theorem SchY.head {base : Nat} {w : World} {v : Value} {x : Nat × List Value × Tb} {xs : List (Nat × List Value × Tb)} (h : SchY base w v (x :: xs)) : ∃ g cap, v = .slice (some ⟨g, 0, none⟩) (xs.length + 1) cap ∧ base ≤ g ∧ (∀ k u, x.2.1[k]? = some u → w.cell? ⟨g, k, none⟩ = some u) ∧ (∀ k, w.frozen? ⟨g, k, none⟩ = false) ∧ TC w g ∧ g ≠ x.1 ∧
  (∀ k u cs' t', k < 6 → cs' = x.2.1.set k u → TabY base (w.setCell ⟨g, k, none⟩ u) x.1 cs' t' → SchY base (w.setCell ⟨g, k, none⟩ u) v ((x.1, cs', t') :: xs)) := by
 obtain ⟨⟨h1, h2⟩, h3, h4⟩ := h
 have hx := h4 x (List.mem_cons_self ..)
 have hx6 := hx.len6
 rcases h2 with ⟨-, h2⟩ | ⟨g, cap, cur, rfl, k1, k2, k3, k4, k5, k6⟩
 ·simp at h2
 have hne : ∀ y ∈ x :: xs, g ≠ y.1 := fun y hy => by
  rintro rfl
  obtain ⟨_, _, _, _, _, _, _, _, _, _, _, _, _, _, _, hB, _⟩ := h4 y hy
  unfold Blo at hB
  rw [hB] at k2
  simp only [Option.some.injEq, Obj.cells.injEq] at k2
  exact absurd k2.2.1 (by decide)
 have htc : TC w g := ⟨_, _, k2, .inl rfl⟩
 have hlen : (x :: xs).length = xs.length + 1 := rfl
 rw [hlen] at k3 k6 h1
 refine ⟨g, cap, rfl, k1, fun k u hk => ?_, fun k => by simp [World.frozen?, k2], htc, hne x (List.mem_cons_self ..), fun k u cs' t' hk e ht => ?_⟩
 ·have hk6 : k < 6 := by rw [← hx6]; exact (List.getElem?_eq_some_iff.1 hk).1
  have e : (cur.toList.take ((xs.length + 1) * 6))[k]? = some u := by rw [k6, List.map_cons, List.flatten_cons, List.getElem?_append_left (by omega)]; exact hk
  rw [List.getElem?_take, if_pos (by omega)] at e
  simp only [World.cell?, k2]
  rw [← Array.getElem?_toList]
  simpa using e
 ·subst e
  have hcur : (xs.length + 1) * 6 ≤ cur.size := by rw [k5]; exact Nat.mul_le_mul_right _ k3
  refine ⟨⟨?_, .inr ⟨g, cap, cur.set! k u, rfl, k1, ?_, k3, k4, by simpa using k5, ?_⟩⟩, h3, fun y hy => ?_⟩
  ·rw [List.map_cons, List.flatten_cons, List.length_append] at h1 ⊢
   rw [List.length_set]
   exact h1
  ·unfold World.setCell
   simp [Array.getElem?_modify, k2]
  ·rw [List.map_cons, List.flatten_cons] at k6 ⊢
   show List.take ((xs.length + 1) * 6) (cur.set! k u).toList = _
   rw [show (cur.set! k u).toList = cur.toList.set k u by simp, List.take_set, k6, List.set_append, if_pos (by omega)]
  ·rcases List.mem_cons.1 hy with rfl | hy
   ·exact ht
   ·exact (h4 y (List.mem_cons_of_mem _ hy)).set htc (hne y (List.mem_cons_of_mem _ hy)) u
theorem SchY.kind {base : Nat} {w : World} {v : Value} {x : Nat × List Value × Tb} {xs : List (Nat × List Value × Tb)} (h : SchY base w v (x :: xs)) : ∃ c0 cs0, x.2.2.cols = c0 :: cs0 ∧ base ≤ x.1 ∧ (∃ n1, x.2.1[1]? = some (.slice (some ⟨x.1, 0, none⟩) n1 n1) ∧ 0 < n1) ∧ (∃ u, w.cell? ⟨x.1, 1, none⟩ = some u) ∧ w.frozen? ⟨x.1, 1, none⟩ = false ∧
  ∀ z, SchY base (w.setCell ⟨x.1, 1, none⟩ (.int .i64 z)) v ((x.1, x.2.1, { x.2.2 with cols := { c0 with kind := z } :: cs0 }) :: xs) := by
 obtain ⟨⟨h1, h2⟩, h3, h4⟩ := h
 obtain ⟨gx, cx, tx⟩ := x
 obtain ⟨n1, A2, n2, c2, A3, n3, c3, A4, n4, c4, A5, n5, c5, e, hb, hB, hn, hp, g2, g3, g4, g5, hc, hz⟩ := h4 _ (List.mem_cons_self ..)
 dsimp only at e hb hB hn g2 g3 g4 g5 hz ⊢
 subst e
 obtain ⟨c0, cs0, ec⟩ : ∃ c0 cs0, tx.cols = c0 :: cs0 := by
  cases hcl : tx.cols with
  | nil => rw [hcl] at hn; simp at hn; omega
  | cons a b => exact ⟨a, b, rfl⟩
 have hB' := hB
 rw [ec] at hB'
 have htc : TC w gx := ⟨_, _, hB, .inr rfl⟩
 refine ⟨c0, cs0, ec, hb, ⟨n1, rfl, by omega⟩, ⟨.int .i64 c0.kind, hB'.cell 1 _ (by simp [Cl.cells])⟩, hB'.free 1, fun z => ⟨⟨h1, ?_⟩, h3, fun y hy => ?_⟩⟩
 ·rcases h2 with h2 | ⟨g, cap, cur, k0, k1, k2, k3⟩
  ·exact .inl h2
  ·refine .inr ⟨g, cap, cur, k0, k1, (Below.heap_setCell _ _ _ _ fun he => ?_).trans k2, k3⟩
   have he : g = gx := he
   subst he
   unfold Blo at hB
   rw [hB] at k2
   simp only [Option.some.injEq, Obj.cells.injEq] at k2
   exact absurd k2.2.1 (by decide)
 ·rcases List.mem_cons.1 hy with rfl | hy
  ·have ho : ∀ b, okY base w b → okY base (w.setCell ⟨gx, 1, none⟩ (.int .i64 z)) b := fun b h => h.set htc _
   have hk : ∀ q u, okY base w q.block → w.cell? q = some u → (w.setCell ⟨gx, 1, none⟩ (.int .i64 z)).cell? q = some u := fun q u h hc => (World.cell?_setCell_other _ _ _ _ (fun e => h.ne htc (by rw [← e]))).trans hc
   refine ⟨n1, A2, n2, c2, A3, n3, c3, A4, n4, c4, A5, n5, c5, rfl, hb, ?_, ?_, hp, g2.stays IntR.stays ho hk, g3.stays UqR.stays ho hk, g4.stays CkR.stays ho hk, g5.stays FkR.stays ho hk, hc, ?_⟩
   ·exact hB'.put 1 (.int .i64 z)
   ·rw [ec] at hn; exact hn
   ·unfold Tb.sz at hz ⊢
    rw [ec] at hz
    exact hz
  ·have hne : gx ≠ y.1 := fun e => by
    have h3' : gx ∉ xs.map (·.1) := (List.nodup_cons.1 h3).1
    exact h3' (by rw [e]; exact List.mem_map.2 ⟨y, hy, rfl⟩)
   exact (h4 y (List.mem_cons_of_mem _ hy)).set (p := ⟨gx, 1, none⟩) htc hne _
set_option maxHeartbeats 1000000 in
theorem specColTok (n : Int) (w : World) :
  Calls Tryz.prog 79 #[.int .i64 n] w fun e w' => e = .returned (.agg #[.int .i64 1, .int .i64 n, .int .i64 0, .int .i64 0, .string ⟨#[]⟩]) ∧ Below w.heap.size w w' := by
 go_enter Tryz.func79, Tryz.ntmps79
 go_wp2
 exact bodyPost_ret (v := .agg #[.int .i64 1, .int .i64 n, .int .i64 0, .int .i64 0, .string ⟨#[]⟩]) (by simp [results, Tryz.results79, go_sem]) rfl
  ⟨rfl, (Below.refl _ _).alloc (Nat.le_refl _) _⟩
set_option maxHeartbeats 1000000 in
theorem specConstTok (k n : Int) (s : ByteArray) (w : World) :
  Calls Tryz.prog 80 #[.agg #[.int .i64 k, .int .i64 n, .string s]] w fun e w' => e = .returned (.agg #[.int .i64 2, .int .i64 0, .int .i64 k, .int .i64 n, .string s]) ∧ Below w.heap.size w w' := by
 go_enter Tryz.func80, Tryz.ntmps80
 go_wp2
 exact bodyPost_ret (v := .agg #[.int .i64 2, .int .i64 0, .int .i64 k, .int .i64 n, .string s]) (by simp [results, Tryz.results80, go_sem]) rfl
  ⟨rfl, ((Below.refl _ _).alloc (Nat.le_refl _) _).alloc (by simp) _⟩
theorem below_but {w w' : World} (h : Below w.heap.size w w') (R : Nat) : But R w w' := ⟨h.os, h.tape, h.output, h.size, fun k hk _ => h.block k hk⟩
theorem rdr_below {w w' : World} {R : Nat} {a : Option Addr} {len cap : Nat} {zs : List Int} (h : Rdr w R a len cap zs) (hb : Below w.heap.size w w') : Rdr w' R a len cap zs := by
 have hR : R < w.heap.size := cell_lt h.code
 obtain ⟨i, hi, hi1⟩ := h.place
 exact ⟨(hb.cell (p := ⟨R, 0, none⟩) hR).trans h.code, ⟨i, hi, (hb.cell (p := ⟨R, 1, none⟩) hR).trans hi1⟩, (hb.frozen (p := ⟨R, 1, none⟩) hR).trans h.free, h.row.below hb, h.apart⟩
theorem PB.below {w w' w'' : World} {R : Nat} {a : Option Addr} {len cap : Nat} {zs : List Int} {gp gc m : Nat} (h : PB w w' R a len cap zs gp gc m) (hb : Below w'.heap.size w' w'') (hR : R < w.heap.size) : PB w w'' R a len cap zs gp gc m :=
 h.but (below_but hb R) (rdr_below (by obtain ⟨_, _, _, _, _, _, _, hr, _⟩ := h; exact hr) hb) hR
theorem PB.rdr {w w' : World} {R : Nat} {a : Option Addr} {len cap : Nat} {zs : List Int} {gp gc m : Nat} (h : PB w w' R a len cap zs gp gc m) : Rdr w' R a len cap zs := by
 obtain ⟨_, _, _, _, _, _, _, hr, _⟩ := h; exact hr
theorem rdAction (w : World) (R : Nat) (a : Option Addr) (len cap : Nat) (zs : List Int) (h : Rdr w R a len cap zs) :
  Calls Tryz.prog 81 #[.pointer (some ⟨R, 0, none⟩)] w (Drew R a len cap zs (isInt 0 2) w) := by
 go_enter Tryz.func81, Tryz.ntmps81
 go_wp2_with fail
 refine (rdBelow 3 w R a len cap zs h).mono ?_
 rintro e w' ⟨v, rfl, ⟨x, rfl, x0, x1⟩, hb, hr⟩
 go_wp2_with fail
 go_ret
 exact ⟨_, rfl, ⟨x, rfl, by omega, by omega⟩, hb, hr⟩
def isSch (base m : Nat) (v : Value) (w : World) : Prop := ∃ xs, SchY base w v xs ∧ 0 < xs.length ∧ xs.length ≤ 3 ∧ ∀ x ∈ xs, x.2.2.sz ≤ m
theorem rdr_drewY {w : World} {R : Nat} {a : Option Addr} {len cap : Nat} {zs : List Int} (h : Rdr w R a len cap zs) : Rdr w.drew R a len cap zs := ⟨h.code, h.place, h.free, h.row, h.apart⟩
theorem but_undrewY {R : Nat} {w w' : World} (h : But R w.drew w') : But R w w' := ⟨h.os, h.tape, h.output, h.size, h.block⟩
theorem sz_noKey (t : Tb) : ({ t with key := [] } : Tb).sz ≤ t.sz := by unfold Tb.sz; simp only [List.length_nil]; omega
theorem sz_named (t : Tb) (nm : ByteArray) : ({ t with name := nm } : Tb).sz ≤ t.sz + nm.size := by unfold Tb.sz; simp only; omega
theorem sz_kind (t : Tb) {c0 : Cl} {cs0 : List Cl} (h : t.cols = c0 :: cs0) (z : Int) : ({ t with cols := { c0 with kind := z } :: cs0 } : Tb).sz = t.sz := by unfold Tb.sz; rw [h]; rfl
def colsP : List Cl := [⟨⟨#[107]⟩, 1, true, ⟨0, 0, ⟨#[]⟩⟩⟩, ⟨⟨#[116]⟩, 2, false, ⟨0, 0, ⟨#[]⟩⟩⟩, ⟨⟨#[110]⟩, 1, false, ⟨1, 1, ⟨#[]⟩⟩⟩]
def tabP : Tb := ⟨⟨#[112]⟩, colsP, [0], [], [], []⟩
set_option maxRecDepth 100000 in
set_option maxHeartbeats 4000000 in
theorem rdSchema (w : World) (R : Nat) (a : Option Addr) (len cap : Nat) (zs : List Int) (h : Rdr w R a len cap zs) :
  Calls Tryz.prog 37 #[.pointer (some ⟨R, 0, none⟩)] w (Drew R a len cap zs (isSch w.heap.size 61) w) := by
 have hlt : R < w.heap.size := cell_lt h.code
 obtain ⟨i0, hi, hz0, hz1, hz2⟩ := info_parts infoTableT
 have H1 := Lib.hid hi
 have H2 := Lib.hid hz0
 have H3 := Lib.hid hz1
 have H4 := Lib.hid hz2
 clear hi hz0 hz1 hz2
 go_enter Tryz.func37, Tryz.ntmps37
 go_wp2_with fail
 refine (specInt 1 _).mono ?_
 rintro e w1 ⟨rfl, o, rfl⟩
 go_wp2_with fail
 have hp0 : PB w ((((w.alloc o).alloc (.cells #[.string ⟨#[107]⟩, .int .i64 1, .bool true, .int .i64 0, .int .i64 0, .string ⟨#[]⟩, .string ⟨#[116]⟩, .int .i64 2, .bool false, .int .i64 0, .int .i64 0, .string ⟨#[]⟩, .string ⟨#[110]⟩, .int .i64 1, .bool false, .int .i64 1, .int .i64 1, .string ⟨#[]⟩] 118)).alloc (.cells #[.int .i64 0] 2)).alloc (.cells #[.string ⟨#[112]⟩, .slice (some ⟨w.heap.size + 1, 0, none⟩) 3 3, .slice (some ⟨w.heap.size + 1 + 1, 0, none⟩) 1 1, .slice none 0 0, .slice none 0 0, .slice none 0 0] 82)) R a len cap zs (w.heap.size + 1 + 1 + 1) (w.heap.size + 1) 30 := by
  have b1 := Blo.new (w.alloc o) (colsP.map Cl.cells).flatten 118
  have b2 := Blo.new ((w.alloc o).alloc (.cells (colsP.map Cl.cells).flatten.toArray 118)) ([0].map (Value.int .i64)) 2
  rw [show ((w.alloc o).alloc (.cells (colsP.map Cl.cells).flatten.toArray 118)).heap.size = w.heap.size + 1 + 1 by simp] at b2
  rw [show (w.alloc o).heap.size = w.heap.size + 1 by simp] at b1
  have b3 := Blo.new ((((w.alloc o).alloc (.cells (colsP.map Cl.cells).flatten.toArray 118)).alloc (.cells ([0].map (Value.int .i64)).toArray 2))) [.string ⟨#[112]⟩, .slice (some ⟨w.heap.size + 1, 0, none⟩) 3 3, .slice (some ⟨w.heap.size + 1 + 1, 0, none⟩) 1 1, .slice none 0 0, .slice none 0 0, .slice none 0 0] 82
  rw [show (((w.alloc o).alloc (.cells (colsP.map Cl.cells).flatten.toArray 118)).alloc (.cells ([0].map (Value.int .i64)).toArray 2)).heap.size = w.heap.size + 1 + 1 + 1 by simp] at b3
  have h2 := Hold.alloc w.heap.size ((w.alloc o).alloc (.cells (colsP.map Cl.cells).flatten.toArray 118)) (.cells ([0].map (Value.int .i64)).toArray 2)
  have h3 := Hold.alloc w.heap.size (((w.alloc o).alloc (.cells (colsP.map Cl.cells).flatten.toArray 118)).alloc (.cells ([0].map (Value.int .i64)).toArray 2)) (.cells [.string ⟨#[112]⟩, .slice (some ⟨w.heap.size + 1, 0, none⟩) 3 3, .slice (some ⟨w.heap.size + 1 + 1, 0, none⟩) 1 1, .slice none 0 0, .slice none 0 0, .slice none 0 0].toArray 82)
  refine ⟨[.string ⟨#[112]⟩, .slice (some ⟨w.heap.size + 1, 0, none⟩) 3 3, .slice (some ⟨w.heap.size + 1 + 1, 0, none⟩) 1 1, .slice none 0 0, .slice none 0 0, .slice none 0 0], tabP, b3, by omega, ?_, rfl, (((But.refl R w).alloc o).alloc _).alloc _ |>.alloc _, (((h.alloc o).alloc _).alloc _).alloc _, by decide⟩
  exact ⟨3, _, 1, 1, none, 0, 0, none, 0, 0, none, 0, 0, rfl, by omega, b1.hold (by omega) (h2.trans h3), rfl, by omega, intsY [0] (b2.hold (by omega) h3) (by omega), Sl.nilY, Sl.nilY, Sl.nilY, by omega, by decide⟩
 have H0 := Lib.hid h
 have HP0 := Lib.hid hp0
 clear hp0
 generalize ((((w.alloc o).alloc (.cells #[.string ⟨#[107]⟩, .int .i64 1, .bool true, .int .i64 0, .int .i64 0, .string ⟨#[]⟩, .string ⟨#[116]⟩, .int .i64 2, .bool false, .int .i64 0, .int .i64 0, .string ⟨#[]⟩, .string ⟨#[110]⟩, .int .i64 1, .bool false, .int .i64 1, .int .i64 1, .string ⟨#[]⟩] 118)).alloc (.cells #[.int .i64 0] 2)).alloc (.cells #[.string ⟨#[112]⟩, .slice (some ⟨w.heap.size + 1, 0, none⟩) 3 3, .slice (some ⟨w.heap.size + 1 + 1, 0, none⟩) 1 1, .slice none 0 0, .slice none 0 0, .slice none 0 0] 82)) = y at *
 refine (rdOnce 2 _ R a len cap zs HP0.out.rdr).mono ?_
 rintro e y1 ⟨v, rfl, ⟨b, rfl⟩, hb1, hr1⟩
 have HP1 := Lib.hid (HP0.out.but hb1 hr1 hlt)
 clear HP0 hb1 hr1 h
 obtain ⟨gp, egp⟩ : ∃ gp, w.heap.size + 1 + 1 + 1 = gp := ⟨_, rfl⟩
 obtain ⟨gc, egc⟩ : ∃ gc, w.heap.size + 1 = gc := ⟨_, rfl⟩
 obtain ⟨gk, egk⟩ : ∃ gk, w.heap.size + 1 + 1 = gk := ⟨_, rfl⟩
 rw [egp, egc] at HP1
 rw [egp, egk, egc]
 clear egp egc egk
 go_upto_if 15 with (fail)
 go_cut [] from 14 (fun wx => PB w wx R a len cap zs gp gc 40)
 case first =>
  cases b
  ·go_wp2_with fail
   go_meet
   case rel => exact HP1.out.mono (by omega)
  ·have k1 := Hold.alloc w.heap.size y1 (.cells #[.int .i64 2] 2)
   have k2 := Hold.alloc w.heap.size (y1.alloc (.cells #[.int .i64 2] 2)) (.cells #[.slice (some ⟨y1.heap.size, 0, none⟩) 1 1] 121)
   obtain ⟨⟨u, c3⟩, f3⟩ := HP1.out.cell (k1.trans k2) 3 (by omega)
   clear k1 k2
   go_wp2_with fail
   go_meet
   case rel => exact (HP1.out.uniq H0.out (by omega)).mono (by omega)
 case rest =>
  have HP2 := Lib.hid hcut
  clear hcut HP1
  go_wp2_with fail
  refine (rdOnce 2 _ R a len cap zs HP2.out.rdr).mono ?_
  rintro e y2 ⟨v, rfl, ⟨b2, rfl⟩, hb2, hr2⟩
  have HP3 := Lib.hid (HP2.out.but hb2 hr2 hlt)
  clear HP2 hb2 hr2
  go_upto_if 21 with (fail)
  go_cut [] from 20 (fun wx => PB w wx R a len cap zs gp gc 60)
  case first =>
   cases b2
   ·go_wp2_with fail
    go_meet
    case rel => exact HP3.out.mono (by omega)
   ·go_wp2_with fail
    refine (specColTok 0 _).mono ?_
    rintro e y3 ⟨rfl, hb3⟩
    have HP4 := Lib.hid (HP3.out.below hb3 hlt)
    go_wp2_with fail
    refine (specInt 4 _).mono ?_
    rintro e y4 ⟨rfl, o4, rfl⟩
    have HP5 := Lib.hid (HP4.out.below ((Below.refl y3.heap.size y3).alloc (Nat.le_refl _) o4) hlt)
    generalize y3.alloc o4 = y4 at *
    go_wp2_with fail
    refine (specConstTok 1 4 ⟨#[]⟩ _).mono ?_
    rintro e y5 ⟨rfl, hb5⟩
    have HP6 := Lib.hid (HP5.out.below hb5 hlt)
    clear HP3 HP4 HP5 hb3 hb5
    have k1 := Hold.alloc w.heap.size y5 (.cells #[.int .i64 1, .int .i64 0, .int .i64 0, .int .i64 0, .string ⟨#[]⟩, .int .i64 2, .int .i64 0, .int .i64 1, .int .i64 4, .string ⟨#[]⟩, .int .i64 4, .int .i64 0, .int .i64 0, .int .i64 0, .string ⟨#[]⟩] 36)
    have k2 := Hold.alloc w.heap.size (y5.alloc (.cells #[.int .i64 1, .int .i64 0, .int .i64 0, .int .i64 0, .string ⟨#[]⟩, .int .i64 2, .int .i64 0, .int .i64 1, .int .i64 4, .string ⟨#[]⟩, .int .i64 4, .int .i64 0, .int .i64 0, .int .i64 0, .string ⟨#[]⟩] 36)) (.cells #[.slice (some ⟨y5.heap.size, 0, none⟩) 3 3] 125)
    obtain ⟨⟨u, c4⟩, f4⟩ := HP6.out.cell (k1.trans k2) 4 (by omega)
    clear k1 k2
    go_wp2_with fail
    go_meet
    case rel => exact (HP6.out.chk H0.out (by omega)).mono (by omega)
  case rest =>
   obtain ⟨cs, t, hB, hgp, hT, hc3, hb6, hr6, hz6⟩ := hcut
   obtain ⟨x0, x1, x2, x3, x4, x5, rfl⟩ := hT.len
   have d0 := hB.cell 0 x0 rfl
   have d1 := hB.cell 1 x1 rfl
   have d2 := hB.cell 2 x2 rfl
   have d3 := hB.cell 3 x3 rfl
   have d4 := hB.cell 4 x4 rfl
   have d5 := hB.cell 5 x5 rfl
   have HS1 := Lib.hid (show SB w (wc.alloc (.cells #[x0, x1, x2, x3, x4, x5] 82)) R a len cap zs (.slice (some ⟨wc.heap.size, 0, none⟩) 1 1) 1 60 from
    ⟨_, SchY.one hT hb6.size, by simp, by simp, fun x hx => by rw [List.mem_singleton.1 hx]; exact hz6, hb6.alloc _, hr6.alloc _⟩)
   clear hB hT hb6 hr6 HP3
   go_wp2_with fail
   generalize wc.alloc (.cells #[x0, x1, x2, x3, x4, x5] 82) = u1 at *
   generalize Value.slice (some ⟨wc.heap.size, 0, none⟩) 1 1 = v1 at *
   clear d0 d1 d2 d3 d4 d5
   refine (rdOnce 4 _ R a len cap zs HS1.out.rdr).mono ?_
   rintro e u2 ⟨v, rfl, ⟨b3, rfl⟩, hb2, hr2⟩
   have HS2 := Lib.hid (HS1.out.but hb2 hr2 hlt)
   clear HS1 hb2 hr2
   go_upto_if 34 with (fail)
   go_cut [4] from 32 (fun v wx => SB w wx R a len cap zs v 2 60)
   case first =>
    cases b3
    ·go_wp2_with fail
     refine (rdOnce 4 _ R a len cap zs HS2.out.rdr).mono ?_
     rintro e z1 ⟨v, rfl, ⟨nn, rfl⟩, hb2, hr2⟩
     have HS3 := Lib.hid (HS2.out.but hb2 hr2 hlt)
     clear HS2 hb2 hr2
     go_wp2_with fail
     refine (rdAction _ R a len cap zs (((HS3.out.rdr.alloc _).alloc _).alloc _)).mono ?_
     rintro e z2 ⟨v, rfl, ⟨d, rfl, d0, d1⟩, hb2, hr2⟩
     go_wp2_with fail
     refine (rdAction _ R a len cap zs hr2).mono ?_
     rintro e z3 ⟨v, rfl, ⟨dd, rfl, dd0, dd1⟩, hb3, hr3⟩
     go_wp2_with fail
     refine (rdOnce 4 _ R a len cap zs hr3).mono ?_
     rintro e z4 ⟨v, rfl, ⟨df, rfl⟩, hb4, hr4⟩
     have HT := Lib.hid (HS3.out.table hlt ⟨#[99]⟩ ⟨#[112]⟩ [⟨⟨#[107]⟩, 1, true, ⟨0, 0, ⟨#[]⟩⟩⟩, ⟨⟨#[112]⟩, 1, nn, ⟨0, 0, ⟨#[]⟩⟩⟩] d dd df rfl ((hb2.trans hb3).trans hb4) hr4 (show (9 : Nat) ≤ 1000 by omega)
      [.string ⟨#[99]⟩, .slice (some ⟨z1.heap.size, 0, none⟩) 2 2, .slice (some ⟨z1.heap.size + 1, 0, none⟩) 1 1, .slice none 0 0, .slice none 0 0, .slice (some ⟨z4.heap.size, 0, none⟩) 1 1]
      [.string ⟨#[99]⟩, .slice (some ⟨z1.heap.size, 0, none⟩) 2 2, .slice (some ⟨z1.heap.size + 1, 0, none⟩) 1 1, .slice none 0 0, .slice none 0 0, .slice (some ⟨z4.heap.size, 0, none⟩) 1 1])
     clear hb2 hb3 hb4 hr2 hr3 hr4 d0 d1 dd0 dd1 HS3
     obtain ⟨xs, hs, hl0, hl, hm, hn, ht, hbq, hrq⟩ := HT.out
     have HS := Lib.hid hs
     have HTT := Lib.hid ht
     have HN := Lib.hid hn
     have HM := Lib.hid hm
     have HBQ := Lib.hid hbq
     have HRQ := Lib.hid hrq
     have hwq : w.heap.size ≤ z4.heap.size + 1 + 1 + 1 := by have := HBQ.out.size; simpa using this
     clear hs ht hn hm hbq hrq HT
     go_wp2_with (at_builtin; refine wpList_append_own _ rfl _ _ 24 rfl w.heap.size 82 i0 (.agg #[.string ⟨#[]⟩, .slice none 0 0, .slice none 0 0, .slice none 0 0, .slice none 0 0, .slice none 0 0]) 6 136 Tryz.underlying24 H1.out H2.out H3.out H4.out rfl (by decide) _ _ _ rfl HS.out.1 ⟨_, 0, none⟩ 1 1 [.string ⟨#[99]⟩, .slice (some ⟨z1.heap.size, 0, none⟩) 2 2, .slice (some ⟨z1.heap.size + 1, 0, none⟩) 1 1, .slice none 0 0, .slice none 0 0, .slice (some ⟨z4.heap.size, 0, none⟩) 1 1] rfl rfl ?c1 ?c2 ?c3 ?c4 ?c5 ?_)
     case c1 => exact cellsY _ [.string ⟨#[99]⟩, .slice (some ⟨z1.heap.size, 0, none⟩) 2 2, .slice (some ⟨z1.heap.size + 1, 0, none⟩) 1 1, .slice none 0 0, .slice none 0 0, .slice (some ⟨z4.heap.size, 0, none⟩) 1 1] _ (by simp)
     case c2 => intro u hu; simp at hu; rcases hu with rfl | rfl | rfl | rfl | rfl | rfl <;> rfl
     case c3 => unfold maxLen; omega
     case c4 => omega
     case c5 => simp; omega
     intro v' w3 hown3 hgrow _
     have HZ := Lib.hid (SB.add H0.out HS.out HTT.out HN.out hl HM.out (show (9 : Nat) ≤ 60 by omega) HBQ.out HRQ.out hown3 hgrow)
     clear hown3 hgrow HS HTT HN HM HBQ HRQ
     go_wp2_with fail
     go_meet
     case rel => exact HZ.out
    ·go_wp2_with fail
     go_meet
     case rel => exact HS2.out.mono (by omega) (by omega)
   case rest =>
    have HS4 := Lib.hid hcut
    clear hcut HS2
    go_wp2_with fail
    refine (rdOnce 3 _ R a len cap zs HS4.out.rdr).mono ?_
    rintro e z1 ⟨v, rfl, ⟨b4, rfl⟩, hb2, hr2⟩
    have HS5 := Lib.hid (HS4.out.but hb2 hr2 hlt)
    clear HS4 hb2 hr2
    go_upto_if 56 with (fail)
    go_cut [4] from 55 (fun v wx => SB w wx R a len cap zs v 3 60)
    case first =>
     cases b4
     ·go_wp2_with fail
      go_meet
      case rel => exact HS5.out.mono (by omega) (by omega)
     ·go_wp2_with fail
      refine (rdAction _ R a len cap zs (((HS5.out.rdr.alloc _).alloc _).alloc _)).mono ?_
      rintro e z2 ⟨v, rfl, ⟨d, rfl, d0, d1⟩, hb2, hr2⟩
      go_wp2_with fail
      refine (rdAction _ R a len cap zs hr2).mono ?_
      rintro e z3 ⟨v, rfl, ⟨dd, rfl, dd0, dd1⟩, hb3, hr3⟩
      have HT := Lib.hid (HS5.out.table hlt ⟨#[116, 114, 101, 101]⟩ ⟨#[116, 114, 101, 101]⟩ [⟨⟨#[107]⟩, 1, true, ⟨0, 0, ⟨#[]⟩⟩⟩, ⟨⟨#[117, 112]⟩, 1, false, ⟨0, 0, ⟨#[]⟩⟩⟩] d dd false rfl (hb2.trans hb3) hr3 (show (16 : Nat) ≤ 1000 by omega)
       [.string ⟨#[116, 114, 101, 101]⟩, .slice (some ⟨z1.heap.size, 0, none⟩) 2 2, .slice (some ⟨z1.heap.size + 1, 0, none⟩) 1 1, .slice none 0 0, .slice none 0 0, .slice (some ⟨z3.heap.size, 0, none⟩) 1 1]
       [.string ⟨#[116, 114, 101, 101]⟩, .slice (some ⟨z1.heap.size, 0, none⟩) 2 2, .slice (some ⟨z1.heap.size + 1, 0, none⟩) 1 1, .slice none 0 0, .slice none 0 0, .slice (some ⟨z3.heap.size, 0, none⟩) 1 1])
      clear hb2 hb3 hr2 hr3 d0 d1 dd0 dd1 HS5
      obtain ⟨xs, hs, hl0, hl, hm, hn, ht, hbq, hrq⟩ := HT.out
      have HS := Lib.hid hs
      have HTT := Lib.hid ht
      have HN := Lib.hid hn
      have HM := Lib.hid hm
      have HBQ := Lib.hid hbq
      have HRQ := Lib.hid hrq
      have hwq : w.heap.size ≤ z3.heap.size + 1 + 1 + 1 := by have := HBQ.out.size; simpa using this
      clear hs ht hn hm hbq hrq HT
      go_wp2_with (at_builtin; refine wpList_append_own _ rfl _ _ 24 rfl w.heap.size 82 i0 (.agg #[.string ⟨#[]⟩, .slice none 0 0, .slice none 0 0, .slice none 0 0, .slice none 0 0, .slice none 0 0]) 6 136 Tryz.underlying24 H1.out H2.out H3.out H4.out rfl (by decide) _ _ _ rfl HS.out.1 ⟨_, 0, none⟩ 1 1 [.string ⟨#[116, 114, 101, 101]⟩, .slice (some ⟨z1.heap.size, 0, none⟩) 2 2, .slice (some ⟨z1.heap.size + 1, 0, none⟩) 1 1, .slice none 0 0, .slice none 0 0, .slice (some ⟨z3.heap.size, 0, none⟩) 1 1] rfl rfl ?c1 ?c2 ?c3 ?c4 ?c5 ?_)
      case c1 => exact cellsY _ [.string ⟨#[116, 114, 101, 101]⟩, .slice (some ⟨z1.heap.size, 0, none⟩) 2 2, .slice (some ⟨z1.heap.size + 1, 0, none⟩) 1 1, .slice none 0 0, .slice none 0 0, .slice (some ⟨z3.heap.size, 0, none⟩) 1 1] _ (by simp)
      case c2 => intro u hu; simp at hu; rcases hu with rfl | rfl | rfl | rfl | rfl | rfl <;> rfl
      case c3 => unfold maxLen; omega
      case c4 => omega
      case c5 => simp; omega
      intro v' w3 hown3 hgrow _
      have HZ := Lib.hid (SB.add H0.out HS.out HTT.out HN.out hl HM.out (show (16 : Nat) ≤ 60 by omega) HBQ.out HRQ.out hown3 hgrow)
      clear hown3 hgrow HS HTT HN HM HBQ HRQ
      go_wp2_with fail
      go_meet
      case rel => exact HZ.out
    case rest =>
     have HS6 := Lib.hid hcut
     clear hcut HS5
     go_wp2_with fail
     refine (rdBelow 40 _ R a len cap zs HS6.out.rdr).mono ?_
     rintro e q1 ⟨v, rfl, ⟨y, rfl, y0, y1⟩, hb2, hr2⟩
     have HS7 := Lib.hid (HS6.out.but hb2 hr2 hlt)
     clear HS6 hb2 hr2
     obtain ⟨xs, hs, hl0, hl, hm, hb, hr⟩ := HS7.out
     have hq : y = 37 ∨ y = 38 ∨ y = 39 ∨ (y ≠ 37 ∧ y ≠ 38 ∧ y ≠ 39) := by omega
     clear HS7
     rcases hq with rfl | rfl | rfl | ⟨n7, n8, n9⟩
     ·obtain ⟨x, xs, rfl⟩ : ∃ x l, xs = x :: l := by cases xs with
       | nil => simp at hl0
       | cons x l => exact ⟨x, l, rfl⟩
      obtain ⟨g, ca, rfl, hg, hcell, hfree, htc, hne, hput⟩ := hs.head
      have hT := hs.2.2 x (List.mem_cons_self ..)
      obtain ⟨w2, d2⟩ : ∃ u, q1.cell? ⟨g, 2, none⟩ = some u := ⟨_, hcell 2 (x.2.1[2]'(by rw [hT.len6]; omega)) (by rw [List.getElem?_eq_getElem])⟩
      have f2 := hfree 2
      have HF := Lib.hid (show isSch w.heap.size 61 (.slice (some ⟨g, 0, none⟩) (xs.length + 1) ca) (q1.setCell ⟨g, 2, none⟩ (.slice none 0 0)) from
       ⟨_, hput 2 _ _ _ (by omega) rfl (hT.set (p := ⟨g, 2, none⟩) htc hne _).noKey, by simp, by simpa using hl, fun z hz => by
        rcases List.mem_cons.1 hz with rfl | hz
        ·have := hm x (List.mem_cons_self ..); have := sz_noKey x.2.2; dsimp only; omega
        ·have := hm z (List.mem_cons_of_mem _ hz); omega⟩)
      have HBF := Lib.hid (hb.setNew (p := ⟨g, 2, none⟩) hg (.slice none 0 0))
      have HRF := Lib.hid (H0.out.setNew hr (p := ⟨g, 2, none⟩) hg (.slice none 0 0))
      clear hs hcell hfree hput hT hm hb hr hl hl0
      go_wp2_with fail
      go_ret
      exact ⟨_, rfl, HF.out, HBF.out, HRF.out⟩
     ·obtain ⟨x, xs, rfl⟩ : ∃ x l, xs = x :: l := by cases xs with
       | nil => simp at hl0
       | cons x l => exact ⟨x, l, rfl⟩
      obtain ⟨g, ca, rfl, hg, hcell, hfree, htc, hne, hput⟩ := hs.head
      have hT := hs.2.2 x (List.mem_cons_self ..)
      obtain ⟨w0, d0⟩ : ∃ u, q1.cell? ⟨g, 0, none⟩ = some u := ⟨_, hcell 0 (x.2.1[0]'(by rw [hT.len6]; omega)) (by rw [List.getElem?_eq_getElem])⟩
      have f0 := hfree 0
      have hx60 := hm x (List.mem_cons_self ..)
      have hsn := sz_named x.2.2 ⟨#[99]⟩
      have hsn1 : (⟨#[99]⟩ : ByteArray).size = 1 := rfl
      have HF := Lib.hid (show isSch w.heap.size 61 (.slice (some ⟨g, 0, none⟩) (xs.length + 1) ca) (q1.setCell ⟨g, 0, none⟩ (.string ⟨#[99]⟩)) from
       ⟨_, hput 0 _ _ _ (by omega) rfl ((hT.set (p := ⟨g, 0, none⟩) htc hne _).named ⟨#[99]⟩ (by omega)), by simp, by simpa using hl, fun z hz => by
        rcases List.mem_cons.1 hz with rfl | hz
        ·dsimp only; omega
        ·have := hm z (List.mem_cons_of_mem _ hz); omega⟩)
      have HBF := Lib.hid (hb.setNew (p := ⟨g, 0, none⟩) hg (.string ⟨#[99]⟩))
      have HRF := Lib.hid (H0.out.setNew hr (p := ⟨g, 0, none⟩) hg (.string ⟨#[99]⟩))
      clear hs hcell hfree hput hT hm hb hr hl hl0 hsn hsn1 hx60
      go_wp2_with fail
      go_ret
      exact ⟨_, rfl, HF.out, HBF.out, HRF.out⟩
     ·obtain ⟨x, xs, rfl⟩ : ∃ x l, xs = x :: l := by cases xs with
       | nil => simp at hl0
       | cons x l => exact ⟨x, l, rfl⟩
      obtain ⟨g, ca, rfl, hg, hcell, hfree, htc, hne, hput⟩ := hs.head
      obtain ⟨c00, cs00, ec0, hgx, ⟨n1, e1, hn1⟩, -⟩ := hs.kind
      have d1 := hcell 1 _ e1
      have hgs : g < q1.heap.size := cell_lt d1
      have hRg : g ≠ R := by omega
      have HSX := Lib.hid hs
      have HRX := Lib.hid hr
      have HBX := Lib.hid hb
      have HM := Lib.hid hm
      have hn1' : (0 : Int) < n1 := by omega
      clear hs hr hb hm hcell hfree hput htc hne ec0
      go_wp2_with fail
      go_region_with (go_at_call 60; refine (rdOff 1 2 (by omega) (by omega) (by omega) _ R a len cap zs (rdr_drewY HRX.out)).mono ?_; rintro e q2 ⟨v, rfl, ⟨z, rfl, z0, z1⟩, hb2', hr2⟩; have hb2 := but_undrewY hb2'; have HS2 := Lib.hid (HSX.out.hold (Hold.but hb2 hlt)); obtain ⟨c0, cs0, ec, -, -, ⟨k0, k1⟩, k2, k3⟩ := HS2.out.kind; have d1' := (hb2.cell (p := ⟨g, 1, none⟩) hgs hRg).trans d1; have HK3 := Lib.hid k3; have HEC := Lib.hid ec; clear k3 ec hb2')
      all_goals
       go_wp2_with fail
       go_ret
       refine ⟨_, rfl, ⟨_, HK3.out z, by simp, by simpa using hl, fun z' hz => ?_⟩, (HBX.out.trans hb2).setNew (p := ⟨x.1, 1, none⟩) hgx _, H0.out.setNew hr2 (p := ⟨x.1, 1, none⟩) hgx _⟩
       rcases List.mem_cons.1 hz with rfl | hz
       ·have := HM.out x (List.mem_cons_self ..); have := sz_kind x.2.2 HEC.out z; dsimp only; omega
       ·have := HM.out z' (List.mem_cons_of_mem _ hz); omega
     ·have m7 : (y == 37) = false := by simpa using n7
      have m8 : (y == 38) = false := by simpa using n8
      have m9 : (y == 39) = false := by simpa using n9
      have HF := Lib.hid (show isSch w.heap.size 61 u4 q1 from ⟨xs, hs, hl0, hl, fun z hz => by have := hm z hz; omega⟩)
      have HBF := Lib.hid hb
      have HRF := Lib.hid hr
      clear hs hl0 hl hm hb hr
      go_wp2_with fail
      go_ret
      exact ⟨_, rfl, HF.out, HBF.out, HRF.out⟩
theorem szL_le {α : Type} (f : α → Nat) (m : Nat) : ∀ l : List α, (∀ x ∈ l, f x ≤ m) → szL f l ≤ l.length + l.length * m
 | [], _ => by simp [szL]
 | x :: l, h => by
  have h1 := szL_le f m l fun y hy => h y (List.mem_cons_of_mem _ hy)
  have h2 := h x (List.mem_cons_self ..)
  unfold szL at h1 ⊢
  rw [List.map_cons, List.sum_cons, List.length_cons, Nat.succ_mul]
  omega
theorem tabs_sl {base : Nat} {w : World} {v : Value} {xs : List (Nat × List Value × Tb)} (hr : w.ownsRow base 82 6 v xs.length (xs.map (·.2.1)).flatten) (ha : ∀ x ∈ xs, TabY base w x.1 x.2.1 x.2.2) : ∃ A c, v = .slice A xs.length c ∧ xs.length ≤ c ∧ c ≤ maxLen ∧ Sl TbR 6 (okF base w) w A xs.length (xs.map (·.2.2)) := by
 rcases hr.2 with ⟨rfl, h0⟩ | ⟨g, cap, cur, rfl, k1, k2, k3, k4, k5, k6⟩
 ·exact ⟨none, 0, by rw [h0], by omega, by simp [maxLen], by rw [List.length_map], fun hn => by omega⟩
 ·refine ⟨_, cap, rfl, k3, k4, by rw [List.length_map], fun hn => ⟨g, 0, rfl, ⟨k1, lt_of_block k2, fun off => by simp [World.frozen?, k2]⟩, fun i hi => ?_⟩⟩
  have hi' : i < xs.length := by simpa using hi
  have ht := ha _ (List.getElem_mem hi')
  refine ⟨xs[i].2.1, ht.len6, by rw [List.getElem_map]; exact ht.reads, fun j u hj => ?_⟩
  have hj6 : j < 6 := by rw [← ht.len6]; exact (List.getElem?_eq_some_iff.1 hj).1
  have key : ∀ (l : List (List Value)) (i : Nat) (hi : i < l.length), (∀ c ∈ l, c.length = 6) → l.flatten[i * 6 + j]? = l[i][j]? := by
   intro l
   induction l with
   | nil => intro i hi; simp at hi
   | cons x l ih =>
    intro i hi ha
    have hx := ha x (List.mem_cons_self ..)
    cases i with
    | zero => rw [List.flatten_cons, Nat.zero_mul, Nat.zero_add, List.getElem?_append_left (by omega)]; rfl
    | succ i =>
     rw [List.flatten_cons, List.getElem?_append_right (by rw [hx, Nat.succ_mul]; omega), hx, show (i + 1) * 6 + j - 6 = i * 6 + j by rw [Nat.succ_mul]; omega]
     exact ih i (by simpa using hi) fun c hc => ha c (List.mem_cons_of_mem _ hc)
  have e := key (xs.map (·.2.1)) i (by simpa using hi') fun c hc => by
   obtain ⟨y, hy, rfl⟩ := List.mem_map.1 hc
   exact (ha y hy).len6
  rw [List.getElem_map, hj, ← k6, List.getElem?_take, if_pos (by have := Nat.mul_le_mul_right 6 (show i + 1 ≤ xs.length from hi'); rw [Nat.succ_mul] at this; omega)] at e
  rw [Nat.zero_add]
  simp only [World.cell?, k2]
  rw [← Array.getElem?_toList]
  simpa using e
theorem SchY.sl {base : Nat} {w : World} {v : Value} {xs : List (Nat × List Value × Tb)} (h : SchY base w v xs) : ∃ A c, v = .slice A xs.length c ∧ xs.length ≤ c ∧ c ≤ maxLen ∧ Sl TbR 6 (okF base w) w A xs.length (xs.map (·.2.2)) := tabs_sl h.1 h.2.2
theorem row_at {xs : Array Value} {k : Nat} {v : Value} (h : xs[k]? = some v) {hk' : k < xs.size} : some xs[k] = some v := by rw [← h, Array.getElem?_eq_getElem hk']
def Blk (w : World) (b : Nat) (k n : Int) (s : ByteArray) : Prop := w.heap[b]? = some (.cells #[.int .i64 k, .int .i64 n, .string s] 34)
theorem Blk.cells {w : World} {b : Nat} {k n : Int} {s : ByteArray} (h : Blk w b k n s) :
  w.cell? ⟨b, 0, none⟩ = some (.int .i64 k) ∧ w.cell? ⟨b, 1, none⟩ = some (.int .i64 n) ∧ w.cell? ⟨b, 2, none⟩ = some (.string s) := by
 unfold Blk at h
 simp [World.cell?, h]
theorem Blk.free {w : World} {b : Nat} {k n : Int} {s : ByteArray} (h : Blk w b k n s) :
  w.frozen? ⟨b, 0, none⟩ = false ∧ w.frozen? ⟨b, 1, none⟩ = false ∧ w.frozen? ⟨b, 2, none⟩ = false := by
 unfold Blk at h
 simp [World.frozen?, h]
theorem Blk.lt {w : World} {b : Nat} {k n : Int} {s : ByteArray} (h : Blk w b k n s) : b < w.heap.size := by
 have := h.cells.1; exact cell_lt this
theorem Blk.but {w w' : World} {R b : Nat} {k n : Int} {s : ByteArray} (h : Blk w b k n s) (hb : But R w w') (hr : b ≠ R) : Blk w' b k n s := (hb.block b h.lt hr).trans h
theorem Blk.new (w : World) (k n : Int) (s : ByteArray) : Blk (w.alloc (.cells #[.int .i64 k, .int .i64 n, .string s] 34)) w.heap.size k n s := by
 show (w.heap.push _)[w.heap.size]? = _
 simp
end Go.Proofs.YtciaidjmehelpaaGreat
namespace Go.Proofs.YtciaidjmehelpaaGreat
open Go.RowKit Go.Maps
theorem But.grown {R : Nat} {w w1 w2 : World} {row : Option Nat} (h : But R w w1) (hg : w1.grownBy w2 row) (hr : ∀ k, row = some k → w.heap.size ≤ k) : But R w w2 :=
 ⟨hg.os.trans h.os, hg.tape.trans h.tape, hg.output.trans h.output, Nat.le_trans h.size hg.size, fun k hk hne => (hg.block k (Nat.lt_of_lt_of_le hk h.size) (fun e => by have := hr k e.symm; omega)).trans (h.block k hk hne)⟩
theorem But.ofBelow {R : Nat} {w w' : World} (h : Below w.heap.size w w') : But R w w' := ⟨h.os, h.tape, h.output, h.size, fun k hk _ => h.block k hk⟩
theorem Rdr.move {w w1 w2 : World} {R : Nat} {a : Option Addr} {len cap : Nat} {zs : List Int} (h0 : Rdr w R a len cap zs) (h : Rdr w1 R a len cap zs) (hb : But R w w2) (hR : w2.heap[R]? = w1.heap[R]?) : Rdr w2 R a len cap zs := by
 obtain ⟨p, hp, hc⟩ := h.place
 have hq : ∀ i, w2.cell? ⟨R, i, none⟩ = w1.cell? ⟨R, i, none⟩ := fun i => World.cell?_of_block (w := w1) hR
 exact ⟨(hq 0).trans h.code, ⟨p, hp, (hq 1).trans hc⟩, (World.frozen?_of_block (w := w1) hR).trans h.free, h0.row.but hb h0.apart, h0.apart⟩
theorem Rdr.grown {w w1 w2 : World} {R : Nat} {a : Option Addr} {len cap : Nat} {zs : List Int} {row : Option Nat} (h0 : Rdr w R a len cap zs) (h : Rdr w1 R a len cap zs) (hb : But R w w1) (hg : w1.grownBy w2 row) (hr : ∀ k, row = some k → w.heap.size ≤ k) : Rdr w2 R a len cap zs := by
 have hlt : R < w.heap.size := cell_lt h0.code
 exact h0.move h (hb.grown hg hr) (hg.block R (Nat.lt_of_lt_of_le hlt hb.size) (fun e => by have := hr R e.symm; omega))
theorem Rdr.below {w w' : World} {R : Nat} {a : Option Addr} {len cap : Nat} {zs : List Int} (h : Rdr w R a len cap zs) (hb : Below w.heap.size w w') : Rdr w' R a len cap zs :=
 h.move h (But.ofBelow hb) (hb.block R (cell_lt h.code))
section
variable {α : Type} {T : TypeId} {sz : Nat} {f : α → List Value}
theorem OwnG.but {R base : Nat} {w w' : World} {v : Value} {xs : List α} (h : OwnG T sz f w base v xs) (hb : But R w w') (hR : R < base) : OwnG T sz f w' base v xs := by
 refine ⟨h.1, ?_⟩
 rcases h.2 with h | ⟨g, cap, cur, rfl, h1, h2, h3⟩
 ·exact .inl h
 ·exact .inr ⟨g, cap, cur, rfl, h1, (hb.block g (lt_of_block h2) (by omega)).trans h2, h3⟩
theorem OwnG.one (w : World) {base : Nat} (hb : base ≤ w.heap.size) (x : α) (hl : (f x).length = sz) : OwnG T sz f (w.alloc (.cells (f x).toArray T)) base (.slice (some ⟨w.heap.size, 0, none⟩) 1 1) [x] :=
 ⟨by simp [hl], .inr ⟨w.heap.size, 1, (f x).toArray, rfl, hb, Go.heap_alloc_last w _, Nat.le_refl _, by simp [maxLen], by simp [hl], by simp [hl, List.take_of_length_le]⟩⟩
theorem OwnG.src {w : World} {base : Nat} {v : Value} {xs : List α} (h : OwnG T sz f w base v xs) (hn : 0 < xs.length) :
  ∃ g cap, v = .slice (some ⟨g, 0, none⟩) xs.length cap ∧ base ≤ g ∧ g < w.heap.size ∧ ∀ j u, ((xs.map f).flatten)[j]? = some u → w.cell? ((⟨g, 0, none⟩ : Addr).add j) = some u := by
 rcases h.2 with ⟨-, h0⟩ | ⟨g, cap, cur, rfl, h1, h2, h3, h4, h5, h6⟩
 ·omega
 ·refine ⟨g, cap, rfl, h1, lt_of_block h2, fun j u hj => ?_⟩
  rw [addr_add, cell_of_row _ _ _ _ _ _ h2, Nat.zero_add]
  rw [← h6, List.getElem?_take] at hj
  split at hj
  ·rw [← Array.getElem?_toList]; exact hj
  ·cases hj
theorem OwnG.appL {w w' : World} {base : Nat} {v v' : Value} {xs ys : List α} (h : OwnG T sz f w base v xs) (h' : w'.ownsRow base T sz v' (xs.length + ys.length) ((xs.map f).flatten ++ (ys.map f).flatten)) : OwnG T sz f w' base v' (xs ++ ys) := by
 unfold OwnG; rw [List.length_append, List.map_append, List.flatten_append]; exact h'
theorem OwnG.mono {w : World} {base base' : Nat} {v : Value} {xs : List α} (h : OwnG T sz f w base v xs) (hb : base' ≤ base) : OwnG T sz f w base' v xs := by
 refine ⟨h.1, ?_⟩
 rcases h.2 with h | ⟨g, cap, cur, rfl, h1, h2⟩
 ·exact .inl h
 ·exact .inr ⟨g, cap, cur, rfl, Nat.le_trans hb h1, h2⟩
end
theorem tk_one : ∀ (ts : List Tk), ∀ u ∈ (ts.map Tk.cells).flatten, u.oneCell' = true := fun ts u hu => by
 obtain ⟨l, hl, hu⟩ := List.mem_flatten.1 hu
 obtain ⟨t, -, rfl⟩ := List.mem_map.1 hl
 simp [Tk.cells] at hu
 rcases hu with rfl | rfl | rfl | rfl | rfl <;> rfl
theorem flat_tk (ts : List Tk) : ((ts.map Tk.cells).flatten).length = ts.length * 5 := by
 rw [flat_len (sz := 5) _ (fun c hc => by obtain ⟨t, -, rfl⟩ := List.mem_map.1 hc; rfl), List.length_map]
def OwnT (w : World) (base : Nat) (v : Value) (ts : List Tk) : Prop := OwnG 36 5 Tk.cells w base v ts
def OwnW (w : World) (base : Nat) (v : Value) (xs : List Vl) : Prop := OwnG 34 3 Vl.cells w base v xs
def isToks (base B : Nat) (v : Value) (w : World) : Prop := ∃ ts : List Tk, OwnT w base v ts ∧ ts.length ≤ B ∧ 1 ≤ ts.length
def eb : Nat → Nat
 | 0 => 1
 | d + 1 => eb d + eb d + 1
theorem eb_le {d : Nat} (h : d ≤ 3) : eb d ≤ 15 := by
 match d, h with
 | 0, _ => decide
 | 1, _ => decide
 | 2, _ => decide
 | 3, _ => decide
theorem eb_pos (d : Nat) : 1 ≤ eb d := by cases d <;> simp [eb]
set_option maxHeartbeats 1000000 in
theorem specL2Col (n : Int) (w : World) :
  Calls Tryz.prog 79 #[.int .i64 n] w fun e w' => e = .returned (.agg #[.int .i64 1, .int .i64 n, .int .i64 0, .int .i64 0, .string ⟨#[]⟩]) ∧ Below w.heap.size w w' := by
 go_enter Tryz.func79, Tryz.ntmps79
 go_wp2
 exact bodyPost_ret (v := .agg #[.int .i64 1, .int .i64 n, .int .i64 0, .int .i64 0, .string ⟨#[]⟩]) (by simp [results, Tryz.results79, go_sem]) rfl
  ⟨rfl, (Below.refl _ _).alloc (Nat.le_refl _) _⟩
set_option maxHeartbeats 1000000 in
theorem specL2Const (k n : Int) (s : ByteArray) (w : World) :
  Calls Tryz.prog 80 #[.agg #[.int .i64 k, .int .i64 n, .string s]] w fun e w' => e = .returned (.agg #[.int .i64 2, .int .i64 0, .int .i64 k, .int .i64 n, .string s]) ∧ Below w.heap.size w w' := by
 go_enter Tryz.func80, Tryz.ntmps80
 go_wp2
 exact bodyPost_ret (v := .agg #[.int .i64 2, .int .i64 0, .int .i64 k, .int .i64 n, .string s]) (by simp [results, Tryz.results80, go_sem]) rfl
  ⟨rfl, ((Below.refl _ _).alloc (Nat.le_refl _) _).alloc (by simp) _⟩
end Go.Proofs.YtciaidjmehelpaaGreat
namespace Go.Proofs.YtciaidjmehelpaaGreat
open Go.RowKit Go.Maps
theorem infoTokD : (Tryz.prog.info? 36).map (fun i => (i.zero, i.size, i.bytes)) = some (some (.agg #[.int .i64 0, .int .i64 0, .int .i64 0, .int .i64 0, .string ⟨#[]⟩]), 5, 48) := by kernel_rfl
theorem infoValD : (Tryz.prog.info? 34).map (fun i => (i.zero, i.size, i.bytes)) = some (some (.agg #[.int .i64 0, .int .i64 0, .string ⟨#[]⟩]), 3, 32) := by kernel_rfl
theorem leaf_post {R : Nat} {w w3 w4 : World} {a : Option Addr} {len cap : Nat} {zs : List Int} (h : Rdr w R a len cap zs) (hb : But R w w3) (hr : Rdr w3 R a len cap zs) (hb4 : Below w3.heap.size w3 w4) (t : Tk) {B : Nat} (hB : 1 ≤ B) :
  Drew R a len cap zs (isToks w.heap.size B) w (.returned (.slice (some ⟨w4.heap.size, 0, none⟩) 1 1)) (w4.alloc (.cells (Tk.cells t).toArray 36)) :=
 ⟨_, rfl, ⟨[t], OwnG.one w4 (Nat.le_trans hb.size hb4.size) t rfl, hB, by simp⟩, (hb.trans (But.ofBelow hb4)).alloc _, (hr.below hb4).alloc _⟩
set_option maxRecDepth 100000 in
set_option maxHeartbeats 4000000 in
theorem rdExpr (c : Int) (hc0 : 0 ≤ c) (hc1 : c ≤ 16) : ∀ (d : Nat), d ≤ 3 → ∀ (x : Int), x = d → ∀ (w : World) (R : Nat) (a : Option Addr) (len cap : Nat) (zs : List Int), Rdr w R a len cap zs →
  Calls Tryz.prog 85 #[.pointer (some ⟨R, 0, none⟩), .int .i64 c, .int .i64 x] w (Drew R a len cap zs (isToks w.heap.size (eb d)) w) := by
 intro d
 induction d with
 | zero =>
  intro hd x hx w R a len cap zs h
  obtain rfl : x = 0 := by simpa using hx
  have hbr := But.refl R w
  clear hx
  go_enter Tryz.func85, Tryz.ntmps85
  by_cases hcp : 0 < c
  case neg =>
   have zc : decide (0 < c) = false := decide_eq_false hcp
   go_wp2_with fail
   refine (rdVal _ R a len cap zs h).mono ?_
   rintro e w8 ⟨v, rfl, ⟨vk, vn, vs, rfl, hv⟩, hb8, hr8⟩
   clear hv
   go_wp2_with fail
   refine (specL2Const vk vn vs _).mono ?_
   rintro e w9 ⟨rfl, hb9⟩
   go_wp2_with fail
   go_ret
   exact leaf_post h (hbr.trans hb8) hr8 hb9 ⟨2, 0, vk, vn, vs⟩ (eb_pos _)
  have zc : decide (0 < c) = true := decide_eq_true hcp
  go_wp2_with fail
  refine (rdOnce 3 _ R a len cap zs h).mono ?_
  rintro e w6 ⟨v, rfl, ⟨b6, rfl⟩, hb6, hr6⟩
  cases b6
  case true =>
   go_wp2_with fail
   refine (rdVal _ R a len cap zs hr6).mono ?_
   rintro e w8 ⟨v, rfl, ⟨vk, vn, vs, rfl, hv⟩, hb8, hr8⟩
   clear hv
   go_wp2_with fail
   refine (specL2Const vk vn vs _).mono ?_
   rintro e w9 ⟨rfl, hb9⟩
   go_wp2_with fail
   go_ret
   exact leaf_post h ((hbr.trans hb6).trans hb8) hr8 hb9 ⟨2, 0, vk, vn, vs⟩ (eb_pos _)
  go_wp2_with fail
  refine (rdBelow c _ R a len cap zs hr6).mono ?_
  rintro e w7 ⟨v, rfl, ⟨y7, rfl, z70, z71⟩, hb7, hr7⟩
  go_wp2_with fail
  refine (specL2Col y7 _).mono ?_
  rintro e w8 ⟨rfl, hb8⟩
  go_wp2_with fail
  go_ret
  exact leaf_post h ((hbr.trans hb6).trans hb7) hr7 hb8 ⟨1, y7, 0, 0, ⟨#[]⟩⟩ (eb_pos _)
 | succ d ih =>
  intro hd x hx w R a len cap zs h
  have IH := Lib.hid (ih (by omega))
  have x1 : 1 ≤ x := by omega
  have x3 : x ≤ 3 := by omega
  have zx : (x == 0) = false := by rw [beq_eq_false_iff_ne]; omega
  have HX := Lib.hid (show x - 1 = (d : Int) by omega)
  have hR : R < w.heap.size := cell_lt h.code
  obtain ⟨i0, hi', hz0, hz1, hz2⟩ := info_parts infoTokD
  have H1 := Lib.hid hi'
  have H2 := Lib.hid hz0
  have H3 := Lib.hid hz1
  have H4 := Lib.hid hz2
  clear hi' hz0 hz1 hz2 ih hx
  go_enter Tryz.func85, Tryz.ntmps85
  go_wp2_with fail
  refine (rdOnce 4 _ R a len cap zs h).mono ?_
  rintro e w1 ⟨v, rfl, ⟨b1, rfl⟩, hb1, hr1⟩
  cases b1
  case true =>
   by_cases hcp : 0 < c
   case neg =>
    have zc : decide (0 < c) = false := decide_eq_false hcp
    go_wp2_with fail
    refine (rdVal _ R a len cap zs hr1).mono ?_
    rintro e w8 ⟨v, rfl, ⟨vk, vn, vs, rfl, hv⟩, hb8, hr8⟩
    clear hv
    go_wp2_with fail
    refine (specL2Const vk vn vs _).mono ?_
    rintro e w9 ⟨rfl, hb9⟩
    go_wp2_with fail
    go_ret
    exact leaf_post h (hb1.trans hb8) hr8 hb9 ⟨2, 0, vk, vn, vs⟩ (eb_pos _)
   have zc : decide (0 < c) = true := decide_eq_true hcp
   go_wp2_with fail
   refine (rdOnce 3 _ R a len cap zs hr1).mono ?_
   rintro e w6 ⟨v, rfl, ⟨b6, rfl⟩, hb6, hr6⟩
   cases b6
   case true =>
    go_wp2_with fail
    refine (rdVal _ R a len cap zs hr6).mono ?_
    rintro e w8 ⟨v, rfl, ⟨vk, vn, vs, rfl, hv⟩, hb8, hr8⟩
    clear hv
    go_wp2_with fail
    refine (specL2Const vk vn vs _).mono ?_
    rintro e w9 ⟨rfl, hb9⟩
    go_wp2_with fail
    go_ret
    exact leaf_post h ((hb1.trans hb6).trans hb8) hr8 hb9 ⟨2, 0, vk, vn, vs⟩ (eb_pos _)
   go_wp2_with fail
   refine (rdBelow c _ R a len cap zs hr6).mono ?_
   rintro e w7 ⟨v, rfl, ⟨y7, rfl, z70, z71⟩, hb7, hr7⟩
   go_wp2_with fail
   refine (specL2Col y7 _).mono ?_
   rintro e w8 ⟨rfl, hb8⟩
   go_wp2_with fail
   go_ret
   exact leaf_post h ((hb1.trans hb6).trans hb7) hr7 hb8 ⟨1, y7, 0, 0, ⟨#[]⟩⟩ (eb_pos _)
  go_wp2_with fail
  refine (rdBelow 8 _ R a len cap zs hr1).mono ?_
  rintro e w2 ⟨v, rfl, ⟨y, rfl, y0, y1⟩, hb2, hr2⟩
  have y8 : y < 8 := by omega
  have hb02 := hb1.trans hb2
  have HS2 := Lib.hid hb02.size
  clear y1 hb1 hb2
  go_wp2_with fail
  refine (IH.out (x - 1) HX.out _ R a len cap zs hr2).mono ?_
  rintro e w3 ⟨v3, rfl, ⟨ts, hown, hl, hp⟩, hb3, hr3⟩
  have hb03 := hb02.trans hb3
  have HOW := Lib.hid hown
  have HL3 := Lib.hid (show ts.length ≤ eb d + eb d by omega)
  have HSZ := Lib.hid (show w2.heap.size ≤ w3.heap.size from hb3.size)
  clear hown
  by_cases y4 : y = 4
  case pos =>
   subst y4
   go_wp2_with (at_builtin; refine wpList_append_own _ rfl _ _ 26 rfl w2.heap.size 36 i0 (.agg #[.int .i64 0, .int .i64 0, .int .i64 0, .int .i64 0, .string ⟨#[]⟩]) 5 48 Tryz.underlying26 H1.out H2.out H3.out H4.out rfl (by decide) _ _ _ rfl (World.ownsRow.alloc HOW.out _) ⟨_, 0, none⟩ 1 1 (Tk.cells ⟨7, 0, 0, 0, ⟨#[]⟩⟩) rfl rfl ?c11 ?c21 ?c31 ?c41 ?c51 ?_)
   case c11 => exact cells_newAt _ (Tk.cells _) _ (by simp)
   case c21 => intro u hu; simp [Tk.cells] at hu; rcases hu with rfl | rfl | rfl | rfl | rfl <;> rfl
   case c31 => have h1 := eb_le (d := d) (by omega); have h2 := HL3.out; unfold maxLen; omega
   case c41 => have h1 := eb_le (d := d) (by omega); have h2 := HL3.out; omega
   case c51 => have h1 := HSZ.out; simp; omega
   intro v9 w9 hown9 hgrow9 _
   have hq : ∀ k, Value.ownBlock _ = some k → w.heap.size ≤ k := fun k hk => Nat.le_trans HS2.out (OwnG.block_lt HOW.out k hk).1
   have R9 := OwnG.app HOW.out HSZ.out hown9 hgrow9
   have hb9 := (hb03.alloc _).grown hgrow9 hq
   have hr9 := h.grown (hr3.alloc _) (hb03.alloc _) hgrow9 hq
   have HR9 := Lib.hid (And.intro R9.1 (And.intro hb9 hr9))
   clear hown9 hgrow9 hq R9 hb9 hr9
   go_wp2_with fail
   go_ret
   exact ⟨_, rfl, ⟨_, HR9.out.1.mono HS2.out, by have h2 := HL3.out; simp [eb]; omega, by simp⟩, HR9.out.2.1, HR9.out.2.2⟩
  by_cases y5 : y = 5
  case pos =>
   subst y5
   go_wp2_with (at_builtin; refine wpList_append_own _ rfl _ _ 26 rfl w2.heap.size 36 i0 (.agg #[.int .i64 0, .int .i64 0, .int .i64 0, .int .i64 0, .string ⟨#[]⟩]) 5 48 Tryz.underlying26 H1.out H2.out H3.out H4.out rfl (by decide) _ _ _ rfl (World.ownsRow.alloc HOW.out _) ⟨_, 0, none⟩ 1 1 (Tk.cells ⟨8, 0, 0, 0, ⟨#[]⟩⟩) rfl rfl ?c12 ?c22 ?c32 ?c42 ?c52 ?_)
   case c12 => exact cells_newAt _ (Tk.cells _) _ (by simp)
   case c22 => intro u hu; simp [Tk.cells] at hu; rcases hu with rfl | rfl | rfl | rfl | rfl <;> rfl
   case c32 => have h1 := eb_le (d := d) (by omega); have h2 := HL3.out; unfold maxLen; omega
   case c42 => have h1 := eb_le (d := d) (by omega); have h2 := HL3.out; omega
   case c52 => have h1 := HSZ.out; simp; omega
   intro v9 w9 hown9 hgrow9 _
   have hq : ∀ k, Value.ownBlock _ = some k → w.heap.size ≤ k := fun k hk => Nat.le_trans HS2.out (OwnG.block_lt HOW.out k hk).1
   have R9 := OwnG.app HOW.out HSZ.out hown9 hgrow9
   have hb9 := (hb03.alloc _).grown hgrow9 hq
   have hr9 := h.grown (hr3.alloc _) (hb03.alloc _) hgrow9 hq
   have HR9 := Lib.hid (And.intro R9.1 (And.intro hb9 hr9))
   clear hown9 hgrow9 hq R9 hb9 hr9
   go_wp2_with fail
   go_ret
   exact ⟨_, rfl, ⟨_, HR9.out.1.mono HS2.out, by have h2 := HL3.out; simp [eb]; omega, by simp⟩, HR9.out.2.1, HR9.out.2.2⟩
  have k7 : (3 + y != 7) = true := by rw [bne_iff_ne]; omega
  have k8 : (3 + y != 8) = true := by rw [bne_iff_ne]; omega
  go_wp2_with fail
  refine (IH.out (x - 1) HX.out _ R a len cap zs hr3).mono ?_
  rintro e w4 ⟨v4, rfl, ⟨us, hown4, hl4, hp4⟩, hb4, hr4⟩
  obtain ⟨g4, cap4, rfl, hg4, hg4', hsrc⟩ := OwnG.src hown4 (by omega)
  have HSRC := Lib.hid hsrc
  have HOZ := Lib.hid (OwnG.but HOW.out hb4 (Nat.lt_of_lt_of_le hR HS2.out))
  have hb04 := hb03.trans hb4
  have HSY := Lib.hid (Nat.le_trans HSZ.out hb4.size)
  clear hsrc hown4 HOW
  go_wp2_with (at_builtin; refine wpList_append_own _ rfl _ _ 26 rfl w2.heap.size 36 i0 (.agg #[.int .i64 0, .int .i64 0, .int .i64 0, .int .i64 0, .string ⟨#[]⟩]) 5 48 Tryz.underlying26 H1.out H2.out H3.out H4.out rfl (by decide) _ _ _ rfl HOZ.out ⟨g4, 0, none⟩ us.length cap4 ((us.map Tk.cells).flatten) rfl (flat_tk us) HSRC.out (tk_one us) ?e3 ?e4 HSY.out ?_)
  case e3 => have h1 := eb_le (d := d) (by omega); unfold maxLen; omega
  case e4 => have h1 := eb_le (d := d) (by omega); omega
  intro v5 w5 hown5 hgrow5 _
  have hq5 : ∀ k, Value.ownBlock _ = some k → w.heap.size ≤ k := fun k hk => Nat.le_trans HS2.out (OwnG.block_lt HOZ.out k hk).1
  have HO5 := Lib.hid (OwnG.appL HOZ.out hown5)
  have hb5 := hb04.grown hgrow5 hq5
  have hr5 := h.grown hr4 hb04 hgrow5 hq5
  have HSX := Lib.hid (Nat.le_trans HSY.out hgrow5.size)
  have HL5 := Lib.hid (show (ts ++ us).length ≤ eb d + eb d by rw [List.length_append]; omega)
  clear hown5 hgrow5 hq5 HSZ
  have HSZ := HSX
  generalize ts ++ us = ls at *
  go_wp2_with (at_builtin; refine wpList_append_own _ rfl _ _ 26 rfl w2.heap.size 36 i0 (.agg #[.int .i64 0, .int .i64 0, .int .i64 0, .int .i64 0, .string ⟨#[]⟩]) 5 48 Tryz.underlying26 H1.out H2.out H3.out H4.out rfl (by decide) _ _ _ rfl (World.ownsRow.alloc HO5.out _) ⟨_, 0, none⟩ 1 1 (Tk.cells ⟨3 + y, 0, 0, 0, ⟨#[]⟩⟩) rfl rfl ?c13 ?c23 ?c33 ?c43 ?c53 ?_)
  case c13 => exact cells_newAt _ (Tk.cells _) _ (by simp)
  case c23 => intro u hu; simp [Tk.cells] at hu; rcases hu with rfl | rfl | rfl | rfl | rfl <;> rfl
  case c33 => have h1 := eb_le (d := d) (by omega); have h2 := HL5.out; unfold maxLen; omega
  case c43 => have h1 := eb_le (d := d) (by omega); have h2 := HL5.out; omega
  case c53 => have h1 := HSZ.out; simp; omega
  intro v9 w9 hown9 hgrow9 _
  have hq : ∀ k, Value.ownBlock _ = some k → w.heap.size ≤ k := fun k hk => Nat.le_trans HS2.out (OwnG.block_lt HO5.out k hk).1
  have R9 := OwnG.app HO5.out HSZ.out hown9 hgrow9
  have hb9 := (hb5.alloc _).grown hgrow9 hq
  have hr9 := h.grown (hr5.alloc _) (hb5.alloc _) hgrow9 hq
  have HR9 := Lib.hid (And.intro R9.1 (And.intro hb9 hr9))
  clear hown9 hgrow9 hq R9 hb9 hr9
  go_wp2_with fail
  go_ret
  exact ⟨_, rfl, ⟨_, HR9.out.1.mono HS2.out, by have h2 := HL5.out; simp [eb]; omega, by simp⟩, HR9.out.2.1, HR9.out.2.2⟩
end Go.Proofs.YtciaidjmehelpaaGreat
namespace Go.Proofs.YtciaidjmehelpaaGreat
open Go.RowKit
def isFit (n base : Nat) (v : Value) (w : World) : Prop := ∃ xs : List Vl, OwnW w base v xs ∧ xs.length = n ∧ ∀ x ∈ xs, okV x.k x.n x.s
def FB (w wx : World) (R : Nat) (a : Option Addr) (len cap : Nat) (zs : List Int) (S1 : Value) (bx : Nat) (v : Value) (xs : List Vl) : Prop := (∃ k n s, Blk wx bx k n s ∧ okV k n s) ∧ OwnW wx (w.heap.size + 1) v xs ∧ But R w wx ∧ Rdr wx R a len cap zs ∧ wx.cell? ⟨w.heap.size, 1, none⟩ = some S1
theorem FB.but {w wx wy : World} {R : Nat} {a : Option Addr} {len cap : Nat} {zs : List Int} {S1 : Value} {bx : Nat} {v : Value} {xs : List Vl} (h : FB w wx R a len cap zs S1 bx v xs) (hb : But R wx wy) (hr : Rdr wy R a len cap zs) (hR : R < w.heap.size) (hx : bx ≠ R) : FB w wy R a len cap zs S1 bx v xs := by
 obtain ⟨⟨k, n, s, h1, h2⟩, h3, h4, h5, h6⟩ := h
 exact ⟨⟨k, n, s, h1.but hb hx, h2⟩, OwnG.but h3 hb (by omega), h4.trans hb, hr, (hb.cell (cell_lt h6) (by show w.heap.size ≠ R; omega)).trans h6⟩
theorem FB.rdr {w wx : World} {R : Nat} {a : Option Addr} {len cap : Nat} {zs : List Int} {S1 : Value} {bx : Nat} {v : Value} {xs : List Vl} (h : FB w wx R a len cap zs S1 bx v xs) : Rdr wx R a len cap zs := h.2.2.2.1
theorem Blk.put {w : World} {b : Nat} {k n : Int} {s : ByteArray} (h : Blk w b k n s) (k' n' : Int) (s' : ByteArray) : Blk (((w.setCell ⟨b, 0, none⟩ (.int .i64 k')).setCell ⟨b, 1, none⟩ (.int .i64 n')).setCell ⟨b, 2, none⟩ (.string s')) b k' n' s' := by
 unfold Blk at h ⊢
 simp [World.setCell, Array.getElem?_modify, h]
theorem OwnW.setBlk {w : World} {base b : Nat} {v : Value} {xs : List Vl} (h : OwnW w base v xs) (hb : ∀ g, v.ownBlock = some g → g ≠ b) (i : Nat) (u : Value) : OwnW (w.setCell ⟨b, i, none⟩ u) base v xs := by
 refine ⟨h.1, ?_⟩
 rcases h.2 with h | ⟨g, cap, cur, rfl, h1, h2, h3⟩
 ·exact .inl h
 ·exact .inr ⟨g, cap, cur, rfl, h1, (Below.heap_setCell _ _ _ _ (hb g rfl)).trans h2, h3⟩
theorem cell_off {w : World} {p q : Addr} {v u : Value} (h : w.cell? q = some u) (hne : q.block ≠ p.block) : (w.setCell p v).cell? q = some u := (World.cell?_setCell_other _ _ _ _ (fun e => hne (by rw [e]))).trans h
theorem FB.store {w wx : World} {R : Nat} {a : Option Addr} {len cap : Nat} {zs : List Int} {S1 : Value} {bx : Nat} {v : Value} {xs : List Vl} (h : FB w wx R a len cap zs S1 bx v xs) (h0 : Rdr w R a len cap zs) (hx : w.heap.size < bx) (hn : ∀ g, v.ownBlock = some g → g ≠ bx) {k n : Int} {s : ByteArray} (hk : okV k n s) :
  FB w (((wx.setCell ⟨bx, 0, none⟩ (.int .i64 k)).setCell ⟨bx, 1, none⟩ (.int .i64 n)).setCell ⟨bx, 2, none⟩ (.string s)) R a len cap zs S1 bx v xs := by
 obtain ⟨⟨k0, n0, s0, h1, h2⟩, h3, h4, h5, h6⟩ := h
 have hx' : w.heap.size ≤ bx := Nat.le_of_lt hx
 have hne : w.heap.size ≠ bx := Nat.ne_of_lt hx
 exact ⟨⟨k, n, s, h1.put k n s, hk⟩, ((h3.setBlk hn 0 _).setBlk hn 1 _).setBlk hn 2 _, ((h4.setNew (p := ⟨bx, 0, none⟩) hx' _).setNew (p := ⟨bx, 1, none⟩) hx' _).setNew (p := ⟨bx, 2, none⟩) hx' _,
  h0.setNew (h0.setNew (h0.setNew h5 (p := ⟨bx, 0, none⟩) hx' _) (p := ⟨bx, 1, none⟩) hx' _) (p := ⟨bx, 2, none⟩) hx' _, cell_off (cell_off (cell_off h6 hne) hne) hne⟩
theorem FB.cells {w wx : World} {R : Nat} {a : Option Addr} {len cap : Nat} {zs : List Int} {S1 : Value} {bx : Nat} {v : Value} {xs : List Vl} (h : FB w wx R a len cap zs S1 bx v xs) : ∃ k n s, okV k n s ∧ (wx.cell? ⟨bx, 0, none⟩ = some (.int .i64 k) ∧ wx.cell? ⟨bx, 1, none⟩ = some (.int .i64 n) ∧ wx.cell? ⟨bx, 2, none⟩ = some (.string s)) ∧ (wx.frozen? ⟨bx, 0, none⟩ = false ∧ wx.frozen? ⟨bx, 1, none⟩ = false ∧ wx.frozen? ⟨bx, 2, none⟩ = false) := by
 obtain ⟨⟨k, n, s, h1, h2⟩, -⟩ := h
 exact ⟨k, n, s, h2, h1.cells, h1.free⟩
theorem okV_int {n : Int} (h0 : -1000000000 ≤ n) (h1 : n ≤ 1000000000) : okV 1 n ⟨#[]⟩ := .inr (.inl ⟨rfl, h0, h1, rfl⟩)
theorem okV_str {s : ByteArray} (h : s.size ≤ 12) : okV 2 0 s := .inr (.inr ⟨rfl, rfl, h⟩)
theorem okV_null : okV 0 0 ⟨#[]⟩ := .inl ⟨rfl, rfl, rfl⟩
theorem Sl.butY {α : Type} {R : Rd α} (hR : Stays R) {sz : Nat} {ok : Nat → Prop} {w w' : World} {A : Option Addr} {n : Nat} {ds : List α} (h : Sl R sz ok w A n ds) {r : Nat} (hb : But r w w') (hok : ∀ b, ok b → b ≠ r) : Sl R sz ok w' A n ds :=
 h.stays hR (fun _ h => h) fun p v hp hc => (hb.cell (cell_lt hc) (hok _ hp)).trans hc
set_option maxRecDepth 100000 in
set_option maxHeartbeats 4000000 in
theorem rdFit (v0 v2 v3 v4 v5 : Value) (B1 : Option Addr) (m1 d1 : Nat) (cols : List Cl) (ok : Nat → Prop) (w : World) (R : Nat) (a : Option Addr) (len cap : Nat) (zs : List Int) (h : Rdr w R a len cap zs) (h1 : Sl ClR 6 ok w B1 m1 cols) (hok : ∀ b, ok b → b ≠ R) (hl : cols.length ≤ 1000) :
  Calls Tryz.prog 83 #[.pointer (some ⟨R, 0, none⟩), .agg #[v0, .slice B1 m1 d1, v2, v3, v4, v5]] w (Drew R a len cap zs (isFit cols.length w.heap.size) w) := by
 have hR : R < w.heap.size := cell_lt h.code
 obtain rfl : cols.length = m1 := h1.1
 obtain ⟨i0, hi', hz0, hz1, hz2⟩ := info_parts infoValD
 have H1 := Lib.hid hi'
 have H2 := Lib.hid hz0
 have H3 := Lib.hid hz1
 have H4 := Lib.hid hz2
 clear hi' hz0 hz1 hz2
 have hb0 := ((But.refl R w).alloc (.cells #[v0, .slice B1 cols.length d1, v2, v3, v4, v5] 82)).alloc (.cells #[] 34)
 have hr0 := (h.alloc (.cells #[v0, .slice B1 cols.length d1, v2, v3, v4, v5] 82)).alloc (.cells #[] 34)
 have hsz1 : (w.alloc (.cells #[v0, .slice B1 cols.length d1, v2, v3, v4, v5] 82)).heap.size = w.heap.size + 1 := by simp
 have HO0 := OwnG.lit (T := 34) (sz := 3) (f := Vl.cells) (w.alloc (.cells #[v0, .slice B1 cols.length d1, v2, v3, v4, v5] 82)) (base := w.heap.size + 1) (Nat.le_of_eq hsz1.symm)
 rw [hsz1] at HO0
 have hc0 : ((w.alloc (.cells #[v0, .slice B1 cols.length d1, v2, v3, v4, v5] 82)).alloc (.cells #[] 34)).cell? ⟨w.heap.size, 1, none⟩ = some (.slice B1 cols.length d1) := by
  rw [World.cell?_of_block (w := w.alloc (.cells #[v0, .slice B1 cols.length d1, v2, v3, v4, v5] 82)) (Below.heap_alloc _ _ _ (by simp)), World.cell?_alloc_new]
  rfl
 have HOO := Lib.hid (show OwnW ((w.alloc (.cells #[v0, .slice B1 cols.length d1, v2, v3, v4, v5] 82)).alloc (.cells #[] 34)) (w.heap.size + 1) (.slice (some ⟨w.heap.size + 1, 0, none⟩) 0 0) [] from HO0)
 clear HO0 hsz1
 have H0 := Lib.hid h
 have HS1 := Lib.hid h1
 have HBB := Lib.hid hb0
 have HRR := Lib.hid hr0
 clear h h1 hb0 hr0
 go_enter Tryz.func83, Tryz.ntmps83
 go_wp2_with fail
 generalize (w.alloc (.cells #[v0, .slice B1 cols.length d1, v2, v3, v4, v5] 82)).alloc (.cells #[] 34) = z0 at *
 go_loopw [5, 6] (fun v i wr => ∃ (k : Nat) (xs : List Vl), i = .int .i64 k ∧ Hid (k ≤ cols.length ∧ xs.length = k ∧ ∀ x ∈ xs, okV x.k x.n x.s) ∧ Hid (OwnW wr (w.heap.size + 1) v xs) ∧ Hid (But R w wr) ∧ Hid (Rdr wr R a len cap zs) ∧ wr.cell? ⟨w.heap.size, 1, none⟩ = some (.slice B1 cols.length d1)) (fun _ i _ => cols.length - (intOf i).toNat)
 case atStart => exact ⟨0, [], rfl, Lib.hid ⟨by omega, rfl, fun x hx => by cases hx⟩, HOO, HBB, HRR, hc0⟩
 case round =>
  clear hc0 HOO HBB HRR
  obtain ⟨k, xs, rfl, hk, hown, hb, hr, hc⟩ := hrel
  by_cases hlt : k < cols.length
  ·go_wp2_with fail
   refine (rdBelow 5 _ R a len cap zs hr.out).mono ?_
   rintro e w1 ⟨v1, rfl, ⟨y, rfl, y0, y1⟩, hb1, hr1⟩
   go_wp2_with fail
   refine (specInt y _).mono ?_
   rintro e w2 ⟨rfl, o, rfl⟩
   have hq1 := (hb1.alloc o).alloc (.cells #[.int .i64 1, .int .i64 y, .string ⟨#[]⟩] 34)
   have HF := Lib.hid (show FB w ((w1.alloc o).alloc (.cells #[.int .i64 1, .int .i64 y, .string ⟨#[]⟩] 34)) R a len cap zs (.slice B1 cols.length d1) (w1.alloc o).heap.size _ xs from
    ⟨⟨1, y, ⟨#[]⟩, Blk.new (w1.alloc o) 1 y ⟨#[]⟩, okV_int (by omega) (by omega)⟩, OwnG.but hown.out hq1 (by omega), hb.out.trans hq1, (hr1.alloc _).alloc _, (hq1.cell (cell_lt hc) (by show w.heap.size ≠ R; omega)).trans hc⟩)
   have hbx : w.heap.size < (w1.alloc o).heap.size := Nat.lt_of_lt_of_le (cell_lt hc) (Nat.le_trans hb1.size (by simp))
   have hnb : ∀ g, Value.ownBlock _ = some g → g ≠ (w1.alloc o).heap.size := fun g hg => by have h2 := (OwnG.block_lt hown.out g hg).2; have h3 : wr.heap.size ≤ (w1.alloc o).heap.size := Nat.le_trans hb1.size (by simp); omega
   have HNB := Lib.hid hnb
   have hbxR : (w1.alloc o).heap.size ≠ R := by omega
   have hc1 := HF.out.2.2.2.2
   have HC := Lib.hid ((HS1.out.butY ClR.stays hb.out hok).butY ClR.stays hq1 hok)
   obtain ⟨b, off, -, rfl, -, q1, -, -, -, -⟩ := ClR.at_ HC.out hlt
   have i0' : (0 : Int) ≤ k := by omega
   have i1' : (k : Int) < cols.length := by omega
   have HBX := Lib.hid hbx
   rw [show (w1.alloc o).heap.size = w1.heap.size + 1 by simp] at HF HNB HBX hbxR
   have hbx := HBX.out
   clear hb1 hr1 hq1 hc hnb HC HBX
   obtain ⟨bx, ebx⟩ : ∃ bx, w1.heap.size + 1 = bx := ⟨_, rfl⟩
   rw [ebx] at HF HNB hbxR hbx
   go_upto_if 25 with (fail)
   clear ebx
   generalize (w1.alloc o).alloc (.cells #[.int .i64 1, .int .i64 y, .string ⟨#[]⟩] 34) = w3 at *
   generalize (cols[k].kind == 2) = bk
   go_cut [] from 26 to 42 (fun wx => FB w wx R a len cap zs (.slice (some ⟨b, off, none⟩) cols.length d1) bx u5 xs)
   case first =>
    cases bk
    ·go_wp2_with fail
     go_meet
     case rel => exact HF.out
    ·have hsz3 : bx < w3.heap.size := HF.out.1.choose_spec.choose_spec.choose_spec.1.lt
     go_wp2_with fail
     refine (rdBelow 3 _ R a len cap zs (HF.out.rdr.alloc (.cells #[.string ⟨#[]⟩, .string ⟨#[97]⟩, .string ⟨#[98]⟩] 9))).mono ?_
     rintro e w4 ⟨v4, rfl, ⟨y4, rfl, q0, q1'⟩, hb4, hr4⟩
     obtain ⟨j, rfl, j6, t, j0, j1, ht, hjc⟩ : ∃ j : Nat, y4 = j ∧ j < 3 ∧ ∃ t : ByteArray, (0 : Int) ≤ j ∧ (j : Int) < 3 ∧ t.size ≤ 12 ∧ (#[.string ⟨#[]⟩, .string ⟨#[97]⟩, .string ⟨#[98]⟩] : Array Value)[j]? = some (.string t) := by
      have : y4 = 0 ∨ y4 = 1 ∨ y4 = 2 := by omega
      rcases this with rfl | rfl | rfl
      ·exact ⟨0, rfl, by omega, _, by omega, by omega, by decide, rfl⟩
      ·exact ⟨1, rfl, by omega, _, by omega, by omega, by decide, rfl⟩
      ·exact ⟨2, rfl, by omega, _, by omega, by omega, by decide, rfl⟩
     have c0 := (new_cell hb4 (Nat.lt_of_lt_of_le hR (Nat.le_trans HF.out.2.2.1.size (Nat.le_refl _))) j (by simpa using j6)).trans (row_at hjc)
     have HF4 := Lib.hid (HF.out.but (((But.refl R w3).alloc _).trans hb4) hr4 hR hbxR)
     clear hb4 hr4 hjc
     go_wp2_with fail
     refine (specStr t _).mono ?_
     rintro e w5 ⟨rfl, o5, rfl⟩
     have HF5 := Lib.hid (HF4.out.but ((But.refl R w4).alloc o5) (HF4.out.rdr.alloc o5) hR hbxR)
     obtain ⟨k5, n5, s5, hv5, ⟨r0, r1, r2⟩, ⟨f0, f1, f2⟩⟩ := HF5.out.cells
     clear hv5 HF4 c0
     go_wp2_with fail
     go_meet
     case rel => exact HF5.out.store H0.out hbx HNB.out (okV_str ht)
   case rest =>
    have HF2 := Lib.hid hcut
    clear hcut HF q1
    go_wp2_with fail
    refine (rdOnce 8 _ R a len cap zs HF2.out.rdr).mono ?_
    rintro e y1 ⟨v, rfl, ⟨b8, rfl⟩, hb1, hr1⟩
    have HF3 := Lib.hid (HF2.out.but hb1 hr1 hR hbxR)
    clear HF2 hb1 hr1
    go_upto_if 33 with (fail)
    go_cut [] from 34 to 42 (fun wx => FB w wx R a len cap zs (.slice (some ⟨b, off, none⟩) cols.length d1) bx u5 xs)
    case first =>
     cases b8
     ·go_wp2_with fail
      go_meet
      case rel => exact HF3.out
     ·obtain ⟨k5, n5, s5, hv5, ⟨r0, r1, r2⟩, ⟨f0, f1, f2⟩⟩ := HF3.out.cells
      clear hv5
      go_wp2_with fail
      go_meet
      case rel => exact HF3.out.store H0.out hbx HNB.out okV_null
    case rest =>
     have HF4 := Lib.hid hcut
     clear hcut HF3
     go_wp2_with fail
     refine (rdOnce 60 _ R a len cap zs HF4.out.rdr).mono ?_
     rintro e y2 ⟨v, rfl, ⟨b9, rfl⟩, hb1, hr1⟩
     have HF5 := Lib.hid (HF4.out.but hb1 hr1 hR hbxR)
     clear HF4 hb1 hr1
     go_upto_if 36 with (fail)
     go_cut [] from 37 to 42 (fun wx => FB w wx R a len cap zs (.slice (some ⟨b, off, none⟩) cols.length d1) bx u5 xs)
     case first =>
      cases b9
      ·go_wp2_with fail
       go_meet
       case rel => exact HF5.out
      ·go_wp2_with fail
       refine (rdVal _ R a len cap zs HF5.out.rdr).mono ?_
       rintro e y3 ⟨v, rfl, ⟨vk, vn, vs, rfl, hv⟩, hb1, hr1⟩
       have HF6 := Lib.hid (HF5.out.but hb1 hr1 hR hbxR)
       clear HF5 hb1 hr1
       obtain ⟨k5, n5, s5, hv5, ⟨r0, r1, r2⟩, ⟨f0, f1, f2⟩⟩ := HF6.out.cells
       clear hv5
       go_wp2_with fail
       go_meet
       case rel => exact HF6.out.store H0.out hbx HNB.out hv
     case rest =>
      have HF6 := Lib.hid hcut
      clear hcut HF5
      obtain ⟨vk, vn, vs, hv, ⟨r0, r1, r2⟩, -⟩ := HF6.out.cells
      have HOZ := Lib.hid HF6.out.2.1
      have HBZ := Lib.hid HF6.out.2.2.1
      have HRZ := Lib.hid HF6.out.rdr
      have HCZ := Lib.hid HF6.out.2.2.2.2
      have HKN := Lib.hid (show k + 1 ≤ cols.length ∧ (xs ++ [(⟨vk, vn, vs⟩ : Vl)]).length = k + 1 ∧ ∀ x ∈ xs ++ [(⟨vk, vn, vs⟩ : Vl)], okV x.k x.n x.s from
       ⟨by omega, by rw [List.length_append, hk.out.2.1]; rfl, fun x hx => by
        rcases List.mem_append.1 hx with hx | hx
        ·exact hk.out.2.2 x hx
        ·rw [List.mem_singleton.1 hx]; exact hv⟩)
      have HXL := Lib.hid (show xs.length ≤ 1000 by have := hk.out; omega)
      have HSZ := Lib.hid (show w.heap.size + 1 ≤ wc.heap.size from cell_lt HCZ.out)
      clear hv HF6
      go_wp2_with (at_builtin; refine wpList_append_own _ rfl _ _ 42 rfl (w.heap.size + 1) 34 i0 (.agg #[.int .i64 0, .int .i64 0, .string ⟨#[]⟩]) 3 32 Tryz.underlying42 H1.out H2.out H3.out H4.out rfl (by decide) _ _ _ rfl (World.ownsRow.alloc HOZ.out _) ⟨_, 0, none⟩ 1 1 (Vl.cells ⟨vk, vn, vs⟩) rfl rfl ?c1 ?c2 ?c3 ?c4 ?c5 ?_)
      case c1 => exact cells_newAt _ (Vl.cells _) _ (by simp)
      case c2 => intro u hu; simp [Vl.cells] at hu; rcases hu with rfl | rfl | rfl <;> rfl
      case c3 => have := HXL.out; unfold maxLen; omega
      case c4 => have := HXL.out; omega
      case c5 => have := HSZ.out; simp; omega
      intro v9 w9 hown9 hgrow9 _
      have hq : ∀ g, Value.ownBlock _ = some g → w.heap.size ≤ g := fun g hg => by have := (OwnG.block_lt HOZ.out g hg).1; omega
      have hqn : some w.heap.size ≠ Value.ownBlock _ := fun e => by have := (OwnG.block_lt HOZ.out w.heap.size e.symm).1; omega
      have R9 := Lib.hid (OwnG.app HOZ.out HSZ.out hown9 hgrow9)
      have R9W := Lib.hid (show OwnW w9 (w.heap.size + 1) v9 (xs ++ [(⟨vk, vn, vs⟩ : Vl)]) from R9.out.1)
      have HB9 := Lib.hid ((HBZ.out.alloc _).grown hgrow9 hq)
      have HR9 := Lib.hid (H0.out.grown (HRZ.out.alloc _) (HBZ.out.alloc _) hgrow9 hq)
      have hc9 := (hgrow9.cell ((World.cell?_of_block (w := wc) (Below.heap_alloc _ _ _ (cell_lt HCZ.out))).trans HCZ.out) hqn)
      clear hown9 hgrow9 hq hqn HOZ
      go_wp2_with fail
      go_roundw
      case rel => exact ⟨k + 1, xs ++ [(⟨vk, vn, vs⟩ : Vl)], by go_num, HKN, R9W, HB9, HR9, hc9⟩
      case measure => simp [intOf]; omega
  ·go_wp2_with fail
   go_ret
   have hkl : k = cols.length := by have := hk.out.1; omega
   exact ⟨_, rfl, ⟨xs, OwnG.mono hown.out (by omega), by have := hk.out.2.1; omega, hk.out.2.2⟩, hb.out, hr.out⟩
theorem infoRowR : (Tryz.prog.info? 57).map (fun i => (i.zero, i.size, i.bytes)) = some (some (.agg #[.int .i64 0, .slice none 0 0]), 2, 32) := by kernel_rfl
theorem infoDataR : (Tryz.prog.info? 55).map (fun i => (i.zero, i.size, i.bytes)) = some (some (.agg #[.slice none 0 0]), 1, 24) := by kernel_rfl
def rowC (vs : List Value) (rs : List Rw) : List Value := (List.zipWith (fun v (r : Rw) => [.int .i64 r.id, v]) vs rs).flatten
structure OwnR0 (w : World) (base : Nat) (v : Value) (rs : List Rw) (vs : List Value) : Prop where
 len : vs.length = rs.length
 row : w.ownsRow base 57 2 v rs.length (rowC vs rs)
 val : ∀ i (h : i < rs.length) (h' : i < vs.length), OwnW w base vs[i] rs[i].vals
def OwnR (w : World) (base : Nat) (v : Value) (rs : List Rw) : Prop := ∃ vs, OwnR0 w base v rs vs
theorem OwnR.nil (w : World) (base : Nat) : OwnR w base (.slice none 0 0) [] := ⟨[], rfl, World.ownsRow_nil _ _ _ _, fun i h => by simp at h⟩
theorem OwnR.lt {w : World} {base : Nat} {v : Value} {rs : List Rw} (h : OwnR w base v rs) : ∀ k, v.ownBlock = some k → base ≤ k ∧ k < w.heap.size := by
 obtain ⟨vs, h⟩ := h
 exact World.ownsRow.lt h.row
theorem OwnR.rows {w : World} {base : Nat} {v : Value} {rs : List Rw} (h : OwnR w base v rs) : ∀ k, v.ownBlock = some k → ∃ cur, w.heap[k]? = some (.cells cur 57) := fun k hk => by
 obtain ⟨vs, h⟩ := h
 rcases h.row.2 with ⟨rfl, -⟩ | ⟨g, cap, cur, rfl, h1, h2, -⟩
 ·cases hk
 ·cases hk; exact ⟨cur, h2⟩
theorem OwnW.ne {w : World} {base k : Nat} {v : Value} {xs : List Vl} (h : OwnW w base v xs) {T : TypeId} (hk : ∃ cur, w.heap[k]? = some (.cells cur T)) (hT : T ≠ 34) : v.ownBlock ≠ some k := fun e => by
 obtain ⟨cur, hk⟩ := hk
 rcases h.2 with ⟨rfl, -⟩ | ⟨g, cap, cur', rfl, h1, h2, -⟩
 ·cases e
 ·cases e
  rw [hk] at h2
  simp only [Option.some.injEq, Obj.cells.injEq] at h2
  exact hT h2.2.1
theorem OwnR.kept {w w' : World} {base : Nat} {v : Value} {rs : List Rw} {row : Option Nat} (h : OwnR w base v rs) (hg : w.grownBy w' row) (h1 : v.ownBlock = none ∨ v.ownBlock ≠ row) (h2 : ∀ k, row = some k → ∃ cur T, w.heap[k]? = some (.cells cur T) ∧ T ≠ 34) : OwnR w' base v rs := by
 obtain ⟨vs, h⟩ := h
 refine ⟨vs, h.len, World.ownsRow.kept h.row hg h1, fun i hi hi' => World.ownsRow.kept (h.val i hi hi') hg ?_⟩
 cases row with
 | none => cases hv : vs[i].ownBlock with
  | none => exact .inl rfl
  | some k => exact .inr (by simp)
 | some k =>
  obtain ⟨cur, T, k1, k2⟩ := h2 k rfl
  exact .inr ((h.val i hi hi').ne ⟨cur, k1⟩ k2)
theorem grownBy_set {w : World} {p : Addr} {v : Value} : w.grownBy (w.setCell p v) (some p.block) :=
 ⟨rfl, rfl, rfl, by simp [World.setCell], fun k hk hn => Below.heap_setCell _ _ _ _ (fun e => hn (by rw [e]))⟩
theorem OwnR0.app {w w' : World} {base : Nat} {v v' k : Value} {rs : List Rw} {vs : List Value} {x : Rw} (h : OwnR0 w base v rs vs) (hk : OwnW w base k x.vals)
  (h' : w'.ownsRow base 57 2 v' (rs.length + 1) (rowC vs rs ++ [.int .i64 x.id, k])) (hg : w.grownBy w' v.ownBlock) : OwnR w' base v' (rs ++ [x]) := by
 have hz : rowC (vs ++ [k]) (rs ++ [x]) = rowC vs rs ++ [.int .i64 x.id, k] := by
  unfold rowC
  rw [List.zipWith_append h.len]
  simp
 have hr : ∀ b, v.ownBlock = some b → ∃ cur, w.heap[b]? = some (.cells cur 57) := OwnR.rows ⟨vs, h⟩
 have hkk : ∀ (u : Value) (xs : List Vl), OwnW w base u xs → OwnW w' base u xs := fun u xs hu => World.ownsRow.kept hu hg (by
  cases hv : v.ownBlock with
  | none => cases hu' : u.ownBlock with
   | none => exact .inl rfl
   | some b => exact .inr (by simp)
  | some b => exact .inr (hu.ne (hr b hv) (by decide)))
 refine ⟨vs ++ [k], by simp [h.len], by rw [List.length_append, hz]; exact h', fun i hi hi' => ?_⟩
 by_cases e : i < rs.length
 ·have e' : i < vs.length := by rw [h.len]; exact e
  rw [List.getElem_append_left e, List.getElem_append_left e']
  exact hkk _ _ (h.val i e e')
 ·simp only [List.length_append, List.length_cons, List.length_nil] at hi
  obtain rfl : i = rs.length := by omega
  rw [List.getElem_append_right (Nat.le_refl _), List.getElem_append_right (Nat.le_of_eq h.len)]
  simpa using hkk _ _ hk
theorem rowC_at (vs : List Value) (rs : List Rw) (hl : vs.length = rs.length) (i : Nat) (hi : i < rs.length) (hi' : i < vs.length) (t : Nat) (ht : t < 2) : (rowC vs rs)[i * 2 + t]? = [.int .i64 rs[i].id, vs[i]][t]? := by
 unfold rowC
 rw [flat_get (sz := 2) _ i t (by rw [List.length_zipWith]; omega) ht (fun c hc => by
  obtain ⟨j, hj, rfl⟩ := List.mem_iff_getElem.1 hc
  rw [List.getElem_zipWith]; rfl), List.getElem_zipWith]
theorem OwnR.sl {w : World} {base : Nat} {v : Value} {rs : List Rw} (h : OwnR w base v rs) : ∃ A c, v = .slice A rs.length c ∧ rs.length ≤ c ∧ c ≤ maxLen ∧ Sl RwR 2 (okF base w) w A rs.length rs := by
 obtain ⟨vs, h⟩ := h
 rcases h.row.2 with ⟨rfl, hn⟩ | ⟨g, cap, cur, rfl, h1, h2, h3, h4, h5, h6⟩
 ·have e : rs = [] := List.length_eq_zero_iff.1 hn
  subst e
  exact ⟨none, 0, rfl, Nat.le_refl _, by simp [maxLen], rfl, fun hn => by simp at hn⟩
 ·refine ⟨_, cap, rfl, h3, h4, rfl, fun hn => ⟨g, 0, rfl, ⟨h1, lt_of_block h2, fun off => by simp [World.frozen?, h2]⟩, fun i hi => ?_⟩⟩
  have hi' : i < vs.length := by rw [h.len]; exact hi
  obtain ⟨A', c', e, k1, k2, k3⟩ := OwnG.sl (f := Vl.cells) (sz := 3) (fun _ => rfl) (h.val i hi hi')
  refine ⟨[.int .i64 rs[i].id, vs[i]], rfl, ⟨A', rs[i].vals.length, c', by rw [e], k3, k1⟩, fun t u hu => ?_⟩
  have ht : t < 2 := by have := (List.getElem?_eq_some_iff.1 hu).1; simpa using this
  have h7 := rowC_at vs rs h.len i hi hi' t ht
  rw [hu, ← h6, List.getElem?_take, if_pos (by omega)] at h7
  rw [cell_of_row _ _ _ _ _ _ h2, Nat.zero_add, ← Array.getElem?_toList]
  exact h7
structure DbY (w : World) (base g : Nat) (vs : List Value) (ds : List Dt) : Prop where
 blo : Blo w g vs 55
 len : vs.length = ds.length
 low : base ≤ g
 own : ∀ i (h : i < ds.length) (h' : i < vs.length), OwnR w base vs[i] ds[i].rows
 apart : ∀ i j (h : i < vs.length) (h' : j < vs.length), i ≠ j → vs[i].ownBlock = none ∨ vs[i].ownBlock ≠ vs[j].ownBlock
theorem DbY.sl {w : World} {base g : Nat} {vs : List Value} {ds : List Dt} (h : DbY w base g vs ds) : Sl DtR 1 (okF base w) w (some ⟨g, 0, none⟩) ds.length ds := by
 refine ⟨rfl, fun hn => ⟨g, 0, rfl, okF_blo h.low h.blo, fun i hi => ?_⟩⟩
 have hi' : i < vs.length := by rw [h.len]; exact hi
 obtain ⟨A, c, e, k1, k2, k3⟩ := (h.own i hi hi').sl
 refine ⟨[vs[i]], rfl, ⟨A, _, c, by rw [e], k3, k1⟩, fun t u hu => ?_⟩
 have ht : t = 0 := by have := (List.getElem?_eq_some_iff.1 hu).1; simpa using this
 subst ht
 rw [Nat.zero_add, Nat.mul_one, Nat.add_zero]
 exact h.blo.cell i u (by rw [← hu]; simp [hi'])
theorem DbY.new (w : World) (n : Nat) {base : Nat} (hb : base ≤ w.heap.size) : DbY (w.alloc (.cells (List.replicate n (Value.slice none 0 0)).toArray 55)) base w.heap.size (List.replicate n (.slice none 0 0)) (List.replicate n ⟨[]⟩) := by
 refine ⟨Blo.new w _ _, by simp, hb, fun i hi hi' => ?_, fun i j hi hj hij => ?_⟩
 ·rw [List.getElem_replicate, List.getElem_replicate]; exact OwnR.nil _ _
 ·rw [List.getElem_replicate]; exact .inl rfl
end Go.Proofs.YtciaidjmehelpaaGreat
namespace Go.Proofs.YtciaidjmehelpaaGreat
open Go.RowKit
def schOk (ts : List Tb) : Prop := 1 ≤ ts.length ∧ ts.length ≤ 3 ∧ ∀ t ∈ ts, t.sz ≤ 61 ∧ 2 ≤ t.cols.length
theorem TabY.cols2 {base : Nat} {w : World} {gc : Nat} {cs : List Value} {t : Tb} (h : TabY base w gc cs t) : 2 ≤ t.cols.length := by
 obtain ⟨n1, _, _, _, _, _, _, _, _, _, _, _, _, _, _, _, hn, hp, _⟩ := h
 omega
theorem isSch.full {base : Nat} {v : Value} {w : World} (h : isSch base 61 v w) : ∃ (A : Option Addr) (c : Nat) (ts : List Tb), v = .slice A ts.length c ∧ ts.length ≤ c ∧ Sl TbR 6 (okF base w) w A ts.length ts ∧ schOk ts := by
 obtain ⟨xs, hs, h0, h1, h2⟩ := h
 obtain ⟨A, c, rfl, hc, -, hsl⟩ := hs.sl
 refine ⟨A, c, xs.map (·.2.2), by rw [List.length_map], by rw [List.length_map]; exact hc, by rw [List.length_map]; exact hsl, by rw [List.length_map]; omega, by rw [List.length_map]; omega, fun t ht => ?_⟩
 obtain ⟨x, hx, rfl⟩ := List.mem_map.1 ht
 exact ⟨h2 x hx, (hs.2.2 x hx).cols2⟩
theorem schOk.sz {ts : List Tb} (h : schOk ts) : szL Tb.sz ts ≤ 1000 := by
 have := szL_le Tb.sz 61 ts fun t ht => (h.2.2 t ht).1
 have h2 := Nat.mul_le_mul_right 61 h.2.1
 have := h.2.1
 omega
theorem cols_le (t : Tb) : t.cols.length ≤ t.sz := by
 have h2 : t.cols.length ≤ szL Cl.sz t.cols := by unfold szL; omega
 unfold Tb.sz; omega
theorem okV_le {k n : Int} {s : ByteArray} (h : okV k n s) : s.size ≤ 12 := by
 rcases h with ⟨-, -, rfl⟩ | ⟨-, -, -, rfl⟩ | ⟨-, -, h⟩
 ·decide
 ·decide
 ·exact h
theorem okF.weak {α : Type} {Rr : Rd α} (hR : Stays Rr) {sz base base' : Nat} {w w' : World} {A : Option Addr} {n : Nat} {ds : List α} (h : Sl Rr sz (okF base' w) w' A n ds) (hb : base ≤ base') : Sl Rr sz (fun b => base ≤ b) w' A n ds :=
 h.stays hR (fun b hb' => Nat.le_trans hb hb'.1) fun _ _ _ h => h
end Go.Proofs.YtciaidjmehelpaaGreat
namespace Go.Proofs.YtciaidjmehelpaaGreat
open Go.RowKit
def Lows {α : Type} (R : Rd α) : Prop := ∀ (ok : Nat → Prop) (w : World) (cs : List Value) (d : α), R ok w cs d → R (fun b => b < w.heap.size) w cs d
theorem Sl.lows {α : Type} {R : Rd α} (hR : Lows R) {sz : Nat} (hz : 0 < sz) {ok : Nat → Prop} {w : World} {A : Option Addr} {n : Nat} {ds : List α} (h : Sl R sz ok w A n ds) : Sl R sz (fun b => b < w.heap.size) w A n ds :=
 ⟨h.1, fun hn => by
  obtain ⟨b, off, e, hb, hi⟩ := h.2 hn
  refine ⟨b, off, e, ?_, fun i hlt => ?_⟩
  ·obtain ⟨cs, h1, h2, h3⟩ := hi 0 (by have := h.1; omega)
   exact cell_lt (h3 0 _ (List.getElem?_eq_getElem (by omega)))
  ·obtain ⟨cs, h1, h2, h3⟩ := hi i hlt
   exact ⟨cs, h1, hR _ _ _ _ h2, h3⟩⟩
theorem FlatR.lows {α : Type} (f : α → List Value) : Lows (FlatR f) := fun _ _ _ _ h => h
theorem RwR.lows : Lows RwR := fun _ _ _ _ ⟨A0, n0, c0, e, h0, hcp⟩ => ⟨A0, n0, c0, e, h0.lows (FlatR.lows _) (by omega), hcp⟩
theorem DtR.lows : Lows DtR := fun _ _ _ _ ⟨A0, n0, c0, e, h0, hcp⟩ => ⟨A0, n0, c0, e, h0.lows RwR.lows (by omega), hcp⟩
theorem Sl.low {α : Type} {R : Rd α} (hR : Stays R) {sz n0 : Nat} {w W : World} {A : Option Addr} {n : Nat} {ds : List α} (h : Sl R sz (fun b => b < n0) w A n ds) (hb : Below n0 w W) : Sl R sz (fun b => b < n0) W A n ds :=
 h.stays hR (fun _ h => h) fun p v hp hc => (hb.cell hp).trans hc
structure RowsS (w : World) (base low : Nat) (v : Value) (rs : List Rw) (xss : List (List Value)) : Prop where
 len : xss.length = rs.length
 two : ∀ c ∈ xss, c.length = 2
 row : w.ownsRow base 57 2 v rs.length xss.flatten
 val : ∀ i (h : i < rs.length) (h' : i < xss.length), RwR (fun b => b < low) w xss[i] rs[i]
theorem RowsS.lit (w : World) {base : Nat} (low : Nat) (hb : base ≤ w.heap.size) : RowsS (w.alloc (.cells #[] 57)) base low (.slice (some ⟨w.heap.size, 0, none⟩) 0 0) [] [] :=
 ⟨rfl, fun c hc => by simp at hc, ⟨rfl, .inr ⟨w.heap.size, 0, #[], rfl, hb, Go.heap_alloc_last w _, Nat.le_refl _, by simp [maxLen], rfl, rfl⟩⟩, fun i h => by simp at h⟩
theorem RwR.low {n0 : Nat} {w W : World} {cs : List Value} {x : Rw} (h : RwR (fun b => b < n0) w cs x) (hb : Below n0 w W) : RwR (fun b => b < n0) W cs x :=
 RwR.stays _ _ _ _ _ _ h (fun _ h => h) fun p v hp hc => (hb.cell hp).trans hc
theorem RowsS.app {w w' : World} {base low : Nat} {v v' : Value} {rs : List Rw} {xss : List (List Value)} {x : Rw} {A : Option Addr} {n c : Nat} {o : Obj} (h : RowsS w base low v rs xss) (hlow : low ≤ base) (hx : Sl VlR 3 (fun b => b < low) w A n x.vals) (hc : n ≤ c) (hb : base ≤ w.heap.size)
  (h' : w'.ownsRow base 57 2 v' (rs.length + 1) (xss.flatten ++ [.int .i64 x.id, .slice A n c])) (hg : (w.alloc o).grownBy w' v.ownBlock) : RowsS w' base low v' (rs ++ [x]) (xss ++ [[.int .i64 x.id, .slice A n c]]) ∧ Below base w w' := by
 have hbw : Below base w w' := ((Below.refl base w).alloc hb o).grown hg (by simp; omega) fun k hk => (World.ownsRow.lt h.row k hk).1
 refine ⟨⟨by simp [h.len], fun d hd => ?_, ?_, fun i hi hi' => ?_⟩, hbw⟩
 ·rcases List.mem_append.1 hd with hd | hd
  ·exact h.two d hd
  ·rw [List.mem_singleton.1 hd]; rfl
 ·rw [List.length_append, List.flatten_append]
  simpa using h'
 ·by_cases e : i < rs.length
  ·have e' : i < xss.length := by rw [h.len]; exact e
   rw [List.getElem_append_left e, List.getElem_append_left e']
   exact (h.val i e e').low (hbw.mono hlow)
  ·simp only [List.length_append, List.length_cons, List.length_nil] at hi
   obtain rfl : i = rs.length := by omega
   rw [List.getElem_append_right (Nat.le_refl _), List.getElem_append_right (Nat.le_of_eq h.len)]
   refine RwR.low ?_ (hbw.mono hlow)
   refine ⟨A, n, c, ?_, ?_, hc⟩
   ·simp [h.len]
   ·simpa using hx
theorem RowsS.sl {w : World} {base low : Nat} {v : Value} {rs : List Rw} {xss : List (List Value)} (h : RowsS w base low v rs xss) : ∃ A c, v = .slice A rs.length c ∧ rs.length ≤ c ∧ c ≤ maxLen ∧ Sl RwR 2 (fun b => base ≤ b ∨ b < low) w A rs.length rs := by
 rcases h.row.2 with ⟨rfl, hn⟩ | ⟨g, cap, cur, rfl, h1, h2, h3, h4, h5, h6⟩
 ·have e : rs = [] := List.length_eq_zero_iff.1 hn
  subst e
  exact ⟨none, 0, rfl, Nat.le_refl _, by simp [maxLen], rfl, fun hn => by simp at hn⟩
 ·refine ⟨_, cap, rfl, h3, h4, rfl, fun hn => ⟨g, 0, rfl, .inl h1, fun i hi => ?_⟩⟩
  have hi' : i < xss.length := by rw [h.len]; exact hi
  refine ⟨xss[i], h.two _ (List.getElem_mem hi'), RwR.stays _ _ _ _ _ _ (h.val i hi hi') (fun _ h => .inr h) (fun _ _ _ h => h), fun t u hu => ?_⟩
  have ht : t < 2 := by have := (List.getElem?_eq_some_iff.1 hu).1; rw [h.two _ (List.getElem_mem hi')] at this; exact this
  have h7 := flat_get (sz := 2) xss i t hi' ht h.two
  rw [hu, ← h6, List.getElem?_take, if_pos (by omega)] at h7
  rw [cell_of_row _ _ _ _ _ _ h2, Nat.zero_add, ← Array.getElem?_toList]
  exact h7
set_option maxRecDepth 100000 in
set_option maxHeartbeats 2000000 in
theorem specL4Put (AL AX : Option Addr) (nL cL nX cX : Nat) (rows : List Rw) (x : Rw) (okr okx : Nat → Prop) (w : World) (hr : Sl RwR 2 okr w AL nL rows) (hx : Sl VlR 3 okx w AX nX x.vals) (hxc : nX ≤ cX) (hn : nL ≤ 1000000) (hid : ∀ r ∈ rows, r.id < x.id) :
  Calls Tryz.prog 143 #[.agg #[.slice AL nL cL], .agg #[.int .i64 x.id, .slice AX nX cX]] w fun e w' => (∃ A c, e = .returned (.agg #[.slice A (rows ++ [x]).length c]) ∧ (rows ++ [x]).length ≤ c ∧ Sl RwR 2 (fun _ => True) w' A (rows ++ [x]).length (rows ++ [x])) ∧ Below w.heap.size w w' := by
 obtain rfl : rows.length = nL := hr.1
 obtain rfl : x.vals.length = nX := hx.1
 obtain ⟨i0, hi, hz0, hz1, hz2⟩ := info_parts infoRowR
 have I1 := Lib.hid hi
 have I2 := Lib.hid hz0
 have I3 := Lib.hid hz1
 have I4 := Lib.hid hz2
 have HID := Lib.hid hid
 have HI := Lib.hid (show (Tryz.prog.info? 55).map (·.size) = some 1 by kernel_rfl)
 clear hi hz0 hz1 hz2 hid
 have hz : Below w.heap.size w (((w.alloc (.cells #[.slice AL rows.length cL] 55)).alloc (.cells #[.int .i64 x.id, .slice AX x.vals.length cX] 57)).alloc (.cells #[.slice none 0 0] 55)) := (((Below.refl w.heap.size w).alloc (Nat.le_refl _) _).alloc (by simp) _).alloc (by simp; omega) _
 have rd := ((Row.new w 55 #[.slice AL rows.length cL]).alloc (.cells #[.int .i64 x.id, .slice AX x.vals.length cX] 57)).alloc (.cells #[.slice none 0 0] 55)
 have rx := (Row.newAt (w.alloc (.cells #[.slice AL rows.length cL] 55)) 57 #[.int .i64 x.id, .slice AX x.vals.length cX] (w.heap.size + 1) (by simp)).alloc (.cells #[.slice none 0 0] 55)
 have ra := Row.newAt ((w.alloc (.cells #[.slice AL rows.length cL] 55)).alloc (.cells #[.int .i64 x.id, .slice AX x.vals.length cX] 57)) 55 #[.slice none 0 0] (w.heap.size + 2) (by simp)
 go_enter Tryz.func143, Tryz.ntmps143
 have hz3 : (((w.alloc (.cells #[.slice AL rows.length cL] 55)).alloc (.cells #[.int .i64 x.id, .slice AX x.vals.length cX] 57)).alloc (.cells #[.slice none 0 0] 55)).heap.size = w.heap.size + 3 := by simp
 have HZ3 := Lib.hid hz3
 clear hz3
 go_upto_region 1 with fail
 generalize ((w.alloc (.cells #[.slice AL rows.length cL] 55)).alloc (.cells #[.int .i64 x.id, .slice AX x.vals.length cX] 57)).alloc (.cells #[.slice none 0 0] 55) = z at *
 have HR := Lib.hid ((hr.lows RwR.lows (by omega)).low RwR.stays hz)
 have HX := Lib.hid ((hx.lows (FlatR.lows _) (by omega)).low VlR.stays hz)
 have HO := Lib.hid (RowsS.lit z w.heap.size (Nat.le_refl _))
 have hb0 := (Below.refl z.heap.size z).alloc (Nat.le_refl _) (.cells #[] 57)
 have HZ := Lib.hid hz
 have HZS := Lib.hid hz.size
 clear hr hx hz
 go_wp2_with fail
 go_loopw [5, 6, 7] (fun v dn iv wr => ∃ k : Nat, k ≤ rows.length ∧ iv = .int .i64 k ∧ dn = .bool false ∧ Hid (∃ xss, RowsS wr z.heap.size w.heap.size v (rows.take k) xss) ∧ Below z.heap.size z wr) (fun _ _ iv _ => rows.length - (intOf iv).toNat)
 case atStart => exact ⟨0, by omega, rfl, rfl, Lib.hid ⟨_, by simpa using HO.out⟩, hb0⟩
 case round =>
  clear HO hb0
  obtain ⟨k, hk, rfl, rfl, hown, hb⟩ := hrel
  obtain ⟨c0, -⟩ := (rd.below hb).all1
  obtain ⟨⟨d0, d1⟩, -⟩ := (rx.below hb).all2
  obtain ⟨xss, hown⟩ := hown.out
  have HOW := Lib.hid hown
  have hkl : (rows.take k).length = k := by rw [List.length_take]; omega
  by_cases hlt : k < rows.length
  ·obtain ⟨b, off, A1, n1, c1, hbk, rfl, q0, q1, hv1, hc1⟩ := RwR.at_ (HR.out.low RwR.stays (hb.mono HZS.out)) hlt
   have i0' : (0 : Int) ≤ k := by omega
   have i1 : (k : Int) < rows.length := by omega
   have hidk := HID.out _ (List.getElem_mem hlt)
   have hd1 : decide (x.id ≤ rows[k].id) = false := by rw [decide_eq_false_iff_not]; omega
   have hd2 : (rows[k].id != x.id) = true := by simp; omega
   have HTK := Lib.hid (show rows.take (k + 1) = rows.take k ++ [rows[k]] from List.take_succ_eq_append_getElem hlt)
   have HV1 := Lib.hid hv1
   clear hown hv1 hidk
   go_wp2_with fail
   go_quiet (fail)
   have hb1 : Below z.heap.size z (wr.drewN nq) := ⟨hb.os, hb.tape, hb.output, hb.size, hb.block⟩
   have HOW1 := Lib.hid (show RowsS (wr.drewN nq) z.heap.size w.heap.size _ (rows.take k) xss from ⟨HOW.out.len, HOW.out.two, HOW.out.row, HOW.out.val⟩)
   have c0 : (wr.drewN nq).cell? ⟨w.heap.size, 0, none⟩ = some (.slice (some ⟨b, off, none⟩) rows.length cL) := c0
   have d0 : (wr.drewN nq).cell? ⟨w.heap.size + 1, 0, none⟩ = some (.int .i64 x.id) := d0
   have q0 : (wr.drewN nq).cell? ⟨b, off + k * 2, none⟩ = some (.int .i64 rows[k].id) := q0
   have q1 : (wr.drewN nq).cell? ⟨b, off + k * 2 + 1, none⟩ = some (.slice A1 n1 c1) := q1
   have HV1 := Lib.hid (show Sl VlR 3 (fun b => b < w.heap.size) (wr.drewN nq) A1 n1 rows[k].vals from HV1.out.stays VlR.stays (fun _ h => h) (fun _ _ _ h => h))
   clear hb HOW d1
   generalize wr.drewN nq = w2 at *
   go_wp2_with fail
   go_quiet (fail)
   have hb2 : Below z.heap.size z (w2.drewN nq) := ⟨hb1.os, hb1.tape, hb1.output, hb1.size, hb1.block⟩
   have HOW2 := Lib.hid (show RowsS (w2.drewN nq) z.heap.size w.heap.size _ (rows.take k) xss from ⟨HOW1.out.len, HOW1.out.two, HOW1.out.row, HOW1.out.val⟩)
   have c0 : (w2.drewN nq).cell? ⟨w.heap.size, 0, none⟩ = some (.slice (some ⟨b, off, none⟩) rows.length cL) := c0
   have q0 : (w2.drewN nq).cell? ⟨b, off + k * 2, none⟩ = some (.int .i64 rows[k].id) := q0
   have q1 : (w2.drewN nq).cell? ⟨b, off + k * 2 + 1, none⟩ = some (.slice A1 n1 c1) := q1
   have HV2 := Lib.hid (show Sl VlR 3 (fun b => b < w.heap.size) (w2.drewN nq) A1 n1 rows[k].vals from HV1.out.stays VlR.stays (fun _ h => h) (fun _ _ _ h => h))
   clear hb1 HOW1 HV1 d0
   generalize w2.drewN nq = w3 at *
   have HKL := Lib.hid hkl
   clear hkl hd1 hd2
   go_wp2_with (at_builtin; refine wpList_append_own _ rfl _ _ 53 rfl z.heap.size 57 i0 (.agg #[.int .i64 0, .slice none 0 0]) 2 32 Tryz.underlying53 I1.out I2.out I3.out I4.out rfl (by decide) _ _ _ rfl (World.ownsRow.alloc HOW2.out.row _) ⟨_, 0, none⟩ 1 1 [.int .i64 rows[k].id, .slice A1 n1 c1] rfl rfl ?c1 ?c2 ?c3 ?c4 ?c5 ?_)
   case c1 => first | exact cells_newAt _ [.int .i64 rows[k].id, .slice A1 n1 c1] _ (by first | rfl | simp) | (intro j u hu; exact hu)
   case c2 => intro u hu; simp at hu; rcases hu with rfl | rfl <;> rfl
   case c3 => have := HKL.out; unfold maxLen; omega
   case c4 => have := HKL.out; omega
   case c5 => have := hb2.size; first | omega | (simp; omega)
   intro v9 w9 hown9 hgrow _
   have R9 := Lib.hid (RowsS.app HOW2.out HZS.out HV2.out hc1 hb2.size (by rw [HKL.out]; exact hown9) hgrow)
   have hb9 := hb2.trans R9.out.2
   clear hown9 hgrow HOW2 HV2
   rw [← HTK.out] at R9
   go_wp2_with fail
   go_roundw
   case rel => exact ⟨k + 1, by omega, by go_num, rfl, Lib.hid ⟨_, R9.out.1⟩, hb9⟩
   case measure => simp [intOf]; omega
  ·obtain rfl : k = rows.length := by omega
   rw [List.take_length] at hown
   have HOW := Lib.hid hown
   have HXV := Lib.hid (HX.out.low VlR.stays (hb.mono HZS.out))
   clear hown hkl
   go_wp2_with (at_builtin; refine wpList_append_own _ rfl _ _ 53 rfl z.heap.size 57 i0 (.agg #[.int .i64 0, .slice none 0 0]) 2 32 Tryz.underlying53 I1.out I2.out I3.out I4.out rfl (by decide) _ _ _ rfl (World.ownsRow.alloc HOW.out.row _) ⟨_, 0, none⟩ 1 1 [.int .i64 x.id, .slice AX x.vals.length cX] rfl rfl ?c1 ?c2 ?c3 ?c4 ?c5 ?_)
   case c1 => first | exact cells_newAt _ [.int .i64 x.id, .slice AX x.vals.length cX] _ (by first | rfl | simp) | (intro j u hu; exact hu)
   case c2 => intro u hu; simp at hu; rcases hu with rfl | rfl <;> rfl
   case c3 => unfold maxLen; omega
   case c4 => omega
   case c5 => have := hb.size; first | omega | (simp; omega)
   intro v9 w9 hown9 hgrow _
   have R9 := Lib.hid (RowsS.app HOW.out HZS.out HXV.out hxc hb.size hown9 hgrow)
   have hb9 := hb.trans R9.out.2
   have HRA9 := Lib.hid (ra.below hb9)
   obtain ⟨AN, cN, rfl, hcN, -, hsN⟩ := R9.out.1.sl
   have HSN := Lib.hid hsN
   have HCN := Lib.hid hcN
   obtain ⟨r0, f0⟩ := HRA9.out.all1
   clear hown9 hgrow HOW HXV hsN hcN c0 d0 d1
   generalize hnn : (rows ++ [x]).length = nn at *
   have HNN := Lib.hid hnn
   clear hnn
   go_wp2_with fail
   have hr9 := HRA9.out.set 0 (.slice AN nn cN)
   refine bodyPost_ret (results_cell_row (p := 4) (ty := 55) rfl _ _ (w.heap.size + 2) 55 #[.slice AN nn cN] (0, 0) _ rfl hr9 Tryz.underlying55 rfl HI.out) rfl ⟨⟨AN, cN, by rw [HNN.out], by rw [HNN.out]; exact HCN.out, ?_⟩, ?_⟩
   ·rw [HNN.out]
    exact (HSN.out.set RwR.stays (fun b hb e => by have := HZ3.out; simp only at e; omega) _).stays RwR.stays (fun _ _ => trivial) (fun _ _ _ h => h)
   ·exact (HZ.out.trans (hb9.mono HZ.out.size)).setCell (by simp only; omega) _
end Go.Proofs.YtciaidjmehelpaaGreat
namespace Go.Proofs.YtciaidjmehelpaaGreat
open Go.RowKit
section
variable {α : Type} {T LT : TypeId} {sz bytes : Nat} {f : α → List Value}
theorem flat_cells (hf : ∀ x, (f x).length = sz) (hsz : 0 < sz) {ok : Nat → Prop} {w : World} {b off n : Nat} {l : List α} (h : Sl (FlatR f) sz ok w (some ⟨b, off, none⟩) n l) :
  ∀ (j : Nat) (u : Value), ((l.map f).flatten)[j]? = some u → w.cell? ((⟨b, off, none⟩ : Addr).add j) = some u := by
 intro j u hu
 have hlen := flat_len (sz := sz) (l.map f) (fun c hc => by obtain ⟨d, _, rfl⟩ := List.mem_map.1 hc; exact hf d)
 rw [List.length_map] at hlen
 have hj : j < l.length * sz := by rw [← hlen]; exact (List.getElem?_eq_some_iff.1 hu).1
 have hi : j / sz < l.length := (Nat.div_lt_iff_lt_mul hsz).2 hj
 have hr : j % sz < sz := Nat.mod_lt _ hsz
 have e : j / sz * sz + j % sz = j := by rw [Nat.mul_comm]; exact Nat.div_add_mod j sz
 have h7 := flat_get (sz := sz) (l.map f) (j / sz) (j % sz) (by simpa using hi) hr (fun c hc => by obtain ⟨d, _, rfl⟩ := List.mem_map.1 hc; exact hf d)
 rw [e, hu, List.getElem_map] at h7
 have hn : 0 < n := h.1 ▸ Nat.lt_of_le_of_lt (Nat.zero_le _) hi
 obtain ⟨b', off', e', -, hc⟩ := h.2 hn
 injection e' with e'
 injection e' with e1 e2
 subst e1 e2
 obtain ⟨cs, -, hR, g⟩ := hc _ hi
 have e3 : cs = f l[j / sz] := hR
 subst e3
 have := g (j % sz) u h7.symm
 rw [addr_add, ← e, ← Nat.add_assoc]
 exact this
theorem run_app_all (hf : ∀ x, (f x).length = sz) (hone : ∀ x, ∀ u ∈ f x, u.oneCell' = true) (hsz : 0 < sz) {i : TypeInfo} {z : Value} (ht : Tryz.prog.underlying LT = some (.slice T)) (hi : Tryz.prog.info? T = some i) (hz : i.zero = some z) (hsize : i.size = sz) (hby : i.bytes = bytes) (hzs : z.cells.size = sz)
  (w : World) (ty : TypeId) {base : Nat} {v : Value} (hv : OwnG T sz f w base v ([] : List α)) (hbase : base ≤ w.heap.size) {A : Option Addr} {n c : Nat} {l : List α} {ok : Nat → Prop} (h : Sl (FlatR f) sz ok w A n l) (hn : n ≤ 1048576) (hbb : bytes ≤ 1048576) :
  ∃ v' w', (Builtin.append_ #[LT, LT] ty #[v, .slice A n c]).run Tryz.prog w = .ok v' w' ∧ OwnG T sz f w' base v' l ∧ w.grownBy w' v.ownBlock ∧ (v'.ownBlock = v.ownBlock ∨ ∃ g, v'.ownBlock = some g ∧ w.heap.size ≤ g) := by
 obtain rfl : l.length = n := h.1
 by_cases hn0 : l.length = 0
 ·have hl : l = [] := List.eq_nil_of_length_eq_zero hn0
  subst hl
  have hf0 : (Builtin.firstCells i.size 0 (.slice A 0 c)).run Tryz.prog w = .ok #[] w := by
   cases A <;> simp [Builtin.firstCells, loadCells] <;> rfl
  rcases hv.2 with ⟨rfl, -⟩ | ⟨g, cap, cur, rfl, -⟩
  ·refine ⟨.slice none 0 0, w, ?_, hv, ⟨rfl, rfl, rfl, Nat.le_refl _, fun _ _ _ => rfl⟩, .inl rfl⟩
   simp [Builtin.append_, run_underlying ht, sizeOf, typeInfo, hi, Builtin.lenOf, hf0]
  ·refine ⟨.slice (some ⟨g, 0, none⟩) 0 cap, w, ?_, hv, ⟨rfl, rfl, rfl, Nat.le_refl _, fun _ _ _ => rfl⟩, .inl rfl⟩
   simp [Builtin.append_, run_underlying ht, sizeOf, typeInfo, hi, Builtin.lenOf, hf0, storeCells]
 ·obtain ⟨b, off, rfl, -, -⟩ := h.2 (by omega)
  have hlen := flat_len (sz := sz) (l.map f) (fun c hc => by obtain ⟨d, _, rfl⟩ := List.mem_map.1 hc; exact hf d)
  rw [List.length_map] at hlen
  obtain ⟨v', w', hr, h1, h2, -, h4⟩ := run_append_own_at (P := Tryz.prog) w base LT ty T i z sz bytes ht hi hz hsize hby hzs hsz v 0 [] hv ⟨b, off, none⟩ l.length c ((l.map f).flatten) hlen (flat_cells hf hsz h) (fun u hu => by
   obtain ⟨cs, hcs, hu⟩ := List.mem_flatten.1 hu
   obtain ⟨d, _, rfl⟩ := List.mem_map.1 hcs
   exact hone d u hu) (by unfold maxLen; omega) (by
   rw [Nat.zero_add]
   have := Nat.mul_le_mul hn hbb
   omega) hbase
  refine ⟨v', w', hr, ?_, h2, ?_⟩
  ·unfold OwnG
   rw [Nat.zero_add, List.nil_append] at h1
   exact h1
  ·rcases h4 with h4 | h4
   ·exact .inl h4
   ·exact .inr ⟨_, h4, Nat.le_refl _⟩
theorem wpList_app_all {ops : Array Oper} {rest : List Oper} {o : Oper} {a : Act} {Q : Exit → Act → World → Prop} (hgd : o.guard = none) (s x : Operand) (LT : TypeId) (ho : o.op = .call { callee := .builtin .append, args := #[s, x], argTypes := #[LT, LT] })
  (hf : ∀ x, (f x).length = sz) (hone : ∀ x, ∀ u ∈ f x, u.oneCell' = true) (hsz : 0 < sz) {i : TypeInfo} {z : Value} (ht : Tryz.prog.underlying LT = some (.slice T)) (hi : Tryz.prog.info? T = some i) (hz : i.zero = some z) (hsize : i.size = sz) (hby : i.bytes = bytes) (hzs : z.cells.size = sz)
  (w : World) {base : Nat} {v : Value} (hs : a.eval s = v) (hv : OwnG T sz f w base v ([] : List α)) (hbase : base ≤ w.heap.size) {A : Option Addr} {n c : Nat} {l : List α} {ok : Nat → Prop} (hx : a.eval x = .slice A n c) (h : Sl (FlatR f) sz ok w A n l) (hn : n ≤ 1048576) (hbb : bytes ≤ 1048576)
  (hK : ∀ v' w', OwnG T sz f w' base v' l → w.grownBy w' v.ownBlock → (v'.ownBlock = v.ownBlock ∨ ∃ g, v'.ownBlock = some g ∧ w.heap.size ≤ g) → wpList Tryz.prog ops Q rest (a.put o.dst v') w') : wpList Tryz.prog ops Q (o :: rest) a w := by
 refine wpList_plain hgd fun K hK' => ?_
 obtain ⟨v', w', hr, h2, h3, h4⟩ := run_app_all hf hone hsz ht hi hz hsize hby hzs w o.type hv hbase (c := c) h hn hbb
 unfold Oper.wp execOp
 simp only [ho, resolve, invoke, builtin, Sem.run_bind, Sem.run_pure, Result.andThen_ok, List.map_toArray, List.map_cons, List.map_nil, hs, hx, hr]
 exact hK' _ _ (hK v' w' h2 h3 h4)
end
end Go.Proofs.YtciaidjmehelpaaGreat
namespace Go.Proofs.YtciaidjmehelpaaGreat
open Go.RowKit
structure SlV where
 A : Option Addr
 n : Nat
 c : Nat
def SlV.cells (x : SlV) : List Value := [.slice x.A x.n x.c]
theorem slv_cells : ∀ x : SlV, (SlV.cells x).length = 1 := fun _ => rfl
theorem slv_one : ∀ x, ∀ u ∈ SlV.cells x, u.oneCell' = true := by intro x u hu; simp [SlV.cells] at hu; subst hu; rfl
def Tabs (ok : Nat → Prop) (w : World) (ps : List SlV) (db : List Dt) : Prop := ps.length = db.length ∧ ∀ i (h : i < ps.length) (h' : i < db.length), Sl RwR 2 ok w ps[i].A ps[i].n db[i].rows ∧ ps[i].n ≤ ps[i].c
theorem Sl.tabs {ok : Nat → Prop} {w : World} {A : Option Addr} {n : Nat} {db : List Dt} (h : Sl DtR 1 ok w A n db) : ∃ ps, Tabs ok w ps db ∧ Sl (FlatR SlV.cells) 1 ok w A n ps := by
 have key : ∀ m, m ≤ db.length → ∃ ps : List SlV, ps.length = m ∧ (∀ i (h : i < ps.length) (h' : i < db.length), Sl RwR 2 ok w ps[i].A ps[i].n db[i].rows ∧ ps[i].n ≤ ps[i].c) ∧ (0 < n → ∃ b off, A = some ⟨b, off, none⟩ ∧ ok b ∧ ∀ i (h : i < ps.length), w.cell? ⟨b, off + i, none⟩ = some (.slice ps[i].A ps[i].n ps[i].c)) := by
  intro m
  induction m with
  | zero =>
   intro _
   refine ⟨[], rfl, fun i h => by simp at h, fun hn => ?_⟩
   obtain ⟨b, off, e, hb, -⟩ := h.2 hn
   exact ⟨b, off, e, hb, fun i h => by simp at h⟩
  | succ m ih =>
   intro hm
   obtain ⟨ps, hl, hp, hc⟩ := ih (by omega)
   obtain ⟨b, off, A0, n0, c0, hb, eA, q0, hr, hcp⟩ := DtR.at_ h (i := m) (by omega)
   refine ⟨ps ++ [⟨A0, n0, c0⟩], by simp [hl], fun i hi hi' => ?_, fun hn => ⟨b, off, eA, hb, fun i hi => ?_⟩⟩
   ·by_cases e : i < ps.length
    ·rw [List.getElem_append_left e]; exact hp i e hi'
    ·simp only [List.length_append, List.length_cons, List.length_nil] at hi
     obtain rfl : i = ps.length := by omega
     subst hl
     rw [List.getElem_append_right (Nat.le_refl _)]
     simpa using ⟨hr, hcp⟩
   ·by_cases e : i < ps.length
    ·rw [List.getElem_append_left e]
     obtain ⟨b', off', eA', -, hc'⟩ := hc hn
     rw [eA] at eA'
     injection eA' with e1
     injection e1 with e1 e2
     subst e1 e2
     exact hc' i e
    ·simp only [List.length_append, List.length_cons, List.length_nil] at hi
     obtain rfl : i = ps.length := by omega
     subst hl
     rw [List.getElem_append_right (Nat.le_refl _)]
     simpa using q0
 obtain ⟨ps, hl, hp, hc⟩ := key db.length (Nat.le_refl _)
 refine ⟨ps, ⟨hl, hp⟩, by rw [hl]; exact h.1, fun hn => ?_⟩
 obtain ⟨b, off, e, hb, hcs⟩ := hc hn
 refine ⟨b, off, e, hb, fun i hi => ⟨_, rfl, rfl, fun j v hv => ?_⟩⟩
 have hj : j = 0 := by have := (List.getElem?_eq_some_iff.1 hv).1; simpa [SlV.cells] using this
 subst hj
 obtain rfl := Option.some.inj hv
 rw [Nat.mul_one, Nat.add_zero]
 exact hcs i hi
theorem Tabs.sl {ok ok' : Nat → Prop} {w w' : World} {A : Option Addr} {n : Nat} {ps : List SlV} {db : List Dt} (h : Tabs ok w ps db) (hs : Sl (FlatR SlV.cells) 1 ok' w' A n ps) (hk : ∀ (p : Addr) (v : Value), ok p.block → w.cell? p = some v → w'.cell? p = some v) : Sl DtR 1 (fun b => ok b ∨ ok' b) w' A n db := by
 refine ⟨by rw [← h.1]; exact hs.1, fun hn => ?_⟩
 obtain ⟨b, off, e, hb, hc⟩ := hs.2 hn
 refine ⟨b, off, e, .inr hb, fun i hi => ?_⟩
 have hi' : i < ps.length := by rw [h.1]; exact hi
 obtain ⟨cs, h1, h2, h3⟩ := hc i hi'
 have e2 : cs = SlV.cells ps[i] := h2
 subst e2
 obtain ⟨g1, g2⟩ := h.2 i hi' hi
 exact ⟨_, rfl, ⟨_, _, _, rfl, g1.stays RwR.stays (fun _ h => .inl h) hk, g2⟩, h3⟩
theorem Tabs.set {ok : Nat → Prop} {w : World} {ps : List SlV} {db : List Dt} (h : Tabs ok w ps db) (m : Nat) {p : SlV} {d : Dt} (hp : Sl RwR 2 ok w p.A p.n d.rows) (hc : p.n ≤ p.c) : Tabs ok w (ps.set m p) (db.set m d) := by
 refine ⟨by simp [h.1], fun i hi hi' => ?_⟩
 by_cases e : m = i
 ·subst e
  rw [List.getElem_set_self, List.getElem_set_self]
  exact ⟨hp, hc⟩
 ·rw [List.getElem_set_ne e, List.getElem_set_ne e]
  exact h.2 i (by simpa using hi) (by simpa using hi')
theorem slv_flat (ps : List SlV) : (ps.map SlV.cells).flatten = ps.map fun p => Value.slice p.A p.n p.c := by
 induction ps with
 | nil => rfl
 | cons p r ih => rw [List.map_cons, List.flatten_cons, ih]; rfl
theorem own_setS {T : TypeId} {w : World} {base g c : Nat} {ps : List SlV} (h : OwnG T 1 SlV.cells w base (.slice (some ⟨g, 0, none⟩) ps.length c) ps) (m : Nat) (p : SlV) : OwnG T 1 SlV.cells (w.setCell ⟨g, m, none⟩ (.slice p.A p.n p.c)) base (.slice (some ⟨g, 0, none⟩) ps.length c) (ps.set m p) ∧ w.grownBy (w.setCell ⟨g, m, none⟩ (.slice p.A p.n p.c)) (some g) := by
 obtain ⟨s1, s2⟩ := World.ownsRow.stored (show w.ownsRow base T 1 (.slice (some ⟨g, 0, none⟩) ps.length c) ps.length _ from h) m (.slice p.A p.n p.c)
 refine ⟨?_, s2⟩
 unfold OwnG
 rw [slv_flat, List.map_set, List.length_set]
 rw [slv_flat] at s1
 exact s1
set_option maxRecDepth 100000 in
set_option maxHeartbeats 1000000 in
theorem specL4With (AD AL : Option Addr) (nD cD nL cL m : Nat) (db : List Dt) (d : Dt) (okd okl : Nat → Prop) (w : World) (hd : Sl DtR 1 okd w AD nD db) (hl : Sl RwR 2 okl w AL nL d.rows) (hlc : nL ≤ cL) (hm : m < db.length) (hn : nD ≤ 1000000) :
  Calls Tryz.prog 142 #[.slice AD nD cD, .int .i64 m, .agg #[.slice AL nL cL]] w fun e w' => (∃ A c, e = .returned (.slice A nD c) ∧ nD ≤ c ∧ Sl DtR 1 (fun _ => True) w' A nD (db.set m d)) ∧ Below w.heap.size w w' := by
 obtain rfl : db.length = nD := hd.1
 obtain rfl : d.rows.length = nL := hl.1
 obtain ⟨ps, htb, hps⟩ := (hd.lows DtR.lows (by omega)).tabs
 obtain ⟨i0, hi, hz0, hz1, hz2⟩ := info_parts infoDataR
 have H1 := Lib.hid hi
 have H2 := Lib.hid hz0
 have H3 := Lib.hid hz1
 have H4 := Lib.hid hz2
 have hz : Below w.heap.size w ((w.alloc (.cells #[.slice AL d.rows.length cL] 55)).alloc (.cells #[] 55)) := ((Below.refl w.heap.size w).alloc (Nat.le_refl _) _).alloc (by simp) _
 have rd := (Row.new w 55 #[.slice AL d.rows.length cL]).alloc (.cells #[] 55)
 have ho := OwnG.lit (T := 55) (sz := 1) (f := SlV.cells) (w.alloc (.cells #[.slice AL d.rows.length cL] 55)) (base := w.heap.size + 1) (by simp)
 rw [show (w.alloc (.cells #[.slice AL d.rows.length cL] 55)).heap.size = w.heap.size + 1 by simp] at ho
 have HO := Lib.hid ho
 clear ho
 have HPS := Lib.hid (hps.below (FlatR.stays _) hz)
 have hpl : ps.length = db.length := htb.1
 have HTB := Lib.hid htb
 have HL := Lib.hid (hl.lows RwR.lows (by omega))
 have HRD := Lib.hid rd
 have HZ := Lib.hid hz
 have HPL := Lib.hid hpl
 clear htb hl hd hps hi hz0 hz1 hz2 rd hz
 go_enter Tryz.func142, Tryz.ntmps142
 go_wp2_with (at_builtin; go_loud (refine wpList_app_all rfl _ _ 25 rfl slv_cells slv_one (by omega) Tryz.underlying25 H1.out H2.out H3.out H4.out rfl _ rfl HO.out ?c1 rfl HPS.out ?c2 (by omega) ?_))
 case c1 => simp
 case c2 => omega
 intro v0 u2 o0 hg0 _
 have hb2 : Below (w.heap.size + 1) ((w.alloc (.cells #[.slice AL d.rows.length cL] 55)).alloc (.cells #[] 55)) u2 := (Below.refl _ _).grown hg0 (by simp) (fun k hk => (OwnG.block_lt HO.out k hk).1)
 have rd2 : Row u2 w.heap.size 55 #[.slice AL d.rows.length cL] := (hg0.block _ (lt_of_block HRD.out) (fun e => by have := (OwnG.block_lt HO.out _ e.symm).1; omega)).trans HRD.out
 obtain ⟨c0, -⟩ := rd2.all1
 have hv0 : ∃ g c, v0 = .slice (some ⟨g, 0, none⟩) ps.length c ∧ ps.length ≤ c ∧ w.heap.size + 1 ≤ g := by
  rcases o0.2 with ⟨rfl, hn0⟩ | ⟨g, cap, cur, rfl, h1, h2, h3, -⟩
  ·have := HPL.out; omega
  ·exact ⟨g, cap, rfl, h3, h1⟩
 obtain ⟨g, c2, rfl, hc2, hgb⟩ := hv0
 have hmp : m < ps.length := by have := HPL.out; omega
 have q0 : u2.cell? ⟨g, m, none⟩ = some (.slice ps[m].A ps[m].n ps[m].c) := by
  rw [World.ownsRow.cellAt (show u2.ownsRow _ _ 1 _ ps.length _ from o0) m (by omega), slv_flat, List.getElem?_map, List.getElem?_eq_getElem hmp]
  rfl
 have f0 : u2.frozen? ⟨g, m, none⟩ = false := World.ownsRow.frozenAt (show u2.ownsRow _ _ 1 _ ps.length _ from o0) m
 obtain ⟨o3, g3⟩ := own_setS o0 m ⟨AL, d.rows.length, cL⟩
 obtain ⟨A9, c9, e9, hc9, -, hs9⟩ := OwnG.sl slv_cells o3
 have hb3 : Below w.heap.size w (u2.setCell ⟨g, m, none⟩ (.slice AL d.rows.length cL)) := (HZ.out.trans (hb2.mono (by omega))).setCell (by simp only; omega) _
 have HF := Lib.hid (show Sl DtR 1 (fun _ => True) (u2.setCell ⟨g, m, none⟩ (.slice AL d.rows.length cL)) (some ⟨g, 0, none⟩) ps.length (db.set m d) from by
  injection e9 with e1 e2 e3
  rw [List.length_set] at e2
  subst e1
  have h1 := (HTB.out.set m (p := ⟨AL, d.rows.length, cL⟩) (d := d) HL.out hlc)
  rw [List.length_set] at hs9
  exact (h1.sl hs9 (fun p v hp hv => (hb3.cell hp).trans hv)).stays DtR.stays (fun _ _ => trivial) (fun _ _ _ h => h))
 have HB3 := Lib.hid hb3
 have i0' : (0 : Int) ≤ m := by omega
 have i1 : (m : Int) < ps.length := by omega
 clear o0 hg0 hb2 rd2 o3 g3 e9 hc9 hs9 hb3 HO
 go_wp2_with fail
 go_ret
 refine ⟨⟨some ⟨g, 0, none⟩, c2, by rw [← HPL.out]; rfl, by rw [← HPL.out]; exact hc2, by rw [← HPL.out]; exact HF.out⟩, HB3.out⟩
end Go.Proofs.YtciaidjmehelpaaGreat
namespace Go.Proofs.YtciaidjmehelpaaGreat
open Go.RowKit
def OwnK (w : World) (base : Nat) (v : Value) (xs : List Vl) : Prop := OwnG 34 3 Vl.cells w base v xs
end Go.Proofs.YtciaidjmehelpaaGreat
namespace Go.Proofs.YtciaidjmehelpaaGreat
open Go.RowKit
theorem infoValC : (Tryz.prog.info? 34).map (fun i => (i.zero, i.size, i.bytes)) = some (some (.agg #[.int .i64 0, .int .i64 0, .string ⟨#[]⟩]), 3, 32) := by kernel_rfl
section
variable {P : Program} {w : World}
theorem run_append_own_0 (base : Nat) (t ty e : TypeId) (i : TypeInfo) (size : Nat) (ht : P.underlying t = some (.slice e)) (hi : P.info? e = some i)
  (v : Value) (n : Nat) (xs : List Value) (hown : w.ownsRow base e size v n xs) (c : Nat) :
  (Builtin.append_ #[t, t] ty #[v, .slice none 0 c]).run P w = .ok v w := by
 rcases hown.2 with ⟨rfl, rfl⟩ | ⟨g, cap, cur, rfl, _, _, hnc, _⟩
 ·simp [Builtin.append_, run_underlying ht, sizeOf, typeInfo, hi, Builtin.lenOf, Builtin.firstCells]
 ·simp [Builtin.append_, run_underlying ht, sizeOf, typeInfo, hi, Builtin.lenOf, Builtin.firstCells, hnc, storeCells]
theorem wpList_append_own_0 {ops : Array Oper} {rest : List Oper} {o : Oper} {a : Act} {Q : Exit → Act → World → Prop} (hgd : o.guard = none) (s x : Operand) (t : TypeId)
  (ho : o.op = .call { callee := .builtin .append, args := #[s, x], argTypes := #[t, t] })
  (base : Nat) (e : TypeId) (i : TypeInfo) (size : Nat) (ht : P.underlying t = some (.slice e)) (hi : P.info? e = some i)
  (v : Value) (n : Nat) (xs : List Value) (hs : a.eval s = v) (hown : w.ownsRow base e size v n xs) (c : Nat) (hx : a.eval x = .slice none 0 c)
  (h : wpList P ops Q rest (a.put o.dst v) w) : wpList P ops Q (o :: rest) a w := by
 refine wpList_plain hgd fun K hK => ?_
 have hrun := run_append_own_0 (P := P) (w := w) base t o.type e i size ht hi v n xs hown c
 unfold Oper.wp
 simp [execOp, ho, resolve, invoke, builtin, hs, hx, hrun, Result.andThen]
 exact hK _ _ h
end
theorem Sl.flat_cells {α : Type} {f : α → List Value} {sz : Nat} (hz : 0 < sz) (hf : ∀ d, (f d).length = sz) {ok : Nat → Prop} {w : World} {ad : Addr} {n : Nat} {xs : List α} (h : Sl (FlatR f) sz ok w (some ad) n xs) :
  ∀ j u, ((xs.map f).flatten)[j]? = some u → w.cell? (ad.add j) = some u := fun j u hj => by
 have hl := flat_len (sz := sz) (xs.map f) (fun c hc => by obtain ⟨d, _, rfl⟩ := List.mem_map.1 hc; exact hf d)
 have hjl := (List.getElem?_eq_some_iff.1 hj).1
 rw [hl, List.length_map] at hjl
 have hlen := h.1
 obtain ⟨b, off, e, hb, hi⟩ := h.2 (by rcases Nat.eq_zero_or_pos n with h0 | h0; · rw [hlen, h0] at hjl; omega
                                       ·exact h0)
 cases e
 have hdiv : j / sz < xs.length := Nat.div_lt_of_lt_mul (by rw [Nat.mul_comm]; exact hjl)
 have hmod : j % sz < sz := Nat.mod_lt _ hz
 have hj' : j / sz * sz + j % sz = j := by rw [Nat.mul_comm]; exact Nat.div_add_mod j sz
 obtain ⟨cs, h1, h2, h3⟩ := hi (j / sz) hdiv
 cases h2
 have := flat_get (sz := sz) (xs.map f) (j / sz) (j % sz) (by simpa using hdiv) hmod (fun c hc => by obtain ⟨d, _, rfl⟩ := List.mem_map.1 hc; exact hf d)
 rw [hj', hj, List.getElem_map] at this
 have := h3 (j % sz) u this.symm
 rw [addr_add, ← hj', ← Nat.add_assoc]
 exact this
theorem vl_one (xs : List Vl) : ∀ u ∈ (xs.map Vl.cells).flatten, u.oneCell' = true := fun u hu => by
 obtain ⟨l, hl, hu⟩ := List.mem_flatten.1 hu
 obtain ⟨t, -, rfl⟩ := List.mem_map.1 hl
 simp [Vl.cells] at hu
 rcases hu with rfl | rfl | rfl <;> rfl
theorem vl_flat (xs : List Vl) : ((xs.map Vl.cells).flatten).length = xs.length * 3 := by
 rw [flat_len (sz := 3) _ (fun c hc => by obtain ⟨t, -, rfl⟩ := List.mem_map.1 hc; rfl), List.length_map]
set_option maxRecDepth 100000 in
set_option maxHeartbeats 1000000 in
theorem specCopyVals (A : Option Addr) (n c : Nat) (xs : List Vl) (ok : Nat → Prop) (w : World) (h : Sl VlR 3 ok w A n xs) (hl : n ≤ 1073741824) :
  Calls Tryz.prog 66 #[.slice A n c] w fun e w' => ∃ v', e = .returned v' ∧ OwnK w' w.heap.size v' xs ∧ Below w.heap.size w w' := by
 obtain ⟨i0, hi, hz0, hz1, hz2⟩ := info_parts infoValC
 have H1 := Lib.hid hi
 have H2 := Lib.hid hz0
 have H3 := Lib.hid hz1
 have H4 := Lib.hid hz2
 clear hi hz0 hz1 hz2
 have HO0 := Lib.hid (OwnG.lit (T := 34) (sz := 3) (f := Vl.cells) w (Nat.le_refl w.heap.size))
 have hb0 := (Below.refl w.heap.size w).alloc (Nat.le_refl _) (.cells #[] 34)
 have h0 := h.below VlR.stays hb0
 obtain rfl : xs.length = n := h.1
 go_enter Tryz.func66, Tryz.ntmps66
 cases A with
 | none =>
  have hn : xs.length = 0 := by
   rcases Nat.eq_zero_or_pos xs.length with h | h
   ·exact h
   ·obtain ⟨b, off, e, -⟩ := h0.2 h
    cases e
  obtain rfl : xs = [] := List.length_eq_zero_iff.1 hn
  simp only [List.length_nil] at *
  go_wp2_with (at_builtin; refine wpList_append_own_0 rfl _ _ 42 rfl w.heap.size 34 i0 3 Tryz.underlying42 H1.out _ _ _ rfl HO0.out _ rfl ?_)
  go_ret
  exact ⟨_, rfl, HO0.out, hb0⟩
 | some ad =>
  have HX := Lib.hid (Sl.flat_cells (f := Vl.cells) (sz := 3) (by decide) (fun _ => rfl) h0)
  clear h0
  go_wp2_with (at_builtin; refine wpList_append_own _ rfl _ _ 42 rfl w.heap.size 34 i0 (.agg #[.int .i64 0, .int .i64 0, .string ⟨#[]⟩]) 3 32 Tryz.underlying42 H1.out H2.out H3.out H4.out rfl (by decide) _ _ _ rfl HO0.out ad xs.length c ((xs.map Vl.cells).flatten) rfl ?c0 ?c1 ?c2 ?c3 ?c4 ?c5 ?_)
  case c0 => exact vl_flat xs
  case c1 => exact HX.out
  case c2 => exact vl_one xs
  case c3 => unfold maxLen; simp; omega
  case c4 => simp; omega
  case c5 => simp
  intro v9 w9 hown9 hgrow9 _
  go_wp2_with fail
  go_ret
  refine ⟨_, rfl, ?_, ?_⟩
  ·unfold OwnK OwnG; simpa using hown9
  ·exact ((Below.refl w.heap.size w).alloc (Nat.le_refl _) _).grown hgrow9 (by simp) (by intro k hk; simp [Value.ownBlock] at hk; omega)
end Go.Proofs.YtciaidjmehelpaaGreat
namespace Go.Proofs.YtciaidjmehelpaaGreat
open Go.RowKit
theorem made_repC (x : Value) (n : Nat) : madeCells #[x] n = (List.replicate n x).toArray := by
 apply Array.ext
 ·simp [madeCells]
 ·intro i h1 h2
  simp [madeCells, Nat.mod_one]
theorem OwnR.belowC {w w' : World} {base : Nat} {v : Value} {rs : List Rw} (h : OwnR w base v rs) (hb : Below w.heap.size w w') : OwnR w' base v rs := by
 obtain ⟨vs, h⟩ := h
 refine ⟨vs, h.len, ?_, fun i hi hi' => OwnG.below (h.val i hi hi') hb⟩
 refine ⟨h.row.1, ?_⟩
 rcases h.row.2 with h | ⟨g, cap, cur, rfl, h1, h2, h3⟩
 ·exact .inl h
 ·exact .inr ⟨g, cap, cur, rfl, h1, (hb.block g (lt_of_block h2)).trans h2, h3⟩
theorem ownsRow_monoC {w : World} {b b' : Nat} {T : TypeId} {sz : Nat} {v : Value} {n : Nat} {xs : List Value} (h : w.ownsRow b T sz v n xs) (hb : b' ≤ b) : w.ownsRow b' T sz v n xs := by
 refine ⟨h.1, ?_⟩
 rcases h.2 with h | ⟨g, cap, cur, rfl, h1, h2⟩
 ·exact .inl h
 ·exact .inr ⟨g, cap, cur, rfl, Nat.le_trans hb h1, h2⟩
theorem OwnR.monoC {w : World} {b b' : Nat} {v : Value} {rs : List Rw} (h : OwnR w b v rs) (hb : b' ≤ b) : OwnR w b' v rs := by
 obtain ⟨vs, h⟩ := h
 exact ⟨vs, h.len, ownsRow_monoC h.row hb, fun i hi hi' => ownsRow_monoC (h.val i hi hi') hb⟩
theorem DbY.belowC {base g : Nat} {w w' : World} {vs : List Value} {ds : List Dt} (h : DbY w base g vs ds) (hb : Below w.heap.size w w') : DbY w' base g vs ds :=
 ⟨(hb.block g h.blo.lt).trans h.blo, h.len, h.low, fun i hi hi' => (h.own i hi hi').belowC hb, h.apart⟩
theorem DbY.lay {w : World} {base g : Nat} {vs : List Value} {ds : List Dt} {i : Nat} {v' : Value} {rows : List Rw} (h : DbY w base g vs ds) (hi : i < vs.length) (ho : OwnR w base v' rows) (hf : ∀ k, v'.ownBlock = some k → ∀ j (hj : j < vs.length), vs[j].ownBlock ≠ some k) :
  DbY (w.setCell ⟨g, i, none⟩ v') base g (vs.set i v') (ds.set i ⟨rows⟩) := by
 have hset : ∀ (v : Value) (rs : List Rw), OwnR w base v rs → OwnR (w.setCell ⟨g, i, none⟩ v') base v rs := fun v rs hv => hv.kept (grownBy_set (p := ⟨g, i, none⟩)) (by
  cases hb : v.ownBlock with
  | none => exact .inl rfl
  | some k => refine .inr fun e => ?_
              obtain ⟨cur, hc⟩ := hv.rows k hb
              obtain rfl : k = g := by simpa using e
              have hb' := h.blo
              unfold Blo at hb'
              rw [hb'] at hc
              simp only [Option.some.injEq, Obj.cells.injEq] at hc
              exact absurd hc.2.1 (by decide)) fun k hk => by
   obtain rfl : g = k := by simpa using hk
   exact ⟨_, _, h.blo, by decide⟩
 refine ⟨h.blo.put i v', by simp [h.len], h.low, fun j hj hj' => ?_, fun j k hj hk hjk => ?_⟩
 ·have hj1 : j < ds.length := by simpa using hj
  have hj2 : j < vs.length := by simpa using hj'
  by_cases e : i = j
  ·subst e
   rw [List.getElem_set_self, List.getElem_set_self]
   exact hset _ _ ho
  ·rw [List.getElem_set_ne e, List.getElem_set_ne e]
   exact hset _ _ (h.own j hj1 hj2)
 ·have hj2 : j < vs.length := by simpa using hj
  have hk2 : k < vs.length := by simpa using hk
  by_cases e1 : i = j
  ·subst e1
   have e2 : i ≠ k := hjk
   rw [List.getElem_set_self, List.getElem_set_ne e2]
   cases hv : v'.ownBlock with
   | none => exact .inl rfl
   | some b => exact .inr (fun e => hf b hv k hk2 e.symm)
  ·rw [List.getElem_set_ne e1]
   by_cases e2 : i = k
   ·subst e2
    rw [List.getElem_set_self]
    cases hv : vs[j].ownBlock with
    | none => exact .inl rfl
    | some b => exact .inr (fun e => hf b e.symm j hj2 hv)
   ·rw [List.getElem_set_ne e2]
    exact h.apart j k hj2 hk2 hjk
def partD (db : List Dt) (i : Nat) : List Dt := db.take i ++ List.replicate (db.length - i) ⟨[]⟩
theorem partD_len (db : List Dt) {i : Nat} (h : i ≤ db.length) : (partD db i).length = db.length := by unfold partD; rw [List.length_append, List.length_take, List.length_replicate]; omega
theorem partD_set (db : List Dt) {i : Nat} (h : i < db.length) : (partD db i).set i db[i] = partD db (i + 1) := by
 unfold partD
 have hl : (db.take i).length = i := by rw [List.length_take]; omega
 rw [List.set_append_right _ _ (by omega), hl, Nat.sub_self, show db.length - i = (db.length - (i + 1)) + 1 by omega, List.replicate_succ, List.set_cons_zero, List.take_succ_eq_append_getElem h, List.append_assoc]
 rfl
set_option maxRecDepth 100000 in
set_option maxHeartbeats 2000000 in
theorem specL4Copy (AD : Option Addr) (nD cD : Nat) (db : List Dt) (okd : Nat → Prop) (w : World) (hd : Sl DtR 1 okd w AD nD db) (hn : nD ≤ 1048576) (hrn : ∀ d ∈ db, d.rows.length ≤ 1000000) (hvn : ∀ d ∈ db, ∀ r ∈ d.rows, r.vals.length ≤ 1048576) :
  Calls Tryz.prog 119 #[.slice AD nD cD] w fun e w' => ∃ A c, e = .returned (.slice A nD c) ∧ nD ≤ c ∧ Sl DtR 1 (okF w.heap.size w') w' A nD db ∧ Below w.heap.size w w' := by
 obtain rfl : db.length = nD := hd.1
 obtain ⟨j0, hj, hy0, hy1, hy2⟩ := info_parts infoDataR
 obtain ⟨i0, hi, hz0, hz1, hz2⟩ := info_parts infoRowR
 have H1 := Lib.hid hi
 have H2 := Lib.hid hz0
 have H3 := Lib.hid hz1
 have H4 := Lib.hid hz2
 clear hi hz0 hz1 hz2 hj hy0 hy1 hy2
 have HRN := Lib.hid hrn
 have HVN := Lib.hid hvn
 clear hrn hvn
 have hmk : ∀ w, (Instr.makeSlice 25 (.int .i64 (db.length : Int)) (.int .i64 (db.length : Int))).run Tryz.prog w = .ok (.slice (some ⟨w.heap.size, 0, none⟩) db.length db.length) (w.alloc (.cells (List.replicate db.length (Value.slice none 0 0)).toArray 55)) := fun w => by
  have h := mk_rows (P := Tryz.prog) Tryz.underlying25 infoDataR (by omega) db.length hn w
  rw [Nat.mul_one] at h
  rw [← made_repC]
  exact h
 have hy := DbY.new w db.length (base := w.heap.size) (Nat.le_refl _)
 rw [List.toArray_replicate] at hy
 have HY := Lib.hid hy
 clear hy
 have hz := (Below.refl w.heap.size w).alloc (Nat.le_refl _) (.cells (Array.replicate db.length (Value.slice none 0 0)) 55)
 go_enter Tryz.func119, Tryz.ntmps119
 go_wp2_with fail
 generalize w.alloc (.cells (Array.replicate db.length (Value.slice none 0 0)) 55) = z at *
 clear hmk
 go_loopw [4, 5, 6] (fun iv _ _ wr => ∃ i : Nat, i ≤ db.length ∧ iv = .int .i64 i ∧ Hid (∃ vs, DbY wr w.heap.size w.heap.size vs (partD db i)) ∧ Below w.heap.size w wr) (fun iv _ _ _ => db.length - (intOf iv).toNat)
 case atStart => exact ⟨0, by omega, rfl, Lib.hid ⟨_, by unfold partD; simpa using HY.out⟩, hz⟩
 case round =>
  clear HY hz
  obtain ⟨wo, hwo⟩ : ∃ wo, wo = wr := ⟨_, rfl⟩
  subst hwo
  obtain ⟨i, hi', rfl, hdb, hb⟩ := hrel
  obtain ⟨vs, hdb⟩ := hdb.out
  by_cases hlt : i < db.length
  ·obtain ⟨bd, od, AL, nL, cL, -, eD, p0, hrw, -⟩ := DtR.at_ hd hlt
   obtain rfl : db[i].rows.length = nL := hrw.1
   subst eD
   have i1 : (0 : Int) ≤ i := by omega
   have i2 : (i : Int) < db.length := by omega
   have HDB := Lib.hid hdb
   have hrn := HRN.out _ (List.getElem_mem hlt)
   have HVI := Lib.hid (HVN.out _ (List.getElem_mem hlt))
   clear hdb
   have HO := Lib.hid (show OwnR _ wo.heap.size _ [] from ⟨[], rfl, (OwnG.lit (T := 57) (sz := 2) (f := fun r : Rw => [.int .i64 r.id]) wo (Nat.le_refl wo.heap.size)), fun i h => by simp at h⟩)
   have hb0 := (Below.refl wo.heap.size wo).alloc (Nat.le_refl _) (.cells #[] 57)
   go_wp2_with fail
   go_loopw [5, 6] (fun v kv wr => ∃ k : Nat, k ≤ db[i].rows.length ∧ kv = .int .i64 k ∧ Hid (OwnR wr wo.heap.size v (db[i].rows.take k)) ∧ Below wo.heap.size wo wr) (fun _ kv _ => db[i].rows.length - (intOf kv).toNat)
   case atStart => exact ⟨0, by omega, rfl, Lib.hid (by simpa using HO.out), hb0⟩
   case round =>
    clear HO hb0
    obtain ⟨k, hk, rfl, hown, hbq⟩ := hrel
    have hbz := hb.trans (hbq.mono hb.size)
    have pq := below_keep hbz _ _ p0
    by_cases hkt : k < db[i].rows.length
    ·obtain ⟨bl, ol, B1, k1, e1, -, eR, z0, z1, hv, -⟩ := RwR.at_ hrw hkt
     obtain rfl : db[i].rows[k].vals.length = k1 := hv.1
     subst eR
     have q0 := below_keep hbz _ _ z0
     have q1 := below_keep hbz _ _ z1
     have k0 : (0 : Int) ≤ k := by omega
     have k1 : (k : Int) < db[i].rows.length := by omega
     have HTK := Lib.hid (show db[i].rows.take (k + 1) = db[i].rows.take k ++ [db[i].rows[k]] from List.take_succ_eq_append_getElem hkt)
     have hkl : (db[i].rows.take k).length = k := by rw [List.length_take]; omega
     have HKL := Lib.hid hkl
     have HVK := Lib.hid (HVI.out _ (List.getElem_mem hkt))
     clear hkl
     go_wp2_with fail
     have hc0 : Below wr.heap.size wr wr.drew := (Below.refl wr.heap.size wr).drew
     refine wp_region_noPanic ?_
     refine wp_region_held_drew (S := (fun w' => w'.cell? ⟨bd, od + i, none⟩ = some (.slice (some ⟨bl, ol, none⟩) db[i].rows.length cL) ∧ w'.cell? ⟨bl, ol + k * 2, none⟩ = some (.int .i64 db[i].rows[k].id) ∧ w'.cell? ⟨bl, ol + k * 2 + 1, none⟩ = some (.slice B1 db[i].rows[k].vals.length e1))) (by kernel_rfl) ⟨pq, q0, q1⟩ (fun hHeld => ?_)
     generalize wr.drew = u0 at *
     refine tk 0 ?_
     refine tk 1 ?_
     refine tk 2 ?_
     refine tk 3 ?_
     refine tk 4 ?_
     refine tk 5 ?_
     refine tk 6 ?_
     refine tk 7 ?_
     refine tk 8 ?_
     refine tk 9 ?_
     refine tk 10 ?_
     refine tk 11 ?_
     refine tk 12 ?_
     refine tk 13 ?_
     refine tk 14 ?_
     refine tk 15 ?_
     refine tk 16 ?_
     refine tk 17 ?_
     refine tk 18 ?_
     refine wpAnyH_ready (rs := [19]) (by kernel_rfl) (by simp) ?_
     refine AllReadyH.cons rfl (fun K hK => ?_) AllReadyH.nil
     go_simp
     go_at_call 66
     refine (specCopyVals B1 _ e1 db[i].rows[k].vals _ u0 (hv.below VlR.stays (hbz.trans (hc0.mono hbz.size))) (by have := HVK.out; omega)).mono ?_
     rintro e u1 ⟨v1, rfl, hK, hq⟩
     have hc1 := hc0.trans (hq.mono hc0.size)
     have hsz0 := hc0.size
     have how1 := (hown.out.belowC hc0).belowC hq
     have hK1 : OwnW u1 wo.heap.size v1 db[i].rows[k].vals := ownsRow_monoC hK (by have := hbq.size; omega)
     obtain ⟨AV, cV, ev, -, -, -⟩ := OwnG.sl (f := Vl.cells) (sz := 3) (fun _ => rfl) hK1
     obtain ⟨nV, hnV⟩ : ∃ nV, nV = db[i].rows[k].vals.length := ⟨_, rfl⟩
     rw [← hnV] at ev
     subst ev
     clear hnV hK hq
     refine hK.out _ _ ⟨below_keep hc1 _ _ pq, below_keep hc1 _ _ q0, below_keep hc1 _ _ q1⟩ (fun hHeld => ?_)
     clear hK K
     (try simp only [Act.put, pz0, pz1, pz2, pz3, pz4, pz5])
     refine tk 20 ?_
     refine wpAnyH_ready (rs := [21]) (by kernel_rfl) (by simp) ?_
     refine AllReadyH.cons rfl (fun K hK => ?_) AllReadyH.nil
     go_simp
     have hal : Below u1.heap.size u1 (u1.alloc (.cells #[.int .i64 db[i].rows[k].id, .slice AV nV cV] 57)) := (Below.refl _ _).alloc (Nat.le_refl _) _
     have rg := Blo.new u1 [.int .i64 db[i].rows[k].id, .slice AV nV cV] 57
     have hc2 := hc1.alloc hc1.size (.cells #[.int .i64 db[i].rows[k].id, .slice AV nV cV] 57)
     have how2 := how1.belowC hal
     have hK2 := OwnG.below hK1 hal
     clear hal how1 hK1
     generalize hu2 : u1.alloc (.cells #[.int .i64 db[i].rows[k].id, .slice AV nV cV] 57) = u2 at *
     generalize u1.heap.size = g at *
     clear hu2
     refine hK.out _ _ ⟨below_keep hc2 _ _ pq, below_keep hc2 _ _ q0, below_keep hc2 _ _ q1⟩ (fun hHeld => ?_)
     clear hK K
     (try simp only [Act.put, pz0, pz1, pz2, pz3, pz4, pz5])
     refine wpAnyH_ready (rs := [22]) (by kernel_rfl) (by simp) ?_
     refine AllReadyH.cons rfl (fun K hK => ?_) AllReadyH.nil
     obtain ⟨us, hR0⟩ := how2
     have hr0 := hR0.row
     rw [HKL.out] at hr0
     have hszw : wo.heap.size ≤ u2.heap.size := by have h1 := hc2.size; have h2 := hbq.size; omega
     refine step_append_lies u2 rfl (.tmp 27) (.tmp 48) 53 rfl wo.heap.size 57 i0 (.agg #[.int .i64 0, .slice none 0 0]) 2 32 Tryz.underlying53 H1.out H2.out H3.out H4.out rfl (by decide) u5 k _ rfl hr0 ⟨g, 0, none⟩ 1 1 [.int .i64 db[i].rows[k].id, .slice AV nV cV] rfl rfl (fun j y hj => by rw [addr_add, Nat.zero_add]; exact rg.cell j y hj) (fun y hy => by simp at hy; rcases hy with rfl | rfl <;> rfl) (by omega) (by unfold maxLen; omega) (by omega) hszw u2.heap.size rfl ?_
     intro g4 c4 u3 hown4 hgrow hloc hlt4
     have HO4 := Lib.hid (hR0.app (x := ⟨db[i].rows[k].id, db[i].rows[k].vals⟩) hK2 (by rw [HKL.out]; exact hown4) hgrow)
     have hg3 : Below wo.heap.size u2 u3 := (Below.refl _ _).grown hgrow hszw (fun q hq => (World.ownsRow.lt hR0.row q hq).1)
     have hcw := (hbq.trans (hc2.mono hbq.size)).trans hg3
     have HCW := Lib.hid hcw
     have hbw := hb.trans (hcw.mono hb.size)
     clear hown4 hgrow hloc hR0 hr0 hK2 rg hg3 hcw hszw
     refine hK.out _ _ ⟨below_keep hbw _ _ p0, below_keep hbw _ _ z0, below_keep hbw _ _ z1⟩ (fun hHeld => ?_)
     clear hK K
     (try simp only [Act.put, pz0, pz1, pz2, pz3, pz4, pz5])
     refine tk 23 ?_
     refine wpAnyH_done (by kernel_rfl) ?_ _
     refine NoPanic.normal ?_
     clear hHeld
     clear hbw
     go_wp2_with fail
     go_roundw
     case rel => exact ⟨k + 1, by omega, by go_num, Lib.hid (by rw [HTK.out]; exact HO4.out), HCW.out⟩
     case measure => simp [intOf]; omega
    ·obtain rfl : k = db[i].rows.length := by omega
     rw [List.take_length] at hown
     have hvl : vs.length = db.length := by rw [HDB.out.len, partD_len db hi']
     have hdq := HDB.out.belowC hbq
     have how := hown.out
     have HL := Lib.hid (hdq.lay (i := i) (by omega) (how.monoC hb.size) (fun q hq j hj e => by have h1 := (how.lt q hq).1; have hj2 : j < (partD db i).length := (by rw [partD_len db hi']; omega); have h2 := ((HDB.out.own j hj2 hj).lt q e).2; omega))
     rw [partD_set db hlt] at HL
     have hcell : wr.cell? ⟨w.heap.size, i, none⟩ = some (vs[i]'(by omega)) := hdq.blo.cell i _ (List.getElem?_eq_getElem (by omega))
     have hfree := hdq.blo.free i
     obtain ⟨A9, c9, e9, -, -, -⟩ := how.sl
     obtain ⟨n9, hn9⟩ : ∃ n9, n9 = db[i].rows.length := ⟨_, rfl⟩
     have hbs := Lib.hid (hbz.setCell (p := ⟨w.heap.size, i, none⟩) (Nat.le_refl _))
     rw [← hn9] at e9
     subst e9
     have hnn := Lib.hid hn9
     clear hn9 how hdq HDB hown
     have p0k := pq
     go_wp2_with fail
     go_roundw
     case rel => exact ⟨i + 1, by omega, by go_num, Lib.hid ⟨_, HL.out⟩, hbs.out _⟩
     case measure => simp [intOf]; omega
  ·obtain rfl : i = db.length := by omega
   have hsl := hdb.sl
   have e1 : partD db db.length = db := by unfold partD; simp
   rw [e1] at hsl
   have HSL := Lib.hid hsl
   clear hsl hdb e1
   go_wp2_with fail
   go_ret
   exact ⟨_, _, rfl, Nat.le_refl _, HSL.out, hb⟩
set_option maxRecDepth 100000 in
set_option maxHeartbeats 1000000 in
theorem rdPlace (A B : Option Addr) (n c m d : Nat) (w : World) (R : Nat) (a : Option Addr) (len cap : Nat) (zs : List Int) (h : Rdr w R a len cap zs) (hn : 1 ≤ n) (hn2 : n ≤ 1000) :
  Calls Tryz.prog 39 #[.pointer (some ⟨R, 0, none⟩), .slice A n c, .slice B m d] w (Drew R a len cap zs isI64 w) := by
 go_enter Tryz.func39, Tryz.ntmps39
 go_wp2_with fail
 refine (rdOnce 30 _ R a len cap zs h).mono ?_
 rintro e w1 ⟨v, rfl, ⟨b1, rfl⟩, hb1, hr1⟩
 have hh : (0 : Int) ≤ (n : Int) - 1 := by omega
 by_cases hq : b1 = true ∨ m ≠ n
 ·cases b1
  ·have hmn : ¬ m = n := by simpa using hq
   have hmn' : ((m : Int) != (n : Int)) = true := by simp; omega
   go_wp2_with fail
   refine (rdOff 0 ((n : Int) - 1) (by omega) hh (by omega) _ R a len cap zs hr1).mono ?_
   rintro e w2 ⟨v, rfl, ⟨x, rfl, x0, x1⟩, hb2, hr2⟩
   go_wp2_with fail
   go_ret
   exact ⟨_, rfl, ⟨x, rfl, by omega, by omega⟩, hb1.trans hb2, hr2⟩
  ·go_wp2_with fail
   refine (rdOff 0 ((n : Int) - 1) (by omega) hh (by omega) _ R a len cap zs hr1).mono ?_
   rintro e w2 ⟨v, rfl, ⟨x, rfl, x0, x1⟩, hb2, hr2⟩
   go_wp2_with fail
   go_ret
   exact ⟨_, rfl, ⟨x, rfl, by omega, by omega⟩, hb1.trans hb2, hr2⟩
 ·have hb : b1 = false := by cases b1 <;> simp_all
  have hm : m = n := by simp at hq; exact hq.2
  subst hb hm
  go_wp2_with fail
  refine (rdBelow (m : Int) _ R a len cap zs hr1).mono ?_
  rintro e w2 ⟨v, rfl, ⟨x, rfl, x0, x1⟩, hb2, hr2⟩
  go_wp2_with fail
  go_ret
  exact ⟨_, rfl, ⟨x, rfl, by omega, by omega⟩, hb1.trans hb2, hr2⟩
def CT (w : World) (g : Nat) (y : Int) : Prop := w.cell? ⟨g, 0, none⟩ = some (.int .i64 2) ∧ w.cell? ⟨g, 1, none⟩ = some (.int .i64 0) ∧ w.cell? ⟨g, 2, none⟩ = some (.int .i64 1) ∧ w.cell? ⟨g, 3, none⟩ = some (.int .i64 y) ∧ w.cell? ⟨g, 4, none⟩ = some (.string ⟨#[]⟩)
theorem CT.keep {w w' : World} {g : Nat} {y : Int} (h : CT w g y) (hk : ∀ j, j < 5 → ∀ v, w.cell? ⟨g, j, none⟩ = some v → w'.cell? ⟨g, j, none⟩ = some v) : CT w' g y :=
 ⟨hk 0 (by omega) _ h.1, hk 1 (by omega) _ h.2.1, hk 2 (by omega) _ h.2.2.1, hk 3 (by omega) _ h.2.2.2.1, hk 4 (by omega) _ h.2.2.2.2⟩
theorem CT.but {w w' : World} {g : Nat} {y : Int} (h : CT w g y) {R : Nat} (hb : But R w w') (hR : g ≠ R) : CT w' g y := h.keep fun j _ v hv => (hb.cell (cell_lt hv) hR).trans hv
theorem CT.new (w : World) (y : Int) (T : TypeId) : CT (w.alloc (.cells #[.int .i64 2, .int .i64 0, .int .i64 1, .int .i64 y, .string ⟨#[]⟩] T)) w.heap.size y := by
 refine ⟨?_, ?_, ?_, ?_, ?_⟩ <;> (rw [World.cell?_alloc_new]; rfl)
theorem toks_post {R : Nat} {w w3 w4 : World} {a : Option Addr} {len cap : Nat} {zs : List Int} (hb : But R w w3) (hr : Rdr w3 R a len cap zs) (hb4 : Below w3.heap.size w3 w4) (ts : List Tk) {B : Nat} (hB : ts.length ≤ B) (h1 : 1 ≤ ts.length) (cs : Array Value) (hc : (ts.map Tk.cells).flatten.toArray = cs) (n : Nat) (hn : n = ts.length) (hm : n ≤ 1000) :
  Drew R a len cap zs (isToks w.heap.size B) w (.returned (.slice (some ⟨w4.heap.size, 0, none⟩) n n)) (w4.alloc (.cells cs 36)) := by
 subst hc hn
 refine ⟨_, rfl, ⟨ts, ⟨?_, .inr ⟨w4.heap.size, ts.length, (ts.map Tk.cells).flatten.toArray, rfl, Nat.le_trans hb.size hb4.size, Go.heap_alloc_last w4 _, Nat.le_refl _, by unfold maxLen; omega, ?_, ?_⟩⟩, hB, h1⟩, (hb.trans (But.ofBelow hb4)).alloc _, (hr.below hb4).alloc _⟩
 ·rw [flat_len (sz := 5) (ts.map Tk.cells) (by intro c hc; obtain ⟨t, -, rfl⟩ := List.mem_map.1 hc; rfl), List.length_map]
 ·rw [List.size_toArray, flat_len (sz := 5) (ts.map Tk.cells) (by intro c hc; obtain ⟨t, -, rfl⟩ := List.mem_map.1 hc; rfl), List.length_map]
 ·rw [List.take_of_length_le]
  rw [flat_len (sz := 5) (ts.map Tk.cells) (by intro c hc; obtain ⟨t, -, rfl⟩ := List.mem_map.1 hc; rfl), List.length_map]
  exact Nat.le_refl _
set_option maxRecDepth 100000 in
set_option maxHeartbeats 2000000 in
theorem rdCond (w : World) (R : Nat) (a : Option Addr) (len cap : Nat) (zs : List Int) (h : Rdr w R a len cap zs) :
  Calls Tryz.prog 40 #[.pointer (some ⟨R, 0, none⟩), .int .i64 2] w (Drew R a len cap zs (isToks w.heap.size (eb 2)) w) := by
 have hR : R < w.heap.size := cell_lt h.code
 go_enter Tryz.func40, Tryz.ntmps40
 go_wp2_with fail
 refine (rdBelow 2 _ R a len cap zs h).mono ?_
 rintro e w1 ⟨v, rfl, ⟨x, rfl, x0, x1⟩, hb1, hr1⟩
 go_wp2_with fail
 refine (rdBelow 4 _ R a len cap zs hr1).mono ?_
 rintro e w2 ⟨v, rfl, ⟨y, rfl, y0, y1⟩, hb2, hr2⟩
 go_wp2_with fail
 refine (specInt y _).mono ?_
 rintro e w3 ⟨rfl, o3, rfl⟩
 go_wp2_with fail
 refine (specL2Const 1 y ⟨#[]⟩ _).mono ?_
 rintro e w4 ⟨rfl, hb4⟩
 have hb5 := (((hb1.trans hb2).alloc o3).trans (below_but hb4 R)).alloc (.cells #[.int .i64 2, .int .i64 0, .int .i64 1, .int .i64 y, .string ⟨#[]⟩] 36)
 have hr5 := (rdr_below (hr2.alloc o3) hb4).alloc (.cells #[.int .i64 2, .int .i64 0, .int .i64 1, .int .i64 y, .string ⟨#[]⟩] 36)
 have hc5 := CT.new w4 y 36
 have hx5 : w4.heap.size ≠ R := by have := (((hb1.trans hb2).alloc o3).trans (below_but hb4 R)).size; omega
 clear hb1 hr1 hb2 hr2 hb4
 go_wp2_with fail
 generalize w4.alloc (.cells #[.int .i64 2, .int .i64 0, .int .i64 1, .int .i64 y, .string ⟨#[]⟩] 36) = w5 at *
 generalize w4.heap.size = gx at *
 refine (rdBelow 5 _ R a len cap zs hr5).mono ?_
 rintro e w6 ⟨v, rfl, ⟨z, rfl, z0, z1⟩, hb6, hr6⟩
 have HB := Lib.hid (hb5.trans hb6)
 have HR := Lib.hid hr6
 have HC := Lib.hid (hc5.but hb6 hx5)
 have hxR := hx5
 clear hb5 hr5 hc5 hb6 hr6 hx5
 rcases (show z = 0 ∨ z = 1 ∨ z = 2 ∨ z = 3 ∨ (z ≠ 0 ∧ z ≠ 1 ∧ z ≠ 2 ∧ z ≠ 3) by omega) with rfl | rfl | rfl | rfl | ⟨g1, g2, g3, g4⟩
 ·go_wp2_with fail
  refine (specInt 1 _).mono ?_
  rintro e w7 ⟨rfl, o7, rfl⟩
  go_wp2_with fail
  refine (specL2Const 1 1 ⟨#[]⟩ _).mono ?_
  rintro e w8 ⟨rfl, hb8⟩
  go_wp2_with fail
  go_ret
  exact toks_post (HB.out.alloc o7) (HR.out.alloc o7) hb8 [⟨2, 0, 1, 1, ⟨#[]⟩⟩] (by decide) (by decide) _ rfl 1 rfl (by omega)
 ·go_upto_region 7 with fail
  refine wp_region_noPanic ?_
  refine wp_region_held_drew (S := (fun w' => w'.cell? ⟨gx, 0, none⟩ = some (.int .i64 2) ∧ w'.cell? ⟨gx, 1, none⟩ = some (.int .i64 0) ∧ w'.cell? ⟨gx, 2, none⟩ = some (.int .i64 1) ∧ w'.cell? ⟨gx, 3, none⟩ = some (.int .i64 y) ∧ w'.cell? ⟨gx, 4, none⟩ = some (.string ⟨#[]⟩))) (by kernel_rfl) (HC.out) (fun hHeld => ?_)
  refine tk 0 ?_
  refine tk 2 ?_
  refine tk 3 ?_
  refine wpAnyH_ready (rs := [1]) (by kernel_rfl) (by simp) ?_
  refine AllReadyH.cons rfl (fun K hK => ?_) AllReadyH.nil
  go_simp
  go_at_call 79
  refine (specL2Col x _).mono ?_
  rintro e w9 ⟨rfl, hb9⟩
  have HC9 := Lib.hid ((show CT w6.drew gx y from HC.out).but (below_but hb9 R) hxR)
  refine hK.out _ _ HC9.out (fun hHeld => ?_)
  clear hK K
  (try simp only [Act.put, pz0, pz1, pz2, pz3, pz4, pz5])
  refine wpAnyH_ready (rs := [4]) (by kernel_rfl) (by simp) ?_
  refine AllReadyH.cons rfl (fun K hK => ?_) AllReadyH.nil
  go_simp
  refine hK.out _ _ (CT.but HC9.out ((But.refl R w9).alloc _) hxR) (fun hHeld => ?_)
  clear hK K
  (try simp only [Act.put, pz0, pz1, pz2, pz3, pz4, pz5])
  refine tk 5 ?_
  refine wpAnyH_done (by kernel_rfl) ?_ _
  refine NoPanic.normal ?_
  clear hHeld
  go_wp2_with fail
  go_ret
  exact toks_post (HB.out.drew) (rdr_drewY HR.out) hb9 [⟨1, x, 0, 0, ⟨#[]⟩⟩, ⟨2, 0, 1, y, ⟨#[]⟩⟩, ⟨3, 0, 0, 0, ⟨#[]⟩⟩] (show 3 ≤ eb 2 by decide) (show 1 ≤ 3 by omega) _ rfl 3 rfl (by omega)
 ·go_wp2_with fail
  refine (specL2Col x _).mono ?_
  rintro e w8 ⟨rfl, hb8⟩
  go_wp2_with fail
  go_ret
  exact toks_post HB.out HR.out hb8 [⟨1, x, 0, 0, ⟨#[]⟩⟩, ⟨8, 0, 0, 0, ⟨#[]⟩⟩, ⟨7, 0, 0, 0, ⟨#[]⟩⟩] (show 3 ≤ eb 2 by decide) (show 1 ≤ 3 by omega) _ rfl 3 rfl (by omega)
 ·go_wp2_with fail
  refine (rdExpr 2 (by omega) (by omega) 2 (by omega) 2 rfl _ R a len cap zs HR.out).mono ?_
  rintro e w8 ⟨v, rfl, ⟨ts, hts, hl, h1⟩, hb8, hr8⟩
  go_wp2_with fail
  go_ret
  exact ⟨_, rfl, ⟨ts, OwnG.mono hts HB.out.size, hl, h1⟩, HB.out.trans hb8, hr8⟩
 ·go_upto_region 12 with fail
  refine wp_region_noPanic ?_
  refine wp_region_held_drew (S := (fun w' => w'.cell? ⟨gx, 0, none⟩ = some (.int .i64 2) ∧ w'.cell? ⟨gx, 1, none⟩ = some (.int .i64 0) ∧ w'.cell? ⟨gx, 2, none⟩ = some (.int .i64 1) ∧ w'.cell? ⟨gx, 3, none⟩ = some (.int .i64 y) ∧ w'.cell? ⟨gx, 4, none⟩ = some (.string ⟨#[]⟩))) (by kernel_rfl) (HC.out) (fun hHeld => ?_)
  refine tk 0 ?_
  refine tk 1 ?_
  refine tk 3 ?_
  refine wpAnyH_ready (rs := [2]) (by kernel_rfl) (by simp) ?_
  refine AllReadyH.cons rfl (fun K hK => ?_) AllReadyH.nil
  go_simp
  go_at_call 79
  refine (specL2Col x _).mono ?_
  rintro e w9 ⟨rfl, hb9⟩
  have HC9 := Lib.hid ((show CT w6.drew gx y from HC.out).but (below_but hb9 R) hxR)
  refine hK.out _ _ HC9.out (fun hHeld => ?_)
  clear hK K
  (try simp only [Act.put, pz0, pz1, pz2, pz3, pz4, pz5])
  refine wpAnyH_ready (rs := [4]) (by kernel_rfl) (by simp) ?_
  refine AllReadyH.cons rfl (fun K hK => ?_) AllReadyH.nil
  go_simp
  refine hK.out _ _ (CT.but HC9.out ((But.refl R w9).alloc _) hxR) (fun hHeld => ?_)
  clear hK K
  (try simp only [Act.put, pz0, pz1, pz2, pz3, pz4, pz5])
  refine tk 5 ?_
  refine wpAnyH_done (by kernel_rfl) ?_ _
  refine NoPanic.normal ?_
  clear hHeld
  go_wp2_with fail
  go_ret
  exact toks_post (HB.out.drew) (rdr_drewY HR.out) hb9 [⟨2, 0, 1, y, ⟨#[]⟩⟩, ⟨1, x, 0, 0, ⟨#[]⟩⟩, ⟨4, 0, 0, 0, ⟨#[]⟩⟩] (show 3 ≤ eb 2 by decide) (show 1 ≤ 3 by omega) _ rfl 3 rfl (by omega)
def opTk (k : Int) : Tk := ⟨k, 0, 0, 0, ⟨#[]⟩⟩
theorem tokB_op {k cols : Int} (h : 3 ≤ k) (h' : k ≤ 10) : tokB (opTk k) cols = true := by
 unfold tokB opTk isOpB zeroB
 rw [if_neg (by simp; omega), if_neg (by simp; omega)]
 simp [h, h']
theorem exprGo_more (cols : Int) (d : Nat) : ∀ (ts : List Tk) (l m : Nat), exprGo cols ts l = some m → exprGo cols ts (d + l) = some (d + m)
 | [], l, m, h => by simp [exprGo] at h ⊢; omega
 | t :: ts, l, m, h => by
  simp only [exprGo] at h ⊢
  split at h
  ·rename_i hc
   rw [if_pos ⟨hc.1, by omega⟩, show d + l - takes t.k + 1 = d + (l - takes t.k + 1) by omega]
   exact exprGo_more cols d ts _ _ h
  ·cases h
theorem evalGo_more {row : List Vl} {cols : Int} (pre : List Vl) : ∀ (ts : List Tk) (st : List Vl) (m : Nat), exprGo cols ts st.length = some m → evalGo row ts (pre ++ st) = (evalGo row ts st).map (pre ++ ·)
 | [], st, m, h => by simp [evalGo]
 | t :: ts, st, m, h => by
  simp only [exprGo] at h
  split at h
  ·rename_i hc
   have e1 : (pre ++ st).drop ((pre ++ st).length - takes t.k) = st.drop (st.length - takes t.k) := by
    rw [List.length_append, List.drop_append, List.drop_of_length_le (by omega), List.nil_append]; congr 1; omega
   have e2 : (pre ++ st).take ((pre ++ st).length - takes t.k) = pre ++ st.take (st.length - takes t.k) := by
    rw [List.length_append, List.take_append, List.take_of_length_le (by omega)]; congr 2; omega
   simp only [evalGo, evalStep, e1, e2]
   cases tokVal row t (st.drop (st.length - takes t.k)) with
   | none => rfl
   | some v =>
    simp only [Option.map_some, Option.bind_some]
    rw [List.append_assoc]
    refine evalGo_more (cols := cols) pre ts _ m ?_
    rw [List.length_append, List.length_take, List.length_singleton]
    rw [show min (st.length - takes t.k) st.length + 1 = st.length - takes t.k + 1 by omega]
    exact h
  ·cases h
theorem evalGo_len {row : List Vl} {cols : Int} : ∀ (ts : List Tk) (st st' : List Vl) (m : Nat), exprGo cols ts st.length = some m → evalGo row ts st = some st' → st'.length = m
 | [], st, st', m, h, e => by simp [exprGo] at h; simp [evalGo] at e; subst e; exact h
 | t :: ts, st, st', m, h, e => by
  simp only [exprGo] at h
  split at h
  ·rename_i hc
   simp only [evalGo, evalStep] at e
   cases hv : tokVal row t (st.drop (st.length - takes t.k)) with
   | none => simp [hv] at e
   | some v =>
    simp only [hv, Option.map_some, Option.bind_some] at e
    refine evalGo_len (cols := cols) ts _ st' m ?_ e
    rw [List.length_append, List.length_take, List.length_singleton]
    rw [show min (st.length - takes t.k) st.length + 1 = st.length - takes t.k + 1 by omega]
    exact h
  ·cases h
theorem exprB_iff {ts : List Tk} {row : List Vl} (hr : rowB row = true) : exprB ts row.length = (decide (ts.length ≤ 24) && (exprGo row.length ts 0 == some 1)) := by
 have h : row.length ≤ 16 := by simp [rowB] at hr; exact hr.1
 unfold exprB
 rw [decide_eq_true (show (0 : Int) ≤ row.length by omega), decide_eq_true (show (row.length : Int) ≤ 16 by omega)]
 simp
theorem evalB_right {ts : List Tk} {row : List Vl} (hr : rowB row = true) (hl : ts.length ≤ 24) (hx : exprGo row.length ts 0 = some 1) : evalB ts row = (evalGo row ts []).bind (·[0]?) := by
 unfold evalB
 rw [exprB_iff hr, hx, hr, decide_eq_true hl]; rfl
theorem evalB_wrong {ts : List Tk} {row : List Vl} (hx : exprGo row.length ts 0 ≠ some 1) : evalB ts row = none := by
 unfold evalB
 rw [if_neg]
 intro h
 rw [Bool.and_eq_true] at h
 exact hx (exprB_go h.2).1
theorem evalB_row' {ts : List Tk} {row : List Vl} (hr : rowB row = false) : evalB ts row = none := by simp [evalB, hr]
theorem evalGo_one {ts : List Tk} {row : List Vl} {v : Vl} (hr : rowB row = true) (hl : ts.length ≤ 24) (hx : exprGo row.length ts 0 = some 1) (hv : evalB ts row = some v) : evalGo row ts [] = some [v] := by
 rw [evalB_right hr hl hx] at hv
 obtain ⟨st, hst, h0⟩ := Option.bind_eq_some_iff.1 hv
 have hlen := evalGo_len (cols := row.length) ts [] st 1 hx hst
 match st, hlen, h0 with
 | [u], _, h0 => simp at h0; subst h0; exact hst
theorem evalB_parts {ts : List Tk} {row : List Vl} {v : Vl} (hv : evalB ts row = some v) : rowB row = true ∧ ts.length ≤ 24 ∧ exprGo row.length ts 0 = some 1 := by
 unfold evalB at hv
 split at hv
 ·rename_i h
  rw [Bool.and_eq_true] at h
  have := exprB_go h.2
  exact ⟨h.1, this.2, this.1⟩
 ·cases hv
theorem exprGo_op1 {ts : List Tk} {cols k : Int} (hk : k = 7 ∨ k = 8) : exprGo cols (ts ++ [opTk k]) 0 = (exprGo cols ts 0).bind fun l => if 1 ≤ l then some l else none := by
 rw [exprGo_append]
 congr 1
 funext l
 have ht : takes (opTk k).k = 1 := by rcases hk with rfl | rfl <;> rfl
 simp only [exprGo, ht, tokB_op (k := k) (cols := cols) (by omega) (by omega), true_and]
 split
 ·congr 1; omega
 ·rfl
theorem exprGo_one1 {ts : List Tk} {cols k : Int} (hk : k = 7 ∨ k = 8) : exprGo cols (ts ++ [opTk k]) 0 = some 1 ↔ exprGo cols ts 0 = some 1 := by
 rw [exprGo_op1 hk]
 cases exprGo cols ts 0 with
 | none => simp
 | some l =>
  simp only [Option.bind_some]
  split
  ·simp
  ·simp; omega
theorem evalB_op1 {ts : List Tk} {row : List Vl} {k : Int} (hk : k = 7 ∨ k = 8) (hl : ts.length < 24) : evalB (ts ++ [opTk k]) row = (evalB ts row).bind (op1 k) := by
 cases hr : rowB row
 ·rw [evalB_row' hr, evalB_row' hr]; rfl
 by_cases hx : exprGo row.length ts 0 = some 1
 ·have hx' := (exprGo_one1 (k := k) hk).2 hx
  rw [evalB_right hr (by simp; omega) hx', evalGo_append]
  cases hv : evalB ts row with
  | none =>
   rw [evalB_right hr (by omega) hx] at hv
   cases hg : evalGo row ts [] with
   | none => rfl
   | some st =>
    have hlen := evalGo_len (cols := row.length) ts [] st 1 hx hg
    match st, hlen with
    | [u], _ => rw [hg] at hv; simp at hv
  | some v =>
   rw [evalGo_one hr (by omega) hx hv]
   have ht : takes (opTk k).k = 1 := by rcases hk with rfl | rfl <;> rfl
   have htv : tokVal row (opTk k) [v] = op1 k v := by
    unfold tokVal
    rw [if_neg (show ¬ (opTk k).k = 1 by simp [opTk]; omega), if_neg (show ¬ (opTk k).k = 2 by simp [opTk]; omega)]; rfl
   simp only [Option.bind_some, evalGo, evalStep, ht, List.length_singleton, Nat.sub_self, List.drop_zero, List.take_zero, htv, List.nil_append]
   cases op1 k v <;> rfl
 ·rw [evalB_wrong hx, evalB_wrong (fun h => hx ((exprGo_one1 hk).1 h))]; rfl
theorem truOf_asVl {a : Int} (h : a = 0 ∨ a = 1 ∨ a = 2) : truOf (asVl a) = a := by
 rcases h with rfl | rfl | rfl <;> rfl
theorem truthB_some {ts : List Tk} {row : List Vl} (h : 0 ≤ truthB ts row) : ∃ v, evalB ts row = some v ∧ truOf v = truthB ts row ∧ (truthB ts row = 0 ∨ truthB ts row = 1 ∨ truthB ts row = 2) := by
 unfold truthB at h ⊢
 cases hv : evalB ts row with
 | none => rw [hv] at h; simp at h
 | some v =>
  rw [hv] at h
  have hc := truOf_cases (evalB_ok hv)
  refine ⟨v, rfl, rfl, ?_⟩
  simp only at h ⊢
  omega
theorem not3_in {a : Int} (h : a = 0 ∨ a = 1 ∨ a = 2) : not3 a = 0 ∨ not3 a = 1 ∨ not3 a = 2 := by rcases h with rfl | rfl | rfl <;> simp [not3]
theorem truthB_not {ts : List Tk} {row : List Vl} (hl : ts.length < 24) : truthB (ts ++ [opTk 7]) row = not3 (truthB ts row) := by
 unfold truthB
 rw [evalB_op1 (Or.inl rfl) hl]
 cases hv : evalB ts row with
 | none => rfl
 | some v =>
  simp only [Option.bind_some]
  unfold op1
  rw [if_pos rfl]
  rcases truOf_cases (evalB_ok hv) with ⟨-, h⟩ | ⟨-, h⟩ | ⟨-, h⟩
  ·rw [h]; rfl
  ·rcases h with h | h <;> rw [h] <;> rfl
  ·rw [h]; rfl
theorem exprGo_two {ts : List Tk} {cols : Int} (hx : exprGo cols ts 0 = some 1) : exprGo cols (ts ++ ts) 0 = some 2 := by
 rw [exprGo_append, hx]
 exact exprGo_more cols 1 ts 0 1 hx
theorem evalGo_two {ts : List Tk} {row : List Vl} {v : Vl} (hx : exprGo row.length ts 0 = some 1) (hg : evalGo row ts [] = some [v]) : evalGo row (ts ++ ts) [] = some [v, v] := by
 rw [evalGo_append, hg]
 simp only [Option.bind_some]
 have := evalGo_more (row := row) (cols := row.length) [v] ts [] 1 hx
 rw [List.append_nil] at this
 rw [this, hg]; rfl
theorem tokVal_op2 {row : List Vl} {k : Int} (h : 3 ≤ k) (a b : Vl) : tokVal row (opTk k) [a, b] = op2 k a b := by
 unfold tokVal
 rw [if_neg (show ¬ (opTk k).k = 1 by simp [opTk]; omega), if_neg (show ¬ (opTk k).k = 2 by simp [opTk]; omega)]; rfl
theorem truthB_both {ts : List Tk} {row : List Vl} (hl : 2 * ts.length + 2 ≤ 24) (h : 0 ≤ truthB ts row) : truthB ((ts ++ ts) ++ [opTk 5]) row = truthB ts row := by
 obtain ⟨v, hv, hv2, h3⟩ := truthB_some h
 obtain ⟨hr, -, hx⟩ := evalB_parts hv
 have hg := evalGo_one hr (by omega) hx hv
 have hx2 : exprGo row.length ((ts ++ ts) ++ [opTk 5]) 0 = some 1 := by
  rw [exprGo_append, exprGo_two hx]
  simp only [Option.bind_some, exprGo]
  rw [if_pos ⟨tokB_op (by omega) (by omega), by decide⟩]; rfl
 have he : evalB ((ts ++ ts) ++ [opTk 5]) row = some (asVl (truthB ts row)) := by
  rw [evalB_right hr (by simp; omega) hx2, evalGo_append, evalGo_two hx hg]
  simp only [Option.bind_some, evalGo, evalStep]
  rw [show takes (opTk 5).k = 2 from rfl]
  simp only [List.length_cons, List.length_nil, Nat.zero_add, Nat.reduceAdd, Nat.sub_self, List.drop_zero, List.take_zero, List.nil_append, tokVal_op2 (show (3 : Int) ≤ 5 by omega)]
  have : op2 5 v v = some (asVl (truthB ts row)) := by
   unfold op2
   rw [if_neg (by decide), if_neg (by decide), if_pos rfl, hv2]
   rcases h3 with h3 | h3 | h3 <;> rw [h3] <;> rfl
  rw [this]; rfl
 have e2 : truthB ((ts ++ ts) ++ [opTk 5]) row = truOf (asVl (truthB ts row)) := by
  conv => lhs; unfold truthB
  rw [he]
 rw [e2, truOf_asVl h3]
theorem truthB_or {ts : List Tk} {row : List Vl} (hl : 2 * ts.length + 2 ≤ 24) (h : 0 ≤ truthB ts row) : truthB ((ts ++ ts) ++ [opTk 7, opTk 6]) row = or3 (truthB ts row) (not3 (truthB ts row)) := by
 obtain ⟨v, hv, hv2, h3⟩ := truthB_some h
 obtain ⟨hr, -, hx⟩ := evalB_parts hv
 have hg := evalGo_one hr (by omega) hx hv
 have hx2 : exprGo row.length ((ts ++ ts) ++ [opTk 7, opTk 6]) 0 = some 1 := by
  rw [exprGo_append, exprGo_two hx]
  simp only [Option.bind_some, exprGo]
  rw [if_pos ⟨tokB_op (by omega) (by omega), by decide⟩, if_pos ⟨tokB_op (by omega) (by omega), by decide⟩]; rfl
 have hn : op1 7 v = some (asVl (not3 (truthB ts row))) := by
  unfold op1
  rw [if_pos rfl, hv2]
  rcases h3 with h3 | h3 | h3 <;> rw [h3] <;> rfl
 have ho : op2 6 v (asVl (not3 (truthB ts row))) = some (asVl (or3 (truthB ts row) (not3 (truthB ts row)))) := by
  unfold op2
  rw [if_neg (by decide), if_neg (by decide), if_neg (by decide), if_pos rfl, hv2, truOf_asVl (not3_in h3)]
  rcases h3 with h3 | h3 | h3 <;> rw [h3] <;> rfl
 have htv : tokVal row (opTk 7) [v] = op1 7 v := by
  unfold tokVal
  rw [if_neg (by decide), if_neg (by decide)]; rfl
 have he : evalB ((ts ++ ts) ++ [opTk 7, opTk 6]) row = some (asVl (or3 (truthB ts row) (not3 (truthB ts row)))) := by
  rw [evalB_right hr (by simp; omega) hx2, evalGo_append, evalGo_two hx hg]
  simp only [Option.bind_some, evalGo, evalStep]
  rw [show takes (opTk 7).k = 1 from rfl, show takes (opTk 6).k = 2 from rfl]
  simp only [List.length_cons, List.length_nil, Nat.zero_add, Nat.reduceAdd, Nat.reduceSub, List.drop_succ_cons, List.drop_zero, List.take_succ_cons, List.take_zero, htv, hn, Option.map_some, Option.bind_some, List.cons_append, List.nil_append]
  simp only [List.length_cons, List.length_nil, Nat.zero_add, Nat.reduceAdd, Nat.sub_self, List.drop_zero, List.take_zero, List.nil_append, tokVal_op2 (show (3 : Int) ≤ 6 by omega), ho, Option.map_some, Option.bind_some]
  rfl
 have e2 : truthB ((ts ++ ts) ++ [opTk 7, opTk 6]) row = truOf (asVl (or3 (truthB ts row) (not3 (truthB ts row)))) := by
  conv => lhs; unfold truthB
  rw [he]
 rw [e2, truOf_asVl (by rcases h3 with h3 | h3 | h3 <;> rw [h3] <;> simp [or3, not3, tru])]
end Go.Proofs.YtciaidjmehelpaaGreat
namespace Go.Proofs.YtciaidjmehelpaaGreat
open Go.RowKit Go.Maps
def whereB (cols : List Cl) (wh : List Tk) : Bool := decide (wh.length = 0) || exprB wh cols.length
set_option maxRecDepth 100000 in
set_option maxHeartbeats 1000000 in
theorem implWhereOk (g o : Nat) (A1 AW : Option Addr) (c1 nW cW : Nat) (cols : List Cl) (wh : List Tk) (ok : Nat → Prop) (w : World)
  (x1 : w.cell? ⟨g, o + 1, none⟩ = some (.slice A1 cols.length c1)) (hw : Sl TkR 5 ok w AW nW wh) (hn : nW ≤ 1048576) :
  Calls Tryz.prog 43 #[.pointer (some ⟨g, o, none⟩), .slice AW nW cW] w fun e w' => e = .returned (.bool (whereB cols wh)) ∧ Below w.heap.size w w' := by
 obtain rfl : wh.length = nW := hw.1
 by_cases h0 : wh.length = 0
 ·have HF := Lib.hid (show whereB cols wh = true by unfold whereB; rw [decide_eq_true h0]; rfl)
  have h0' : ((wh.length : Int) == 0) = true := by simpa using h0
  clear h0
  go_enter Tryz.func43, Tryz.ntmps43
  go_wp2_with fail
  go_ret
  exact ⟨retB HF.out.symm, Below.refl _ _⟩
 ·have HF := Lib.hid (show whereB cols wh = exprB wh cols.length by unfold whereB; rw [decide_eq_false h0]; rfl)
  have h0' : ((wh.length : Int) == 0) = false := by simpa using h0
  clear h0
  go_enter Tryz.func43, Tryz.ntmps43
  go_wp2_with fail
  refine (implExprOk AW wh.length cW wh cols.length _ (Sl.cellz (fun _ => rfl) hw) (by unfold maxLen; omega)).mono ?_
  rintro e w1 ⟨rfl, hb1⟩
  go_wp2_with fail
  go_ret
  exact ⟨retB HF.out.symm, hb1⟩
end Go.Proofs.YtciaidjmehelpaaGreat
namespace Go.Proofs.YtciaidjmehelpaaGreat
open Go.RowKit
set_option maxRecDepth 100000 in
set_option maxHeartbeats 1000000 in
theorem lawsSameInts (A A' : Option Addr) (n c c' : Nat) (l : List Int) (ok ok' : Nat → Prop) (w : World) (h : Sl IntR 1 ok w A n l) (h' : Sl IntR 1 ok' w A' n l) (hs : l.length ≤ 1048576) :
  Calls Tryz.prog 13 #[.slice A n c, .slice A' n c'] w fun e w' => e = .returned (.bool true) ∧ Below w.heap.size w w' := by
 obtain rfl : l.length = n := h.1
 have hn : l.length ≤ 1048576 := by exact hs
 have HS := Lib.hid hs
 clear hs
 go_enter Tryz.func13, Tryz.ntmps13
 go_wp2
 go_loopw [5] (fun i wr => ∃ k : Nat, k ≤ l.length ∧ i = .int .i64 k ∧ Below w.heap.size w wr) (fun i _ => l.length - (intOf i).toNat)
 case atStart => exact ⟨0, by omega, rfl, Below.refl _ _⟩
 case round =>
  obtain ⟨k, hk, rfl, hb⟩ := hrel
  by_cases hlt : k < l.length
  ·obtain ⟨b, off, -, rfl, q0⟩ := IntR.at_ (h.below IntR.stays hb) hlt
   obtain ⟨b', off', -, rfl, r0⟩ := IntR.at_ (h'.below IntR.stays hb) hlt
   have i0 : (0 : Int) ≤ k := by omega
   have i1 : (k : Int) < l.length := by omega
   go_wp2_with fail
   go_region_held3 (fun w' => w'.cell? ⟨b, off + k, none⟩ = some (.int .i64 l[k]) ∧ w'.cell? ⟨b', off' + k, none⟩ = some (.int .i64 l[k]))
    (go_keep) (fail)
   go_wp2
   go_roundw
   case rel => exact ⟨k + 1, by omega, by go_num, hb.drew⟩
   case measure => simp [intOf]; omega
  ·go_wp2
   go_ret
   exact ⟨rfl, hb⟩
end Go.Proofs.YtciaidjmehelpaaGreat
