/-
  Several texts in one: what the proof leans on, part 4.
-/
import Derived.Test.YtjhhamlnlalkoaaGreatPa
import Derived.Test.YtjhhamlnlalkoaaGreatPb
import Derived.Deep.RegionWith
import Derived.Deep.RegionHeld3
import Derived.Deep.CutRange
import Derived.BigRegion
import Derived.IntWalk
import Derived.Deep.AppendLies
import Derived.Lib.SmallJoins
import Derived.Laws.IdiomStrings
set_option linter.unusedVariables false
set_option linter.unusedSimpArgs false
namespace Go.Proofs.YtjhhamlnlalkoaaGreat
open Go.RowKit
structure Rdr (w : World) (R : Nat) (a : Option Addr) (len cap : Nat) (zs : List Int) : Prop where
 code : w.cell? ⟨R, 0, none⟩ = some (.slice a len cap)
 place : ∃ p : Nat, p ≤ len ∧ w.cell? ⟨R, 1, none⟩ = some (.int .i64 p)
 free : w.frozen? ⟨R, 1, none⟩ = false
 row : IsRow .u8 w a len cap zs
 apart : ∀ x, a = some x → 0 < cap → x.block ≠ R
def Drew (R : Nat) (a : Option Addr) (len cap : Nat) (zs : List Int) (P : Value → World → Prop) (w : World) (e : Ending) (w' : World) : Prop :=
 ∃ v, e = .returned v ∧ P v w' ∧ But R w w' ∧ Rdr w' R a len cap zs
def isInt (lo hi : Int) (v : Value) (_ : World) : Prop := ∃ n : Int, v = .int .i64 n ∧ lo ≤ n ∧ n ≤ hi
theorem Rdr.drewN {w : World} {R : Nat} {a : Option Addr} {len cap : Nat} {zs : List Int} (h : Rdr w R a len cap zs) (n : Nat) : Rdr (w.drewN n) R a len cap zs := ⟨h.code, h.place, h.free, h.row, h.apart⟩
theorem Rdr.step {w : World} {R : Nat} {a : Option Addr} {len cap : Nat} {zs : List Int} (h : Rdr w R a len cap zs) (p : Nat) (hp : p ≤ len) (n : Nat) : Rdr ((w.drewN n).setCell ⟨R, 1, none⟩ (.int .i64 p)) R a len cap zs := by
 obtain ⟨q, _, hq⟩ := h.place
 exact ⟨(World.cell?_setCell_other _ _ _ _ (by simp)).trans h.code, ⟨p, hp, World.cell?_setCell_same _ _ _ (u := .int .i64 q) hq⟩, (World.frozen?_setCell _ _ _ _).trans h.free,
  h.row.but (((But.refl R w).drewN n).setCell rfl _) h.apart, h.apart⟩
set_option maxHeartbeats 400000 in
theorem rdNext (w : World) (R : Nat) (a : Option Addr) (len cap : Nat) (zs : List Int) (h : Rdr w R a len cap zs) :
  Calls Tryz.prog 82 #[.pointer (some ⟨R, 0, none⟩)] w (Drew R a len cap zs (isInt 0 255) w) := by
 have hc0 := h.code
 obtain ⟨p, hp, hc1⟩ := h.place
 have hfz := h.free
 have hlen := h.row.len_le
 by_cases hlt : p < len
 ·have hge : decide ((len : Int) ≤ p) = false := by simp; omega
  go_enter Tryz.func82, Tryz.ntmps82
  go_wp2
  go_quiet (fail)
  go_wp2
  have h2 := h.step (p + 1) (by omega) nq
  have hb := ((But.refl R w).drewN nq).setCell (p := ⟨R, 1, none⟩) rfl (.int .i64 ((p + 1 : Nat) : Int))
  have d1 := World.cell?_setCell_same (w.drewN nq) ⟨R, 1, none⟩ (.int .i64 ((p + 1 : Nat) : Int)) (u := .int .i64 p) hc1
  rw [show ((p + 1 : Nat) : Int) = (p : Int) + 1 by omega] at h2 hb d1
  generalize (w.drewN nq).setCell ⟨R, 1, none⟩ (.int .i64 ((p : Int) + 1)) = w2 at *
  clear hc0 hc1 hfz hge
  have d0 := h2.code
  obtain ⟨b, off, z, ha, hz, z0, z1⟩ := h2.row.byte hlt
  subst ha
  have H2 := Lib.hid h2; have HB := Lib.hid hb
  clear h2 hb h
  go_quiet (fail)
  go_wp2
  go_ret
  exact ⟨_, rfl, ⟨z, rfl, z0, z1⟩, HB.out.drewN _, H2.out.drewN _⟩
 ·go_enter Tryz.func82, Tryz.ntmps82
  go_wp2
  go_quiet (fail)
  go_wp2
  go_ret
  exact ⟨_, rfl, ⟨0, rfl, by omega, by omega⟩, (But.refl _ _).drewN _, ⟨hc0, ⟨p, hp, hc1⟩, hfz, h.row, h.apart⟩⟩
def isBelow (n : Int) (v : Value) (_ : World) : Prop := ∃ r : Int, v = .int .i64 r ∧ 0 ≤ r ∧ (r = 0 ∨ r < n)
set_option maxHeartbeats 400000 in
theorem rdBelow (n : Int) (w : World) (R : Nat) (a : Option Addr) (len cap : Nat) (zs : List Int) (h : Rdr w R a len cap zs) :
  Calls Tryz.prog 49 #[.pointer (some ⟨R, 0, none⟩), .int .i64 n] w (Drew R a len cap zs (isBelow n) w) := by
 by_cases h1 : n ≤ 1
 ·go_enter Tryz.func49, Tryz.ntmps49
  go_wp2
  go_ret
  exact ⟨_, rfl, ⟨0, rfl, by omega, .inl rfl⟩, But.refl _ _, h⟩
 by_cases h2 : n ≤ 256
 ·have g1 : 1 < n := by omega
  go_enter Tryz.func49, Tryz.ntmps49
  go_wp2_with fail
  refine (rdNext w R a len cap zs h).mono ?_
  rintro e w' ⟨v, rfl, ⟨x, rfl, x0, x1⟩, hb, hr⟩
  go_wp2_with fail
  go_ret
  exact ⟨_, rfl, ⟨x % n, rfl, Int.emod_nonneg _ (by omega), .inr (Int.emod_lt_of_pos _ (by omega))⟩, hb, hr⟩
 ·have g1 : 256 < n := by omega
  go_enter Tryz.func49, Tryz.ntmps49
  go_wp2_with fail
  refine (rdNext w R a len cap zs h).mono ?_
  rintro e w' ⟨v, rfl, ⟨x, rfl, x0, x1⟩, hb, hr⟩
  go_wp2_with fail
  refine (rdNext w' R a len cap zs hr).mono ?_
  rintro e w2 ⟨v, rfl, ⟨y, rfl, y0, y1⟩, hb2, hr2⟩
  go_wp2_with fail
  go_ret
  exact ⟨_, rfl, ⟨(x * 256 + y) % n, rfl, Int.emod_nonneg _ (by omega), .inr (Int.emod_lt_of_pos _ (by omega))⟩, hb.trans hb2, hr2⟩
def isBool (v : Value) (_ : World) : Prop := ∃ b : Bool, v = .bool b
theorem rdOnce (n : Int) (w : World) (R : Nat) (a : Option Addr) (len cap : Nat) (zs : List Int) (h : Rdr w R a len cap zs) :
  Calls Tryz.prog 38 #[.pointer (some ⟨R, 0, none⟩), .int .i64 n] w (Drew R a len cap zs isBool w) := by
 go_enter Tryz.func38, Tryz.ntmps38
 go_wp2_with fail
 refine (rdBelow n w R a len cap zs h).mono ?_
 rintro e w' ⟨v, rfl, ⟨x, rfl, x0, x1⟩, hb, hr⟩
 go_wp2_with fail
 go_ret
 exact ⟨_, rfl, ⟨_, rfl⟩, hb, hr⟩
def isU64 (v : Value) (_ : World) : Prop := ∃ n : Int, v = .int .u64 n ∧ (Lit.int .u64 n).wf = true
set_option maxHeartbeats 1000000 in
theorem rdWord (w : World) (R : Nat) (a : Option Addr) (len cap : Nat) (zs : List Int) (h : Rdr w R a len cap zs) :
  Calls Tryz.prog 133 #[.pointer (some ⟨R, 0, none⟩)] w (Drew R a len cap zs isU64 w) := by
 go_enter Tryz.func133, Tryz.ntmps133
 go_wp2
 go_loopw [3, 4] (fun x i wr => ∃ (k : Nat) (n : Int), k ≤ 8 ∧ i = .int .i64 k ∧ x = .int .u64 n ∧ Hid ((Lit.int .u64 n).wf = true) ∧ But R w wr ∧ Rdr wr R a len cap zs) (fun _ i _ => 8 - (intOf i).toNat)
 case atStart => exact ⟨0, 0, by omega, rfl, rfl, Lib.hid (by decide), But.refl _ _, h⟩
 case round =>
  obtain ⟨k, n, hk, rfl, rfl, hn, hb, hr⟩ := hrel
  by_cases hlt : k < 8
  ·go_wp2_with fail
   refine (rdNext wr R a len cap zs hr).mono ?_
   rintro e w' ⟨v, rfl, ⟨x, rfl, x0, x1⟩, hb2, hr2⟩
   go_wp2_with fail
   go_roundw
   case rel => exact ⟨k + 1, _, by omega, by go_num, rfl, Lib.hid (wf_bits _ _ _ _), hb.trans hb2, hr2⟩
   case measure => simp [intOf]; omega
  ·go_wp2
   go_ret
   exact ⟨_, rfl, ⟨n, rfl, hn.out⟩, hb, hr⟩
set_option maxHeartbeats 400000 in
theorem rdNear (lo hi : Int) (h1 : -2000000000 ≤ lo) (h2 : lo ≤ hi) (h3 : hi ≤ 2000000000) (w : World) (R : Nat) (a : Option Addr) (len cap : Nat) (zs : List Int) (h : Rdr w R a len cap zs) :
  Calls Tryz.prog 105 #[.pointer (some ⟨R, 0, none⟩), .int .i64 lo, .int .i64 hi] w (Drew R a len cap zs (isInt lo hi) w) := by
 go_enter Tryz.func105, Tryz.ntmps105
 go_wp2_with fail
 refine (rdBelow _ w R a len cap zs h).mono ?_
 rintro e w' ⟨v, rfl, ⟨x, rfl, x0, x1⟩, hb, hr⟩
 by_cases c0 : x = 0
 ·subst c0
  go_wp2
  go_ret
  exact ⟨_, rfl, ⟨lo, rfl, by omega, by omega⟩, hb, hr⟩
 by_cases c1 : x = 1
 ·subst c1
  go_wp2
  go_ret
  exact ⟨_, rfl, ⟨hi, rfl, by omega, by omega⟩, hb, hr⟩
 have d0 : (x == 0) = false := by simpa using c0
 have d1 : (x == 1) = false := by simpa using c1
 go_wp2_with fail
 refine (rdWord w' R a len cap zs hr).mono ?_
 rintro e w2 ⟨v, rfl, ⟨y, rfl, hy⟩, hb2, hr2⟩
 obtain ⟨y0, y1⟩ := bounds_u64 hy
 clear hy
 go_wp2_with fail
 go_ret
 have m0 := Int.emod_nonneg (y / 2) (show hi - lo + 1 ≠ 0 by omega)
 have m1 := Int.emod_lt_of_pos (y / 2) (show 0 < hi - lo + 1 by omega)
 exact ⟨_, rfl, ⟨_, rfl, by unfold wrap64; omega, by unfold wrap64; omega⟩, hb.trans hb2, hr2⟩
theorem Rdr.alloc {w : World} {R : Nat} {a : Option Addr} {len cap : Nat} {zs : List Int} (h : Rdr w R a len cap zs) (o : Obj) : Rdr (w.alloc o) R a len cap zs := by
 obtain ⟨p, hp, hc1⟩ := h.place
 have hlt : R < w.heap.size := cell_lt h.code
 have hb : But (w.heap.size) w (w.alloc o) := (But.refl _ _).alloc o
 exact ⟨(hb.cell hlt (Nat.ne_of_lt hlt)).trans h.code, ⟨p, hp, (hb.cell hlt (Nat.ne_of_lt hlt)).trans hc1⟩, (hb.frozen hlt (Nat.ne_of_lt hlt)).trans h.free,
  h.row.but ((But.refl R w).alloc o) h.apart, h.apart⟩
theorem new_cell {R : Nat} {w w' : World} {xs : Array Value} {T : TypeId} (hb : But R (w.alloc (.cells xs T)) w') (hR : R < w.heap.size) (k : Nat) (hk : k < xs.size) : w'.cell? ⟨w.heap.size, k, none⟩ = some xs[k] := by
 rw [hb.cell (by simp) (by simpa using Nat.ne_of_gt hR), World.cell?_alloc_new]
 simp [hk]
theorem new_free {R : Nat} {w w' : World} {xs : Array Value} {T : TypeId} (hb : But R (w.alloc (.cells xs T)) w') (hR : R < w.heap.size) (k : Nat) : w'.frozen? ⟨w.heap.size, k, none⟩ = false := by
 rw [hb.frozen (by simp) (by simpa using Nat.ne_of_gt hR)]
 exact World.frozen?_alloc_at xs T _ k rfl
theorem Rdr.setNew {w w' : World} {R : Nat} {a : Option Addr} {len cap : Nat} {zs : List Int} (h0 : Rdr w R a len cap zs) (h : Rdr w' R a len cap zs) {p : Addr} (hp : w.heap.size ≤ p.block) (v : Value) : Rdr (w'.setCell p v) R a len cap zs := by
 have hR : R < w.heap.size := cell_lt h0.code
 have hc : ∀ q : Addr, q.block < w.heap.size → (w'.setCell p v).cell? q = w'.cell? q := fun q hq => World.cell?_setCell_other _ _ _ _ (fun e => by subst e; omega)
 obtain ⟨i, hi, hi1⟩ := h.place
 refine ⟨(hc _ hR).trans h.code, ⟨i, hi, (hc _ hR).trans hi1⟩, (World.frozen?_setCell _ _ _ _).trans h.free, ?_, h.apart⟩
 rcases h0.row with e | ⟨x, rfl, hl, hm, hz, hcell, hwz⟩
 ·exact .inl e
 ·rcases h.row with ⟨e, _⟩ | ⟨x', e, _, _, _, hcell', _⟩
  ·cases e
  ·cases e
   exact .inr ⟨x, rfl, hl, hm, hz, fun i hi => (hc _ (cell_lt (hcell i hi))).trans (hcell' i hi), hwz⟩
theorem short_str {xs : List Value} (h : ∀ v ∈ xs, ∃ s : ByteArray, v = .string s ∧ s.size ≤ 12) {j : Nat} (hj : j < xs.length) : ∃ s : ByteArray, xs[j] = .string s ∧ s.size ≤ 12 := h _ (List.getElem_mem _)
theorem small_int {xs : List Value} (h : ∀ v ∈ xs, ∃ n : Int, v = .int .i64 n ∧ -1000000000 ≤ n ∧ n ≤ 1000000000) {j : Nat} (hj : j < xs.length) : ∃ n : Int, xs[j] = .int .i64 n ∧ -1000000000 ≤ n ∧ n ≤ 1000000000 := h _ (List.getElem_mem _)
theorem below_nat {y n : Int} (h0 : 0 ≤ y) (h1 : y = 0 ∨ y < n) (hn : 0 < n) : ∃ j : Nat, y = (j : Int) ∧ (j : Int) < n := by
 obtain ⟨j, rfl⟩ := Int.eq_ofNat_of_zero_le h0
 exact ⟨j, rfl, by omega⟩
theorem four {x n : Int} (h0 : 0 ≤ x) (h1 : x = 0 ∨ x < n) (hn : n = 4) : x = 0 ∨ x = 1 ∨ x = 2 ∨ x = 3 := by omega
set_option maxHeartbeats 400000 in
theorem rdOff (lo hi : Int) (h1 : -2000000000 ≤ lo) (h2 : lo ≤ hi) (h3 : hi ≤ 2000000000) (w : World) (R : Nat) (a : Option Addr) (len cap : Nat) (zs : List Int) (h : Rdr w R a len cap zs) :
  Calls Tryz.prog 72 #[.pointer (some ⟨R, 0, none⟩), .int .i64 lo, .int .i64 hi] w (Drew R a len cap zs (isInt (-9223372036854775808) 9223372036854775807) w) := by
 go_enter Tryz.func72, Tryz.ntmps72
 go_wp2_with fail
 refine (rdOnce _ w R a len cap zs h).mono ?_
 rintro e w' ⟨v, rfl, ⟨x, rfl⟩, hb, hr⟩
 have hlt : R < w'.heap.size := cell_lt hr.code
 cases x with
 | false =>
  go_wp2_with fail
  refine (rdNear lo hi h1 h2 h3 w' R a len cap zs hr).mono ?_
  rintro e w2 ⟨v, rfl, ⟨y, rfl, y0, y1⟩, hb2, hr2⟩
  go_wp2_with fail
  go_ret
  exact ⟨_, rfl, ⟨_, rfl, by omega, by omega⟩, hb.trans hb2, hr2⟩
 | true =>
  go_wp2_with fail
  refine (rdBelow _ _ R a len cap zs (hr.alloc _)).mono ?_
  rintro e w2 ⟨v, rfl, ⟨y, rfl, y0, y1⟩, hb2, hr2⟩
  have hb3 := (hb.alloc _).trans hb2
  rcases four y0 y1 rfl with rfl | rfl | rfl | rfl
  ·have c := new_cell hb2 hlt 0 (by simp)
   go_wp2_with fail
   go_ret
   exact ⟨_, rfl, ⟨_, rfl, by omega, by omega⟩, hb3, hr2⟩
  ·have c := new_cell hb2 hlt 1 (by simp)
   go_wp2_with fail
   go_ret
   exact ⟨_, rfl, ⟨_, rfl, by omega, by omega⟩, hb3, hr2⟩
  ·have c := new_cell hb2 hlt 2 (by simp)
   go_wp2_with fail
   go_ret
   exact ⟨_, rfl, ⟨_, rfl, by omega, by omega⟩, hb3, hr2⟩
  ·have c := new_cell hb2 hlt 3 (by simp)
   go_wp2_with fail
   go_ret
   exact ⟨_, rfl, ⟨_, rfl, by omega, by omega⟩, hb3, hr2⟩
def okV (k n : Int) (s : ByteArray) : Prop := (k = 0 ∧ n = 0 ∧ s = ⟨#[]⟩) ∨ (k = 1 ∧ -1000000000 ≤ n ∧ n ≤ 1000000000 ∧ s = ⟨#[]⟩) ∨ (k = 2 ∧ n = 0 ∧ s.size ≤ 12)
def isOkVal (v : Value) (_ : World) : Prop := ∃ k n s, v = .agg #[.int .i64 k, .int .i64 n, .string s] ∧ okV k n s
set_option maxHeartbeats 400000 in
theorem rdVal (w : World) (R : Nat) (a : Option Addr) (len cap : Nat) (zs : List Int) (h : Rdr w R a len cap zs) :
  Calls Tryz.prog 84 #[.pointer (some ⟨R, 0, none⟩)] w (Drew R a len cap zs isOkVal w) := by
 have hlt : R < w.heap.size := cell_lt h.code
 go_enter Tryz.func84, Tryz.ntmps84
 go_wp2_with fail
 refine (rdBelow _ _ R a len cap zs (h.alloc _)).mono ?_
 rintro e w' ⟨v, rfl, ⟨x, rfl, x0, x1⟩, hb, hr⟩
 have hb1 := ((But.refl R w).alloc _).trans hb
 have q0 := new_cell hb hlt 0 (by simp)
 have q1 := new_cell hb hlt 1 (by simp)
 have q2 := new_cell hb hlt 2 (by simp)
 simp only [List.getElem_toArray, List.getElem_cons_zero, List.getElem_cons_succ] at q0 q1 q2
 have f0 := new_free hb hlt 0
 have f1 := new_free hb hlt 1
 have f2 := new_free hb hlt 2
 have hx : x = 0 ∨ x = 1 ∨ x = 2 ∨ x = 3 ∨ x = 4 ∨ 4 < x := by omega
 rcases hx with rfl | rfl | rfl | rfl | rfl | hx
 ·go_wp2_with fail
  exact bodyPost_ret (v := .agg #[.int .i64 0, .int .i64 0, .string ⟨#[]⟩]) (by simp [results, Tryz.results84, go_sem, q0, q1, q2]) rfl
   ⟨_, rfl, ⟨0, 0, _, rfl, .inl ⟨rfl, rfl, rfl⟩⟩, ((hb1.setNew (Nat.le_refl _) _).setNew (Nat.le_refl _) _).setNew (Nat.le_refl _) _,
    h.setNew (h.setNew (h.setNew hr (Nat.le_refl _) _) (Nat.le_refl _) _) (Nat.le_refl _) _⟩
 ·go_wp2_with fail
  exact bodyPost_ret (v := .agg #[.int .i64 0, .int .i64 0, .string ⟨#[]⟩]) (by simp [results, Tryz.results84, go_sem, q0, q1, q2]) rfl
   ⟨_, rfl, ⟨0, 0, _, rfl, .inl ⟨rfl, rfl, rfl⟩⟩, ((hb1.setNew (Nat.le_refl _) _).setNew (Nat.le_refl _) _).setNew (Nat.le_refl _) _,
    h.setNew (h.setNew (h.setNew hr (Nat.le_refl _) _) (Nat.le_refl _) _) (Nat.le_refl _) _⟩
 ·have hlt2 : R < w'.heap.size := cell_lt hr.code
  have hs : w.heap.size < w'.heap.size := by have := hb.size; simp at this; omega
  go_wp2_with fail
  refine (rdBelow _ _ R a len cap zs (hr.alloc _)).mono ?_
  rintro e w2 ⟨v, rfl, ⟨y, rfl, y0, y1⟩, hb2, hr2⟩
  have hb3 := ((But.refl R w').alloc _).trans hb2
  have p0 := (hb3.cell (p := ⟨w.heap.size, 0, none⟩) hs (Nat.ne_of_gt hlt)).trans q0
  have p1 := (hb3.cell (p := ⟨w.heap.size, 1, none⟩) hs (Nat.ne_of_gt hlt)).trans q1
  have p2 := (hb3.cell (p := ⟨w.heap.size, 2, none⟩) hs (Nat.ne_of_gt hlt)).trans q2
  have g0 := (hb3.frozen (p := ⟨w.heap.size, 0, none⟩) hs (Nat.ne_of_gt hlt)).trans f0
  have g1 := (hb3.frozen (p := ⟨w.heap.size, 1, none⟩) hs (Nat.ne_of_gt hlt)).trans f1
  have g2 := (hb3.frozen (p := ⟨w.heap.size, 2, none⟩) hs (Nat.ne_of_gt hlt)).trans f2
  obtain ⟨j, rfl, hj⟩ := below_nat y0 y1 (by omega)
  have hb4 := hb1.trans hb3
  have hs2 : w.heap.size < w2.heap.size := Nat.lt_of_lt_of_le hs hb3.size
  have hj' : j < 6 := by omega
  have hcj := new_cell hb2 hlt2 j (by simpa using hj')
  obtain ⟨s, es, hs12⟩ := short_str (xs := [Value.string ⟨#[]⟩, .string ⟨#[97]⟩, .string ⟨#[98]⟩, .string ⟨#[97, 32, 98]⟩, .string ⟨#[105, 116, 39, 115]⟩, .string ⟨#[120, 44, 37]⟩]) (by simp; decide) (j := j) (by simpa using hj')
  simp only [List.getElem_toArray, es] at hcj
  clear hb hb1 hb2 hb3 q0 q1 q2 f0 f1 f2 es y0 y1
  go_wp2_with fail
  refine (specStr _ _).mono ?_
  rintro e w3 ⟨rfl, o, rfl⟩
  go_wp2_with fail
  exact bodyPost_ret (v := .agg #[.int .i64 2, .int .i64 0, .string s]) (by simp [results, Tryz.results84, go_sem, p0, p1, p2, hs2]) rfl
   ⟨_, rfl, ⟨2, 0, s, rfl, .inr (.inr ⟨rfl, rfl, hs12⟩)⟩, ((hb4.setNew (Nat.le_refl _) _).setNew (Nat.le_refl _) _).setNew (Nat.le_refl _) _ |>.alloc _,
    (h.setNew (h.setNew (h.setNew hr2 (Nat.le_refl _) _) (Nat.le_refl _) _) (Nat.le_refl _) _).alloc _⟩
 ·have hlt2 : R < w'.heap.size := cell_lt hr.code
  have hs : w.heap.size < w'.heap.size := by have := hb.size; simp at this; omega
  go_wp2_with fail
  refine (rdBelow _ _ R a len cap zs (hr.alloc _)).mono ?_
  rintro e w2 ⟨v, rfl, ⟨y, rfl, y0, y1⟩, hb2, hr2⟩
  have hb3 := ((But.refl R w').alloc _).trans hb2
  have p0 := (hb3.cell (p := ⟨w.heap.size, 0, none⟩) hs (Nat.ne_of_gt hlt)).trans q0
  have p1 := (hb3.cell (p := ⟨w.heap.size, 1, none⟩) hs (Nat.ne_of_gt hlt)).trans q1
  have p2 := (hb3.cell (p := ⟨w.heap.size, 2, none⟩) hs (Nat.ne_of_gt hlt)).trans q2
  have g0 := (hb3.frozen (p := ⟨w.heap.size, 0, none⟩) hs (Nat.ne_of_gt hlt)).trans f0
  have g1 := (hb3.frozen (p := ⟨w.heap.size, 1, none⟩) hs (Nat.ne_of_gt hlt)).trans f1
  have g2 := (hb3.frozen (p := ⟨w.heap.size, 2, none⟩) hs (Nat.ne_of_gt hlt)).trans f2
  obtain ⟨j, rfl, hj⟩ := below_nat y0 y1 (by omega)
  have hb4 := hb1.trans hb3
  have hs2 : w.heap.size < w2.heap.size := Nat.lt_of_lt_of_le hs hb3.size
  have hj' : j < 6 := by omega
  have hcj := new_cell hb2 hlt2 j (by simpa using hj')
  obtain ⟨s, es, hs12⟩ := short_str (xs := [Value.string ⟨#[]⟩, .string ⟨#[97]⟩, .string ⟨#[98]⟩, .string ⟨#[97, 32, 98]⟩, .string ⟨#[105, 116, 39, 115]⟩, .string ⟨#[120, 44, 37]⟩]) (by simp; decide) (j := j) (by simpa using hj')
  simp only [List.getElem_toArray, es] at hcj
  clear hb hb1 hb2 hb3 q0 q1 q2 f0 f1 f2 es y0 y1
  go_wp2_with fail
  refine (specStr _ _).mono ?_
  rintro e w3 ⟨rfl, o, rfl⟩
  go_wp2_with fail
  exact bodyPost_ret (v := .agg #[.int .i64 2, .int .i64 0, .string s]) (by simp [results, Tryz.results84, go_sem, p0, p1, p2, hs2]) rfl
   ⟨_, rfl, ⟨2, 0, s, rfl, .inr (.inr ⟨rfl, rfl, hs12⟩)⟩, ((hb4.setNew (Nat.le_refl _) _).setNew (Nat.le_refl _) _).setNew (Nat.le_refl _) _ |>.alloc _,
    (h.setNew (h.setNew (h.setNew hr2 (Nat.le_refl _) _) (Nat.le_refl _) _) (Nat.le_refl _) _).alloc _⟩
 ·have hlt2 : R < w'.heap.size := cell_lt hr.code
  have hs : w.heap.size < w'.heap.size := by have := hb.size; simp at this; omega
  go_wp2_with fail
  refine (rdBelow _ _ R a len cap zs (hr.alloc _)).mono ?_
  rintro e w2 ⟨v, rfl, ⟨y, rfl, y0, y1⟩, hb2, hr2⟩
  have hb3 := ((But.refl R w').alloc _).trans hb2
  have p0 := (hb3.cell (p := ⟨w.heap.size, 0, none⟩) hs (Nat.ne_of_gt hlt)).trans q0
  have p1 := (hb3.cell (p := ⟨w.heap.size, 1, none⟩) hs (Nat.ne_of_gt hlt)).trans q1
  have p2 := (hb3.cell (p := ⟨w.heap.size, 2, none⟩) hs (Nat.ne_of_gt hlt)).trans q2
  have g0 := (hb3.frozen (p := ⟨w.heap.size, 0, none⟩) hs (Nat.ne_of_gt hlt)).trans f0
  have g1 := (hb3.frozen (p := ⟨w.heap.size, 1, none⟩) hs (Nat.ne_of_gt hlt)).trans f1
  have g2 := (hb3.frozen (p := ⟨w.heap.size, 2, none⟩) hs (Nat.ne_of_gt hlt)).trans f2
  obtain ⟨j, rfl, hj⟩ := below_nat y0 y1 (by omega)
  have hb4 := hb1.trans hb3
  have hs2 : w.heap.size < w2.heap.size := Nat.lt_of_lt_of_le hs hb3.size
  have hj' : j < 4 := by omega
  have hcj := new_cell hb2 hlt2 j (by simpa using hj')
  obtain ⟨m, es, m0, m1⟩ := small_int (xs := [Value.int .i64 (-1000000000), .int .i64 1000000000, .int .i64 (-5), .int .i64 70]) (by simp) (j := j) (by simpa using hj')
  simp only [List.getElem_toArray, es] at hcj
  clear hb hb1 hb2 hb3 q0 q1 q2 f0 f1 f2 es y0 y1
  go_wp2_with fail
  refine (specInt _ _).mono ?_
  rintro e w3 ⟨rfl, o, rfl⟩
  go_wp2_with fail
  exact bodyPost_ret (v := .agg #[.int .i64 1, .int .i64 m, .string ⟨#[]⟩]) (by simp [results, Tryz.results84, go_sem, p0, p1, p2, hs2]) rfl
   ⟨_, rfl, ⟨1, m, _, rfl, .inr (.inl ⟨rfl, m0, m1, rfl⟩)⟩, ((hb4.setNew (Nat.le_refl _) _).setNew (Nat.le_refl _) _).setNew (Nat.le_refl _) _ |>.alloc _,
    (h.setNew (h.setNew (h.setNew hr2 (Nat.le_refl _) _) (Nat.le_refl _) _) (Nat.le_refl _) _).alloc _⟩
 ·have hlt2 : R < w'.heap.size := cell_lt hr.code
  have hs : w.heap.size < w'.heap.size := by have := hb.size; simp at this; omega
  have d0 : (x == 0) = false := by simp; omega
  have d1 : (x == 1) = false := by simp; omega
  have d2 : (x == 2) = false := by simp; omega
  have d3 : (x == 3) = false := by simp; omega
  have d4 : (x == 4) = false := by simp; omega
  go_wp2_with fail
  refine (rdBelow _ _ R a len cap zs hr).mono ?_
  rintro e w2 ⟨v, rfl, ⟨y, rfl, y0, y1⟩, hb2, hr2⟩
  have hb3 := hb2
  have p0 := (hb3.cell (p := ⟨w.heap.size, 0, none⟩) hs (Nat.ne_of_gt hlt)).trans q0
  have p1 := (hb3.cell (p := ⟨w.heap.size, 1, none⟩) hs (Nat.ne_of_gt hlt)).trans q1
  have p2 := (hb3.cell (p := ⟨w.heap.size, 2, none⟩) hs (Nat.ne_of_gt hlt)).trans q2
  have g0 := (hb3.frozen (p := ⟨w.heap.size, 0, none⟩) hs (Nat.ne_of_gt hlt)).trans f0
  have g1 := (hb3.frozen (p := ⟨w.heap.size, 1, none⟩) hs (Nat.ne_of_gt hlt)).trans f1
  have g2 := (hb3.frozen (p := ⟨w.heap.size, 2, none⟩) hs (Nat.ne_of_gt hlt)).trans f2
  obtain ⟨j, rfl, hj⟩ := below_nat y0 y1 (by omega)
  have hb4 := hb1.trans hb3
  have hs2 : w.heap.size < w2.heap.size := Nat.lt_of_lt_of_le hs hb3.size
  clear hb hb1 hb2 hb3 q0 q1 q2 f0 f1 f2 y0 y1
  go_wp2_with fail
  refine (specInt _ _).mono ?_
  rintro e w3 ⟨rfl, o, rfl⟩
  go_wp2_with fail
  exact bodyPost_ret (v := .agg #[.int .i64 1, .int .i64 j, .string ⟨#[]⟩]) (by simp [results, Tryz.results84, go_sem, p0, p1, p2, hs2]) rfl
   ⟨_, rfl, ⟨1, j, _, rfl, .inr (.inl ⟨rfl, by omega, by omega, rfl⟩)⟩, ((hb4.setNew (Nat.le_refl _) _).setNew (Nat.le_refl _) _).setNew (Nat.le_refl _) _ |>.alloc _,
    (h.setNew (h.setNew (h.setNew hr2 (Nat.le_refl _) _) (Nat.le_refl _) _) (Nat.le_refl _) _).alloc _⟩
theorem Rdr.new {w : World} {a : Option Addr} {len cap : Nat} {zs : List Int} (h : IsRow .u8 w a len cap zs) (T : TypeId) : Rdr (w.alloc (.cells #[.slice a len cap, .int .i64 0] T)) w.heap.size a len cap zs := by
 refine ⟨by simp, ⟨0, by omega, by simp⟩, World.frozen?_alloc_at _ _ _ _ rfl, ?_, ?_⟩
 ·rcases h with e | ⟨x, rfl, hl, hm, hz, hcell, hwz⟩
  ·exact .inl e
  ·exact .inr ⟨x, rfl, hl, hm, hz, fun i hi => (((But.refl w.heap.size w).alloc _).cell (cell_lt (hcell i hi)) (Nat.ne_of_lt (cell_lt (hcell i hi)))).trans (hcell i hi), hwz⟩
 ·intro x e hc
  rcases h with ⟨_, _, e0, _⟩ | ⟨y, rfl, hl, hm, hz, hcell, hwz⟩
  ·omega
  ·cases e
   have := cell_lt (hcell 0 (by omega))
   rw [add_block] at this
   omega
theorem specOpen (a : Option Addr) (len cap : Nat) (w : World) :
  Calls Tryz.prog 36 #[.slice a len cap] w fun e w' => e = .returned (.pointer (some ⟨w.heap.size, 0, none⟩)) ∧ w.alloc (.cells #[.slice a len cap, .int .i64 0] 112) = w' := by
 go_enter Tryz.func36, Tryz.ntmps36
 go_wp2
 go_ret
 exact ⟨rfl, rfl⟩
theorem lawsBig (a : Option Addr) (len cap : Nat) (w : World) :
  Calls Tryz.prog 7 #[.slice a len cap] w fun e w' => e = .returned (.bool (decide ((1048576 : Int) < len))) ∧ w = w' := by
 go_enter Tryz.func7, Tryz.ntmps7
 go_wp2
 go_ret
 exact ⟨rfl, rfl⟩
def Drawn (P : Value → World → Prop) (w : World) (e : Ending) (w' : World) : Prop := ∃ v, e = .returned v ∧ P v w' ∧ Below w.heap.size w w'
theorem IsRow.below {w w' : World} {a : Option Addr} {len cap : Nat} {zs : List Int} (h : IsRow .u8 w a len cap zs) (hb : Below w.heap.size w w') : IsRow .u8 w' a len cap zs := by
 rcases h with e | ⟨x, rfl, hl, hm, hz, hcell, hwz⟩
 ·exact .inl e
 ·exact .inr ⟨x, rfl, hl, hm, hz, fun i hi => (hb.cell (cell_lt (hcell i hi))).trans (hcell i hi), hwz⟩
def Hold (base : Nat) (w w' : World) : Prop := w.heap.size ≤ w'.heap.size ∧ ∀ g, base ≤ g → g < w.heap.size → w'.heap[g]? = w.heap[g]?
theorem Hold.trans {base : Nat} {a b c : World} (h : Hold base a b) (k : Hold base b c) : Hold base a c := ⟨Nat.le_trans h.1 k.1, fun g hg hl => (k.2 g hg (Nat.lt_of_lt_of_le hl h.1)).trans (h.2 g hg hl)⟩
theorem Hold.but {base R : Nat} {w w' : World} (h : But R w w') (hR : R < base) : Hold base w w' := ⟨h.size, fun g hg hl => h.block g hl (by omega)⟩
theorem Hold.alloc (base : Nat) (w : World) (o : Obj) : Hold base w (w.alloc o) := ⟨by simp, fun g _ hl => Below.heap_alloc _ _ _ hl⟩
def Blo (w : World) (g : Nat) (xs : List Value) (T : TypeId) : Prop := w.heap[g]? = some (.cells xs.toArray T)
theorem Blo.lt {w : World} {g : Nat} {xs : List Value} {T : TypeId} (h : Blo w g xs T) : g < w.heap.size := lt_of_block h
theorem Blo.hold {base : Nat} {w w' : World} {g : Nat} {xs : List Value} {T : TypeId} (h : Blo w g xs T) (hb : base ≤ g) (hh : Hold base w w') : Blo w' g xs T := (hh.2 g hb h.lt).trans h
theorem Blo.new (w : World) (xs : List Value) (T : TypeId) : Blo (w.alloc (.cells xs.toArray T)) w.heap.size xs T := Go.heap_alloc_last w _
theorem Blo.put {w : World} {g : Nat} {xs : List Value} {T : TypeId} (h : Blo w g xs T) (k : Nat) (v : Value) : Blo (w.setCell ⟨g, k, none⟩ v) g (xs.set k v) T := by
 have h' : w.heap[g]? = some (.cells xs.toArray T) := h
 have hl := lt_of_block h'
 unfold Blo World.setCell
 simp [Array.getElem?_modify, h']
theorem Blo.cell {w : World} {g : Nat} {xs : List Value} {T : TypeId} (h : Blo w g xs T) (k : Nat) (v : Value) (hv : xs[k]? = some v) : w.cell? ⟨g, k, none⟩ = some v := by
 have h' : w.heap[g]? = some (.cells xs.toArray T) := h
 simp only [World.cell?, h']
 simpa using hv
theorem Blo.free {w : World} {g : Nat} {xs : List Value} {T : TypeId} (h : Blo w g xs T) (k : Nat) : w.frozen? ⟨g, k, none⟩ = false := by
 have h' : w.heap[g]? = some (.cells xs.toArray T) := h
 simp [World.frozen?, h']
theorem Blo.set {w : World} {g : Nat} {xs : List Value} {T : TypeId} (h : Blo w g xs T) (p : Addr) (hp : p.block ≠ g) (v : Value) : Blo (w.setCell p v) g xs T := (Below.heap_setCell _ _ _ _ (by omega)).trans h
def okY (base : Nat) (w : World) (b : Nat) : Prop := base ≤ b ∧ ∃ xs T, w.heap[b]? = some (.cells xs T) ∧ T ≠ 45 ∧ T ≠ 55
theorem okY.okF {base : Nat} {w : World} {b : Nat} (h : okY base w b) : okF base w b := by
 obtain ⟨h1, xs, T, h2, -⟩ := h
 exact ⟨h1, lt_of_block h2, fun off => by simp [World.frozen?, h2]⟩
theorem okY.hold {base : Nat} {w w' : World} (hh : Hold base w w') {b : Nat} (h : okY base w b) : okY base w' b := by
 obtain ⟨h1, xs, T, h2, h3⟩ := h
 exact ⟨h1, xs, T, (hh.2 b h1 (lt_of_block h2)).trans h2, h3⟩
theorem okY.cell {base : Nat} {w w' : World} (hh : Hold base w w') {p : Addr} {v : Value} (h : okY base w p.block) (hc : w.cell? p = some v) : w'.cell? p = some v := by
 obtain ⟨h1, xs, T, h2, h3⟩ := h
 exact (World.cell?_of_block (w := w) (hh.2 p.block h1 (lt_of_block h2))).trans hc
def TC (w : World) (g : Nat) : Prop := ∃ xs T, w.heap[g]? = some (.cells xs T) ∧ (T = 45 ∨ T = 55)
theorem okY.ne {base : Nat} {w : World} {b g : Nat} (h : okY base w b) (hg : TC w g) : b ≠ g := by
 rintro rfl
 obtain ⟨h1, xs, T, h2, h3, h4⟩ := h
 obtain ⟨ys, T', h5, h6⟩ := hg
 rw [h2] at h5
 simp only [Option.some.injEq, Obj.cells.injEq] at h5
 obtain ⟨-, rfl, -⟩ := h5
 rcases h6 with h6 | h6
 ·exact h3 h6
 ·exact h4 h6
theorem okY.set {base : Nat} {w : World} {p : Addr} (hp : TC w p.block) (v : Value) {b : Nat} (h : okY base w b) : okY base (w.setCell p v) b := by
 have hn := h.ne hp
 obtain ⟨h1, xs, T, h2, h3⟩ := h
 exact ⟨h1, xs, T, (Below.heap_setCell _ _ _ _ (fun e => hn e)).trans h2, h3⟩
theorem Sl.laid {α : Type} {R : Rd α} {sz : Nat} {ok : Nat → Prop} {w : World} {g : Nat} {T : TypeId} {css : List (List Value)} {ds : List α} (hB : Blo w g css.flatten T) (hl : css.length = ds.length) (hok : ok g)
  (h : ∀ (i : Nat) (hi : i < css.length) (hd : i < ds.length), css[i].length = sz ∧ R ok w css[i] ds[i]) : Sl R sz ok w (some ⟨g, 0, none⟩) ds.length ds := by
 refine ⟨rfl, fun _ => ⟨g, 0, rfl, hok, fun i hi => ⟨css[i]'(by omega), (h i (by omega) hi).1, (h i (by omega) hi).2, fun j v hv => ?_⟩⟩⟩
 have hj : j < sz := by
  rw [← (h i (by omega) hi).1]
  exact (List.getElem?_eq_some_iff.1 hv).1
 have hc : css.flatten[i * sz + j]? = some v := by
  have hall : ∀ c ∈ css, c.length = sz := by
   intro c hc
   obtain ⟨k, hk, rfl⟩ := List.getElem_of_mem hc
   exact (h k hk (by omega)).1
  have key : ∀ (l : List (List Value)) (i : Nat) (hi : i < l.length), (∀ c ∈ l, c.length = sz) → l.flatten[i * sz + j]? = l[i][j]? := by
   intro l
   induction l with
   | nil => intro i hi; simp at hi
   | cons x l ih =>
    intro i hi ha
    have hx := ha x (List.mem_cons_self ..)
    cases i with
    | zero => rw [List.flatten_cons, Nat.zero_mul, Nat.zero_add, List.getElem?_append_left (by omega)]; rfl
    | succ i =>
     rw [List.flatten_cons, List.getElem?_append_right (by rw [hx, Nat.succ_mul]; omega), hx, show (i + 1) * sz + j - sz = i * sz + j by rw [Nat.succ_mul]; omega]
     exact ih i (by simpa using hi) fun c hc => ha c (List.mem_cons_of_mem _ hc)
  rw [key css i (by omega) hall]; exact hv
 rw [Nat.zero_add]
 show w.cell? ⟨g, i * sz + j, none⟩ = some v
 have hb : w.heap[g]? = some (.cells css.flatten.toArray T) := hB
 simp only [World.cell?, hb]
 simpa using hc
def TabY (base : Nat) (w : World) (gc : Nat) (cs : List Value) (t : Tb) : Prop := ∃ (n1 : Nat) (A2 : Option Addr) (n2 c2 : Nat) (A3 : Option Addr) (n3 c3 : Nat) (A4 : Option Addr) (n4 c4 : Nat) (A5 : Option Addr) (n5 c5 : Nat),
 cs = [.string t.name, .slice (some ⟨gc, 0, none⟩) n1 n1, .slice A2 n2 c2, .slice A3 n3 c3, .slice A4 n4 c4, .slice A5 n5 c5] ∧ base ≤ gc ∧ Blo w gc (t.cols.map Cl.cells).flatten 55 ∧ t.cols.length = n1 ∧ 2 ≤ n1 ∧
 Sl IntR 1 (okY base w) w A2 n2 t.key ∧ Sl UqR 1 (okY base w) w A3 n3 t.uniqs ∧ Sl CkR 1 (okY base w) w A4 n4 t.checks ∧ Sl FkR 5 (okY base w) w A5 n5 t.fks ∧ (n2 ≤ c2 ∧ n3 = c3 ∧ n4 ≤ c4 ∧ n5 ≤ c5) ∧ t.sz ≤ 1000
theorem TabY.hold {base : Nat} {w w' : World} {gc : Nat} {cs : List Value} {t : Tb} (h : TabY base w gc cs t) (hh : Hold base w w') : TabY base w' gc cs t := by
 obtain ⟨n1, A2, n2, c2, A3, n3, c3, A4, n4, c4, A5, n5, c5, e, hb, hB, hn, hp, h2, h3, h4, h5, hc, hz⟩ := h
 have ho : ∀ b, okY base w b → okY base w' b := fun b h => h.hold hh
 have hk : ∀ p v, okY base w p.block → w.cell? p = some v → w'.cell? p = some v := fun p v h hc => h.cell hh hc
 exact ⟨n1, A2, n2, c2, A3, n3, c3, A4, n4, c4, A5, n5, c5, e, hb, hB.hold hb hh, hn, hp, h2.stays IntR.stays ho hk, h3.stays UqR.stays ho hk, h4.stays CkR.stays ho hk, h5.stays FkR.stays ho hk, hc, hz⟩
theorem TabY.set {base : Nat} {w : World} {gc : Nat} {cs : List Value} {t : Tb} (h : TabY base w gc cs t) {p : Addr} (hp : TC w p.block) (hne : p.block ≠ gc) (v : Value) : TabY base (w.setCell p v) gc cs t := by
 obtain ⟨n1, A2, n2, c2, A3, n3, c3, A4, n4, c4, A5, n5, c5, e, hb, hB, hn, hq, h2, h3, h4, h5, hc, hz⟩ := h
 have ho : ∀ b, okY base w b → okY base (w.setCell p v) b := fun b h => h.set hp v
 have hk : ∀ q u, okY base w q.block → w.cell? q = some u → (w.setCell p v).cell? q = some u := fun q u h hc => (World.cell?_setCell_other _ _ _ _ (fun e => h.ne hp (by rw [e]))).trans hc
 exact ⟨n1, A2, n2, c2, A3, n3, c3, A4, n4, c4, A5, n5, c5, e, hb, hB.set p hne v, hn, hq, h2.stays IntR.stays ho hk, h3.stays UqR.stays ho hk, h4.stays CkR.stays ho hk, h5.stays FkR.stays ho hk, hc, hz⟩
theorem cols_flat (l : List Cl) (i : Nat) (hi : i < (l.map Cl.cells).length) (hd : i < l.length) {ok : Nat → Prop} {w : World} : (l.map Cl.cells)[i].length = 6 ∧ ClR ok w (l.map Cl.cells)[i] l[i] := by
 rw [List.getElem_map]; exact ⟨rfl, rfl⟩
theorem okF_blo {base : Nat} {w : World} {g : Nat} {xs : List Value} {T : TypeId} (hb : base ≤ g) (h : Blo w g xs T) : okF base w g := ⟨hb, h.lt, fun off => by have h' : w.heap[g]? = some (.cells xs.toArray T) := h; simp [World.frozen?, h']⟩
theorem TabY.reads {base : Nat} {w : World} {gc : Nat} {cs : List Value} {t : Tb} (h : TabY base w gc cs t) : TbR (okF base w) w cs t := by
 obtain ⟨n1, A2, n2, c2, A3, n3, c3, A4, n4, c4, A5, n5, c5, e, hb, hB, rfl, hp, h2, h3, h4, h5, hc, hz⟩ := h
 have ho : ∀ b, okY base w b → okF base w b := fun b h => h.okF
 have hk : ∀ p v, okY base w p.block → w.cell? p = some v → w.cell? p = some v := fun p v _ hc => hc
 exact ⟨_, _, _, A2, n2, c2, A3, n3, c3, A4, n4, c4, A5, n5, c5, e, Sl.laid hB (by simp) (okF_blo hb hB) (fun i hi hd => cols_flat _ i hi hd), h2.stays IntR.stays ho hk, h3.stays UqR.stays ho hk, h4.stays CkR.stays ho hk, h5.stays FkR.stays ho hk, ⟨Nat.le_refl _, hc.1, Nat.le_of_eq hc.2.1, hc.2.2⟩⟩
theorem TabY.uniq {base : Nat} {w : World} {gc : Nat} {cs : List Value} {t : Tb} (h : TabY base w gc cs t) {A : Option Addr} {n c : Nat} {us : List Uq} (hu : Sl UqR 1 (okY base w) w A n us) (hc : n = c) (hz : ({ t with uniqs := us } : Tb).sz ≤ 1000) : TabY base w gc (cs.set 3 (.slice A n c)) { t with uniqs := us } := by
 obtain ⟨n1, A2, n2, c2, A3, n3, c3, A4, n4, c4, A5, n5, c5, rfl, hb, hB, hn, hp, h2, h3, h4, h5, ⟨k2, k3, k4, k5⟩, _⟩ := h
 exact ⟨n1, A2, n2, c2, A, n, c, A4, n4, c4, A5, n5, c5, rfl, hb, hB, hn, hp, h2, hu, h4, h5, ⟨k2, hc, k4, k5⟩, hz⟩
theorem TabY.chk {base : Nat} {w : World} {gc : Nat} {cs : List Value} {t : Tb} (h : TabY base w gc cs t) {A : Option Addr} {n c : Nat} {us : List Ck} (hu : Sl CkR 1 (okY base w) w A n us) (hc : n ≤ c) (hz : ({ t with checks := us } : Tb).sz ≤ 1000) : TabY base w gc (cs.set 4 (.slice A n c)) { t with checks := us } := by
 obtain ⟨n1, A2, n2, c2, A3, n3, c3, A4, n4, c4, A5, n5, c5, rfl, hb, hB, hn, hp, h2, h3, h4, h5, ⟨k2, k3, k4, k5⟩, _⟩ := h
 exact ⟨n1, A2, n2, c2, A3, n3, c3, A, n, c, A5, n5, c5, rfl, hb, hB, hn, hp, h2, h3, hu, h5, ⟨k2, k3, hc, k5⟩, hz⟩
theorem TabY.len {base : Nat} {w : World} {gc : Nat} {cs : List Value} {t : Tb} (h : TabY base w gc cs t) : ∃ x0 x1 x2 x3 x4 x5, cs = [x0, x1, x2, x3, x4, x5] := by
 obtain ⟨n1, A2, n2, c2, A3, n3, c3, A4, n4, c4, A5, n5, c5, rfl, -⟩ := h
 exact ⟨_, _, _, _, _, _, rfl⟩
theorem Sl.nilY {α : Type} {R : Rd α} {sz : Nat} {ok : Nat → Prop} {w : World} : Sl R sz ok w none 0 ([] : List α) := ⟨rfl, fun h => by omega⟩
theorem intsY {base : Nat} {w : World} {g : Nat} (ns : List Int) (hB : Blo w g (ns.map (Value.int .i64)) 2) (hb : base ≤ g) : Sl IntR 1 (okY base w) w (some ⟨g, 0, none⟩) ns.length ns := by
 have hB2 : Blo w g (ns.map fun n => [Value.int .i64 n]).flatten 2 := by
  have e : (ns.map fun n => [Value.int .i64 n]).flatten = ns.map (Value.int .i64) := by
   clear hB
   induction ns with
   | nil => rfl
   | cons n ns ih => rw [List.map_cons, List.flatten_cons, ih]; rfl
  rw [e]; exact hB
 refine Sl.laid hB2 (by simp) ⟨hb, _, _, hB2, by decide, by decide⟩ fun i hi hd => ?_
 rw [List.getElem_map]; exact ⟨rfl, rfl⟩
theorem uniqY {base : Nat} {w : World} {g g1 : Nat} (ns : List Int) (hB : Blo w g1 (ns.map (Value.int .i64)) 2) (hb : base ≤ g1) (hB2 : Blo w g [.slice (some ⟨g1, 0, none⟩) ns.length ns.length] 61) (hb2 : base ≤ g) : Sl UqR 1 (okY base w) w (some ⟨g, 0, none⟩) 1 [⟨ns⟩] := by
 have h := Sl.laid (R := UqR) (sz := 1) (ok := okY base w) (css := [[.slice (some ⟨g1, 0, none⟩) ns.length ns.length]]) (ds := [⟨ns⟩]) (g := g) (T := 61) hB2 rfl ⟨hb2, _, _, hB2, by decide, by decide⟩ fun i hi hd => by
  obtain rfl : i = 0 := by simpa using hi
  exact ⟨rfl, _, _, _, rfl, intsY ns hB hb, Nat.le_refl _⟩
 exact h
def SchY (base : Nat) (w : World) (v : Value) (xs : List (Nat × List Value × Tb)) : Prop :=
 w.ownsRow base 45 6 v xs.length (xs.map (·.2.1)).flatten ∧ (xs.map (·.1)).Nodup ∧ ∀ x ∈ xs, TabY base w x.1 x.2.1 x.2.2
def PB (w w' : World) (R : Nat) (a : Option Addr) (len cap : Nat) (zs : List Int) (gp gc : Nat) (m : Nat) : Prop := ∃ cs t, Blo w' gp cs 45 ∧ w.heap.size ≤ gp ∧ TabY w.heap.size w' gc cs t ∧ t.cols.length = 3 ∧ But R w w' ∧ Rdr w' R a len cap zs ∧ t.sz ≤ m
theorem PB.but {w w' w'' : World} {R : Nat} {a : Option Addr} {len cap : Nat} {zs : List Int} {gp gc m : Nat} (h : PB w w' R a len cap zs gp gc m) (hb : But R w' w'') (hr : Rdr w'' R a len cap zs) (hR : R < w.heap.size) : PB w w'' R a len cap zs gp gc m := by
 obtain ⟨cs, t, h1, h2, h3, h4, h5, h6, h7⟩ := h
 exact ⟨cs, t, h1.hold h2 (Hold.but hb hR), h2, h3.hold (Hold.but hb hR), h4, h5.trans hb, hr, h7⟩
theorem PB.mono {w w' : World} {R : Nat} {a : Option Addr} {len cap : Nat} {zs : List Int} {gp gc m m' : Nat} (h : PB w w' R a len cap zs gp gc m) (hm : m ≤ m') : PB w w' R a len cap zs gp gc m' := by
 obtain ⟨cs, t, h1, h2, h3, h4, h5, h6, h7⟩ := h
 exact ⟨cs, t, h1, h2, h3, h4, h5, h6, by omega⟩
theorem Blo.tc {w : World} {g : Nat} {xs : List Value} (h : Blo w g xs 45) : TC w g := ⟨_, _, h, .inl rfl⟩
theorem TabY.ne {base : Nat} {w : World} {gc g : Nat} {cs xs : List Value} {t : Tb} (h : TabY base w gc cs t) (hg : Blo w g xs 45) : g ≠ gc := by
 rintro rfl
 obtain ⟨n1, A2, n2, c2, A3, n3, c3, A4, n4, c4, A5, n5, c5, e, hb, hB, -⟩ := h
 unfold Blo at hB hg
 rw [hB] at hg
 simp only [Option.some.injEq, Obj.cells.injEq] at hg
 exact absurd hg.2.1 (by decide)
theorem PB.cell {w w' : World} {R : Nat} {a : Option Addr} {len cap : Nat} {zs : List Int} {gp gc m : Nat} (h : PB w w' R a len cap zs gp gc m) {w2 : World} (hh : Hold w.heap.size w' w2) (k : Nat) (hk : k < 6) : (∃ u, w2.cell? ⟨gp, k, none⟩ = some u) ∧ w2.frozen? ⟨gp, k, none⟩ = false := by
 obtain ⟨cs, t, h1, h2, h3, -⟩ := h
 obtain ⟨x0, x1, x2, x3, x4, x5, rfl⟩ := h3.len
 have hB := h1.hold h2 hh
 refine ⟨⟨[x0, x1, x2, x3, x4, x5][k]'(by simpa using hk), hB.cell k _ (by rw [List.getElem?_eq_getElem])⟩, hB.free k⟩
theorem PB.uniq {w y : World} {R : Nat} {a : Option Addr} {len cap : Nat} {zs : List Int} {gp gc m : Nat} (h : PB w y R a len cap zs gp gc m) (h0 : Rdr w R a len cap zs) (hm : m ≤ 900) :
  PB w (((y.alloc (.cells #[.int .i64 2] 2)).alloc (.cells #[.slice (some ⟨y.heap.size, 0, none⟩) 1 1] 61)).setCell ⟨gp, 3, none⟩ (.slice (some ⟨y.heap.size + 1, 0, none⟩) 1 1)) R a len cap zs gp gc (m + 2) := by
 obtain ⟨cs, t, h1, h2, h3, h4, h5, h6, h7⟩ := h
 have b1 := Blo.new y ([2].map (Value.int .i64)) 2
 have b2 := Blo.new (y.alloc (.cells ([2].map (Value.int .i64)).toArray 2)) [.slice (some ⟨y.heap.size, 0, none⟩) 1 1] 61
 rw [show (y.alloc (.cells ([2].map (Value.int .i64)).toArray 2)).heap.size = y.heap.size + 1 by simp] at b2
 have hw : w.heap.size ≤ y.heap.size := h5.size
 have k1 := Hold.alloc w.heap.size y (.cells ([2].map (Value.int .i64)).toArray 2)
 have k2 := Hold.alloc w.heap.size (y.alloc (.cells ([2].map (Value.int .i64)).toArray 2)) (.cells [.slice (some ⟨y.heap.size, 0, none⟩) 1 1].toArray 61)
 have hu := uniqY (base := w.heap.size) [2] (b1.hold hw k2) hw b2 (by omega)
 have hz : ({ t with uniqs := [⟨[2]⟩] } : Tb).sz ≤ t.sz + 2 := by
  have e : szL Uq.sz [⟨[2]⟩] = 2 := rfl
  unfold Tb.sz
  simp only [e]
  omega
 have t1 := (h3.hold (k1.trans k2)).uniq hu rfl (by omega)
 have B1 := h1.hold h2 (k1.trans k2)
 exact ⟨cs.set 3 (.slice (some ⟨y.heap.size + 1, 0, none⟩) 1 1), { t with uniqs := [⟨[2]⟩] }, B1.put 3 _, h2, t1.set B1.tc (t1.ne B1) _, h4, ((h5.alloc _).alloc _).setNew h2 _, h0.setNew ((h6.alloc _).alloc _) h2 _, by omega⟩
theorem chkY {base : Nat} {w : World} {g g1 : Nat} (ts : List Tk) (hB : Blo w g1 (ts.map Tk.cells).flatten 115) (hb : base ≤ g1) (hB2 : Blo w g [.slice (some ⟨g1, 0, none⟩) ts.length ts.length] 59) (hb2 : base ≤ g) : Sl CkR 1 (okY base w) w (some ⟨g, 0, none⟩) 1 [⟨ts⟩] := by
 have h := Sl.laid (R := CkR) (sz := 1) (ok := okY base w) (css := [[.slice (some ⟨g1, 0, none⟩) ts.length ts.length]]) (ds := [⟨ts⟩]) (g := g) (T := 59) hB2 rfl ⟨hb2, _, _, hB2, by decide, by decide⟩ fun i hi hd => by
  obtain rfl : i = 0 := by simpa using hi
  refine ⟨rfl, _, _, _, rfl, Sl.laid hB (by simp) ⟨hb, _, _, hB, by decide, by decide⟩ fun i hi hd => ?_, Nat.le_refl _⟩
  rw [List.getElem_map]; exact ⟨rfl, rfl⟩
 exact h
def toksP : List Tk := [⟨1, 0, 0, 0, ⟨#[]⟩⟩, ⟨2, 0, 1, 4, ⟨#[]⟩⟩, ⟨4, 0, 0, 0, ⟨#[]⟩⟩]
theorem PB.chk {w y : World} {R : Nat} {a : Option Addr} {len cap : Nat} {zs : List Int} {gp gc m : Nat} (h : PB w y R a len cap zs gp gc m) (h0 : Rdr w R a len cap zs) (hm : m ≤ 900) :
  PB w (((y.alloc (.cells #[.int .i64 1, .int .i64 0, .int .i64 0, .int .i64 0, .string ⟨#[]⟩, .int .i64 2, .int .i64 0, .int .i64 1, .int .i64 4, .string ⟨#[]⟩, .int .i64 4, .int .i64 0, .int .i64 0, .int .i64 0, .string ⟨#[]⟩] 115)).alloc (.cells #[.slice (some ⟨y.heap.size, 0, none⟩) 3 3] 59)).setCell ⟨gp, 4, none⟩ (.slice (some ⟨y.heap.size + 1, 0, none⟩) 1 1)) R a len cap zs gp gc (m + 4) := by
 obtain ⟨cs, t, h1, h2, h3, h4, h5, h6, h7⟩ := h
 have b1 := Blo.new y (toksP.map Tk.cells).flatten 115
 have b2 := Blo.new (y.alloc (.cells (toksP.map Tk.cells).flatten.toArray 115)) [.slice (some ⟨y.heap.size, 0, none⟩) 3 3] 59
 rw [show (y.alloc (.cells (toksP.map Tk.cells).flatten.toArray 115)).heap.size = y.heap.size + 1 by simp] at b2
 have hw : w.heap.size ≤ y.heap.size := h5.size
 have k1 := Hold.alloc w.heap.size y (.cells (toksP.map Tk.cells).flatten.toArray 115)
 have k2 := Hold.alloc w.heap.size (y.alloc (.cells (toksP.map Tk.cells).flatten.toArray 115)) (.cells [.slice (some ⟨y.heap.size, 0, none⟩) 3 3].toArray 59)
 have hu := chkY (base := w.heap.size) toksP (b1.hold hw k2) hw b2 (by omega)
 have hz : ({ t with checks := [⟨toksP⟩] } : Tb).sz ≤ t.sz + 4 := by
  have e : szL Ck.sz [⟨toksP⟩] = 4 := by decide
  unfold Tb.sz
  simp only [e]
  omega
 have t1 := (h3.hold (k1.trans k2)).chk hu (Nat.le_refl _) (by omega)
 have B1 := h1.hold h2 (k1.trans k2)
 exact ⟨cs.set 4 (.slice (some ⟨y.heap.size + 1, 0, none⟩) 1 1), { t with checks := [⟨toksP⟩] }, B1.put 4 _, h2, t1.set B1.tc (t1.ne B1) _, h4, ((h5.alloc _).alloc _).setNew h2 _, h0.setNew ((h6.alloc _).alloc _) h2 _, by omega⟩
theorem SchY.hold {base : Nat} {w w' : World} {v : Value} {xs : List (Nat × List Value × Tb)} (h : SchY base w v xs) (hh : Hold base w w') : SchY base w' v xs := by
 obtain ⟨⟨h1, h2⟩, h3, h4⟩ := h
 refine ⟨⟨h1, ?_⟩, h3, fun x hx => (h4 x hx).hold hh⟩
 rcases h2 with h2 | ⟨g, cap, cur, rfl, k1, k2, k3⟩
 ·exact .inl h2
 ·exact .inr ⟨g, cap, cur, rfl, k1, (hh.2 g k1 (lt_of_block k2)).trans k2, k3⟩
theorem TabY.grown {base : Nat} {w w' : World} {row : Option Nat} {gc : Nat} {cs : List Value} {t : Tb} (h : TabY base w gc cs t) (hg : w.grownBy w' row) (hr : ∀ k, row = some k → ∃ cur, w.heap[k]? = some (.cells cur 45)) : TabY base w' gc cs t := by
 obtain ⟨n1, A2, n2, c2, A3, n3, c3, A4, n4, c4, A5, n5, c5, e, hb, hB, hn, hp, h2, h3, h4, h5, hc, hz⟩ := h
 have hne : ∀ b, okY base w b → some b ≠ row := fun b hb he => by
  obtain ⟨cur, hcur⟩ := hr b he.symm
  exact hb.ne ⟨_, _, hcur, .inl rfl⟩ rfl
 have ho : ∀ b, okY base w b → okY base w' b := fun b h => by
  have hn := hne b h
  obtain ⟨k1, xs, T, k2, k3⟩ := h
  exact ⟨k1, xs, T, (hg.block b (lt_of_block k2) hn).trans k2, k3⟩
 have hk : ∀ p v, okY base w p.block → w.cell? p = some v → w'.cell? p = some v := fun p v h hc => hg.cell hc (hne _ h)
 have hgc : some gc ≠ row := fun he => by
  obtain ⟨cur, hcur⟩ := hr gc he.symm
  unfold Blo at hB
  rw [hB] at hcur
  simp only [Option.some.injEq, Obj.cells.injEq] at hcur
  exact absurd hcur.2.1 (by decide)
 exact ⟨n1, A2, n2, c2, A3, n3, c3, A4, n4, c4, A5, n5, c5, e, hb, (hg.block gc hB.lt hgc).trans hB, hn, hp, h2.stays IntR.stays ho hk, h3.stays UqR.stays ho hk, h4.stays CkR.stays ho hk, h5.stays FkR.stays ho hk, hc, hz⟩
theorem SchY.row {base : Nat} {w : World} {v : Value} {xs : List (Nat × List Value × Tb)} (h : SchY base w v xs) : ∀ k, v.ownBlock = some k → ∃ cur, w.heap[k]? = some (.cells cur 45) := fun k hk => by
 rcases h.1.2 with ⟨rfl, -⟩ | ⟨g, cap, cur, rfl, k1, k2, -⟩
 ·cases hk
 ·obtain rfl := Option.some.inj hk
  exact ⟨cur, k2⟩
theorem SchY.app {base : Nat} {w w' : World} {v v' : Value} {xs : List (Nat × List Value × Tb)} {gc : Nat} {cs : List Value} {t : Tb} (h : SchY base w v xs) (ht : TabY base w gc cs t) (hn : gc ∉ xs.map (·.1))
  (h' : w'.ownsRow base 45 6 v' (xs.length + 1) ((xs.map (·.2.1)).flatten ++ cs)) (hg : w.grownBy w' v.ownBlock) : SchY base w' v' (xs ++ [(gc, cs, t)]) := by
 have hnd : ((xs ++ [(gc, cs, t)]).map (·.1)).Nodup := by
  rw [List.map_append, List.nodup_append]
  refine ⟨h.2.1, by simp, ?_⟩
  intro b hb c hc he
  have e2 : c = gc := by simpa using hc
  exact hn (by rw [← e2, ← he]; exact hb)
 refine ⟨by rw [List.length_append, List.map_append, List.flatten_append]; simpa using h', hnd, fun x hx => ?_⟩
 rcases List.mem_append.1 hx with hx | hx
 ·exact (h.2.2 x hx).grown hg h.row
 ·rw [List.mem_singleton.1 hx]
  exact ht.grown hg h.row
theorem SchY.one {base : Nat} {w : World} {gc : Nat} {cs : List Value} {t : Tb} (h : TabY base w gc cs t) (hb : base ≤ w.heap.size) : SchY base (w.alloc (.cells cs.toArray 45)) (.slice (some ⟨w.heap.size, 0, none⟩) 1 1) [(gc, cs, t)] := by
 obtain ⟨x0, x1, x2, x3, x4, x5, rfl⟩ := h.len
 refine ⟨⟨rfl, .inr ⟨w.heap.size, 1, _, rfl, hb, Go.heap_alloc_last w _, Nat.le_refl _, by simp [maxLen], rfl, by simp⟩⟩, by simp, fun x hx => ?_⟩
 rw [List.mem_singleton.1 hx]
 exact h.hold (Hold.alloc base w _)
theorem mkTab {base : Nat} {w : World} {gc gk gf gx : Nat} (nm tn : ByteArray) (cols : List Cl) (d u : Int) (df : Bool) (n : Nat) (hn : cols.length = n) (h0 : 2 ≤ n)
  (h1 : Blo w gc (cols.map Cl.cells).flatten 55) (h2 : Blo w gk [.int .i64 0] 2) (h3 : Blo w gf [.int .i64 1] 2) (h4 : Blo w gx [.slice (some ⟨gf, 0, none⟩) 1 1, .string tn, .int .i64 d, .int .i64 u, .bool df] 63)
  (b1 : base ≤ gc) (b2 : base ≤ gk) (b3 : base ≤ gf) (b4 : base ≤ gx) (hz : (⟨nm, cols, [0], [], [], [⟨[1], tn, d, u, df⟩]⟩ : Tb).sz ≤ 1000) :
  TabY base w gc [.string nm, .slice (some ⟨gc, 0, none⟩) n n, .slice (some ⟨gk, 0, none⟩) 1 1, .slice none 0 0, .slice none 0 0, .slice (some ⟨gx, 0, none⟩) 1 1] ⟨nm, cols, [0], [], [], [⟨[1], tn, d, u, df⟩]⟩ := by
 have hf := Sl.laid (R := FkR) (sz := 5) (ok := okY base w) (css := [[.slice (some ⟨gf, 0, none⟩) 1 1, .string tn, .int .i64 d, .int .i64 u, .bool df]]) (ds := [⟨[1], tn, d, u, df⟩]) (g := gx) (T := 63) h4 rfl ⟨b4, _, _, h4, by decide, by decide⟩ fun i hi hd => by
  obtain rfl : i = 0 := by simpa using hi
  exact ⟨rfl, _, _, _, rfl, intsY [1] h3 b3, Nat.le_refl _⟩
 exact ⟨n, _, 1, 1, none, 0, 0, none, 0, 0, _, 1, 1, rfl, b1, h1, hn, h0, intsY [0] h2 b2, Sl.nilY, Sl.nilY, hf, by omega, hz⟩
theorem TabY.lt {base : Nat} {w : World} {gc : Nat} {cs : List Value} {t : Tb} (h : TabY base w gc cs t) : gc < w.heap.size := by
 obtain ⟨_, _, _, _, _, _, _, _, _, _, _, _, _, _, _, hB, _⟩ := h
 exact hB.lt
theorem cellsY (w : World) (l : List Value) (t : TypeId) {g : Nat} (hg : g = w.heap.size) : ∀ j u, l[j]? = some u → (w.alloc (.cells l.toArray t)).cell? ((⟨g, 0, none⟩ : Addr).add j) = some u := by
 subst hg
 intro j u hj
 rw [addr_add, Nat.zero_add, cell_of_row _ _ _ _ _ _ (Go.heap_alloc_last w _)]
 simpa using hj
theorem but_above {w w' w'' : World} {R : Nat} (h : But R w w') (hb : Below w.heap.size w' w'') : But R w w'' :=
 ⟨hb.os.trans h.os, hb.tape.trans h.tape, hb.output.trans h.output, Nat.le_trans h.size hb.size, fun k hk hr => (hb.block k hk).trans (h.block k hk hr)⟩
theorem rdr_above {w w' w'' : World} {R : Nat} {a : Option Addr} {len cap : Nat} {zs : List Int} (h0 : Rdr w R a len cap zs) (h : Rdr w' R a len cap zs) (hb : Below w.heap.size w' w'') : Rdr w'' R a len cap zs := by
 have hR : R < w.heap.size := cell_lt h0.code
 obtain ⟨i, hi, hi1⟩ := h.place
 refine ⟨(hb.cell (p := ⟨R, 0, none⟩) hR).trans h.code, ⟨i, hi, (hb.cell (p := ⟨R, 1, none⟩) hR).trans hi1⟩, (hb.frozen (p := ⟨R, 1, none⟩) hR).trans h.free, ?_, h.apart⟩
 rcases h0.row with e | ⟨x, rfl, hl, hm, hz, hcell, hwz⟩
 ·exact .inl e
 ·rcases h.row with ⟨e, _⟩ | ⟨x', e, _, _, _, hcell', _⟩
  ·cases e
  ·cases e
   exact .inr ⟨x, rfl, hl, hm, hz, fun i hi => (hb.cell (cell_lt (hcell i hi))).trans (hcell' i hi), hwz⟩
def SB (w w' : World) (R : Nat) (a : Option Addr) (len cap : Nat) (zs : List Int) (v : Value) (n m : Nat) : Prop := ∃ xs, SchY w.heap.size w' v xs ∧ 0 < xs.length ∧ xs.length ≤ n ∧ (∀ x ∈ xs, x.2.2.sz ≤ m) ∧ But R w w' ∧ Rdr w' R a len cap zs
theorem SB.but {w w' w'' : World} {R : Nat} {a : Option Addr} {len cap : Nat} {zs : List Int} {v : Value} {n m : Nat} (h : SB w w' R a len cap zs v n m) (hb : But R w' w'') (hr : Rdr w'' R a len cap zs) (hR : R < w.heap.size) : SB w w'' R a len cap zs v n m := by
 obtain ⟨xs, h1, h2, h3, h4, h5, h6⟩ := h
 exact ⟨xs, h1.hold (Hold.but hb hR), h2, h3, h4, h5.trans hb, hr⟩
theorem SB.mono {w w' : World} {R : Nat} {a : Option Addr} {len cap : Nat} {zs : List Int} {v : Value} {n m n' m' : Nat} (h : SB w w' R a len cap zs v n m) (hn : n ≤ n') (hm : m ≤ m') : SB w w' R a len cap zs v n' m' := by
 obtain ⟨xs, h1, h2, h3, h4, h5, h6⟩ := h
 exact ⟨xs, h1, h2, by omega, fun x hx => Nat.le_trans (h4 x hx) hm, h5, h6⟩
theorem SB.rdr {w w' : World} {R : Nat} {a : Option Addr} {len cap : Nat} {zs : List Int} {v : Value} {n m : Nat} (h : SB w w' R a len cap zs v n m) : Rdr w' R a len cap zs := by
 obtain ⟨_, _, _, _, _, _, hr⟩ := h; exact hr
theorem SB.add {w q w' : World} {R : Nat} {a : Option Addr} {len cap : Nat} {zs : List Int} {v v' : Value} {xs : List (Nat × List Value × Tb)} {gc n m : Nat} {cs : List Value} {t : Tb} (h0 : Rdr w R a len cap zs) (hs : SchY w.heap.size q v xs) (ht : TabY w.heap.size q gc cs t) (hn : gc ∉ xs.map (·.1))
  (hl : xs.length ≤ n) (hm : ∀ x ∈ xs, x.2.2.sz ≤ m) (hm2 : t.sz ≤ m) (hb : But R w q) (hr : Rdr q R a len cap zs)
  (h' : w'.ownsRow w.heap.size 45 6 v' (xs.length + 1) ((xs.map (·.2.1)).flatten ++ cs)) (hg : q.grownBy w' v.ownBlock) : SB w w' R a len cap zs v' (n + 1) m := by
 have hB : Below w.heap.size q w' := (Below.refl w.heap.size q).grown hg hb.size fun k hk => (hs.1.lt k hk).1
 refine ⟨_, hs.app ht hn h' hg, by simp, by simpa using hl, fun x hx => ?_, but_above hb hB, rdr_above h0 hr hB⟩
 rcases List.mem_append.1 hx with hx | hx
 ·exact hm x hx
 ·rw [List.mem_singleton.1 hx]; exact hm2
theorem SB.table {w z1 z4 : World} {R : Nat} {a : Option Addr} {len cap : Nat} {zs : List Int} {v : Value} {n m : Nat} (h : SB w z1 R a len cap zs v n m) (hR : R < w.heap.size) (nm tn : ByteArray) (cols : List Cl) (d u : Int) (df : Bool) (hc : cols.length = 2)
  (hb : But R (((z1.alloc (.cells (cols.map Cl.cells).flatten.toArray 55)).alloc (.cells #[.int .i64 0] 2)).alloc (.cells #[.int .i64 1] 2)) z4) (hr : Rdr z4 R a len cap zs) (hz : (⟨nm, cols, [0], [], [], [⟨[1], tn, d, u, df⟩]⟩ : Tb).sz ≤ 1000) (box : List Value) (S : List Value) :
  ∃ xs, SchY w.heap.size (((z4.alloc (.cells #[.slice (some ⟨z1.heap.size + 1 + 1, 0, none⟩) 1 1, .string tn, .int .i64 d, .int .i64 u, .bool df] 63)).alloc (.cells box.toArray 45)).alloc (.cells S.toArray 45)) v xs ∧ 0 < xs.length ∧ xs.length ≤ n ∧ (∀ x ∈ xs, x.2.2.sz ≤ m) ∧ z1.heap.size ∉ xs.map (·.1) ∧
   TabY w.heap.size (((z4.alloc (.cells #[.slice (some ⟨z1.heap.size + 1 + 1, 0, none⟩) 1 1, .string tn, .int .i64 d, .int .i64 u, .bool df] 63)).alloc (.cells box.toArray 45)).alloc (.cells S.toArray 45)) z1.heap.size
    [.string nm, .slice (some ⟨z1.heap.size, 0, none⟩) 2 2, .slice (some ⟨z1.heap.size + 1, 0, none⟩) 1 1, .slice none 0 0, .slice none 0 0, .slice (some ⟨z4.heap.size, 0, none⟩) 1 1] ⟨nm, cols, [0], [], [], [⟨[1], tn, d, u, df⟩]⟩ ∧
   But R w (((z4.alloc (.cells #[.slice (some ⟨z1.heap.size + 1 + 1, 0, none⟩) 1 1, .string tn, .int .i64 d, .int .i64 u, .bool df] 63)).alloc (.cells box.toArray 45)).alloc (.cells S.toArray 45)) ∧
   Rdr (((z4.alloc (.cells #[.slice (some ⟨z1.heap.size + 1 + 1, 0, none⟩) 1 1, .string tn, .int .i64 d, .int .i64 u, .bool df] 63)).alloc (.cells box.toArray 45)).alloc (.cells S.toArray 45)) R a len cap zs := by
 obtain ⟨xs, h1, h2, h3, h4, h5, h6⟩ := h
 have hw : w.heap.size ≤ z1.heap.size := h5.size
 obtain ⟨C, eC⟩ : ∃ C, (cols.map Cl.cells).flatten = C := ⟨_, rfl⟩
 rw [eC] at hb
 have b1 := Blo.new z1 C 55
 have b2 := Blo.new (z1.alloc (.cells C.toArray 55)) [.int .i64 0] 2
 have b3 := Blo.new ((z1.alloc (.cells C.toArray 55)).alloc (.cells [.int .i64 0].toArray 2)) [.int .i64 1] 2
 rw [show (z1.alloc (.cells C.toArray 55)).heap.size = z1.heap.size + 1 by simp] at b2
 rw [show ((z1.alloc (.cells C.toArray 55)).alloc (.cells [.int .i64 0].toArray 2)).heap.size = z1.heap.size + 1 + 1 by simp] at b3
 have k1 := Hold.alloc w.heap.size z1 (.cells C.toArray 55)
 have k2 := Hold.alloc w.heap.size (z1.alloc (.cells C.toArray 55)) (.cells [.int .i64 0].toArray 2)
 have k3 := Hold.alloc w.heap.size ((z1.alloc (.cells C.toArray 55)).alloc (.cells [.int .i64 0].toArray 2)) (.cells [.int .i64 1].toArray 2)
 have kb : Hold w.heap.size (((z1.alloc (.cells C.toArray 55)).alloc (.cells [.int .i64 0].toArray 2)).alloc (.cells [.int .i64 1].toArray 2)) z4 := Hold.but hb hR
 have b4 := Blo.new z4 [.slice (some ⟨z1.heap.size + 1 + 1, 0, none⟩) 1 1, .string tn, .int .i64 d, .int .i64 u, .bool df] 63
 have hz4 : z1.heap.size + 1 + 1 + 1 ≤ z4.heap.size := by have := hb.size; simpa using this
 obtain ⟨X, eX⟩ : ∃ X, (Obj.cells #[.slice (some ⟨z1.heap.size + 1 + 1, 0, none⟩) 1 1, .string tn, .int .i64 d, .int .i64 u, .bool df] 63) = X := ⟨_, rfl⟩
 rw [eX] at b4 ⊢
 have q1 := Hold.alloc w.heap.size z4 X
 have q2 := Hold.alloc w.heap.size (z4.alloc X) (.cells box.toArray 45)
 have q3 := Hold.alloc w.heap.size ((z4.alloc X).alloc (.cells box.toArray 45)) (.cells S.toArray 45)
 have qq := q1.trans (q2.trans q3)
 refine ⟨xs, h1.hold (((k1.trans k2).trans k3).trans (kb.trans qq)), h2, h3, h4, fun hx => ?_, mkTab nm tn cols d u df 2 hc (by omega) (by rw [eC]; exact b1.hold hw ((k2.trans k3).trans (kb.trans qq))) (b2.hold (by omega) (k3.trans (kb.trans qq))) (b3.hold (by omega) (kb.trans qq)) (b4.hold (by omega) (q2.trans q3)) hw (by omega) (by omega) (by omega) hz,
  (((((h5.alloc _).alloc _).alloc _).trans hb).alloc _).alloc _ |>.alloc _, ((hr.alloc _).alloc _).alloc _⟩
 obtain ⟨x, hx, e⟩ := List.mem_map.1 hx
 have := (h1.2.2 x hx).lt
 omega
theorem TabY.len6 {base : Nat} {w : World} {gc : Nat} {cs : List Value} {t : Tb} (h : TabY base w gc cs t) : cs.length = 6 := by
 obtain ⟨_, _, _, _, _, _, rfl⟩ := h.len; rfl
theorem TabY.noKey {base : Nat} {w : World} {gc : Nat} {cs : List Value} {t : Tb} (h : TabY base w gc cs t) : TabY base w gc (cs.set 2 (.slice none 0 0)) { t with key := [] } := by
 obtain ⟨n1, A2, n2, c2, A3, n3, c3, A4, n4, c4, A5, n5, c5, rfl, hb, hB, hn, hp, h2, h3, h4, h5, ⟨k2, k3, k4, k5⟩, hz⟩ := h
 refine ⟨n1, none, 0, 0, A3, n3, c3, A4, n4, c4, A5, n5, c5, rfl, hb, hB, hn, hp, Sl.nilY, h3, h4, h5, ⟨Nat.le_refl _, k3, k4, k5⟩, ?_⟩
 unfold Tb.sz at hz ⊢
 simp only [List.length_nil]
 omega
theorem TabY.named {base : Nat} {w : World} {gc : Nat} {cs : List Value} {t : Tb} (h : TabY base w gc cs t) (nm : ByteArray) (hz : ({ t with name := nm } : Tb).sz ≤ 1000) : TabY base w gc (cs.set 0 (.string nm)) { t with name := nm } := by
 obtain ⟨n1, A2, n2, c2, A3, n3, c3, A4, n4, c4, A5, n5, c5, rfl, hb, hB, hn, hp, h2, h3, h4, h5, hc, _⟩ := h
 exact ⟨n1, A2, n2, c2, A3, n3, c3, A4, n4, c4, A5, n5, c5, rfl, hb, hB, hn, hp, h2, h3, h4, h5, hc, hz⟩
theorem SchY.head {base : Nat} {w : World} {v : Value} {x : Nat × List Value × Tb} {xs : List (Nat × List Value × Tb)} (h : SchY base w v (x :: xs)) : ∃ g cap, v = .slice (some ⟨g, 0, none⟩) (xs.length + 1) cap ∧ base ≤ g ∧ (∀ k u, x.2.1[k]? = some u → w.cell? ⟨g, k, none⟩ = some u) ∧ (∀ k, w.frozen? ⟨g, k, none⟩ = false) ∧ TC w g ∧ g ≠ x.1 ∧
  (∀ k u cs' t', k < 6 → cs' = x.2.1.set k u → TabY base (w.setCell ⟨g, k, none⟩ u) x.1 cs' t' → SchY base (w.setCell ⟨g, k, none⟩ u) v ((x.1, cs', t') :: xs)) := by
 obtain ⟨⟨h1, h2⟩, h3, h4⟩ := h
 have hx := h4 x (List.mem_cons_self ..)
 have hx6 := hx.len6
 rcases h2 with ⟨-, h2⟩ | ⟨g, cap, cur, rfl, k1, k2, k3, k4, k5, k6⟩
 ·simp at h2
 have hne : ∀ y ∈ x :: xs, g ≠ y.1 := fun y hy => by
  rintro rfl
  obtain ⟨_, _, _, _, _, _, _, _, _, _, _, _, _, _, _, hB, _⟩ := h4 y hy
  unfold Blo at hB
  rw [hB] at k2
  simp only [Option.some.injEq, Obj.cells.injEq] at k2
  exact absurd k2.2.1 (by decide)
 have htc : TC w g := ⟨_, _, k2, .inl rfl⟩
 have hlen : (x :: xs).length = xs.length + 1 := rfl
 rw [hlen] at k3 k6 h1
 refine ⟨g, cap, rfl, k1, fun k u hk => ?_, fun k => by simp [World.frozen?, k2], htc, hne x (List.mem_cons_self ..), fun k u cs' t' hk e ht => ?_⟩
 ·have hk6 : k < 6 := by rw [← hx6]; exact (List.getElem?_eq_some_iff.1 hk).1
  have e : (cur.toList.take ((xs.length + 1) * 6))[k]? = some u := by rw [k6, List.map_cons, List.flatten_cons, List.getElem?_append_left (by omega)]; exact hk
  rw [List.getElem?_take, if_pos (by omega)] at e
  simp only [World.cell?, k2]
  rw [← Array.getElem?_toList]
  simpa using e
 ·subst e
  have hcur : (xs.length + 1) * 6 ≤ cur.size := by rw [k5]; exact Nat.mul_le_mul_right _ k3
  refine ⟨⟨?_, .inr ⟨g, cap, cur.set! k u, rfl, k1, ?_, k3, k4, by simpa using k5, ?_⟩⟩, h3, fun y hy => ?_⟩
  ·rw [List.map_cons, List.flatten_cons, List.length_append] at h1 ⊢
   rw [List.length_set]
   exact h1
  ·unfold World.setCell
   simp [Array.getElem?_modify, k2]
  ·rw [List.map_cons, List.flatten_cons] at k6 ⊢
   show List.take ((xs.length + 1) * 6) (cur.set! k u).toList = _
   rw [show (cur.set! k u).toList = cur.toList.set k u by simp, List.take_set, k6, List.set_append, if_pos (by omega)]
  ·rcases List.mem_cons.1 hy with rfl | hy
   ·exact ht
   ·exact (h4 y (List.mem_cons_of_mem _ hy)).set htc (hne y (List.mem_cons_of_mem _ hy)) u
theorem SchY.kind {base : Nat} {w : World} {v : Value} {x : Nat × List Value × Tb} {xs : List (Nat × List Value × Tb)} (h : SchY base w v (x :: xs)) : ∃ c0 cs0, x.2.2.cols = c0 :: cs0 ∧ base ≤ x.1 ∧ (∃ n1, x.2.1[1]? = some (.slice (some ⟨x.1, 0, none⟩) n1 n1) ∧ 0 < n1) ∧ (∃ u, w.cell? ⟨x.1, 1, none⟩ = some u) ∧ w.frozen? ⟨x.1, 1, none⟩ = false ∧
  ∀ z, SchY base (w.setCell ⟨x.1, 1, none⟩ (.int .i64 z)) v ((x.1, x.2.1, { x.2.2 with cols := { c0 with kind := z } :: cs0 }) :: xs) := by
 obtain ⟨⟨h1, h2⟩, h3, h4⟩ := h
 obtain ⟨gx, cx, tx⟩ := x
 obtain ⟨n1, A2, n2, c2, A3, n3, c3, A4, n4, c4, A5, n5, c5, e, hb, hB, hn, hp, g2, g3, g4, g5, hc, hz⟩ := h4 _ (List.mem_cons_self ..)
 dsimp only at e hb hB hn g2 g3 g4 g5 hz ⊢
 subst e
 obtain ⟨c0, cs0, ec⟩ : ∃ c0 cs0, tx.cols = c0 :: cs0 := by
  cases hcl : tx.cols with
  | nil => rw [hcl] at hn; simp at hn; omega
  | cons a b => exact ⟨a, b, rfl⟩
 have hB' := hB
 rw [ec] at hB'
 have htc : TC w gx := ⟨_, _, hB, .inr rfl⟩
 refine ⟨c0, cs0, ec, hb, ⟨n1, rfl, by omega⟩, ⟨.int .i64 c0.kind, hB'.cell 1 _ (by simp [Cl.cells])⟩, hB'.free 1, fun z => ⟨⟨h1, ?_⟩, h3, fun y hy => ?_⟩⟩
 ·rcases h2 with h2 | ⟨g, cap, cur, k0, k1, k2, k3⟩
  ·exact .inl h2
  ·refine .inr ⟨g, cap, cur, k0, k1, (Below.heap_setCell _ _ _ _ fun he => ?_).trans k2, k3⟩
   have he : g = gx := he
   subst he
   unfold Blo at hB
   rw [hB] at k2
   simp only [Option.some.injEq, Obj.cells.injEq] at k2
   exact absurd k2.2.1 (by decide)
 ·rcases List.mem_cons.1 hy with rfl | hy
  ·have ho : ∀ b, okY base w b → okY base (w.setCell ⟨gx, 1, none⟩ (.int .i64 z)) b := fun b h => h.set htc _
   have hk : ∀ q u, okY base w q.block → w.cell? q = some u → (w.setCell ⟨gx, 1, none⟩ (.int .i64 z)).cell? q = some u := fun q u h hc => (World.cell?_setCell_other _ _ _ _ (fun e => h.ne htc (by rw [← e]))).trans hc
   refine ⟨n1, A2, n2, c2, A3, n3, c3, A4, n4, c4, A5, n5, c5, rfl, hb, ?_, ?_, hp, g2.stays IntR.stays ho hk, g3.stays UqR.stays ho hk, g4.stays CkR.stays ho hk, g5.stays FkR.stays ho hk, hc, ?_⟩
   ·exact hB'.put 1 (.int .i64 z)
   ·rw [ec] at hn; exact hn
   ·unfold Tb.sz at hz ⊢
    rw [ec] at hz
    exact hz
  ·have hne : gx ≠ y.1 := fun e => by
    have h3' : gx ∉ xs.map (·.1) := (List.nodup_cons.1 h3).1
    exact h3' (by rw [e]; exact List.mem_map.2 ⟨y, hy, rfl⟩)
   exact (h4 y (List.mem_cons_of_mem _ hy)).set (p := ⟨gx, 1, none⟩) htc hne _
set_option maxHeartbeats 1000000 in
theorem specColTok (n : Int) (w : World) :
  Calls Tryz.prog 69 #[.int .i64 n] w fun e w' => e = .returned (.agg #[.int .i64 1, .int .i64 n, .int .i64 0, .int .i64 0, .string ⟨#[]⟩]) ∧ Below w.heap.size w w' := by
 go_enter Tryz.func69, Tryz.ntmps69
 go_wp2
 exact bodyPost_ret (v := .agg #[.int .i64 1, .int .i64 n, .int .i64 0, .int .i64 0, .string ⟨#[]⟩]) (by simp [results, Tryz.results69, go_sem]) rfl
  ⟨rfl, (Below.refl _ _).alloc (Nat.le_refl _) _⟩
set_option maxHeartbeats 1000000 in
theorem specConstTok (k n : Int) (s : ByteArray) (w : World) :
  Calls Tryz.prog 70 #[.agg #[.int .i64 k, .int .i64 n, .string s]] w fun e w' => e = .returned (.agg #[.int .i64 2, .int .i64 0, .int .i64 k, .int .i64 n, .string s]) ∧ Below w.heap.size w w' := by
 go_enter Tryz.func70, Tryz.ntmps70
 go_wp2
 exact bodyPost_ret (v := .agg #[.int .i64 2, .int .i64 0, .int .i64 k, .int .i64 n, .string s]) (by simp [results, Tryz.results70, go_sem]) rfl
  ⟨rfl, ((Below.refl _ _).alloc (Nat.le_refl _) _).alloc (by simp) _⟩
theorem below_but {w w' : World} (h : Below w.heap.size w w') (R : Nat) : But R w w' := ⟨h.os, h.tape, h.output, h.size, fun k hk _ => h.block k hk⟩
theorem rdr_below {w w' : World} {R : Nat} {a : Option Addr} {len cap : Nat} {zs : List Int} (h : Rdr w R a len cap zs) (hb : Below w.heap.size w w') : Rdr w' R a len cap zs := by
 have hR : R < w.heap.size := cell_lt h.code
 obtain ⟨i, hi, hi1⟩ := h.place
 exact ⟨(hb.cell (p := ⟨R, 0, none⟩) hR).trans h.code, ⟨i, hi, (hb.cell (p := ⟨R, 1, none⟩) hR).trans hi1⟩, (hb.frozen (p := ⟨R, 1, none⟩) hR).trans h.free, h.row.below hb, h.apart⟩
theorem PB.below {w w' w'' : World} {R : Nat} {a : Option Addr} {len cap : Nat} {zs : List Int} {gp gc m : Nat} (h : PB w w' R a len cap zs gp gc m) (hb : Below w'.heap.size w' w'') (hR : R < w.heap.size) : PB w w'' R a len cap zs gp gc m :=
 h.but (below_but hb R) (rdr_below (by obtain ⟨_, _, _, _, _, _, _, hr, _⟩ := h; exact hr) hb) hR
theorem PB.rdr {w w' : World} {R : Nat} {a : Option Addr} {len cap : Nat} {zs : List Int} {gp gc m : Nat} (h : PB w w' R a len cap zs gp gc m) : Rdr w' R a len cap zs := by
 obtain ⟨_, _, _, _, _, _, _, hr, _⟩ := h; exact hr
theorem rdAction (w : World) (R : Nat) (a : Option Addr) (len cap : Nat) (zs : List Int) (h : Rdr w R a len cap zs) :
  Calls Tryz.prog 71 #[.pointer (some ⟨R, 0, none⟩)] w (Drew R a len cap zs (isInt 0 2) w) := by
 go_enter Tryz.func71, Tryz.ntmps71
 go_wp2_with fail
 refine (rdBelow 3 w R a len cap zs h).mono ?_
 rintro e w' ⟨v, rfl, ⟨x, rfl, x0, x1⟩, hb, hr⟩
 go_wp2_with fail
 go_ret
 exact ⟨_, rfl, ⟨x, rfl, by omega, by omega⟩, hb, hr⟩
def isSch (base m : Nat) (v : Value) (w : World) : Prop := ∃ xs, SchY base w v xs ∧ 0 < xs.length ∧ xs.length ≤ 3 ∧ ∀ x ∈ xs, x.2.2.sz ≤ m
theorem rdr_drewY {w : World} {R : Nat} {a : Option Addr} {len cap : Nat} {zs : List Int} (h : Rdr w R a len cap zs) : Rdr w.drew R a len cap zs := ⟨h.code, h.place, h.free, h.row, h.apart⟩
theorem but_undrewY {R : Nat} {w w' : World} (h : But R w.drew w') : But R w w' := ⟨h.os, h.tape, h.output, h.size, h.block⟩
theorem sz_noKey (t : Tb) : ({ t with key := [] } : Tb).sz ≤ t.sz := by unfold Tb.sz; simp only [List.length_nil]; omega
theorem sz_named (t : Tb) (nm : ByteArray) : ({ t with name := nm } : Tb).sz ≤ t.sz + nm.size := by unfold Tb.sz; simp only; omega
theorem sz_kind (t : Tb) {c0 : Cl} {cs0 : List Cl} (h : t.cols = c0 :: cs0) (z : Int) : ({ t with cols := { c0 with kind := z } :: cs0 } : Tb).sz = t.sz := by unfold Tb.sz; rw [h]; rfl
def colsP : List Cl := [⟨⟨#[107]⟩, 1, true, ⟨0, 0, ⟨#[]⟩⟩⟩, ⟨⟨#[116]⟩, 2, false, ⟨0, 0, ⟨#[]⟩⟩⟩, ⟨⟨#[110]⟩, 1, false, ⟨1, 1, ⟨#[]⟩⟩⟩]
def tabP : Tb := ⟨⟨#[112]⟩, colsP, [0], [], [], []⟩
set_option maxRecDepth 100000 in
set_option maxHeartbeats 4000000 in
theorem rdSchema (w : World) (R : Nat) (a : Option Addr) (len cap : Nat) (zs : List Int) (h : Rdr w R a len cap zs) :
  Calls Tryz.prog 37 #[.pointer (some ⟨R, 0, none⟩)] w (Drew R a len cap zs (isSch w.heap.size 61) w) := by
 have hlt : R < w.heap.size := cell_lt h.code
 obtain ⟨i0, hi, hz0, hz1, hz2⟩ := info_parts infoTableT
 have H1 := Lib.hid hi
 have H2 := Lib.hid hz0
 have H3 := Lib.hid hz1
 have H4 := Lib.hid hz2
 clear hi hz0 hz1 hz2
 go_enter Tryz.func37, Tryz.ntmps37
 go_wp2_with fail
 refine (specInt 1 _).mono ?_
 rintro e w1 ⟨rfl, o, rfl⟩
 go_wp2_with fail
 have hp0 : PB w ((((w.alloc o).alloc (.cells #[.string ⟨#[107]⟩, .int .i64 1, .bool true, .int .i64 0, .int .i64 0, .string ⟨#[]⟩, .string ⟨#[116]⟩, .int .i64 2, .bool false, .int .i64 0, .int .i64 0, .string ⟨#[]⟩, .string ⟨#[110]⟩, .int .i64 1, .bool false, .int .i64 1, .int .i64 1, .string ⟨#[]⟩] 55)).alloc (.cells #[.int .i64 0] 2)).alloc (.cells #[.string ⟨#[112]⟩, .slice (some ⟨w.heap.size + 1, 0, none⟩) 3 3, .slice (some ⟨w.heap.size + 1 + 1, 0, none⟩) 1 1, .slice none 0 0, .slice none 0 0, .slice none 0 0] 45)) R a len cap zs (w.heap.size + 1 + 1 + 1) (w.heap.size + 1) 30 := by
  have b1 := Blo.new (w.alloc o) (colsP.map Cl.cells).flatten 55
  have b2 := Blo.new ((w.alloc o).alloc (.cells (colsP.map Cl.cells).flatten.toArray 55)) ([0].map (Value.int .i64)) 2
  rw [show ((w.alloc o).alloc (.cells (colsP.map Cl.cells).flatten.toArray 55)).heap.size = w.heap.size + 1 + 1 by simp] at b2
  rw [show (w.alloc o).heap.size = w.heap.size + 1 by simp] at b1
  have b3 := Blo.new ((((w.alloc o).alloc (.cells (colsP.map Cl.cells).flatten.toArray 55)).alloc (.cells ([0].map (Value.int .i64)).toArray 2))) [.string ⟨#[112]⟩, .slice (some ⟨w.heap.size + 1, 0, none⟩) 3 3, .slice (some ⟨w.heap.size + 1 + 1, 0, none⟩) 1 1, .slice none 0 0, .slice none 0 0, .slice none 0 0] 45
  rw [show (((w.alloc o).alloc (.cells (colsP.map Cl.cells).flatten.toArray 55)).alloc (.cells ([0].map (Value.int .i64)).toArray 2)).heap.size = w.heap.size + 1 + 1 + 1 by simp] at b3
  have h2 := Hold.alloc w.heap.size ((w.alloc o).alloc (.cells (colsP.map Cl.cells).flatten.toArray 55)) (.cells ([0].map (Value.int .i64)).toArray 2)
  have h3 := Hold.alloc w.heap.size (((w.alloc o).alloc (.cells (colsP.map Cl.cells).flatten.toArray 55)).alloc (.cells ([0].map (Value.int .i64)).toArray 2)) (.cells [.string ⟨#[112]⟩, .slice (some ⟨w.heap.size + 1, 0, none⟩) 3 3, .slice (some ⟨w.heap.size + 1 + 1, 0, none⟩) 1 1, .slice none 0 0, .slice none 0 0, .slice none 0 0].toArray 45)
  refine ⟨[.string ⟨#[112]⟩, .slice (some ⟨w.heap.size + 1, 0, none⟩) 3 3, .slice (some ⟨w.heap.size + 1 + 1, 0, none⟩) 1 1, .slice none 0 0, .slice none 0 0, .slice none 0 0], tabP, b3, by omega, ?_, rfl, (((But.refl R w).alloc o).alloc _).alloc _ |>.alloc _, (((h.alloc o).alloc _).alloc _).alloc _, by decide⟩
  exact ⟨3, _, 1, 1, none, 0, 0, none, 0, 0, none, 0, 0, rfl, by omega, b1.hold (by omega) (h2.trans h3), rfl, by omega, intsY [0] (b2.hold (by omega) h3) (by omega), Sl.nilY, Sl.nilY, Sl.nilY, by omega, by decide⟩
 have H0 := Lib.hid h
 have HP0 := Lib.hid hp0
 clear hp0
 generalize ((((w.alloc o).alloc (.cells #[.string ⟨#[107]⟩, .int .i64 1, .bool true, .int .i64 0, .int .i64 0, .string ⟨#[]⟩, .string ⟨#[116]⟩, .int .i64 2, .bool false, .int .i64 0, .int .i64 0, .string ⟨#[]⟩, .string ⟨#[110]⟩, .int .i64 1, .bool false, .int .i64 1, .int .i64 1, .string ⟨#[]⟩] 55)).alloc (.cells #[.int .i64 0] 2)).alloc (.cells #[.string ⟨#[112]⟩, .slice (some ⟨w.heap.size + 1, 0, none⟩) 3 3, .slice (some ⟨w.heap.size + 1 + 1, 0, none⟩) 1 1, .slice none 0 0, .slice none 0 0, .slice none 0 0] 45)) = y at *
 refine (rdOnce 2 _ R a len cap zs HP0.out.rdr).mono ?_
 rintro e y1 ⟨v, rfl, ⟨b, rfl⟩, hb1, hr1⟩
 have HP1 := Lib.hid (HP0.out.but hb1 hr1 hlt)
 clear HP0 hb1 hr1 h
 obtain ⟨gp, egp⟩ : ∃ gp, w.heap.size + 1 + 1 + 1 = gp := ⟨_, rfl⟩
 obtain ⟨gc, egc⟩ : ∃ gc, w.heap.size + 1 = gc := ⟨_, rfl⟩
 obtain ⟨gk, egk⟩ : ∃ gk, w.heap.size + 1 + 1 = gk := ⟨_, rfl⟩
 rw [egp, egc] at HP1
 rw [egp, egk, egc]
 clear egp egc egk
 go_upto_if 15 with (fail)
 go_cut [] from 14 (fun wx => PB w wx R a len cap zs gp gc 40)
 case first =>
  cases b
  ·go_wp2_with fail
   go_meet
   case rel => exact HP1.out.mono (by omega)
  ·have k1 := Hold.alloc w.heap.size y1 (.cells #[.int .i64 2] 2)
   have k2 := Hold.alloc w.heap.size (y1.alloc (.cells #[.int .i64 2] 2)) (.cells #[.slice (some ⟨y1.heap.size, 0, none⟩) 1 1] 61)
   obtain ⟨⟨u, c3⟩, f3⟩ := HP1.out.cell (k1.trans k2) 3 (by omega)
   clear k1 k2
   go_wp2_with fail
   go_meet
   case rel => exact (HP1.out.uniq H0.out (by omega)).mono (by omega)
 case rest =>
  have HP2 := Lib.hid hcut
  clear hcut HP1
  go_wp2_with fail
  refine (rdOnce 2 _ R a len cap zs HP2.out.rdr).mono ?_
  rintro e y2 ⟨v, rfl, ⟨b2, rfl⟩, hb2, hr2⟩
  have HP3 := Lib.hid (HP2.out.but hb2 hr2 hlt)
  clear HP2 hb2 hr2
  go_upto_if 21 with (fail)
  go_cut [] from 20 (fun wx => PB w wx R a len cap zs gp gc 60)
  case first =>
   cases b2
   ·go_wp2_with fail
    go_meet
    case rel => exact HP3.out.mono (by omega)
   ·go_wp2_with fail
    refine (specColTok 0 _).mono ?_
    rintro e y3 ⟨rfl, hb3⟩
    have HP4 := Lib.hid (HP3.out.below hb3 hlt)
    go_wp2_with fail
    refine (specInt 4 _).mono ?_
    rintro e y4 ⟨rfl, o4, rfl⟩
    have HP5 := Lib.hid (HP4.out.below ((Below.refl y3.heap.size y3).alloc (Nat.le_refl _) o4) hlt)
    generalize y3.alloc o4 = y4 at *
    go_wp2_with fail
    refine (specConstTok 1 4 ⟨#[]⟩ _).mono ?_
    rintro e y5 ⟨rfl, hb5⟩
    have HP6 := Lib.hid (HP5.out.below hb5 hlt)
    clear HP3 HP4 HP5 hb3 hb5
    have k1 := Hold.alloc w.heap.size y5 (.cells #[.int .i64 1, .int .i64 0, .int .i64 0, .int .i64 0, .string ⟨#[]⟩, .int .i64 2, .int .i64 0, .int .i64 1, .int .i64 4, .string ⟨#[]⟩, .int .i64 4, .int .i64 0, .int .i64 0, .int .i64 0, .string ⟨#[]⟩] 115)
    have k2 := Hold.alloc w.heap.size (y5.alloc (.cells #[.int .i64 1, .int .i64 0, .int .i64 0, .int .i64 0, .string ⟨#[]⟩, .int .i64 2, .int .i64 0, .int .i64 1, .int .i64 4, .string ⟨#[]⟩, .int .i64 4, .int .i64 0, .int .i64 0, .int .i64 0, .string ⟨#[]⟩] 115)) (.cells #[.slice (some ⟨y5.heap.size, 0, none⟩) 3 3] 59)
    obtain ⟨⟨u, c4⟩, f4⟩ := HP6.out.cell (k1.trans k2) 4 (by omega)
    clear k1 k2
    go_wp2_with fail
    go_meet
    case rel => exact (HP6.out.chk H0.out (by omega)).mono (by omega)
  case rest =>
   obtain ⟨cs, t, hB, hgp, hT, hc3, hb6, hr6, hz6⟩ := hcut
   obtain ⟨x0, x1, x2, x3, x4, x5, rfl⟩ := hT.len
   have d0 := hB.cell 0 x0 rfl
   have d1 := hB.cell 1 x1 rfl
   have d2 := hB.cell 2 x2 rfl
   have d3 := hB.cell 3 x3 rfl
   have d4 := hB.cell 4 x4 rfl
   have d5 := hB.cell 5 x5 rfl
   have HS1 := Lib.hid (show SB w (wc.alloc (.cells #[x0, x1, x2, x3, x4, x5] 45)) R a len cap zs (.slice (some ⟨wc.heap.size, 0, none⟩) 1 1) 1 60 from
    ⟨_, SchY.one hT hb6.size, by simp, by simp, fun x hx => by rw [List.mem_singleton.1 hx]; exact hz6, hb6.alloc _, hr6.alloc _⟩)
   clear hB hT hb6 hr6 HP3
   go_wp2_with fail
   generalize wc.alloc (.cells #[x0, x1, x2, x3, x4, x5] 45) = u1 at *
   generalize Value.slice (some ⟨wc.heap.size, 0, none⟩) 1 1 = v1 at *
   clear d0 d1 d2 d3 d4 d5
   refine (rdOnce 4 _ R a len cap zs HS1.out.rdr).mono ?_
   rintro e u2 ⟨v, rfl, ⟨b3, rfl⟩, hb2, hr2⟩
   have HS2 := Lib.hid (HS1.out.but hb2 hr2 hlt)
   clear HS1 hb2 hr2
   go_upto_if 34 with (fail)
   go_cut [4] from 32 (fun v wx => SB w wx R a len cap zs v 2 60)
   case first =>
    cases b3
    ·go_wp2_with fail
     refine (rdOnce 4 _ R a len cap zs HS2.out.rdr).mono ?_
     rintro e z1 ⟨v, rfl, ⟨nn, rfl⟩, hb2, hr2⟩
     have HS3 := Lib.hid (HS2.out.but hb2 hr2 hlt)
     clear HS2 hb2 hr2
     go_wp2_with fail
     refine (rdAction _ R a len cap zs (((HS3.out.rdr.alloc _).alloc _).alloc _)).mono ?_
     rintro e z2 ⟨v, rfl, ⟨d, rfl, d0, d1⟩, hb2, hr2⟩
     go_wp2_with fail
     refine (rdAction _ R a len cap zs hr2).mono ?_
     rintro e z3 ⟨v, rfl, ⟨dd, rfl, dd0, dd1⟩, hb3, hr3⟩
     go_wp2_with fail
     refine (rdOnce 4 _ R a len cap zs hr3).mono ?_
     rintro e z4 ⟨v, rfl, ⟨df, rfl⟩, hb4, hr4⟩
     have HT := Lib.hid (HS3.out.table hlt ⟨#[99]⟩ ⟨#[112]⟩ [⟨⟨#[107]⟩, 1, true, ⟨0, 0, ⟨#[]⟩⟩⟩, ⟨⟨#[112]⟩, 1, nn, ⟨0, 0, ⟨#[]⟩⟩⟩] d dd df rfl ((hb2.trans hb3).trans hb4) hr4 (show (9 : Nat) ≤ 1000 by omega)
      [.string ⟨#[99]⟩, .slice (some ⟨z1.heap.size, 0, none⟩) 2 2, .slice (some ⟨z1.heap.size + 1, 0, none⟩) 1 1, .slice none 0 0, .slice none 0 0, .slice (some ⟨z4.heap.size, 0, none⟩) 1 1]
      [.string ⟨#[99]⟩, .slice (some ⟨z1.heap.size, 0, none⟩) 2 2, .slice (some ⟨z1.heap.size + 1, 0, none⟩) 1 1, .slice none 0 0, .slice none 0 0, .slice (some ⟨z4.heap.size, 0, none⟩) 1 1])
     clear hb2 hb3 hb4 hr2 hr3 hr4 d0 d1 dd0 dd1 HS3
     obtain ⟨xs, hs, hl0, hl, hm, hn, ht, hbq, hrq⟩ := HT.out
     have HS := Lib.hid hs
     have HTT := Lib.hid ht
     have HN := Lib.hid hn
     have HM := Lib.hid hm
     have HBQ := Lib.hid hbq
     have HRQ := Lib.hid hrq
     have hwq : w.heap.size ≤ z4.heap.size + 1 + 1 + 1 := by have := HBQ.out.size; simpa using this
     clear hs ht hn hm hbq hrq HT
     go_wp2_with (at_builtin; refine wpList_append_own _ rfl _ _ 24 rfl w.heap.size 45 i0 (.agg #[.string ⟨#[]⟩, .slice none 0 0, .slice none 0 0, .slice none 0 0, .slice none 0 0, .slice none 0 0]) 6 136 Tryz.underlying24 H1.out H2.out H3.out H4.out rfl (by decide) _ _ _ rfl HS.out.1 ⟨_, 0, none⟩ 1 1 [.string ⟨#[99]⟩, .slice (some ⟨z1.heap.size, 0, none⟩) 2 2, .slice (some ⟨z1.heap.size + 1, 0, none⟩) 1 1, .slice none 0 0, .slice none 0 0, .slice (some ⟨z4.heap.size, 0, none⟩) 1 1] rfl rfl ?c1 ?c2 ?c3 ?c4 ?c5 ?_)
     case c1 => exact cellsY _ [.string ⟨#[99]⟩, .slice (some ⟨z1.heap.size, 0, none⟩) 2 2, .slice (some ⟨z1.heap.size + 1, 0, none⟩) 1 1, .slice none 0 0, .slice none 0 0, .slice (some ⟨z4.heap.size, 0, none⟩) 1 1] _ (by simp)
     case c2 => intro u hu; simp at hu; rcases hu with rfl | rfl | rfl | rfl | rfl | rfl <;> rfl
     case c3 => unfold maxLen; omega
     case c4 => omega
     case c5 => simp; omega
     intro v' w3 hown3 hgrow _
     have HZ := Lib.hid (SB.add H0.out HS.out HTT.out HN.out hl HM.out (show (9 : Nat) ≤ 60 by omega) HBQ.out HRQ.out hown3 hgrow)
     clear hown3 hgrow HS HTT HN HM HBQ HRQ
     go_wp2_with fail
     go_meet
     case rel => exact HZ.out
    ·go_wp2_with fail
     go_meet
     case rel => exact HS2.out.mono (by omega) (by omega)
   case rest =>
    have HS4 := Lib.hid hcut
    clear hcut HS2
    go_wp2_with fail
    refine (rdOnce 3 _ R a len cap zs HS4.out.rdr).mono ?_
    rintro e z1 ⟨v, rfl, ⟨b4, rfl⟩, hb2, hr2⟩
    have HS5 := Lib.hid (HS4.out.but hb2 hr2 hlt)
    clear HS4 hb2 hr2
    go_upto_if 56 with (fail)
    go_cut [4] from 55 (fun v wx => SB w wx R a len cap zs v 3 60)
    case first =>
     cases b4
     ·go_wp2_with fail
      go_meet
      case rel => exact HS5.out.mono (by omega) (by omega)
     ·go_wp2_with fail
      refine (rdAction _ R a len cap zs (((HS5.out.rdr.alloc _).alloc _).alloc _)).mono ?_
      rintro e z2 ⟨v, rfl, ⟨d, rfl, d0, d1⟩, hb2, hr2⟩
      go_wp2_with fail
      refine (rdAction _ R a len cap zs hr2).mono ?_
      rintro e z3 ⟨v, rfl, ⟨dd, rfl, dd0, dd1⟩, hb3, hr3⟩
      have HT := Lib.hid (HS5.out.table hlt ⟨#[116, 114, 101, 101]⟩ ⟨#[116, 114, 101, 101]⟩ [⟨⟨#[107]⟩, 1, true, ⟨0, 0, ⟨#[]⟩⟩⟩, ⟨⟨#[117, 112]⟩, 1, false, ⟨0, 0, ⟨#[]⟩⟩⟩] d dd false rfl (hb2.trans hb3) hr3 (show (16 : Nat) ≤ 1000 by omega)
       [.string ⟨#[116, 114, 101, 101]⟩, .slice (some ⟨z1.heap.size, 0, none⟩) 2 2, .slice (some ⟨z1.heap.size + 1, 0, none⟩) 1 1, .slice none 0 0, .slice none 0 0, .slice (some ⟨z3.heap.size, 0, none⟩) 1 1]
       [.string ⟨#[116, 114, 101, 101]⟩, .slice (some ⟨z1.heap.size, 0, none⟩) 2 2, .slice (some ⟨z1.heap.size + 1, 0, none⟩) 1 1, .slice none 0 0, .slice none 0 0, .slice (some ⟨z3.heap.size, 0, none⟩) 1 1])
      clear hb2 hb3 hr2 hr3 d0 d1 dd0 dd1 HS5
      obtain ⟨xs, hs, hl0, hl, hm, hn, ht, hbq, hrq⟩ := HT.out
      have HS := Lib.hid hs
      have HTT := Lib.hid ht
      have HN := Lib.hid hn
      have HM := Lib.hid hm
      have HBQ := Lib.hid hbq
      have HRQ := Lib.hid hrq
      have hwq : w.heap.size ≤ z3.heap.size + 1 + 1 + 1 := by have := HBQ.out.size; simpa using this
      clear hs ht hn hm hbq hrq HT
      go_wp2_with (at_builtin; refine wpList_append_own _ rfl _ _ 24 rfl w.heap.size 45 i0 (.agg #[.string ⟨#[]⟩, .slice none 0 0, .slice none 0 0, .slice none 0 0, .slice none 0 0, .slice none 0 0]) 6 136 Tryz.underlying24 H1.out H2.out H3.out H4.out rfl (by decide) _ _ _ rfl HS.out.1 ⟨_, 0, none⟩ 1 1 [.string ⟨#[116, 114, 101, 101]⟩, .slice (some ⟨z1.heap.size, 0, none⟩) 2 2, .slice (some ⟨z1.heap.size + 1, 0, none⟩) 1 1, .slice none 0 0, .slice none 0 0, .slice (some ⟨z3.heap.size, 0, none⟩) 1 1] rfl rfl ?c1 ?c2 ?c3 ?c4 ?c5 ?_)
      case c1 => exact cellsY _ [.string ⟨#[116, 114, 101, 101]⟩, .slice (some ⟨z1.heap.size, 0, none⟩) 2 2, .slice (some ⟨z1.heap.size + 1, 0, none⟩) 1 1, .slice none 0 0, .slice none 0 0, .slice (some ⟨z3.heap.size, 0, none⟩) 1 1] _ (by simp)
      case c2 => intro u hu; simp at hu; rcases hu with rfl | rfl | rfl | rfl | rfl | rfl <;> rfl
      case c3 => unfold maxLen; omega
      case c4 => omega
      case c5 => simp; omega
      intro v' w3 hown3 hgrow _
      have HZ := Lib.hid (SB.add H0.out HS.out HTT.out HN.out hl HM.out (show (16 : Nat) ≤ 60 by omega) HBQ.out HRQ.out hown3 hgrow)
      clear hown3 hgrow HS HTT HN HM HBQ HRQ
      go_wp2_with fail
      go_meet
      case rel => exact HZ.out
    case rest =>
     have HS6 := Lib.hid hcut
     clear hcut HS5
     go_wp2_with fail
     refine (rdBelow 40 _ R a len cap zs HS6.out.rdr).mono ?_
     rintro e q1 ⟨v, rfl, ⟨y, rfl, y0, y1⟩, hb2, hr2⟩
     have HS7 := Lib.hid (HS6.out.but hb2 hr2 hlt)
     clear HS6 hb2 hr2
     obtain ⟨xs, hs, hl0, hl, hm, hb, hr⟩ := HS7.out
     have hq : y = 37 ∨ y = 38 ∨ y = 39 ∨ (y ≠ 37 ∧ y ≠ 38 ∧ y ≠ 39) := by omega
     clear HS7
     rcases hq with rfl | rfl | rfl | ⟨n7, n8, n9⟩
     ·obtain ⟨x, xs, rfl⟩ : ∃ x l, xs = x :: l := by cases xs with
       | nil => simp at hl0
       | cons x l => exact ⟨x, l, rfl⟩
      obtain ⟨g, ca, rfl, hg, hcell, hfree, htc, hne, hput⟩ := hs.head
      have hT := hs.2.2 x (List.mem_cons_self ..)
      obtain ⟨w2, d2⟩ : ∃ u, q1.cell? ⟨g, 2, none⟩ = some u := ⟨_, hcell 2 (x.2.1[2]'(by rw [hT.len6]; omega)) (by rw [List.getElem?_eq_getElem])⟩
      have f2 := hfree 2
      have HF := Lib.hid (show isSch w.heap.size 61 (.slice (some ⟨g, 0, none⟩) (xs.length + 1) ca) (q1.setCell ⟨g, 2, none⟩ (.slice none 0 0)) from
       ⟨_, hput 2 _ _ _ (by omega) rfl (hT.set (p := ⟨g, 2, none⟩) htc hne _).noKey, by simp, by simpa using hl, fun z hz => by
        rcases List.mem_cons.1 hz with rfl | hz
        ·have := hm x (List.mem_cons_self ..); have := sz_noKey x.2.2; dsimp only; omega
        ·have := hm z (List.mem_cons_of_mem _ hz); omega⟩)
      have HBF := Lib.hid (hb.setNew (p := ⟨g, 2, none⟩) hg (.slice none 0 0))
      have HRF := Lib.hid (H0.out.setNew hr (p := ⟨g, 2, none⟩) hg (.slice none 0 0))
      clear hs hcell hfree hput hT hm hb hr hl hl0
      go_wp2_with fail
      go_ret
      exact ⟨_, rfl, HF.out, HBF.out, HRF.out⟩
     ·obtain ⟨x, xs, rfl⟩ : ∃ x l, xs = x :: l := by cases xs with
       | nil => simp at hl0
       | cons x l => exact ⟨x, l, rfl⟩
      obtain ⟨g, ca, rfl, hg, hcell, hfree, htc, hne, hput⟩ := hs.head
      have hT := hs.2.2 x (List.mem_cons_self ..)
      obtain ⟨w0, d0⟩ : ∃ u, q1.cell? ⟨g, 0, none⟩ = some u := ⟨_, hcell 0 (x.2.1[0]'(by rw [hT.len6]; omega)) (by rw [List.getElem?_eq_getElem])⟩
      have f0 := hfree 0
      have hx60 := hm x (List.mem_cons_self ..)
      have hsn := sz_named x.2.2 ⟨#[99]⟩
      have hsn1 : (⟨#[99]⟩ : ByteArray).size = 1 := rfl
      have HF := Lib.hid (show isSch w.heap.size 61 (.slice (some ⟨g, 0, none⟩) (xs.length + 1) ca) (q1.setCell ⟨g, 0, none⟩ (.string ⟨#[99]⟩)) from
       ⟨_, hput 0 _ _ _ (by omega) rfl ((hT.set (p := ⟨g, 0, none⟩) htc hne _).named ⟨#[99]⟩ (by omega)), by simp, by simpa using hl, fun z hz => by
        rcases List.mem_cons.1 hz with rfl | hz
        ·dsimp only; omega
        ·have := hm z (List.mem_cons_of_mem _ hz); omega⟩)
      have HBF := Lib.hid (hb.setNew (p := ⟨g, 0, none⟩) hg (.string ⟨#[99]⟩))
      have HRF := Lib.hid (H0.out.setNew hr (p := ⟨g, 0, none⟩) hg (.string ⟨#[99]⟩))
      clear hs hcell hfree hput hT hm hb hr hl hl0 hsn hsn1 hx60
      go_wp2_with fail
      go_ret
      exact ⟨_, rfl, HF.out, HBF.out, HRF.out⟩
     ·obtain ⟨x, xs, rfl⟩ : ∃ x l, xs = x :: l := by cases xs with
       | nil => simp at hl0
       | cons x l => exact ⟨x, l, rfl⟩
      obtain ⟨g, ca, rfl, hg, hcell, hfree, htc, hne, hput⟩ := hs.head
      obtain ⟨c00, cs00, ec0, hgx, ⟨n1, e1, hn1⟩, -⟩ := hs.kind
      have d1 := hcell 1 _ e1
      have hgs : g < q1.heap.size := cell_lt d1
      have hRg : g ≠ R := by omega
      have HSX := Lib.hid hs
      have HRX := Lib.hid hr
      have HBX := Lib.hid hb
      have HM := Lib.hid hm
      have hn1' : (0 : Int) < n1 := by omega
      clear hs hr hb hm hcell hfree hput htc hne ec0
      go_wp2_with fail
      go_region_with (go_at_call 72; refine (rdOff 1 2 (by omega) (by omega) (by omega) _ R a len cap zs (rdr_drewY HRX.out)).mono ?_; rintro e q2 ⟨v, rfl, ⟨z, rfl, z0, z1⟩, hb2', hr2⟩; have hb2 := but_undrewY hb2'; have HS2 := Lib.hid (HSX.out.hold (Hold.but hb2 hlt)); obtain ⟨c0, cs0, ec, -, -, ⟨k0, k1⟩, k2, k3⟩ := HS2.out.kind; have d1' := (hb2.cell (p := ⟨g, 1, none⟩) hgs hRg).trans d1; have HK3 := Lib.hid k3; have HEC := Lib.hid ec; clear k3 ec hb2')
      all_goals
       go_wp2_with fail
       go_ret
       refine ⟨_, rfl, ⟨_, HK3.out z, by simp, by simpa using hl, fun z' hz => ?_⟩, (HBX.out.trans hb2).setNew (p := ⟨x.1, 1, none⟩) hgx _, H0.out.setNew hr2 (p := ⟨x.1, 1, none⟩) hgx _⟩
       rcases List.mem_cons.1 hz with rfl | hz
       ·have := HM.out x (List.mem_cons_self ..); have := sz_kind x.2.2 HEC.out z; dsimp only; omega
       ·have := HM.out z' (List.mem_cons_of_mem _ hz); omega
     ·have m7 : (y == 37) = false := by simpa using n7
      have m8 : (y == 38) = false := by simpa using n8
      have m9 : (y == 39) = false := by simpa using n9
      have HF := Lib.hid (show isSch w.heap.size 61 u4 q1 from ⟨xs, hs, hl0, hl, fun z hz => by have := hm z hz; omega⟩)
      have HBF := Lib.hid hb
      have HRF := Lib.hid hr
      clear hs hl0 hl hm hb hr
      go_wp2_with fail
      go_ret
      exact ⟨_, rfl, HF.out, HBF.out, HRF.out⟩
theorem szL_le {α : Type} (f : α → Nat) (m : Nat) : ∀ l : List α, (∀ x ∈ l, f x ≤ m) → szL f l ≤ l.length + l.length * m
 | [], _ => by simp [szL]
 | x :: l, h => by
  have h1 := szL_le f m l fun y hy => h y (List.mem_cons_of_mem _ hy)
  have h2 := h x (List.mem_cons_self ..)
  unfold szL at h1 ⊢
  rw [List.map_cons, List.sum_cons, List.length_cons, Nat.succ_mul]
  omega
theorem tabs_sl {base : Nat} {w : World} {v : Value} {xs : List (Nat × List Value × Tb)} (hr : w.ownsRow base 45 6 v xs.length (xs.map (·.2.1)).flatten) (ha : ∀ x ∈ xs, TabY base w x.1 x.2.1 x.2.2) : ∃ A c, v = .slice A xs.length c ∧ xs.length ≤ c ∧ c ≤ maxLen ∧ Sl TbR 6 (okF base w) w A xs.length (xs.map (·.2.2)) := by
 rcases hr.2 with ⟨rfl, h0⟩ | ⟨g, cap, cur, rfl, k1, k2, k3, k4, k5, k6⟩
 ·exact ⟨none, 0, by rw [h0], by omega, by simp [maxLen], by rw [List.length_map], fun hn => by omega⟩
 ·refine ⟨_, cap, rfl, k3, k4, by rw [List.length_map], fun hn => ⟨g, 0, rfl, ⟨k1, lt_of_block k2, fun off => by simp [World.frozen?, k2]⟩, fun i hi => ?_⟩⟩
  have hi' : i < xs.length := by simpa using hi
  have ht := ha _ (List.getElem_mem hi')
  refine ⟨xs[i].2.1, ht.len6, by rw [List.getElem_map]; exact ht.reads, fun j u hj => ?_⟩
  have hj6 : j < 6 := by rw [← ht.len6]; exact (List.getElem?_eq_some_iff.1 hj).1
  have key : ∀ (l : List (List Value)) (i : Nat) (hi : i < l.length), (∀ c ∈ l, c.length = 6) → l.flatten[i * 6 + j]? = l[i][j]? := by
   intro l
   induction l with
   | nil => intro i hi; simp at hi
   | cons x l ih =>
    intro i hi ha
    have hx := ha x (List.mem_cons_self ..)
    cases i with
    | zero => rw [List.flatten_cons, Nat.zero_mul, Nat.zero_add, List.getElem?_append_left (by omega)]; rfl
    | succ i =>
     rw [List.flatten_cons, List.getElem?_append_right (by rw [hx, Nat.succ_mul]; omega), hx, show (i + 1) * 6 + j - 6 = i * 6 + j by rw [Nat.succ_mul]; omega]
     exact ih i (by simpa using hi) fun c hc => ha c (List.mem_cons_of_mem _ hc)
  have e := key (xs.map (·.2.1)) i (by simpa using hi') fun c hc => by
   obtain ⟨y, hy, rfl⟩ := List.mem_map.1 hc
   exact (ha y hy).len6
  rw [List.getElem_map, hj, ← k6, List.getElem?_take, if_pos (by have := Nat.mul_le_mul_right 6 (show i + 1 ≤ xs.length from hi'); rw [Nat.succ_mul] at this; omega)] at e
  rw [Nat.zero_add]
  simp only [World.cell?, k2]
  rw [← Array.getElem?_toList]
  simpa using e
theorem SchY.sl {base : Nat} {w : World} {v : Value} {xs : List (Nat × List Value × Tb)} (h : SchY base w v xs) : ∃ A c, v = .slice A xs.length c ∧ xs.length ≤ c ∧ c ≤ maxLen ∧ Sl TbR 6 (okF base w) w A xs.length (xs.map (·.2.2)) := tabs_sl h.1 h.2.2
theorem row_at {xs : Array Value} {k : Nat} {v : Value} (h : xs[k]? = some v) {hk' : k < xs.size} : some xs[k] = some v := by rw [← h, Array.getElem?_eq_getElem hk']
def Blk (w : World) (b : Nat) (k n : Int) (s : ByteArray) : Prop := w.heap[b]? = some (.cells #[.int .i64 k, .int .i64 n, .string s] 53)
theorem Blk.cells {w : World} {b : Nat} {k n : Int} {s : ByteArray} (h : Blk w b k n s) :
  w.cell? ⟨b, 0, none⟩ = some (.int .i64 k) ∧ w.cell? ⟨b, 1, none⟩ = some (.int .i64 n) ∧ w.cell? ⟨b, 2, none⟩ = some (.string s) := by
 unfold Blk at h
 simp [World.cell?, h]
theorem Blk.free {w : World} {b : Nat} {k n : Int} {s : ByteArray} (h : Blk w b k n s) :
  w.frozen? ⟨b, 0, none⟩ = false ∧ w.frozen? ⟨b, 1, none⟩ = false ∧ w.frozen? ⟨b, 2, none⟩ = false := by
 unfold Blk at h
 simp [World.frozen?, h]
theorem Blk.lt {w : World} {b : Nat} {k n : Int} {s : ByteArray} (h : Blk w b k n s) : b < w.heap.size := by
 have := h.cells.1; exact cell_lt this
theorem Blk.but {w w' : World} {R b : Nat} {k n : Int} {s : ByteArray} (h : Blk w b k n s) (hb : But R w w') (hr : b ≠ R) : Blk w' b k n s := (hb.block b h.lt hr).trans h
theorem Blk.new (w : World) (k n : Int) (s : ByteArray) : Blk (w.alloc (.cells #[.int .i64 k, .int .i64 n, .string s] 53)) w.heap.size k n s := by
 show (w.heap.push _)[w.heap.size]? = _
 simp
end Go.Proofs.YtjhhamlnlalkoaaGreat
namespace Go.Proofs.YtjhhamlnlalkoaaGreat
open Go.RowKit Go.Maps
theorem But.grown {R : Nat} {w w1 w2 : World} {row : Option Nat} (h : But R w w1) (hg : w1.grownBy w2 row) (hr : ∀ k, row = some k → w.heap.size ≤ k) : But R w w2 :=
 ⟨hg.os.trans h.os, hg.tape.trans h.tape, hg.output.trans h.output, Nat.le_trans h.size hg.size, fun k hk hne => (hg.block k (Nat.lt_of_lt_of_le hk h.size) (fun e => by have := hr k e.symm; omega)).trans (h.block k hk hne)⟩
theorem Rdr.move {w w1 w2 : World} {R : Nat} {a : Option Addr} {len cap : Nat} {zs : List Int} (h0 : Rdr w R a len cap zs) (h : Rdr w1 R a len cap zs) (hb : But R w w2) (hR : w2.heap[R]? = w1.heap[R]?) : Rdr w2 R a len cap zs := by
 obtain ⟨p, hp, hc⟩ := h.place
 have hq : ∀ i, w2.cell? ⟨R, i, none⟩ = w1.cell? ⟨R, i, none⟩ := fun i => World.cell?_of_block (w := w1) hR
 exact ⟨(hq 0).trans h.code, ⟨p, hp, (hq 1).trans hc⟩, (World.frozen?_of_block (w := w1) hR).trans h.free, h0.row.but hb h0.apart, h0.apart⟩
theorem Rdr.grown {w w1 w2 : World} {R : Nat} {a : Option Addr} {len cap : Nat} {zs : List Int} {row : Option Nat} (h0 : Rdr w R a len cap zs) (h : Rdr w1 R a len cap zs) (hb : But R w w1) (hg : w1.grownBy w2 row) (hr : ∀ k, row = some k → w.heap.size ≤ k) : Rdr w2 R a len cap zs := by
 have hlt : R < w.heap.size := cell_lt h0.code
 exact h0.move h (hb.grown hg hr) (hg.block R (Nat.lt_of_lt_of_le hlt hb.size) (fun e => by have := hr R e.symm; omega))
section
variable {α : Type} {T : TypeId} {sz : Nat} {f : α → List Value}
theorem OwnG.but {R base : Nat} {w w' : World} {v : Value} {xs : List α} (h : OwnG T sz f w base v xs) (hb : But R w w') (hR : R < base) : OwnG T sz f w' base v xs := by
 refine ⟨h.1, ?_⟩
 rcases h.2 with h | ⟨g, cap, cur, rfl, h1, h2, h3⟩
 ·exact .inl h
 ·exact .inr ⟨g, cap, cur, rfl, h1, (hb.block g (lt_of_block h2) (by omega)).trans h2, h3⟩
theorem OwnG.mono {w : World} {base base' : Nat} {v : Value} {xs : List α} (h : OwnG T sz f w base v xs) (hb : base' ≤ base) : OwnG T sz f w base' v xs := by
 refine ⟨h.1, ?_⟩
 rcases h.2 with h | ⟨g, cap, cur, rfl, h1, h2⟩
 ·exact .inl h
 ·exact .inr ⟨g, cap, cur, rfl, Nat.le_trans hb h1, h2⟩
end
def OwnW (w : World) (base : Nat) (v : Value) (xs : List Vl) : Prop := OwnG 53 3 Vl.cells w base v xs
end Go.Proofs.YtjhhamlnlalkoaaGreat
namespace Go.Proofs.YtjhhamlnlalkoaaGreat
open Go.RowKit Go.Maps
theorem infoValD : (Tryz.prog.info? 53).map (fun i => (i.zero, i.size, i.bytes)) = some (some (.agg #[.int .i64 0, .int .i64 0, .string ⟨#[]⟩]), 3, 32) := by kernel_rfl
end Go.Proofs.YtjhhamlnlalkoaaGreat
namespace Go.Proofs.YtjhhamlnlalkoaaGreat
open Go.RowKit
def isFit (n base : Nat) (v : Value) (w : World) : Prop := ∃ xs : List Vl, OwnW w base v xs ∧ xs.length = n ∧ ∀ x ∈ xs, okV x.k x.n x.s
def FB (w wx : World) (R : Nat) (a : Option Addr) (len cap : Nat) (zs : List Int) (S1 : Value) (bx : Nat) (v : Value) (xs : List Vl) : Prop := (∃ k n s, Blk wx bx k n s ∧ okV k n s) ∧ OwnW wx (w.heap.size + 1) v xs ∧ But R w wx ∧ Rdr wx R a len cap zs ∧ wx.cell? ⟨w.heap.size, 1, none⟩ = some S1
theorem FB.but {w wx wy : World} {R : Nat} {a : Option Addr} {len cap : Nat} {zs : List Int} {S1 : Value} {bx : Nat} {v : Value} {xs : List Vl} (h : FB w wx R a len cap zs S1 bx v xs) (hb : But R wx wy) (hr : Rdr wy R a len cap zs) (hR : R < w.heap.size) (hx : bx ≠ R) : FB w wy R a len cap zs S1 bx v xs := by
 obtain ⟨⟨k, n, s, h1, h2⟩, h3, h4, h5, h6⟩ := h
 exact ⟨⟨k, n, s, h1.but hb hx, h2⟩, OwnG.but h3 hb (by omega), h4.trans hb, hr, (hb.cell (cell_lt h6) (by show w.heap.size ≠ R; omega)).trans h6⟩
theorem FB.rdr {w wx : World} {R : Nat} {a : Option Addr} {len cap : Nat} {zs : List Int} {S1 : Value} {bx : Nat} {v : Value} {xs : List Vl} (h : FB w wx R a len cap zs S1 bx v xs) : Rdr wx R a len cap zs := h.2.2.2.1
theorem Blk.put {w : World} {b : Nat} {k n : Int} {s : ByteArray} (h : Blk w b k n s) (k' n' : Int) (s' : ByteArray) : Blk (((w.setCell ⟨b, 0, none⟩ (.int .i64 k')).setCell ⟨b, 1, none⟩ (.int .i64 n')).setCell ⟨b, 2, none⟩ (.string s')) b k' n' s' := by
 unfold Blk at h ⊢
 simp [World.setCell, Array.getElem?_modify, h]
theorem OwnW.setBlk {w : World} {base b : Nat} {v : Value} {xs : List Vl} (h : OwnW w base v xs) (hb : ∀ g, v.ownBlock = some g → g ≠ b) (i : Nat) (u : Value) : OwnW (w.setCell ⟨b, i, none⟩ u) base v xs := by
 refine ⟨h.1, ?_⟩
 rcases h.2 with h | ⟨g, cap, cur, rfl, h1, h2, h3⟩
 ·exact .inl h
 ·exact .inr ⟨g, cap, cur, rfl, h1, (Below.heap_setCell _ _ _ _ (hb g rfl)).trans h2, h3⟩
theorem cell_off {w : World} {p q : Addr} {v u : Value} (h : w.cell? q = some u) (hne : q.block ≠ p.block) : (w.setCell p v).cell? q = some u := (World.cell?_setCell_other _ _ _ _ (fun e => hne (by rw [e]))).trans h
theorem FB.store {w wx : World} {R : Nat} {a : Option Addr} {len cap : Nat} {zs : List Int} {S1 : Value} {bx : Nat} {v : Value} {xs : List Vl} (h : FB w wx R a len cap zs S1 bx v xs) (h0 : Rdr w R a len cap zs) (hx : w.heap.size < bx) (hn : ∀ g, v.ownBlock = some g → g ≠ bx) {k n : Int} {s : ByteArray} (hk : okV k n s) :
  FB w (((wx.setCell ⟨bx, 0, none⟩ (.int .i64 k)).setCell ⟨bx, 1, none⟩ (.int .i64 n)).setCell ⟨bx, 2, none⟩ (.string s)) R a len cap zs S1 bx v xs := by
 obtain ⟨⟨k0, n0, s0, h1, h2⟩, h3, h4, h5, h6⟩ := h
 have hx' : w.heap.size ≤ bx := Nat.le_of_lt hx
 have hne : w.heap.size ≠ bx := Nat.ne_of_lt hx
 exact ⟨⟨k, n, s, h1.put k n s, hk⟩, ((h3.setBlk hn 0 _).setBlk hn 1 _).setBlk hn 2 _, ((h4.setNew (p := ⟨bx, 0, none⟩) hx' _).setNew (p := ⟨bx, 1, none⟩) hx' _).setNew (p := ⟨bx, 2, none⟩) hx' _,
  h0.setNew (h0.setNew (h0.setNew h5 (p := ⟨bx, 0, none⟩) hx' _) (p := ⟨bx, 1, none⟩) hx' _) (p := ⟨bx, 2, none⟩) hx' _, cell_off (cell_off (cell_off h6 hne) hne) hne⟩
theorem FB.cells {w wx : World} {R : Nat} {a : Option Addr} {len cap : Nat} {zs : List Int} {S1 : Value} {bx : Nat} {v : Value} {xs : List Vl} (h : FB w wx R a len cap zs S1 bx v xs) : ∃ k n s, okV k n s ∧ (wx.cell? ⟨bx, 0, none⟩ = some (.int .i64 k) ∧ wx.cell? ⟨bx, 1, none⟩ = some (.int .i64 n) ∧ wx.cell? ⟨bx, 2, none⟩ = some (.string s)) ∧ (wx.frozen? ⟨bx, 0, none⟩ = false ∧ wx.frozen? ⟨bx, 1, none⟩ = false ∧ wx.frozen? ⟨bx, 2, none⟩ = false) := by
 obtain ⟨⟨k, n, s, h1, h2⟩, -⟩ := h
 exact ⟨k, n, s, h2, h1.cells, h1.free⟩
theorem okV_int {n : Int} (h0 : -1000000000 ≤ n) (h1 : n ≤ 1000000000) : okV 1 n ⟨#[]⟩ := .inr (.inl ⟨rfl, h0, h1, rfl⟩)
theorem okV_str {s : ByteArray} (h : s.size ≤ 12) : okV 2 0 s := .inr (.inr ⟨rfl, rfl, h⟩)
theorem okV_null : okV 0 0 ⟨#[]⟩ := .inl ⟨rfl, rfl, rfl⟩
theorem Sl.butY {α : Type} {R : Rd α} (hR : Stays R) {sz : Nat} {ok : Nat → Prop} {w w' : World} {A : Option Addr} {n : Nat} {ds : List α} (h : Sl R sz ok w A n ds) {r : Nat} (hb : But r w w') (hok : ∀ b, ok b → b ≠ r) : Sl R sz ok w' A n ds :=
 h.stays hR (fun _ h => h) fun p v hp hc => (hb.cell (cell_lt hc) (hok _ hp)).trans hc
set_option maxRecDepth 100000 in
set_option maxHeartbeats 4000000 in
theorem rdFit (v0 v2 v3 v4 v5 : Value) (B1 : Option Addr) (m1 d1 : Nat) (cols : List Cl) (ok : Nat → Prop) (w : World) (R : Nat) (a : Option Addr) (len cap : Nat) (zs : List Int) (h : Rdr w R a len cap zs) (h1 : Sl ClR 6 ok w B1 m1 cols) (hok : ∀ b, ok b → b ≠ R) (hl : cols.length ≤ 1000) :
  Calls Tryz.prog 50 #[.pointer (some ⟨R, 0, none⟩), .agg #[v0, .slice B1 m1 d1, v2, v3, v4, v5]] w (Drew R a len cap zs (isFit cols.length w.heap.size) w) := by
 have hR : R < w.heap.size := cell_lt h.code
 obtain rfl : cols.length = m1 := h1.1
 obtain ⟨i0, hi', hz0, hz1, hz2⟩ := info_parts infoValD
 have H1 := Lib.hid hi'
 have H2 := Lib.hid hz0
 have H3 := Lib.hid hz1
 have H4 := Lib.hid hz2
 clear hi' hz0 hz1 hz2
 have hb0 := ((But.refl R w).alloc (.cells #[v0, .slice B1 cols.length d1, v2, v3, v4, v5] 45)).alloc (.cells #[] 53)
 have hr0 := (h.alloc (.cells #[v0, .slice B1 cols.length d1, v2, v3, v4, v5] 45)).alloc (.cells #[] 53)
 have hsz1 : (w.alloc (.cells #[v0, .slice B1 cols.length d1, v2, v3, v4, v5] 45)).heap.size = w.heap.size + 1 := by simp
 have HO0 := OwnG.lit (T := 53) (sz := 3) (f := Vl.cells) (w.alloc (.cells #[v0, .slice B1 cols.length d1, v2, v3, v4, v5] 45)) (base := w.heap.size + 1) (Nat.le_of_eq hsz1.symm)
 rw [hsz1] at HO0
 have hc0 : ((w.alloc (.cells #[v0, .slice B1 cols.length d1, v2, v3, v4, v5] 45)).alloc (.cells #[] 53)).cell? ⟨w.heap.size, 1, none⟩ = some (.slice B1 cols.length d1) := by
  rw [World.cell?_of_block (w := w.alloc (.cells #[v0, .slice B1 cols.length d1, v2, v3, v4, v5] 45)) (Below.heap_alloc _ _ _ (by simp)), World.cell?_alloc_new]
  rfl
 have HOO := Lib.hid (show OwnW ((w.alloc (.cells #[v0, .slice B1 cols.length d1, v2, v3, v4, v5] 45)).alloc (.cells #[] 53)) (w.heap.size + 1) (.slice (some ⟨w.heap.size + 1, 0, none⟩) 0 0) [] from HO0)
 clear HO0 hsz1
 have H0 := Lib.hid h
 have HS1 := Lib.hid h1
 have HBB := Lib.hid hb0
 have HRR := Lib.hid hr0
 clear h h1 hb0 hr0
 go_enter Tryz.func50, Tryz.ntmps50
 go_wp2_with fail
 generalize (w.alloc (.cells #[v0, .slice B1 cols.length d1, v2, v3, v4, v5] 45)).alloc (.cells #[] 53) = z0 at *
 go_loopw [5, 6] (fun v i wr => ∃ (k : Nat) (xs : List Vl), i = .int .i64 k ∧ Hid (k ≤ cols.length ∧ xs.length = k ∧ ∀ x ∈ xs, okV x.k x.n x.s) ∧ Hid (OwnW wr (w.heap.size + 1) v xs) ∧ Hid (But R w wr) ∧ Hid (Rdr wr R a len cap zs) ∧ wr.cell? ⟨w.heap.size, 1, none⟩ = some (.slice B1 cols.length d1)) (fun _ i _ => cols.length - (intOf i).toNat)
 case atStart => exact ⟨0, [], rfl, Lib.hid ⟨by omega, rfl, fun x hx => by cases hx⟩, HOO, HBB, HRR, hc0⟩
 case round =>
  clear hc0 HOO HBB HRR
  obtain ⟨k, xs, rfl, hk, hown, hb, hr, hc⟩ := hrel
  by_cases hlt : k < cols.length
  ·go_wp2_with fail
   refine (rdBelow 5 _ R a len cap zs hr.out).mono ?_
   rintro e w1 ⟨v1, rfl, ⟨y, rfl, y0, y1⟩, hb1, hr1⟩
   go_wp2_with fail
   refine (specInt y _).mono ?_
   rintro e w2 ⟨rfl, o, rfl⟩
   have hq1 := (hb1.alloc o).alloc (.cells #[.int .i64 1, .int .i64 y, .string ⟨#[]⟩] 53)
   have HF := Lib.hid (show FB w ((w1.alloc o).alloc (.cells #[.int .i64 1, .int .i64 y, .string ⟨#[]⟩] 53)) R a len cap zs (.slice B1 cols.length d1) (w1.alloc o).heap.size _ xs from
    ⟨⟨1, y, ⟨#[]⟩, Blk.new (w1.alloc o) 1 y ⟨#[]⟩, okV_int (by omega) (by omega)⟩, OwnG.but hown.out hq1 (by omega), hb.out.trans hq1, (hr1.alloc _).alloc _, (hq1.cell (cell_lt hc) (by show w.heap.size ≠ R; omega)).trans hc⟩)
   have hbx : w.heap.size < (w1.alloc o).heap.size := Nat.lt_of_lt_of_le (cell_lt hc) (Nat.le_trans hb1.size (by simp))
   have hnb : ∀ g, Value.ownBlock _ = some g → g ≠ (w1.alloc o).heap.size := fun g hg => by have h2 := (OwnG.block_lt hown.out g hg).2; have h3 : wr.heap.size ≤ (w1.alloc o).heap.size := Nat.le_trans hb1.size (by simp); omega
   have HNB := Lib.hid hnb
   have hbxR : (w1.alloc o).heap.size ≠ R := by omega
   have hc1 := HF.out.2.2.2.2
   have HC := Lib.hid ((HS1.out.butY ClR.stays hb.out hok).butY ClR.stays hq1 hok)
   obtain ⟨b, off, -, rfl, -, q1, -, -, -, -⟩ := ClR.at_ HC.out hlt
   have i0' : (0 : Int) ≤ k := by omega
   have i1' : (k : Int) < cols.length := by omega
   have HBX := Lib.hid hbx
   rw [show (w1.alloc o).heap.size = w1.heap.size + 1 by simp] at HF HNB HBX hbxR
   have hbx := HBX.out
   clear hb1 hr1 hq1 hc hnb HC HBX
   obtain ⟨bx, ebx⟩ : ∃ bx, w1.heap.size + 1 = bx := ⟨_, rfl⟩
   rw [ebx] at HF HNB hbxR hbx
   go_upto_if 25 with (fail)
   clear ebx
   generalize (w1.alloc o).alloc (.cells #[.int .i64 1, .int .i64 y, .string ⟨#[]⟩] 53) = w3 at *
   generalize (cols[k].kind == 2) = bk
   go_cut [] from 26 to 42 (fun wx => FB w wx R a len cap zs (.slice (some ⟨b, off, none⟩) cols.length d1) bx u5 xs)
   case first =>
    cases bk
    ·go_wp2_with fail
     go_meet
     case rel => exact HF.out
    ·have hsz3 : bx < w3.heap.size := HF.out.1.choose_spec.choose_spec.choose_spec.1.lt
     go_wp2_with fail
     refine (rdBelow 3 _ R a len cap zs (HF.out.rdr.alloc (.cells #[.string ⟨#[]⟩, .string ⟨#[97]⟩, .string ⟨#[98]⟩] 9))).mono ?_
     rintro e w4 ⟨v4, rfl, ⟨y4, rfl, q0, q1'⟩, hb4, hr4⟩
     obtain ⟨j, rfl, j6, t, j0, j1, ht, hjc⟩ : ∃ j : Nat, y4 = j ∧ j < 3 ∧ ∃ t : ByteArray, (0 : Int) ≤ j ∧ (j : Int) < 3 ∧ t.size ≤ 12 ∧ (#[.string ⟨#[]⟩, .string ⟨#[97]⟩, .string ⟨#[98]⟩] : Array Value)[j]? = some (.string t) := by
      have : y4 = 0 ∨ y4 = 1 ∨ y4 = 2 := by omega
      rcases this with rfl | rfl | rfl
      ·exact ⟨0, rfl, by omega, _, by omega, by omega, by decide, rfl⟩
      ·exact ⟨1, rfl, by omega, _, by omega, by omega, by decide, rfl⟩
      ·exact ⟨2, rfl, by omega, _, by omega, by omega, by decide, rfl⟩
     have c0 := (new_cell hb4 (Nat.lt_of_lt_of_le hR (Nat.le_trans HF.out.2.2.1.size (Nat.le_refl _))) j (by simpa using j6)).trans (row_at hjc)
     have HF4 := Lib.hid (HF.out.but (((But.refl R w3).alloc _).trans hb4) hr4 hR hbxR)
     clear hb4 hr4 hjc
     go_wp2_with fail
     refine (specStr t _).mono ?_
     rintro e w5 ⟨rfl, o5, rfl⟩
     have HF5 := Lib.hid (HF4.out.but ((But.refl R w4).alloc o5) (HF4.out.rdr.alloc o5) hR hbxR)
     obtain ⟨k5, n5, s5, hv5, ⟨r0, r1, r2⟩, ⟨f0, f1, f2⟩⟩ := HF5.out.cells
     clear hv5 HF4 c0
     go_wp2_with fail
     go_meet
     case rel => exact HF5.out.store H0.out hbx HNB.out (okV_str ht)
   case rest =>
    have HF2 := Lib.hid hcut
    clear hcut HF q1
    go_wp2_with fail
    refine (rdOnce 8 _ R a len cap zs HF2.out.rdr).mono ?_
    rintro e y1 ⟨v, rfl, ⟨b8, rfl⟩, hb1, hr1⟩
    have HF3 := Lib.hid (HF2.out.but hb1 hr1 hR hbxR)
    clear HF2 hb1 hr1
    go_upto_if 33 with (fail)
    go_cut [] from 34 to 42 (fun wx => FB w wx R a len cap zs (.slice (some ⟨b, off, none⟩) cols.length d1) bx u5 xs)
    case first =>
     cases b8
     ·go_wp2_with fail
      go_meet
      case rel => exact HF3.out
     ·obtain ⟨k5, n5, s5, hv5, ⟨r0, r1, r2⟩, ⟨f0, f1, f2⟩⟩ := HF3.out.cells
      clear hv5
      go_wp2_with fail
      go_meet
      case rel => exact HF3.out.store H0.out hbx HNB.out okV_null
    case rest =>
     have HF4 := Lib.hid hcut
     clear hcut HF3
     go_wp2_with fail
     refine (rdOnce 60 _ R a len cap zs HF4.out.rdr).mono ?_
     rintro e y2 ⟨v, rfl, ⟨b9, rfl⟩, hb1, hr1⟩
     have HF5 := Lib.hid (HF4.out.but hb1 hr1 hR hbxR)
     clear HF4 hb1 hr1
     go_upto_if 36 with (fail)
     go_cut [] from 37 to 42 (fun wx => FB w wx R a len cap zs (.slice (some ⟨b, off, none⟩) cols.length d1) bx u5 xs)
     case first =>
      cases b9
      ·go_wp2_with fail
       go_meet
       case rel => exact HF5.out
      ·go_wp2_with fail
       refine (rdVal _ R a len cap zs HF5.out.rdr).mono ?_
       rintro e y3 ⟨v, rfl, ⟨vk, vn, vs, rfl, hv⟩, hb1, hr1⟩
       have HF6 := Lib.hid (HF5.out.but hb1 hr1 hR hbxR)
       clear HF5 hb1 hr1
       obtain ⟨k5, n5, s5, hv5, ⟨r0, r1, r2⟩, ⟨f0, f1, f2⟩⟩ := HF6.out.cells
       clear hv5
       go_wp2_with fail
       go_meet
       case rel => exact HF6.out.store H0.out hbx HNB.out hv
     case rest =>
      have HF6 := Lib.hid hcut
      clear hcut HF5
      obtain ⟨vk, vn, vs, hv, ⟨r0, r1, r2⟩, -⟩ := HF6.out.cells
      have HOZ := Lib.hid HF6.out.2.1
      have HBZ := Lib.hid HF6.out.2.2.1
      have HRZ := Lib.hid HF6.out.rdr
      have HCZ := Lib.hid HF6.out.2.2.2.2
      have HKN := Lib.hid (show k + 1 ≤ cols.length ∧ (xs ++ [(⟨vk, vn, vs⟩ : Vl)]).length = k + 1 ∧ ∀ x ∈ xs ++ [(⟨vk, vn, vs⟩ : Vl)], okV x.k x.n x.s from
       ⟨by omega, by rw [List.length_append, hk.out.2.1]; rfl, fun x hx => by
        rcases List.mem_append.1 hx with hx | hx
        ·exact hk.out.2.2 x hx
        ·rw [List.mem_singleton.1 hx]; exact hv⟩)
      have HXL := Lib.hid (show xs.length ≤ 1000 by have := hk.out; omega)
      have HSZ := Lib.hid (show w.heap.size + 1 ≤ wc.heap.size from cell_lt HCZ.out)
      clear hv HF6
      go_wp2_with (at_builtin; refine wpList_append_own _ rfl _ _ 34 rfl (w.heap.size + 1) 53 i0 (.agg #[.int .i64 0, .int .i64 0, .string ⟨#[]⟩]) 3 32 Tryz.underlying34 H1.out H2.out H3.out H4.out rfl (by decide) _ _ _ rfl (World.ownsRow.alloc HOZ.out _) ⟨_, 0, none⟩ 1 1 (Vl.cells ⟨vk, vn, vs⟩) rfl rfl ?c1 ?c2 ?c3 ?c4 ?c5 ?_)
      case c1 => exact cells_newAt _ (Vl.cells _) _ (by simp)
      case c2 => intro u hu; simp [Vl.cells] at hu; rcases hu with rfl | rfl | rfl <;> rfl
      case c3 => have := HXL.out; unfold maxLen; omega
      case c4 => have := HXL.out; omega
      case c5 => have := HSZ.out; simp; omega
      intro v9 w9 hown9 hgrow9 _
      have hq : ∀ g, Value.ownBlock _ = some g → w.heap.size ≤ g := fun g hg => by have := (OwnG.block_lt HOZ.out g hg).1; omega
      have hqn : some w.heap.size ≠ Value.ownBlock _ := fun e => by have := (OwnG.block_lt HOZ.out w.heap.size e.symm).1; omega
      have R9 := Lib.hid (OwnG.app HOZ.out HSZ.out hown9 hgrow9)
      have R9W := Lib.hid (show OwnW w9 (w.heap.size + 1) v9 (xs ++ [(⟨vk, vn, vs⟩ : Vl)]) from R9.out.1)
      have HB9 := Lib.hid ((HBZ.out.alloc _).grown hgrow9 hq)
      have HR9 := Lib.hid (H0.out.grown (HRZ.out.alloc _) (HBZ.out.alloc _) hgrow9 hq)
      have hc9 := (hgrow9.cell ((World.cell?_of_block (w := wc) (Below.heap_alloc _ _ _ (cell_lt HCZ.out))).trans HCZ.out) hqn)
      clear hown9 hgrow9 hq hqn HOZ
      go_wp2_with fail
      go_roundw
      case rel => exact ⟨k + 1, xs ++ [(⟨vk, vn, vs⟩ : Vl)], by go_num, HKN, R9W, HB9, HR9, hc9⟩
      case measure => simp [intOf]; omega
  ·go_wp2_with fail
   go_ret
   have hkl : k = cols.length := by have := hk.out.1; omega
   exact ⟨_, rfl, ⟨xs, OwnG.mono hown.out (by omega), by have := hk.out.2.1; omega, hk.out.2.2⟩, hb.out, hr.out⟩
theorem infoRowR : (Tryz.prog.info? 36).map (fun i => (i.zero, i.size, i.bytes)) = some (some (.agg #[.int .i64 0, .slice none 0 0]), 2, 32) := by kernel_rfl
theorem infoDataR : (Tryz.prog.info? 33).map (fun i => (i.zero, i.size, i.bytes)) = some (some (.agg #[.slice none 0 0]), 1, 24) := by kernel_rfl
def rowC (vs : List Value) (rs : List Rw) : List Value := (List.zipWith (fun v (r : Rw) => [.int .i64 r.id, v]) vs rs).flatten
structure OwnR0 (w : World) (base : Nat) (v : Value) (rs : List Rw) (vs : List Value) : Prop where
 len : vs.length = rs.length
 row : w.ownsRow base 36 2 v rs.length (rowC vs rs)
 val : ∀ i (h : i < rs.length) (h' : i < vs.length), OwnW w base vs[i] rs[i].vals
def OwnR (w : World) (base : Nat) (v : Value) (rs : List Rw) : Prop := ∃ vs, OwnR0 w base v rs vs
theorem OwnR.nil (w : World) (base : Nat) : OwnR w base (.slice none 0 0) [] := ⟨[], rfl, World.ownsRow_nil _ _ _ _, fun i h => by simp at h⟩
theorem ownsRow_but {R base : Nat} {w w' : World} {T : TypeId} {sz : Nat} {v : Value} {n : Nat} {xs : List Value} (h : w.ownsRow base T sz v n xs) (hb : But R w w') (hR : R < base) : w'.ownsRow base T sz v n xs := by
 refine ⟨h.1, ?_⟩
 rcases h.2 with h | ⟨g, cap, cur, rfl, h1, h2, h3⟩
 ·exact .inl h
 ·exact .inr ⟨g, cap, cur, rfl, h1, (hb.block g (lt_of_block h2) (by omega)).trans h2, h3⟩
theorem OwnR.but {R base : Nat} {w w' : World} {v : Value} {rs : List Rw} (h : OwnR w base v rs) (hb : But R w w') (hR : R < base) : OwnR w' base v rs := by
 obtain ⟨vs, h⟩ := h
 exact ⟨vs, h.len, ownsRow_but h.row hb hR, fun i hi hi' => OwnG.but (h.val i hi hi') hb hR⟩
theorem OwnR.lt {w : World} {base : Nat} {v : Value} {rs : List Rw} (h : OwnR w base v rs) : ∀ k, v.ownBlock = some k → base ≤ k ∧ k < w.heap.size := by
 obtain ⟨vs, h⟩ := h
 exact World.ownsRow.lt h.row
theorem OwnR.rows {w : World} {base : Nat} {v : Value} {rs : List Rw} (h : OwnR w base v rs) : ∀ k, v.ownBlock = some k → ∃ cur, w.heap[k]? = some (.cells cur 36) := fun k hk => by
 obtain ⟨vs, h⟩ := h
 rcases h.row.2 with ⟨rfl, -⟩ | ⟨g, cap, cur, rfl, h1, h2, -⟩
 ·cases hk
 ·cases hk; exact ⟨cur, h2⟩
theorem OwnW.ne {w : World} {base k : Nat} {v : Value} {xs : List Vl} (h : OwnW w base v xs) {T : TypeId} (hk : ∃ cur, w.heap[k]? = some (.cells cur T)) (hT : T ≠ 53) : v.ownBlock ≠ some k := fun e => by
 obtain ⟨cur, hk⟩ := hk
 rcases h.2 with ⟨rfl, -⟩ | ⟨g, cap, cur', rfl, h1, h2, -⟩
 ·cases e
 ·cases e
  rw [hk] at h2
  simp only [Option.some.injEq, Obj.cells.injEq] at h2
  exact hT h2.2.1
theorem OwnR.kept {w w' : World} {base : Nat} {v : Value} {rs : List Rw} {row : Option Nat} (h : OwnR w base v rs) (hg : w.grownBy w' row) (h1 : v.ownBlock = none ∨ v.ownBlock ≠ row) (h2 : ∀ k, row = some k → ∃ cur T, w.heap[k]? = some (.cells cur T) ∧ T ≠ 53) : OwnR w' base v rs := by
 obtain ⟨vs, h⟩ := h
 refine ⟨vs, h.len, World.ownsRow.kept h.row hg h1, fun i hi hi' => World.ownsRow.kept (h.val i hi hi') hg ?_⟩
 cases row with
 | none => cases hv : vs[i].ownBlock with
  | none => exact .inl rfl
  | some k => exact .inr (by simp)
 | some k =>
  obtain ⟨cur, T, k1, k2⟩ := h2 k rfl
  exact .inr ((h.val i hi hi').ne ⟨cur, k1⟩ k2)
theorem grownBy_set {w : World} {p : Addr} {v : Value} : w.grownBy (w.setCell p v) (some p.block) :=
 ⟨rfl, rfl, rfl, by simp [World.setCell], fun k hk hn => Below.heap_setCell _ _ _ _ (fun e => hn (by rw [e]))⟩
theorem OwnR0.app {w w' : World} {base : Nat} {v v' k : Value} {rs : List Rw} {vs : List Value} {x : Rw} (h : OwnR0 w base v rs vs) (hk : OwnW w base k x.vals)
  (h' : w'.ownsRow base 36 2 v' (rs.length + 1) (rowC vs rs ++ [.int .i64 x.id, k])) (hg : w.grownBy w' v.ownBlock) : OwnR w' base v' (rs ++ [x]) := by
 have hz : rowC (vs ++ [k]) (rs ++ [x]) = rowC vs rs ++ [.int .i64 x.id, k] := by
  unfold rowC
  rw [List.zipWith_append h.len]
  simp
 have hr : ∀ b, v.ownBlock = some b → ∃ cur, w.heap[b]? = some (.cells cur 36) := OwnR.rows ⟨vs, h⟩
 have hkk : ∀ (u : Value) (xs : List Vl), OwnW w base u xs → OwnW w' base u xs := fun u xs hu => World.ownsRow.kept hu hg (by
  cases hv : v.ownBlock with
  | none => cases hu' : u.ownBlock with
   | none => exact .inl rfl
   | some b => exact .inr (by simp)
  | some b => exact .inr (hu.ne (hr b hv) (by decide)))
 refine ⟨vs ++ [k], by simp [h.len], by rw [List.length_append, hz]; exact h', fun i hi hi' => ?_⟩
 by_cases e : i < rs.length
 ·have e' : i < vs.length := by rw [h.len]; exact e
  rw [List.getElem_append_left e, List.getElem_append_left e']
  exact hkk _ _ (h.val i e e')
 ·simp only [List.length_append, List.length_cons, List.length_nil] at hi
  obtain rfl : i = rs.length := by omega
  rw [List.getElem_append_right (Nat.le_refl _), List.getElem_append_right (Nat.le_of_eq h.len)]
  simpa using hkk _ _ hk
theorem rowC_at (vs : List Value) (rs : List Rw) (hl : vs.length = rs.length) (i : Nat) (hi : i < rs.length) (hi' : i < vs.length) (t : Nat) (ht : t < 2) : (rowC vs rs)[i * 2 + t]? = [.int .i64 rs[i].id, vs[i]][t]? := by
 unfold rowC
 rw [flat_get (sz := 2) _ i t (by rw [List.length_zipWith]; omega) ht (fun c hc => by
  obtain ⟨j, hj, rfl⟩ := List.mem_iff_getElem.1 hc
  rw [List.getElem_zipWith]; rfl), List.getElem_zipWith]
theorem OwnR.sl {w : World} {base : Nat} {v : Value} {rs : List Rw} (h : OwnR w base v rs) : ∃ A c, v = .slice A rs.length c ∧ rs.length ≤ c ∧ c ≤ maxLen ∧ Sl RwR 2 (okF base w) w A rs.length rs := by
 obtain ⟨vs, h⟩ := h
 rcases h.row.2 with ⟨rfl, hn⟩ | ⟨g, cap, cur, rfl, h1, h2, h3, h4, h5, h6⟩
 ·have e : rs = [] := List.length_eq_zero_iff.1 hn
  subst e
  exact ⟨none, 0, rfl, Nat.le_refl _, by simp [maxLen], rfl, fun hn => by simp at hn⟩
 ·refine ⟨_, cap, rfl, h3, h4, rfl, fun hn => ⟨g, 0, rfl, ⟨h1, lt_of_block h2, fun off => by simp [World.frozen?, h2]⟩, fun i hi => ?_⟩⟩
  have hi' : i < vs.length := by rw [h.len]; exact hi
  obtain ⟨A', c', e, k1, k2, k3⟩ := OwnG.sl (f := Vl.cells) (sz := 3) (fun _ => rfl) (h.val i hi hi')
  refine ⟨[.int .i64 rs[i].id, vs[i]], rfl, ⟨A', rs[i].vals.length, c', by rw [e], k3, k1⟩, fun t u hu => ?_⟩
  have ht : t < 2 := by have := (List.getElem?_eq_some_iff.1 hu).1; simpa using this
  have h7 := rowC_at vs rs h.len i hi hi' t ht
  rw [hu, ← h6, List.getElem?_take, if_pos (by omega)] at h7
  rw [cell_of_row _ _ _ _ _ _ h2, Nat.zero_add, ← Array.getElem?_toList]
  exact h7
structure DbY (w : World) (base g : Nat) (vs : List Value) (ds : List Dt) : Prop where
 blo : Blo w g vs 33
 len : vs.length = ds.length
 low : base ≤ g
 own : ∀ i (h : i < ds.length) (h' : i < vs.length), OwnR w base vs[i] ds[i].rows
 apart : ∀ i j (h : i < vs.length) (h' : j < vs.length), i ≠ j → vs[i].ownBlock = none ∨ vs[i].ownBlock ≠ vs[j].ownBlock
theorem DbY.but {R base g : Nat} {w w' : World} {vs : List Value} {ds : List Dt} (h : DbY w base g vs ds) (hb : But R w w') (hR : R < base) : DbY w' base g vs ds :=
 ⟨h.blo.hold h.low (Hold.but hb hR), h.len, h.low, fun i hi hi' => (h.own i hi hi').but hb hR, h.apart⟩
theorem DbY.sl {w : World} {base g : Nat} {vs : List Value} {ds : List Dt} (h : DbY w base g vs ds) : Sl DtR 1 (okF base w) w (some ⟨g, 0, none⟩) ds.length ds := by
 refine ⟨rfl, fun hn => ⟨g, 0, rfl, okF_blo h.low h.blo, fun i hi => ?_⟩⟩
 have hi' : i < vs.length := by rw [h.len]; exact hi
 obtain ⟨A, c, e, k1, k2, k3⟩ := (h.own i hi hi').sl
 refine ⟨[vs[i]], rfl, ⟨A, _, c, by rw [e], k3, k1⟩, fun t u hu => ?_⟩
 have ht : t = 0 := by have := (List.getElem?_eq_some_iff.1 hu).1; simpa using this
 subst ht
 rw [Nat.zero_add, Nat.mul_one, Nat.add_zero]
 exact h.blo.cell i u (by rw [← hu]; simp [hi'])
theorem DbY.put {w w' : World} {base g : Nat} {vs : List Value} {ds : List Dt} {i : Nat} {v' : Value} {x : Rw} (h : DbY w base g vs ds) (hi : i < vs.length) (hi' : i < ds.length) (hg : w.grownBy w' vs[i].ownBlock) (hl : v'.ownBlock = none ∨ v'.ownBlock = vs[i].ownBlock ∨ v'.ownBlock = some w.heap.size) (ho : OwnR w' base v' (ds[i].rows ++ [x])) :
  DbY (w'.setCell ⟨g, i, none⟩ v') base g (vs.set i v') (ds.set i ⟨ds[i].rows ++ [x]⟩) := by
 have hrow : ∀ k, vs[i].ownBlock = some k → ∃ cur, w.heap[k]? = some (.cells cur 36) := (h.own i hi' hi).rows
 have hgne : some g ≠ vs[i].ownBlock := fun e => by
  obtain ⟨cur, hc⟩ := hrow g e.symm
  have hb := h.blo
  unfold Blo at hb
  rw [hb] at hc
  simp only [Option.some.injEq, Obj.cells.injEq] at hc
  exact absurd hc.2.1 (by decide)
 have hB' : Blo w' g vs 33 := (hg.block g h.blo.lt hgne).trans h.blo
 have hset : ∀ (v : Value) (rs : List Rw), OwnR w' base v rs → OwnR (w'.setCell ⟨g, i, none⟩ v') base v rs := fun v rs hv => hv.kept (grownBy_set (p := ⟨g, i, none⟩)) (by
  cases hb : v.ownBlock with
  | none => exact .inl rfl
  | some k => refine .inr fun e => ?_
              obtain ⟨cur, hc⟩ := hv.rows k hb
              obtain rfl : k = g := by simpa using e
              have hb' := hB'
              unfold Blo at hb'
              rw [hb'] at hc
              simp only [Option.some.injEq, Obj.cells.injEq] at hc
              exact absurd hc.2.1 (by decide)) fun k hk => by
   obtain rfl : g = k := by simpa using hk
   exact ⟨_, _, hB', by decide⟩
 refine ⟨hB'.put i v', by simp [h.len], h.low, fun j hj hj' => ?_, fun j k hj hk hjk => ?_⟩
 ·have hj1 : j < ds.length := by simpa using hj
  have hj2 : j < vs.length := by simpa using hj'
  by_cases e : i = j
  ·subst e
   rw [List.getElem_set_self, List.getElem_set_self]
   exact hset _ _ ho
  ·rw [List.getElem_set_ne e, List.getElem_set_ne e]
   refine hset _ _ ((h.own j hj1 hj2).kept hg ?_ fun k hk => ?_)
   ·rcases h.apart j i hj2 hi (fun h => e h.symm) with h1 | h1
    ·exact .inl h1
    ·exact .inr h1
   ·obtain ⟨cur, hc⟩ := hrow k hk
    exact ⟨cur, _, hc, by decide⟩
 ·have hj2 : j < vs.length := by simpa using hj
  have hk2 : k < vs.length := by simpa using hk
  have key : ∀ m (hm : m < vs.length), m ≠ i → vs[m].ownBlock = none ∨ (vs[m].ownBlock ≠ v'.ownBlock) := fun m hm hmi => by
   rcases h.apart m i hm hi hmi with h1 | h1
   ·exact .inl h1
   ·refine (Classical.em (vs[m].ownBlock = none)).imp id fun hnn => ?_
    rcases hl with h2 | h2 | h2
    ·rw [h2]; exact hnn
    ·rw [h2]; exact h1
    ·rw [h2]; intro e
     have := ((h.own m (by rw [← h.len]; exact hm) hm).lt _ e).2
     omega
  by_cases e1 : i = j
  ·subst e1
   have e2 : i ≠ k := hjk
   rw [List.getElem_set_self, List.getElem_set_ne e2]
   rcases key k hk2 (fun h => e2 h.symm) with h1 | h1
   ·cases hv : v'.ownBlock with
    | none => exact .inl rfl
    | some b => exact .inr (by rw [h1]; simp)
   ·exact .inr (fun e => h1 e.symm)
  ·rw [List.getElem_set_ne e1]
   by_cases e2 : i = k
   ·subst e2
    rw [List.getElem_set_self]
    exact key j hj2 (fun h => e1 h.symm)
   ·rw [List.getElem_set_ne e2]
    exact h.apart j k hj2 hk2 hjk
theorem DbY.new (w : World) (n : Nat) {base : Nat} (hb : base ≤ w.heap.size) : DbY (w.alloc (.cells (List.replicate n (Value.slice none 0 0)).toArray 33)) base w.heap.size (List.replicate n (.slice none 0 0)) (List.replicate n ⟨[]⟩) := by
 refine ⟨Blo.new w _ _, by simp, hb, fun i hi hi' => ?_, fun i j hi hj hij => ?_⟩
 ·rw [List.getElem_replicate, List.getElem_replicate]; exact OwnR.nil _ _
 ·rw [List.getElem_replicate]; exact .inl rfl
end Go.Proofs.YtjhhamlnlalkoaaGreat
namespace Go.Proofs.YtjhhamlnlalkoaaGreat
open Go.RowKit
def rawOk (ts : List Tb) (ds : List Dt) : Prop := ∀ d ∈ ds, d.rows.length ≤ 4 ∧ ∀ r ∈ d.rows, (∃ t ∈ ts, r.vals.length = t.cols.length) ∧ ∀ x ∈ r.vals, okV x.k x.n x.s
def isRaw (ts : List Tb) (base : Nat) (v : Value) (w : World) : Prop := ∃ (A : Option Addr) (n c : Nat) (ds : List Dt), v = .slice A n c ∧ n ≤ c ∧ Sl DtR 1 (okF base w) w A n ds ∧ n ≤ ts.length ∧ rawOk ts ds
theorem made_rep (x : Value) (n : Nat) : madeCells #[x] n = (List.replicate n x).toArray := by
 apply Array.ext
 ·simp [madeCells]
 ·intro i h1 h2
  simp [madeCells, Nat.mod_one]
def rawK (ts : List Tb) (ds : List Dt) (k : Nat) : Prop := ds.length = ts.length ∧ rawOk ts ds ∧ ∀ j (h : j < ds.length), k ≤ j → ds[j].rows = []
theorem six_but {R : Nat} {w w' : World} {b o : Nat} {x0 x1 x2 x3 x4 x5 : Value} (hb : But R w w') (hR : b ≠ R) (h : w.cell? ⟨b, o, none⟩ = some x0 ∧ w.cell? ⟨b, o + 1, none⟩ = some x1 ∧ w.cell? ⟨b, o + 2, none⟩ = some x2 ∧ w.cell? ⟨b, o + 3, none⟩ = some x3 ∧ w.cell? ⟨b, o + 4, none⟩ = some x4 ∧ w.cell? ⟨b, o + 5, none⟩ = some x5) :
  w'.cell? ⟨b, o, none⟩ = some x0 ∧ w'.cell? ⟨b, o + 1, none⟩ = some x1 ∧ w'.cell? ⟨b, o + 2, none⟩ = some x2 ∧ w'.cell? ⟨b, o + 3, none⟩ = some x3 ∧ w'.cell? ⟨b, o + 4, none⟩ = some x4 ∧ w'.cell? ⟨b, o + 5, none⟩ = some x5 := by
 have hl : b < w.heap.size := cell_lt h.1
 have e : ∀ k, w'.cell? ⟨b, k, none⟩ = w.cell? ⟨b, k, none⟩ := fun k => hb.cell hl hR
 exact ⟨(e _).trans h.1, (e _).trans h.2.1, (e _).trans h.2.2.1, (e _).trans h.2.2.2.1, (e _).trans h.2.2.2.2.1, (e _).trans h.2.2.2.2.2⟩
theorem rawOk.put {ts : List Tb} {ds : List Dt} (h : rawOk ts ds) {k : Nat} (hk : k < ds.length) {x : Rw} (hl : ds[k].rows.length + 1 ≤ 4) (ht : ∃ t ∈ ts, x.vals.length = t.cols.length) (hx : ∀ y ∈ x.vals, okV y.k y.n y.s) : rawOk ts (ds.set k ⟨ds[k].rows ++ [x]⟩) := by
 intro d hd
 rcases List.mem_or_eq_of_mem_set hd with hd | rfl
 ·exact h d hd
 ·refine ⟨by simpa using hl, fun r hr => ?_⟩
  rcases List.mem_append.1 hr with hr | hr
  ·exact (h _ (List.getElem_mem hk)).2 r hr
  ·rw [List.mem_singleton.1 hr]; exact ⟨ht, hx⟩
theorem rawOk.tail {ts : List Tb} {ds : List Dt} (h : rawOk ts ds) : rawOk ts ds.tail := fun d hd => h d (List.mem_of_mem_tail hd)
theorem Sl.tail1 {ok : Nat → Prop} {w : World} {A : Option Addr} {n : Nat} {ds : List Dt} (h : Sl DtR 1 ok w A (n + 1) ds) : Sl DtR 1 ok w (A.map fun x => ⟨x.block, x.off + 1, none⟩) n ds.tail := by
 obtain ⟨d, ds, rfl⟩ : ∃ d l, ds = d :: l := by cases ds with
  | nil => have := h.1; simp at this
  | cons d l => exact ⟨d, l, rfl⟩
 have hl : ds.length = n := by have := h.1; simpa using this
 refine ⟨hl, fun hn => ?_⟩
 obtain ⟨b, off, rfl, hob, hcs⟩ := h.2 (by omega)
 refine ⟨b, off + 1, rfl, hob, fun i hi => ?_⟩
 obtain ⟨cs, h1, h2, h3⟩ := hcs (i + 1) (by simpa using hi)
 refine ⟨cs, h1, h2, fun j v hj => ?_⟩
 have := h3 j v hj
 rw [show off + (i + 1) * 1 + j = off + 1 + i * 1 + j by omega] at this
 exact this
set_option maxRecDepth 100000 in
set_option maxHeartbeats 4000000 in
theorem rdRaw (A : Option Addr) (n c : Nat) (ts : List Tb) (ok : Nat → Prop) (w : World) (R : Nat) (a : Option Addr) (len cap : Nat) (zs : List Int) (h : Rdr w R a len cap zs) (hs : Sl TbR 6 ok w A n ts) (hok : ∀ b, ok b → b ≠ R) (hsz : szL Tb.sz ts ≤ 1000) :
  Calls Tryz.prog 39 #[.pointer (some ⟨R, 0, none⟩), .slice A n c] w (Drew R a len cap zs (isRaw ts w.heap.size) w) := by
 have hR : R < w.heap.size := cell_lt h.code
 obtain rfl : ts.length = n := hs.1
 have hn : ts.length ≤ 1000 := by unfold szL at hsz; omega
 obtain ⟨i0, hi', hz0, hz1, hz2⟩ := info_parts infoRowR
 have H1 := Lib.hid hi'
 have H2 := Lib.hid hz0
 have H3 := Lib.hid hz1
 have H4 := Lib.hid hz2
 clear hi' hz0 hz1 hz2
 have hmk := fun w => mk_rows (P := Tryz.prog) Tryz.underlying25 infoDataR (by omega) ts.length (by omega) w
 simp only [Nat.mul_one] at hmk
 have hd0 := DbY.new w ts.length (Nat.le_refl w.heap.size)
 rw [← made_rep] at hd0
 have HD0 := Lib.hid hd0
 clear hd0
 have HB0 := Lib.hid ((But.refl R w).alloc (.cells (madeCells #[.slice none 0 0] ts.length) 33))
 have HR0 := Lib.hid (h.alloc (.cells (madeCells #[.slice none 0 0] ts.length) 33))
 have h0 := Lib.hid h
 have HS := Lib.hid hs
 have HSZ := Lib.hid hsz
 clear h hs hsz
 go_enter Tryz.func39, Tryz.ntmps39
 go_wp2_with fail
 generalize w.alloc (.cells (madeCells #[.slice none 0 0] ts.length) 33) = z0 at *
 clear hmk
 go_loopw [6] (fun i wr => ∃ (k : Nat) (vs : List Value) (ds : List Dt), i = .int .i64 k ∧ k ≤ ts.length ∧ Hid (DbY wr w.heap.size w.heap.size vs ds) ∧ Hid (rawK ts ds k) ∧ Hid (But R w wr) ∧ Hid (Rdr wr R a len cap zs)) (fun i _ => ts.length - (intOf i).toNat)
 case atStart => exact ⟨0, _, _, rfl, by omega, HD0, Lib.hid ⟨by simp, fun d hd => by rw [List.eq_of_mem_replicate hd]; exact ⟨by simp, fun r hr => by cases hr⟩, fun j hj _ => by rw [List.getElem_replicate]⟩, HB0, HR0⟩
 case round =>
  clear HD0 HB0 HR0
  obtain ⟨k, vs, ds, rfl, hk, hdb, hrk, hb, hr⟩ := hrel
  by_cases hlt : k < ts.length
  ·obtain ⟨b, off, P1, p1, q1, P2, p2, q2, P3, p3, q3, P4, p4, q4, P5, p5, q5, hokb, rfl, e0, e1, e2, e3, e4, e5, hcols, -, -, -, -, -⟩ := TbR.at_ HS.out hlt
   have S0 := Lib.hid (And.intro e0 (And.intro e1 (And.intro e2 (And.intro e3 (And.intro e4 e5)))))
   have hbR : b ≠ R := hok b hokb
   have hcl : ts[k].cols.length ≤ 1000 := by
    have h1 : Tb.sz ts[k] ≤ szL Tb.sz ts := by have := sum_mem_le Tb.sz ts k hlt; unfold szL; omega
    have h2 : ts[k].cols.length ≤ szL Cl.sz ts[k].cols := by unfold szL; omega
    have h3 : szL Cl.sz ts[k].cols ≤ Tb.sz ts[k] := by unfold Tb.sz; omega
    have := HSZ.out
    omega
   have g0 : (0 : Int) ≤ (k : Nat) := by omega
   have g1 : (k : Int) < (ts.length : Nat) := by omega
   clear e0 e1 e2 e3 e4 e5
   go_wp2_with fail
   refine (rdBelow 5 _ R a len cap zs hr.out).mono ?_
   rintro e w1 ⟨v, rfl, ⟨y, rfl, y0, y1⟩, hb1, hr1⟩
   have HDI := Lib.hid (hdb.out.but hb1 hR)
   have HKI := Lib.hid (show ds.length = ts.length ∧ rawOk ts ds ∧ (∀ j (h : j < ds.length), k < j → ds[j].rows = []) ∧ ∀ h : k < ds.length, (ds[k].rows.length : Int) + y ≤ 4 from
    ⟨hrk.out.1, hrk.out.2.1, fun j hj hkj => hrk.out.2.2 j hj (by omega), fun h => by rw [hrk.out.2.2 k h (Nat.le_refl _)]; simp; omega⟩)
   have HBI := Lib.hid (hb.out.trans hb1)
   have HRI := Lib.hid hr1
   clear hdb hrk hb hr hb1 hr1
   go_wp2_with fail
   go_loopw [7, 8] (fun idv kv wr2 => ∃ (m dn : Int) (vs : List Value) (ds : List Dt), kv = .int .i64 m ∧ 0 ≤ m ∧ m ≤ 4 ∧ idv = .int .i64 dn ∧ 1 ≤ dn ∧ dn ≤ 9 - 2 * m ∧ Hid (DbY wr2 w.heap.size w.heap.size vs ds) ∧ Hid (ds.length = ts.length ∧ rawOk ts ds ∧ (∀ j (h : j < ds.length), k < j → ds[j].rows = []) ∧ ∀ h : k < ds.length, (ds[k].rows.length : Int) + m ≤ 4) ∧ Hid (But R w wr2) ∧ Hid (Rdr wr2 R a len cap zs)) (fun _ kv _ => (intOf kv).toNat)
   case atStart => exact ⟨y, 1, vs, ds, rfl, by omega, by omega, rfl, by omega, by omega, HDI, HKI, HBI, HRI⟩
   case round =>
    clear HDI HKI HBI HRI
    obtain ⟨m, dn, vs, ds, rfl, m0, m4, rfl, d1, d2, hdb, HK, hb2r, hr2r⟩ := hrel
    by_cases hm : 0 < m
    ·have hkd : k < ds.length := by rw [HK.out.1]; exact hlt
     have hkv : k < vs.length := by rw [hdb.out.len]; exact hkd
     obtain ⟨vk, evk'⟩ : ∃ vk, vs[k] = vk := ⟨_, rfl⟩
     have hvk : vs[k]? = some vk := by rw [List.getElem?_eq_getElem hkv, evk']
     have hrl := Lib.hid (show ds[k].rows.length + 1 ≤ 4 ∧ (ds[k].rows.length : Int) + m ≤ 4 from ⟨by have := HK.out.2.2.2 hkd; omega, HK.out.2.2.2 hkd⟩)
     have g2 : (k : Int) < (vs.length : Nat) := by omega
     have evk := evk'
     have EVK := Lib.hid evk'
     clear evk evk'
     go_wp2_with fail
     refine wp_region_noPanic ?_
     refine wp_region_held_drew (S := fun w' => w'.cell? ⟨b, off + k * 6, none⟩ = some (.string ts[k].name) ∧ w'.cell? ⟨b, off + k * 6 + 1, none⟩ = some (.slice P1 p1 q1) ∧ w'.cell? ⟨b, off + k * 6 + 2, none⟩ = some (.slice P2 p2 q2) ∧ w'.cell? ⟨b, off + k * 6 + 3, none⟩ = some (.slice P3 p3 q3) ∧ w'.cell? ⟨b, off + k * 6 + 4, none⟩ = some (.slice P4 p4 q4) ∧ w'.cell? ⟨b, off + k * 6 + 5, none⟩ = some (.slice P5 p5 q5)) (by kernel_rfl) (six_but (hb2r.out.drew) hbR S0.out) (fun hHeld => ?_)
     have hdq := (But.refl R wr).drew
     have HBD := Lib.hid (hb2r.out.trans hdq)
     have HDB := Lib.hid (hdb.out.but hdq hR)
     have HRD := Lib.hid (show Rdr wr.drew R a len cap zs from rdr_drewY hr2r.out)
     have HC1 := Lib.hid ((hcols.butY ClR.stays hb2r.out hok).butY ClR.stays hdq hok)
     clear hdq hdb hb2r hr2r
     generalize wr.drew = wd at *
     have cd1 := HDB.out.blo.cell k vk hvk
     refine tk 0 ?_
     refine tk 1 ?_
     refine tk 2 ?_
     refine tk 3 ?_
     refine tk 4 ?_
     refine tk 5 ?_
     refine tk 7 ?_
     refine tk 8 ?_
     refine tk 9 ?_
     refine tk 10 ?_
     refine tk 11 ?_
     refine tk 12 ?_
     refine wpAnyH_ready (rs := [6, 13]) (by kernel_rfl) (by simp) ?_
     refine AllReadyH.cons rfl (fun K hK => ?_) ?_
     ·go_simp
      refine hK.out _ _ hHeld (fun hHeld => ?_)
      clear hK K
      (try simp only [Act.put, pz0, pz1, pz2, pz3, pz4, pz5])
      refine wpAnyH_ready (rs := [13]) (by kernel_rfl) (by simp) ?_
      refine AllReadyH.cons rfl (fun K hK => ?_) AllReadyH.nil
      go_simp
      go_at_call 50
      refine (rdFit _ _ _ _ _ P1 p1 q1 ts[k].cols ok _ R a len cap zs HRD.out HC1.out hok (by omega)).mono ?_
      rintro e w2 ⟨v, rfl, ⟨xs, hown, hxl, hxo⟩, hb2, hr2⟩
      obtain ⟨AV, cV, rfl, -, -, -⟩ := OwnG.sl (f := Vl.cells) (sz := 3) (fun _ => rfl) hown
      have HB2 := Lib.hid (HBD.out.trans hb2)
      have HD2 := Lib.hid (HDB.out.but hb2 hR)
      have HR2 := Lib.hid hr2
      have HV2 := Lib.hid (show OwnW w2 w.heap.size _ xs from OwnG.mono hown HBD.out.size)
      have HX2 := Lib.hid (And.intro hxl hxo)
      have cd2 := HD2.out.blo.cell k vk hvk
      clear hown hxl hxo hb2 hr2
      refine hK.out _ _ (six_but HB2.out hbR S0.out) (fun hHeld => ?_)
      clear hK K
      (try simp only [Act.put, pz0, pz1, pz2, pz3, pz4, pz5])
      refine tk 14 ?_
      refine wpAnyH_ready (rs := [15]) (by kernel_rfl) (by simp) ?_
      refine AllReadyH.cons rfl (fun K hK => ?_) AllReadyH.nil
      go_simp
      have hz2 : (w2.alloc (.cells #[.int .i64 dn, .slice AV xs.length cV] 36)).heap.size = w2.heap.size + 1 := by simp
      have G3 := Lib.hid (Blo.new w2 [.int .i64 dn, .slice AV xs.length cV] 36)
      have HB3 := Lib.hid (HB2.out.alloc (.cells #[.int .i64 dn, .slice AV xs.length cV] 36))
      have HD3 := Lib.hid (HD2.out.but ((But.refl R w2).alloc (.cells #[.int .i64 dn, .slice AV xs.length cV] 36)) hR)
      have HR3 := Lib.hid (HR2.out.alloc (.cells #[.int .i64 dn, .slice AV xs.length cV] 36))
      have HV3 := Lib.hid (OwnG.but HV2.out ((But.refl R w2).alloc (.cells #[.int .i64 dn, .slice AV xs.length cV] 36)) hR)
      generalize w2.alloc (.cells #[.int .i64 dn, .slice AV xs.length cV] 36) = w3 at *
      generalize w2.heap.size = gn at *
      have HZ3 := Lib.hid hz2
      clear hz2
      have cd3 := HD3.out.blo.cell k vk hvk
      refine hK.out _ _ (six_but HB3.out hbR S0.out) (fun hHeld => ?_)
      clear hK K
      (try simp only [Act.put, pz0, pz1, pz2, pz3, pz4, pz5])
      refine wpAnyH_ready (rs := [16]) (by kernel_rfl) (by simp) ?_
      refine AllReadyH.cons rfl (fun K hK => ?_) AllReadyH.nil
      obtain ⟨us, hR0⟩ := HD3.out.own k hkd hkv
      have hr0 := hR0.row
      rw [EVK.out] at hr0
      refine step_append_lies w3 rfl (.tmp 30) (.tmp 39) 31 rfl w.heap.size 36 i0 (.agg #[.int .i64 0, .slice none 0 0]) 2 32 Tryz.underlying31 H1.out H2.out H3.out H4.out rfl (by decide) vk ds[k].rows.length (rowC us ds[k].rows) rfl hr0 ⟨gn, 0, none⟩ 1 1 [.int .i64 dn, .slice AV xs.length cV] rfl rfl (fun j y hj => by rw [addr_add, Nat.zero_add]; exact G3.out.cell j y hj) (fun y hy => by simp at hy; rcases hy with rfl | rfl <;> rfl) (by omega) (by have := hrl.out; unfold maxLen; omega) (by have := hrl.out; omega) HB3.out.size w3.heap.size rfl ?_
      intro g4 c4 w4 hown4 hgrow hloc hlt4
      have hrow : ∀ j, vk.ownBlock = some j → w.heap.size ≤ j := fun j hj => ((HD3.out.own k hkd hkv).lt j (by rw [EVK.out]; exact hj)).1
      have HB4 := Lib.hid (HB3.out.grown hgrow hrow)
      have HR4 := Lib.hid (h0.out.grown HR3.out HB3.out hgrow hrow)
      have HO4 := Lib.hid (hR0.app (x := ⟨dn, xs⟩) HV3.out hown4 (by rw [EVK.out]; exact hgrow))
      have HP4 := Lib.hid (HD3.out.put hkv hkd (by rw [EVK.out]; exact hgrow) (by right; rw [EVK.out]; exact hloc.imp Eq.symm (fun h => by rw [h]; rfl)) HO4.out)
      have hgk : some w.heap.size ≠ vk.ownBlock := fun e => by
                      obtain ⟨cur, hc⟩ := (HD3.out.own k hkd hkv).rows w.heap.size (by rw [EVK.out]; exact e.symm)
                      have hb' := HD3.out.blo
                      unfold Blo at hb'
                      rw [hb'] at hc
                      simp only [Option.some.injEq, Obj.cells.injEq] at hc
                      exact absurd hc.2.1 (by decide)
      have hB4 : Blo w4 w.heap.size vs 33 := (hgrow.block w.heap.size HD3.out.blo.lt hgk).trans HD3.out.blo
      have cd4 := hB4.cell k vk hvk
      have fd4 := hB4.free k
      clear hown4 hgrow hloc hR0 hr0 hB4
      refine hK.out _ _ (six_but HB4.out hbR S0.out) (fun hHeld => ?_)
      clear hK K
      (try simp only [Act.put, pz0, pz1, pz2, pz3, pz4, pz5])
      refine tk 17 ?_
      refine tk 18 ?_
      refine wpAnyH_ready (rs := [19]) (by kernel_rfl) (by simp) ?_
      refine AllReadyH.cons rfl (fun K hK => ?_) AllReadyH.nil
      go_simp
      refine hK.out _ _ (six_but (HB4.out.setNew (p := ⟨w.heap.size, k, none⟩) (Nat.le_refl _) _) hbR S0.out) (fun hHeld => ?_)
      clear hK K
      (try simp only [Act.put, pz0, pz1, pz2, pz3, pz4, pz5])
      refine wpAnyH_done (by kernel_rfl) ?_ _
      refine NoPanic.normal ?_
      clear hHeld
      have HBZ := Lib.hid (HB4.out.setNew (p := ⟨w.heap.size, k, none⟩) (Nat.le_refl _) (.slice (some ⟨g4, 0, none⟩) (ds[k].rows.length + 1) c4))
      have HRZ := Lib.hid (h0.out.setNew HR4.out (p := ⟨w.heap.size, k, none⟩) (Nat.le_refl _) (.slice (some ⟨g4, 0, none⟩) (ds[k].rows.length + 1) c4))
      have HKZ := Lib.hid (show (ds.set k ⟨ds[k].rows ++ [⟨dn, xs⟩]⟩).length = ts.length ∧ rawOk ts (ds.set k ⟨ds[k].rows ++ [⟨dn, xs⟩]⟩) ∧ (∀ j (h : j < (ds.set k ⟨ds[k].rows ++ [⟨dn, xs⟩]⟩).length), k < j → (ds.set k ⟨ds[k].rows ++ [⟨dn, xs⟩]⟩)[j].rows = []) ∧ ∀ h : k < (ds.set k ⟨ds[k].rows ++ [⟨dn, xs⟩]⟩).length, ((ds.set k ⟨ds[k].rows ++ [⟨dn, xs⟩]⟩)[k].rows.length : Int) + (m - 1) ≤ 4 from
       ⟨by rw [List.length_set]; exact HK.out.1, HK.out.2.1.put hkd (by have := hrl.out; omega) ⟨_, List.getElem_mem hlt, HX2.out.1⟩ HX2.out.2, fun j hj hkj => by rw [List.getElem_set_ne (by omega)]; exact HK.out.2.2.1 j (by simpa using hj) hkj, fun h => by rw [List.getElem_set_self, List.length_append]; have := hrl.out; simp; omega⟩)
      clear cd4 fd4 HO4 HB4 HR4 HD3 HB3 HR3 HV3 HD2 HB2 HR2 HV2 HX2 G3
      go_wp2_with fail
      generalize w4.setCell ⟨w.heap.size, k, none⟩ (.slice (some ⟨g4, 0, none⟩) (ds[k].rows.length + 1) c4) = w5 at *
      refine (rdBelow 2 _ R a len cap zs HRZ.out).mono ?_
      rintro e w6 ⟨v, rfl, ⟨y6, rfl, y60, y61⟩, hb6, hr6⟩
      have HDZ := Lib.hid (HP4.out.but hb6 hR)
      have HBY := Lib.hid (HBZ.out.trans hb6)
      have HRY := Lib.hid hr6
      clear HP4 HBZ HRZ hb6 hr6
      go_wp2_with fail
      go_roundw
      case rel => exact ⟨m - 1, dn + 1 + y6, _, _, by go_num, by omega, by omega, by go_num, by omega, by omega, HDZ, HKZ, HBY, HRY⟩
      case measure => simp [intOf]; omega
     refine AllReadyH.cons rfl (fun K hK => ?_) AllReadyH.nil
     go_simp
     go_at_call 50
     refine (rdFit _ _ _ _ _ P1 p1 q1 ts[k].cols ok _ R a len cap zs HRD.out HC1.out hok (by omega)).mono ?_
     rintro e w2 ⟨v, rfl, ⟨xs, hown, hxl, hxo⟩, hb2, hr2⟩
     obtain ⟨AV, cV, rfl, -, -, -⟩ := OwnG.sl (f := Vl.cells) (sz := 3) (fun _ => rfl) hown
     have HB2 := Lib.hid (HBD.out.trans hb2)
     have HD2 := Lib.hid (HDB.out.but hb2 hR)
     have HR2 := Lib.hid hr2
     have HV2 := Lib.hid (show OwnW w2 w.heap.size _ xs from OwnG.mono hown HBD.out.size)
     have HX2 := Lib.hid (And.intro hxl hxo)
     have cd2 := HD2.out.blo.cell k vk hvk
     clear hown hxl hxo hb2 hr2
     refine hK.out _ _ (six_but HB2.out hbR S0.out) (fun hHeld => ?_)
     clear hK K
     (try simp only [Act.put, pz0, pz1, pz2, pz3, pz4, pz5])
     refine tk 14 ?_
     refine wpAnyH_ready (rs := [6, 15]) (by kernel_rfl) (by simp) ?_
     refine AllReadyH.cons rfl (fun K hK => ?_) ?_
     ·go_simp
      refine hK.out _ _ hHeld (fun hHeld => ?_)
      clear hK K
      (try simp only [Act.put, pz0, pz1, pz2, pz3, pz4, pz5])
      refine wpAnyH_ready (rs := [15]) (by kernel_rfl) (by simp) ?_
      refine AllReadyH.cons rfl (fun K hK => ?_) AllReadyH.nil
      go_simp
      have hz2 : (w2.alloc (.cells #[.int .i64 dn, .slice AV xs.length cV] 36)).heap.size = w2.heap.size + 1 := by simp
      have G3 := Lib.hid (Blo.new w2 [.int .i64 dn, .slice AV xs.length cV] 36)
      have HB3 := Lib.hid (HB2.out.alloc (.cells #[.int .i64 dn, .slice AV xs.length cV] 36))
      have HD3 := Lib.hid (HD2.out.but ((But.refl R w2).alloc (.cells #[.int .i64 dn, .slice AV xs.length cV] 36)) hR)
      have HR3 := Lib.hid (HR2.out.alloc (.cells #[.int .i64 dn, .slice AV xs.length cV] 36))
      have HV3 := Lib.hid (OwnG.but HV2.out ((But.refl R w2).alloc (.cells #[.int .i64 dn, .slice AV xs.length cV] 36)) hR)
      generalize w2.alloc (.cells #[.int .i64 dn, .slice AV xs.length cV] 36) = w3 at *
      generalize w2.heap.size = gn at *
      have HZ3 := Lib.hid hz2
      clear hz2
      have cd3 := HD3.out.blo.cell k vk hvk
      refine hK.out _ _ (six_but HB3.out hbR S0.out) (fun hHeld => ?_)
      clear hK K
      (try simp only [Act.put, pz0, pz1, pz2, pz3, pz4, pz5])
      refine wpAnyH_ready (rs := [16]) (by kernel_rfl) (by simp) ?_
      refine AllReadyH.cons rfl (fun K hK => ?_) AllReadyH.nil
      obtain ⟨us, hR0⟩ := HD3.out.own k hkd hkv
      have hr0 := hR0.row
      rw [EVK.out] at hr0
      refine step_append_lies w3 rfl (.tmp 30) (.tmp 39) 31 rfl w.heap.size 36 i0 (.agg #[.int .i64 0, .slice none 0 0]) 2 32 Tryz.underlying31 H1.out H2.out H3.out H4.out rfl (by decide) vk ds[k].rows.length (rowC us ds[k].rows) rfl hr0 ⟨gn, 0, none⟩ 1 1 [.int .i64 dn, .slice AV xs.length cV] rfl rfl (fun j y hj => by rw [addr_add, Nat.zero_add]; exact G3.out.cell j y hj) (fun y hy => by simp at hy; rcases hy with rfl | rfl <;> rfl) (by omega) (by have := hrl.out; unfold maxLen; omega) (by have := hrl.out; omega) HB3.out.size w3.heap.size rfl ?_
      intro g4 c4 w4 hown4 hgrow hloc hlt4
      have hrow : ∀ j, vk.ownBlock = some j → w.heap.size ≤ j := fun j hj => ((HD3.out.own k hkd hkv).lt j (by rw [EVK.out]; exact hj)).1
      have HB4 := Lib.hid (HB3.out.grown hgrow hrow)
      have HR4 := Lib.hid (h0.out.grown HR3.out HB3.out hgrow hrow)
      have HO4 := Lib.hid (hR0.app (x := ⟨dn, xs⟩) HV3.out hown4 (by rw [EVK.out]; exact hgrow))
      have HP4 := Lib.hid (HD3.out.put hkv hkd (by rw [EVK.out]; exact hgrow) (by right; rw [EVK.out]; exact hloc.imp Eq.symm (fun h => by rw [h]; rfl)) HO4.out)
      have hgk : some w.heap.size ≠ vk.ownBlock := fun e => by
                      obtain ⟨cur, hc⟩ := (HD3.out.own k hkd hkv).rows w.heap.size (by rw [EVK.out]; exact e.symm)
                      have hb' := HD3.out.blo
                      unfold Blo at hb'
                      rw [hb'] at hc
                      simp only [Option.some.injEq, Obj.cells.injEq] at hc
                      exact absurd hc.2.1 (by decide)
      have hB4 : Blo w4 w.heap.size vs 33 := (hgrow.block w.heap.size HD3.out.blo.lt hgk).trans HD3.out.blo
      have cd4 := hB4.cell k vk hvk
      have fd4 := hB4.free k
      clear hown4 hgrow hloc hR0 hr0 hB4
      refine hK.out _ _ (six_but HB4.out hbR S0.out) (fun hHeld => ?_)
      clear hK K
      (try simp only [Act.put, pz0, pz1, pz2, pz3, pz4, pz5])
      refine tk 17 ?_
      refine tk 18 ?_
      refine wpAnyH_ready (rs := [19]) (by kernel_rfl) (by simp) ?_
      refine AllReadyH.cons rfl (fun K hK => ?_) AllReadyH.nil
      go_simp
      refine hK.out _ _ (six_but (HB4.out.setNew (p := ⟨w.heap.size, k, none⟩) (Nat.le_refl _) _) hbR S0.out) (fun hHeld => ?_)
      clear hK K
      (try simp only [Act.put, pz0, pz1, pz2, pz3, pz4, pz5])
      refine wpAnyH_done (by kernel_rfl) ?_ _
      refine NoPanic.normal ?_
      clear hHeld
      have HBZ := Lib.hid (HB4.out.setNew (p := ⟨w.heap.size, k, none⟩) (Nat.le_refl _) (.slice (some ⟨g4, 0, none⟩) (ds[k].rows.length + 1) c4))
      have HRZ := Lib.hid (h0.out.setNew HR4.out (p := ⟨w.heap.size, k, none⟩) (Nat.le_refl _) (.slice (some ⟨g4, 0, none⟩) (ds[k].rows.length + 1) c4))
      have HKZ := Lib.hid (show (ds.set k ⟨ds[k].rows ++ [⟨dn, xs⟩]⟩).length = ts.length ∧ rawOk ts (ds.set k ⟨ds[k].rows ++ [⟨dn, xs⟩]⟩) ∧ (∀ j (h : j < (ds.set k ⟨ds[k].rows ++ [⟨dn, xs⟩]⟩).length), k < j → (ds.set k ⟨ds[k].rows ++ [⟨dn, xs⟩]⟩)[j].rows = []) ∧ ∀ h : k < (ds.set k ⟨ds[k].rows ++ [⟨dn, xs⟩]⟩).length, ((ds.set k ⟨ds[k].rows ++ [⟨dn, xs⟩]⟩)[k].rows.length : Int) + (m - 1) ≤ 4 from
       ⟨by rw [List.length_set]; exact HK.out.1, HK.out.2.1.put hkd (by have := hrl.out; omega) ⟨_, List.getElem_mem hlt, HX2.out.1⟩ HX2.out.2, fun j hj hkj => by rw [List.getElem_set_ne (by omega)]; exact HK.out.2.2.1 j (by simpa using hj) hkj, fun h => by rw [List.getElem_set_self, List.length_append]; have := hrl.out; simp; omega⟩)
      clear cd4 fd4 HO4 HB4 HR4 HD3 HB3 HR3 HV3 HD2 HB2 HR2 HV2 HX2 G3
      go_wp2_with fail
      generalize w4.setCell ⟨w.heap.size, k, none⟩ (.slice (some ⟨g4, 0, none⟩) (ds[k].rows.length + 1) c4) = w5 at *
      refine (rdBelow 2 _ R a len cap zs HRZ.out).mono ?_
      rintro e w6 ⟨v, rfl, ⟨y6, rfl, y60, y61⟩, hb6, hr6⟩
      have HDZ := Lib.hid (HP4.out.but hb6 hR)
      have HBY := Lib.hid (HBZ.out.trans hb6)
      have HRY := Lib.hid hr6
      clear HP4 HBZ HRZ hb6 hr6
      go_wp2_with fail
      go_roundw
      case rel => exact ⟨m - 1, dn + 1 + y6, _, _, by go_num, by omega, by omega, by go_num, by omega, by omega, HDZ, HKZ, HBY, HRY⟩
      case measure => simp [intOf]; omega
     refine AllReadyH.cons rfl (fun K hK => ?_) AllReadyH.nil
     go_simp
     have hz2 : (w2.alloc (.cells #[.int .i64 dn, .slice AV xs.length cV] 36)).heap.size = w2.heap.size + 1 := by simp
     have G3 := Lib.hid (Blo.new w2 [.int .i64 dn, .slice AV xs.length cV] 36)
     have HB3 := Lib.hid (HB2.out.alloc (.cells #[.int .i64 dn, .slice AV xs.length cV] 36))
     have HD3 := Lib.hid (HD2.out.but ((But.refl R w2).alloc (.cells #[.int .i64 dn, .slice AV xs.length cV] 36)) hR)
     have HR3 := Lib.hid (HR2.out.alloc (.cells #[.int .i64 dn, .slice AV xs.length cV] 36))
     have HV3 := Lib.hid (OwnG.but HV2.out ((But.refl R w2).alloc (.cells #[.int .i64 dn, .slice AV xs.length cV] 36)) hR)
     generalize w2.alloc (.cells #[.int .i64 dn, .slice AV xs.length cV] 36) = w3 at *
     generalize w2.heap.size = gn at *
     have HZ3 := Lib.hid hz2
     clear hz2
     have cd3 := HD3.out.blo.cell k vk hvk
     refine hK.out _ _ (six_but HB3.out hbR S0.out) (fun hHeld => ?_)
     clear hK K
     (try simp only [Act.put, pz0, pz1, pz2, pz3, pz4, pz5])
     refine wpAnyH_ready (rs := [6]) (by kernel_rfl) (by simp) ?_
     refine AllReadyH.cons rfl (fun K hK => ?_) AllReadyH.nil
     go_simp
     refine hK.out _ _ hHeld (fun hHeld => ?_)
     clear hK K
     (try simp only [Act.put, pz0, pz1, pz2, pz3, pz4, pz5])
     refine wpAnyH_ready (rs := [16]) (by kernel_rfl) (by simp) ?_
     refine AllReadyH.cons rfl (fun K hK => ?_) AllReadyH.nil
     obtain ⟨us, hR0⟩ := HD3.out.own k hkd hkv
     have hr0 := hR0.row
     rw [EVK.out] at hr0
     refine step_append_lies w3 rfl (.tmp 30) (.tmp 39) 31 rfl w.heap.size 36 i0 (.agg #[.int .i64 0, .slice none 0 0]) 2 32 Tryz.underlying31 H1.out H2.out H3.out H4.out rfl (by decide) vk ds[k].rows.length (rowC us ds[k].rows) rfl hr0 ⟨gn, 0, none⟩ 1 1 [.int .i64 dn, .slice AV xs.length cV] rfl rfl (fun j y hj => by rw [addr_add, Nat.zero_add]; exact G3.out.cell j y hj) (fun y hy => by simp at hy; rcases hy with rfl | rfl <;> rfl) (by omega) (by have := hrl.out; unfold maxLen; omega) (by have := hrl.out; omega) HB3.out.size w3.heap.size rfl ?_
     intro g4 c4 w4 hown4 hgrow hloc hlt4
     have hrow : ∀ j, vk.ownBlock = some j → w.heap.size ≤ j := fun j hj => ((HD3.out.own k hkd hkv).lt j (by rw [EVK.out]; exact hj)).1
     have HB4 := Lib.hid (HB3.out.grown hgrow hrow)
     have HR4 := Lib.hid (h0.out.grown HR3.out HB3.out hgrow hrow)
     have HO4 := Lib.hid (hR0.app (x := ⟨dn, xs⟩) HV3.out hown4 (by rw [EVK.out]; exact hgrow))
     have HP4 := Lib.hid (HD3.out.put hkv hkd (by rw [EVK.out]; exact hgrow) (by right; rw [EVK.out]; exact hloc.imp Eq.symm (fun h => by rw [h]; rfl)) HO4.out)
     have hgk : some w.heap.size ≠ vk.ownBlock := fun e => by
                       obtain ⟨cur, hc⟩ := (HD3.out.own k hkd hkv).rows w.heap.size (by rw [EVK.out]; exact e.symm)
                       have hb' := HD3.out.blo
                       unfold Blo at hb'
                       rw [hb'] at hc
                       simp only [Option.some.injEq, Obj.cells.injEq] at hc
                       exact absurd hc.2.1 (by decide)
     have hB4 : Blo w4 w.heap.size vs 33 := (hgrow.block w.heap.size HD3.out.blo.lt hgk).trans HD3.out.blo
     have cd4 := hB4.cell k vk hvk
     have fd4 := hB4.free k
     clear hown4 hgrow hloc hR0 hr0 hB4
     refine hK.out _ _ (six_but HB4.out hbR S0.out) (fun hHeld => ?_)
     clear hK K
     (try simp only [Act.put, pz0, pz1, pz2, pz3, pz4, pz5])
     refine tk 17 ?_
     refine tk 18 ?_
     refine wpAnyH_ready (rs := [19]) (by kernel_rfl) (by simp) ?_
     refine AllReadyH.cons rfl (fun K hK => ?_) AllReadyH.nil
     go_simp
     refine hK.out _ _ (six_but (HB4.out.setNew (p := ⟨w.heap.size, k, none⟩) (Nat.le_refl _) _) hbR S0.out) (fun hHeld => ?_)
     clear hK K
     (try simp only [Act.put, pz0, pz1, pz2, pz3, pz4, pz5])
     refine wpAnyH_done (by kernel_rfl) ?_ _
     refine NoPanic.normal ?_
     clear hHeld
     have HBZ := Lib.hid (HB4.out.setNew (p := ⟨w.heap.size, k, none⟩) (Nat.le_refl _) (.slice (some ⟨g4, 0, none⟩) (ds[k].rows.length + 1) c4))
     have HRZ := Lib.hid (h0.out.setNew HR4.out (p := ⟨w.heap.size, k, none⟩) (Nat.le_refl _) (.slice (some ⟨g4, 0, none⟩) (ds[k].rows.length + 1) c4))
     have HKZ := Lib.hid (show (ds.set k ⟨ds[k].rows ++ [⟨dn, xs⟩]⟩).length = ts.length ∧ rawOk ts (ds.set k ⟨ds[k].rows ++ [⟨dn, xs⟩]⟩) ∧ (∀ j (h : j < (ds.set k ⟨ds[k].rows ++ [⟨dn, xs⟩]⟩).length), k < j → (ds.set k ⟨ds[k].rows ++ [⟨dn, xs⟩]⟩)[j].rows = []) ∧ ∀ h : k < (ds.set k ⟨ds[k].rows ++ [⟨dn, xs⟩]⟩).length, ((ds.set k ⟨ds[k].rows ++ [⟨dn, xs⟩]⟩)[k].rows.length : Int) + (m - 1) ≤ 4 from
      ⟨by rw [List.length_set]; exact HK.out.1, HK.out.2.1.put hkd (by have := hrl.out; omega) ⟨_, List.getElem_mem hlt, HX2.out.1⟩ HX2.out.2, fun j hj hkj => by rw [List.getElem_set_ne (by omega)]; exact HK.out.2.2.1 j (by simpa using hj) hkj, fun h => by rw [List.getElem_set_self, List.length_append]; have := hrl.out; simp; omega⟩)
     clear cd4 fd4 HO4 HB4 HR4 HD3 HB3 HR3 HV3 HD2 HB2 HR2 HV2 HX2 G3
     go_wp2_with fail
     generalize w4.setCell ⟨w.heap.size, k, none⟩ (.slice (some ⟨g4, 0, none⟩) (ds[k].rows.length + 1) c4) = w5 at *
     refine (rdBelow 2 _ R a len cap zs HRZ.out).mono ?_
     rintro e w6 ⟨v, rfl, ⟨y6, rfl, y60, y61⟩, hb6, hr6⟩
     have HDZ := Lib.hid (HP4.out.but hb6 hR)
     have HBY := Lib.hid (HBZ.out.trans hb6)
     have HRY := Lib.hid hr6
     clear HP4 HBZ HRZ hb6 hr6
     go_wp2_with fail
     go_roundw
     case rel => exact ⟨m - 1, dn + 1 + y6, _, _, by go_num, by omega, by omega, by go_num, by omega, by omega, HDZ, HKZ, HBY, HRY⟩
     case measure => simp [intOf]; omega
    ·go_wp2_with fail
     go_roundw
     case rel => exact ⟨k + 1, vs, ds, by go_num, by omega, hdb, Lib.hid ⟨HK.out.1, HK.out.2.1, fun j hj hkj => HK.out.2.2.1 j hj (by omega)⟩, hb2r, hr2r⟩
     case measure => simp [intOf]; omega
  ·have hkn : k = ts.length := by omega
   have hdl := hrk.out.1
   go_wp2_with fail
   refine (rdOnce 40 _ R a len cap zs hr.out).mono ?_
   rintro e w1 ⟨v, rfl, ⟨bb, rfl⟩, hb1, hr1⟩
   have HDF := Lib.hid (hdb.out.but hb1 hR)
   have HBF := Lib.hid (hb.out.trans hb1)
   have HRF := Lib.hid hr1
   have hsl := HDF.out.sl
   rw [hdl] at hsl
   have HSL := Lib.hid hsl
   have HOKD := Lib.hid hrk.out.2.1
   clear hb1 hr1 hdb hb hr hsl hrk hdl hkn
   cases bb
   ·go_wp2_with fail
    go_ret
    exact ⟨_, rfl, ⟨_, _, _, ds, rfl, Nat.le_refl _, HSL.out, Nat.le_refl _, HOKD.out⟩, HBF.out, HRF.out⟩
   ·by_cases hp : 0 < ts.length
    ·obtain ⟨q, hq⟩ : ∃ q, ts.length = q + 1 := ⟨ts.length - 1, by omega⟩
     have g1 : (1 : Int) ≤ (ts.length : Nat) := by omega
     have hsl2 := HSL.out
     rw [hq] at hsl2
     have HF := Lib.hid (fun (_ : ¬ ts.length = 1) => show isRaw ts w.heap.size (.slice ((some ⟨w.heap.size, 0, none⟩ : Option Addr).map fun x => ⟨x.block, x.off + 1, none⟩) (ts.length - 1) (ts.length - 1)) w1 from
      ⟨_, _, _, ds.tail, rfl, Nat.le_refl _, by rw [show ts.length - 1 = q by omega]; exact Sl.tail1 hsl2, by omega, HOKD.out.tail⟩)
     have HG := Lib.hid (fun (h1 : ts.length = 1) => show isRaw ts w.heap.size (.slice (some ⟨w.heap.size, 0, none⟩) 0 0) w1 from
      ⟨_, 0, 0, [], rfl, Nat.le_refl _, ⟨rfl, fun h => by omega⟩, by omega, fun d hd => by cases hd⟩)
     clear hsl2
     have HQ := Lib.hid hq
     clear hq
     go_wp2_with fail
     all_goals
      go_ret
      first
       | exact ⟨_, rfl, HF.out (by assumption), HBF.out, HRF.out⟩
       | exact ⟨_, rfl, HG.out (by assumption), HBF.out, HRF.out⟩
       | (have h1 : ts.length = 1 := by assumption
          have h2 := HG.out h1
          simp only [h1]
          exact ⟨_, rfl, h2, HBF.out, HRF.out⟩)
    ·go_wp2_with fail
     go_ret
     exact ⟨_, rfl, ⟨_, _, _, ds, rfl, Nat.le_refl _, HSL.out, Nat.le_refl _, HOKD.out⟩, HBF.out, HRF.out⟩
def schOk (ts : List Tb) : Prop := 1 ≤ ts.length ∧ ts.length ≤ 3 ∧ ∀ t ∈ ts, t.sz ≤ 61 ∧ 2 ≤ t.cols.length
theorem TabY.cols2 {base : Nat} {w : World} {gc : Nat} {cs : List Value} {t : Tb} (h : TabY base w gc cs t) : 2 ≤ t.cols.length := by
 obtain ⟨n1, _, _, _, _, _, _, _, _, _, _, _, _, _, _, _, hn, hp, _⟩ := h
 omega
theorem isSch.full {base : Nat} {v : Value} {w : World} (h : isSch base 61 v w) : ∃ (A : Option Addr) (c : Nat) (ts : List Tb), v = .slice A ts.length c ∧ ts.length ≤ c ∧ Sl TbR 6 (okF base w) w A ts.length ts ∧ schOk ts := by
 obtain ⟨xs, hs, h0, h1, h2⟩ := h
 obtain ⟨A, c, rfl, hc, -, hsl⟩ := hs.sl
 refine ⟨A, c, xs.map (·.2.2), by rw [List.length_map], by rw [List.length_map]; exact hc, by rw [List.length_map]; exact hsl, by rw [List.length_map]; omega, by rw [List.length_map]; omega, fun t ht => ?_⟩
 obtain ⟨x, hx, rfl⟩ := List.mem_map.1 ht
 exact ⟨h2 x hx, (hs.2.2 x hx).cols2⟩
theorem schOk.sz {ts : List Tb} (h : schOk ts) : szL Tb.sz ts ≤ 1000 := by
 have := szL_le Tb.sz 61 ts fun t ht => (h.2.2 t ht).1
 have h2 := Nat.mul_le_mul_right 61 h.2.1
 have := h.2.1
 omega
theorem cols_le (t : Tb) : t.cols.length ≤ t.sz := by
 have h2 : t.cols.length ≤ szL Cl.sz t.cols := by unfold szL; omega
 unfold Tb.sz; omega
theorem okV_le {k n : Int} {s : ByteArray} (h : okV k n s) : s.size ≤ 12 := by
 rcases h with ⟨-, -, rfl⟩ | ⟨-, -, -, rfl⟩ | ⟨-, -, h⟩
 ·decide
 ·decide
 ·exact h
theorem okF.weak {α : Type} {Rr : Rd α} (hR : Stays Rr) {sz base base' : Nat} {w w' : World} {A : Option Addr} {n : Nat} {ds : List α} (h : Sl Rr sz (okF base' w) w' A n ds) (hb : base ≤ base') : Sl Rr sz (fun b => base ≤ b) w' A n ds :=
 h.stays hR (fun b hb' => Nat.le_trans hb hb'.1) fun _ _ _ h => h
theorem rawOk.sz {ts : List Tb} {ds : List Dt} (h : rawOk ts ds) (ht : ∀ t ∈ ts, t.sz ≤ 61 ∧ 2 ≤ t.cols.length) (hl : ds.length ≤ 3) : szL Dt.sz ds ≤ 10000 := by
 have hv : ∀ d ∈ ds, ∀ r ∈ d.rows, Rw.sz r ≤ 61 + 61 * 12 := fun d hd r hr => by
  obtain ⟨⟨t, ht1, ht2⟩, hx⟩ := (h d hd).2 r hr
  have h1 := szL_le (fun v : Vl => v.s.size) 12 r.vals fun x hx' => okV_le (hx x hx')
  have h2 := cols_le t
  have h3 := (ht t ht1).1
  have h4 : r.vals.length * 12 ≤ 61 * 12 := Nat.mul_le_mul_right _ (by omega)
  show szL (fun v : Vl => v.s.size) r.vals ≤ _
  omega
 have hd : ∀ d ∈ ds, Dt.sz d ≤ 4 + 4 * (61 + 61 * 12) := fun d hd => by
  have h1 := szL_le Rw.sz (61 + 61 * 12) d.rows (hv d hd)
  have h2 := (h d hd).1
  have h4 : d.rows.length * (61 + 61 * 12) ≤ 4 * (61 + 61 * 12) := Nat.mul_le_mul_right _ h2
  show szL Rw.sz d.rows ≤ _
  omega
 have h1 := szL_le Dt.sz (4 + 4 * (61 + 61 * 12)) ds hd
 have h4 : ds.length * (4 + 4 * (61 + 61 * 12)) ≤ 3 * (4 + 4 * (61 + 61 * 12)) := Nat.mul_le_mul_right _ hl
 omega
def isDbArgs (v : Value) (w : World) : Prop := ∃ (ok : Nat → Prop) (A1 : Option Addr) (c1 : Nat) (ts : List Tb) (A2 : Option Addr) (n2 c2 : Nat) (ds : List Dt),
 v = .tuple #[.slice A1 ts.length c1, .slice A2 n2 c2] ∧ ts.length ≤ c1 ∧ Sl TbR 6 ok w A1 ts.length ts ∧ Sl DtR 1 ok w A2 n2 ds ∧ schOk ts ∧ n2 ≤ ts.length ∧ szL Dt.sz ds ≤ 1048576
end Go.Proofs.YtjhhamlnlalkoaaGreat
namespace Go.Proofs.YtjhhamlnlalkoaaGreat
open Go.RowKit
def Lows {α : Type} (R : Rd α) : Prop := ∀ (ok : Nat → Prop) (w : World) (cs : List Value) (d : α), R ok w cs d → R (fun b => b < w.heap.size) w cs d
theorem Sl.lows {α : Type} {R : Rd α} (hR : Lows R) {sz : Nat} (hz : 0 < sz) {ok : Nat → Prop} {w : World} {A : Option Addr} {n : Nat} {ds : List α} (h : Sl R sz ok w A n ds) : Sl R sz (fun b => b < w.heap.size) w A n ds :=
 ⟨h.1, fun hn => by
  obtain ⟨b, off, e, hb, hi⟩ := h.2 hn
  refine ⟨b, off, e, ?_, fun i hlt => ?_⟩
  ·obtain ⟨cs, h1, h2, h3⟩ := hi 0 (by have := h.1; omega)
   exact cell_lt (h3 0 _ (List.getElem?_eq_getElem (by omega)))
  ·obtain ⟨cs, h1, h2, h3⟩ := hi i hlt
   exact ⟨cs, h1, hR _ _ _ _ h2, h3⟩⟩
theorem FlatR.lows {α : Type} (f : α → List Value) : Lows (FlatR f) := fun _ _ _ _ h => h
theorem UqR.lows : Lows UqR := fun _ _ _ _ ⟨A0, n0, c0, e, h0, hcp⟩ => ⟨A0, n0, c0, e, h0.lows (FlatR.lows _) (by omega), hcp⟩
theorem CkR.lows : Lows CkR := fun _ _ _ _ ⟨A0, n0, c0, e, h0, hcp⟩ => ⟨A0, n0, c0, e, h0.lows (FlatR.lows _) (by omega), hcp⟩
theorem FkR.lows : Lows FkR := fun _ _ _ _ ⟨A0, n0, c0, e, h0, hcp⟩ => ⟨A0, n0, c0, e, h0.lows (FlatR.lows _) (by omega), hcp⟩
theorem RwR.lows : Lows RwR := fun _ _ _ _ ⟨A0, n0, c0, e, h0, hcp⟩ => ⟨A0, n0, c0, e, h0.lows (FlatR.lows _) (by omega), hcp⟩
theorem DtR.lows : Lows DtR := fun _ _ _ _ ⟨A0, n0, c0, e, h0, hcp⟩ => ⟨A0, n0, c0, e, h0.lows RwR.lows (by omega), hcp⟩
theorem TbR.lows : Lows TbR := fun _ _ _ _ ⟨A1, n1, c1, A2, n2, c2, A3, n3, c3, A4, n4, c4, A5, n5, c5, e, h1, h2, h3, h4, h5, hcp⟩ =>
 ⟨A1, n1, c1, A2, n2, c2, A3, n3, c3, A4, n4, c4, A5, n5, c5, e, h1.lows (FlatR.lows _) (by omega), h2.lows (FlatR.lows _) (by omega), h3.lows UqR.lows (by omega), h4.lows CkR.lows (by omega), h5.lows FkR.lows (by omega), hcp⟩
theorem Sl.low {α : Type} {R : Rd α} (hR : Stays R) {sz n0 : Nat} {w W : World} {A : Option Addr} {n : Nat} {ds : List α} (h : Sl R sz (fun b => b < n0) w A n ds) (hb : Below n0 w W) : Sl R sz (fun b => b < n0) W A n ds :=
 h.stays hR (fun _ h => h) fun p v hp hc => (hb.cell hp).trans hc
end Go.Proofs.YtjhhamlnlalkoaaGreat
