/-
  Contracts of the reader, more: near, off, val, l1Open.
-/
import Derived.Test.YtkinegapnknhiaaReader
import Derived.Test.YtkinegapnknhiaaVals
namespace Go.Proofs.Ytkinegapnknhiaa
open Go.RowKit

set_option maxHeartbeats 400000 in
theorem rdNear (lo hi : Int) (h1 : -2000000000 ≤ lo) (h2 : lo ≤ hi) (h3 : hi ≤ 2000000000) (w : World) (R : Nat) (a : Option Addr) (len cap : Nat) (zs : List Int) (h : Rdr w R a len cap zs) :
    Calls Try.prog 88 #[.pointer (some ⟨R, 0, none⟩), .int .i64 lo, .int .i64 hi] w (Drew R a len cap zs (isInt lo hi) w) := by
  go_enter Try.func88, Try.ntmps88
  go_wp2_with fail
  refine (rdBelow _ w R a len cap zs h).mono ?_
  rintro e w' ⟨v, rfl, ⟨x, rfl, x0, x1⟩, hb, hr⟩
  by_cases c0 : x = 0
  · subst c0
    go_wp2
    go_ret
    exact ⟨_, rfl, ⟨lo, rfl, by omega, by omega⟩, hb, hr⟩
  by_cases c1 : x = 1
  · subst c1
    go_wp2
    go_ret
    exact ⟨_, rfl, ⟨hi, rfl, by omega, by omega⟩, hb, hr⟩
  have d0 : (x == 0) = false := by simpa using c0
  have d1 : (x == 1) = false := by simpa using c1
  go_wp2_with fail
  refine (rdWord w' R a len cap zs hr).mono ?_
  rintro e w2 ⟨v, rfl, ⟨y, rfl, hy⟩, hb2, hr2⟩
  obtain ⟨y0, y1⟩ := bounds_u64 hy
  clear hy
  go_wp2_with fail
  go_ret
  have m0 := Int.emod_nonneg (y / 2) (show hi - lo + 1 ≠ 0 by omega)
  have m1 := Int.emod_lt_of_pos (y / 2) (show 0 < hi - lo + 1 by omega)
  exact ⟨_, rfl, ⟨_, rfl, by unfold wrap64; omega, by unfold wrap64; omega⟩, hb.trans hb2, hr2⟩

theorem Rdr.alloc {w : World} {R : Nat} {a : Option Addr} {len cap : Nat} {zs : List Int} (h : Rdr w R a len cap zs) (o : Obj) : Rdr (w.alloc o) R a len cap zs := by
  obtain ⟨p, hp, hc1⟩ := h.place
  have hlt : R < w.heap.size := cell_lt h.code
  have hb : But (w.heap.size) w (w.alloc o) := (But.refl _ _).alloc o
  exact ⟨(hb.cell hlt (Nat.ne_of_lt hlt)).trans h.code, ⟨p, hp, (hb.cell hlt (Nat.ne_of_lt hlt)).trans hc1⟩, (hb.frozen hlt (Nat.ne_of_lt hlt)).trans h.free,
    h.row.but ((But.refl R w).alloc o) h.apart, h.apart⟩

/-- A cell of a block that has just been laid, behind a call that drew. -/
theorem new_cell {R : Nat} {w w' : World} {xs : Array Value} {T : TypeId} (hb : But R (w.alloc (.cells xs T)) w') (hR : R < w.heap.size) (k : Nat) (hk : k < xs.size) : w'.cell? ⟨w.heap.size, k, none⟩ = some xs[k] := by
  rw [hb.cell (by simp) (by simpa using Nat.ne_of_gt hR), World.cell?_alloc_new]
  simp [hk]

theorem new_free {R : Nat} {w w' : World} {xs : Array Value} {T : TypeId} (hb : But R (w.alloc (.cells xs T)) w') (hR : R < w.heap.size) (k : Nat) : w'.frozen? ⟨w.heap.size, k, none⟩ = false := by
  rw [hb.frozen (by simp) (by simpa using Nat.ne_of_gt hR)]
  exact World.frozen?_alloc_at xs T _ k rfl

/-- A store into a block that is newer than a world in which the reader was. -/
theorem Rdr.setNew {w w' : World} {R : Nat} {a : Option Addr} {len cap : Nat} {zs : List Int} (h0 : Rdr w R a len cap zs) (h : Rdr w' R a len cap zs) {p : Addr} (hp : w.heap.size ≤ p.block) (v : Value) : Rdr (w'.setCell p v) R a len cap zs := by
  have hR : R < w.heap.size := cell_lt h0.code
  have hc : ∀ q : Addr, q.block < w.heap.size → (w'.setCell p v).cell? q = w'.cell? q := fun q hq => World.cell?_setCell_other _ _ _ _ (fun e => by subst e; omega)
  obtain ⟨i, hi, hi1⟩ := h.place
  refine ⟨(hc _ hR).trans h.code, ⟨i, hi, (hc _ hR).trans hi1⟩, (World.frozen?_setCell _ _ _ _).trans h.free, ?_, h.apart⟩
  rcases h0.row with e | ⟨x, rfl, hl, hm, hz, hcell, hwz⟩
  · exact .inl e
  · rcases h.row with ⟨e, _⟩ | ⟨x', e, _, _, _, hcell', _⟩
    · cases e
    · cases e
      exact .inr ⟨x, rfl, hl, hm, hz, fun i hi => (hc _ (cell_lt (hcell i hi))).trans (hcell' i hi), hwz⟩

theorem short_str {xs : List Value} (h : ∀ v ∈ xs, ∃ s : ByteArray, v = .string s ∧ s.size ≤ 12) {j : Nat} (hj : j < xs.length) : ∃ s : ByteArray, xs[j] = .string s ∧ s.size ≤ 12 := h _ (List.getElem_mem _)
theorem small_int {xs : List Value} (h : ∀ v ∈ xs, ∃ n : Int, v = .int .i64 n ∧ -1000000000 ≤ n ∧ n ≤ 1000000000) {j : Nat} (hj : j < xs.length) : ∃ n : Int, xs[j] = .int .i64 n ∧ -1000000000 ≤ n ∧ n ≤ 1000000000 := h _ (List.getElem_mem _)
theorem below_nat {y n : Int} (h0 : 0 ≤ y) (h1 : y = 0 ∨ y < n) (hn : 0 < n) : ∃ j : Nat, y = (j : Int) ∧ (j : Int) < n := by
  obtain ⟨j, rfl⟩ := Int.eq_ofNat_of_zero_le h0
  exact ⟨j, rfl, by omega⟩
theorem six {x n : Int} (h0 : 0 ≤ x) (h1 : x = 0 ∨ x < n) (hn : n = 6) : x = 0 ∨ x = 1 ∨ x = 2 ∨ x = 3 ∨ x = 4 ∨ x = 5 := by omega
theorem four {x n : Int} (h0 : 0 ≤ x) (h1 : x = 0 ∨ x < n) (hn : n = 4) : x = 0 ∨ x = 1 ∨ x = 2 ∨ x = 3 := by omega

set_option maxHeartbeats 400000 in
theorem rdOff (lo hi : Int) (h1 : -2000000000 ≤ lo) (h2 : lo ≤ hi) (h3 : hi ≤ 2000000000) (w : World) (R : Nat) (a : Option Addr) (len cap : Nat) (zs : List Int) (h : Rdr w R a len cap zs) :
    Calls Try.prog 56 #[.pointer (some ⟨R, 0, none⟩), .int .i64 lo, .int .i64 hi] w (Drew R a len cap zs (isInt (-9223372036854775808) 9223372036854775807) w) := by
  go_enter Try.func56, Try.ntmps56
  go_wp2_with fail
  refine (rdOnce _ w R a len cap zs h).mono ?_
  rintro e w' ⟨v, rfl, ⟨x, rfl⟩, hb, hr⟩
  have hlt : R < w'.heap.size := cell_lt hr.code
  cases x with
  | false =>
    go_wp2_with fail
    refine (rdNear lo hi h1 h2 h3 w' R a len cap zs hr).mono ?_
    rintro e w2 ⟨v, rfl, ⟨y, rfl, y0, y1⟩, hb2, hr2⟩
    go_wp2_with fail
    go_ret
    exact ⟨_, rfl, ⟨_, rfl, by omega, by omega⟩, hb.trans hb2, hr2⟩
  | true =>
    go_wp2_with fail
    refine (rdBelow _ _ R a len cap zs (hr.alloc _)).mono ?_
    rintro e w2 ⟨v, rfl, ⟨y, rfl, y0, y1⟩, hb2, hr2⟩
    have hb3 := (hb.alloc _).trans hb2
    rcases four y0 y1 rfl with rfl | rfl | rfl | rfl
    · have c := new_cell hb2 hlt 0 (by simp)
      go_wp2_with fail
      go_ret
      exact ⟨_, rfl, ⟨_, rfl, by omega, by omega⟩, hb3, hr2⟩
    · have c := new_cell hb2 hlt 1 (by simp)
      go_wp2_with fail
      go_ret
      exact ⟨_, rfl, ⟨_, rfl, by omega, by omega⟩, hb3, hr2⟩
    · have c := new_cell hb2 hlt 2 (by simp)
      go_wp2_with fail
      go_ret
      exact ⟨_, rfl, ⟨_, rfl, by omega, by omega⟩, hb3, hr2⟩
    · have c := new_cell hb2 hlt 3 (by simp)
      go_wp2_with fail
      go_ret
      exact ⟨_, rfl, ⟨_, rfl, by omega, by omega⟩, hb3, hr2⟩
/-- A right value, by its fields. -/
def okV (k n : Int) (s : ByteArray) : Prop := (k = 0 ∧ n = 0 ∧ s = ⟨#[]⟩) ∨ (k = 1 ∧ -1000000000 ≤ n ∧ n ≤ 1000000000 ∧ s = ⟨#[]⟩) ∨ (k = 2 ∧ n = 0 ∧ s.size ≤ 12)

/-- A Val as the model holds one. -/
def vV (k n : Int) (s : ByteArray) : Value := .agg #[.int .i64 k, .int .i64 n, .string s]

def isOkVal (v : Value) (_ : World) : Prop := ∃ k n s, v = .agg #[.int .i64 k, .int .i64 n, .string s] ∧ okV k n s

end Go.Proofs.Ytkinegapnknhiaa
