/-
  Contracts on values: heldBy, which tells what a right value holds.
-/
import Derived.Test.YtakhcgkhjmfndaaGreatVals
import Derived.Deep.RegionWith
namespace Go.Proofs.YtakhcgkhjmfndaaGreat
open Go.RowKit

theorem chain1 (w : World) (o : Obj) {w1 : World} (hb : Below (w.alloc o).drew.heap.size (w.alloc o).drew w1) : Below w.heap.size w w1 :=
  (((Below.refl _ w).alloc (Nat.le_refl _) o).drew).trans (hb.mono (by simp))

/-- The cells of a boxed Val behind a call that makes memory. -/
theorem boxed {w w1 : World} {k n : Int} {s : ByteArray} {T : TypeId} (hb : Below (w.alloc (.cells #[.int .i64 k, .int .i64 n, .string s] T)).drew.heap.size (w.alloc (.cells #[.int .i64 k, .int .i64 n, .string s] T)).drew w1) :
    w1.cell? ⟨w.heap.size, 0, none⟩ = some (.int .i64 k) ∧ w1.cell? ⟨w.heap.size, 1, none⟩ = some (.int .i64 n) ∧ w1.cell? ⟨w.heap.size, 2, none⟩ = some (.string s) := by
  refine ⟨?_, ?_, ?_⟩ <;> (rw [hb.cell (by simp)]; simp)

/-- heldBy of what is right. -/
def HeldOk (k n : Int) (s : ByteArray) (w : World) (e : Ending) (w' : World) : Prop := e = .returned (.tuple #[heldV k n s, .bool true]) ∧ Below w.heap.size w w'
def HeldNo (w : World) (e : Ending) (w' : World) : Prop := e = .returned (.tuple #[.nilIface, .bool false]) ∧ Below w.heap.size w w'

set_option maxRecDepth 100000 in
set_option maxHeartbeats 1000000 in
theorem held0yes (s : ByteArray) (w : World) (hs : s.toList = []) :
    Calls Tryz.prog 69 #[.agg #[.int .i64 0, .int .i64 0, .string s]] w (HeldOk 0 0 s w) := by
  have hm := rightOfNot
  go_enter Tryz.func69, Tryz.ntmps69
  go_wp2_with fail
  go_region_held3 (fun w' => w'.cell? ⟨w.heap.size, 0, none⟩ = some (.int .i64 0) ∧ w'.cell? ⟨w.heap.size, 1, none⟩ = some (.int .i64 0) ∧ w'.cell? ⟨w.heap.size, 2, none⟩ = some (.string s)) (first | go_keep | (refine ⟨?_, ?_, ?_⟩ <;> (rw [hb.cell (by simp)]; simp)) | (refine ⟨?_, ?_, ?_⟩ <;> (rw [hb2.cell (by have := hb.size; simp at this; simp; omega), hb.cell (by simp)]; simp)))
    (first | (go_at_call 84; refine (implValOfNot _).mono ?_; rintro e w1 ⟨rfl, hb⟩) | (go_at_call 145; refine (rightNot _).mono ?_; rintro e w2 ⟨rfl, hb2⟩))
  go_wp2
  go_ret2
  exact ⟨rfl, (chain1 w _ hb).trans (hb2.mono (by have := hb.size; simp at this; omega))⟩

set_option maxRecDepth 100000 in
set_option maxHeartbeats 1000000 in
theorem held0n (n : Int) (s : ByteArray) (w : World) (hn : ¬ n = 0) :
    Calls Tryz.prog 69 #[.agg #[.int .i64 0, .int .i64 n, .string s]] w (HeldNo w) := by
  have e1 : (0 == n) = false := by simp; omega
  go_enter Tryz.func69, Tryz.ntmps69
  go_wp2_with fail
  first | (go_region_with ((go_at_call 84; refine (implValOfNot _).mono ?_; rintro e w1 ⟨rfl, hb⟩; obtain ⟨r0, r1, r2⟩ := boxed hb))) | fail
  all_goals
    go_wp2
    go_ret2
    exact ⟨rfl, chain1 w _ hb⟩

set_option maxRecDepth 100000 in
set_option maxHeartbeats 1000000 in
theorem held0s (n : Int) (s : ByteArray) (w : World) (hs : ¬ s.toList = []) :
    Calls Tryz.prog 69 #[.agg #[.int .i64 0, .int .i64 n, .string s]] w (HeldNo w) := by
  by_cases hn : n = 0
  · subst hn
    have e1 : (([] : List UInt8) == s.toList) = false := by simpa using hs
    go_enter Tryz.func69, Tryz.ntmps69
    go_wp2_with fail
    first | (go_region_with ((go_at_call 84; refine (implValOfNot _).mono ?_; rintro e w1 ⟨rfl, hb⟩; obtain ⟨r0, r1, r2⟩ := boxed hb))) | fail
    all_goals
      go_wp2
      go_ret2
      exact ⟨rfl, chain1 w _ hb⟩
  · exact held0n n s w hn

set_option maxRecDepth 100000 in
set_option maxHeartbeats 1000000 in
theorem held1yes (n : Int) (s : ByteArray) (w : World) (hs : s.toList = []) (h : (decide (-1000000000 ≤ n) && decide (n ≤ 1000000000)) = true) :
    Calls Tryz.prog 69 #[.agg #[.int .i64 1, .int .i64 n, .string s]] w (HeldOk 1 n s w) := by
  have hm := rightOfNum n
  go_enter Tryz.func69, Tryz.ntmps69
  go_wp2_with fail
  go_region_held3 (fun w' => w'.cell? ⟨w.heap.size, 0, none⟩ = some (.int .i64 1) ∧ w'.cell? ⟨w.heap.size, 1, none⟩ = some (.int .i64 n) ∧ w'.cell? ⟨w.heap.size, 2, none⟩ = some (.string s)) (first | go_keep | (refine ⟨?_, ?_, ?_⟩ <;> (rw [hb.cell (by simp)]; simp)) | (refine ⟨?_, ?_, ?_⟩ <;> (rw [hb2.cell (by have := hb.size; simp at this; simp; omega), hb.cell (by simp)]; simp)))
    (first | (go_at_call 84; refine (implValOfNum _ _).mono ?_; rintro e w1 ⟨rfl, hb⟩) | (go_at_call 118; refine (rightNum _ _).mono ?_; rintro e w2 ⟨rfl, rfl⟩))
  go_wp2
  go_ret2
  exact ⟨rfl, chain1 w _ hb⟩

set_option maxRecDepth 100000 in
set_option maxHeartbeats 1000000 in
theorem held1no (n : Int) (s : ByteArray) (w : World) (hs : s.toList = []) (h : (decide (-1000000000 ≤ n) && decide (n ≤ 1000000000)) = false) :
    Calls Tryz.prog 69 #[.agg #[.int .i64 1, .int .i64 n, .string s]] w (HeldNo w) := by
  have hm := rightOfNum n
  go_enter Tryz.func69, Tryz.ntmps69
  go_wp2_with fail
  go_region_held3 (fun w' => w'.cell? ⟨w.heap.size, 0, none⟩ = some (.int .i64 1) ∧ w'.cell? ⟨w.heap.size, 1, none⟩ = some (.int .i64 n) ∧ w'.cell? ⟨w.heap.size, 2, none⟩ = some (.string s)) (first | go_keep | (refine ⟨?_, ?_, ?_⟩ <;> (rw [hb.cell (by simp)]; simp)) | (refine ⟨?_, ?_, ?_⟩ <;> (rw [hb2.cell (by have := hb.size; simp at this; simp; omega), hb.cell (by simp)]; simp)))
    (first | (go_at_call 84; refine (implValOfNum _ _).mono ?_; rintro e w1 ⟨rfl, hb⟩) | (go_at_call 118; refine (rightNum _ _).mono ?_; rintro e w2 ⟨rfl, rfl⟩))
  go_wp2
  go_ret2
  exact ⟨rfl, chain1 w _ hb⟩

set_option maxRecDepth 100000 in
set_option maxHeartbeats 1000000 in
theorem held1s (n : Int) (s : ByteArray) (w : World) (hs : ¬ s.toList = []) :
    Calls Tryz.prog 69 #[.agg #[.int .i64 1, .int .i64 n, .string s]] w (HeldNo w) := by
  have e1 : (([] : List UInt8) == s.toList) = false := by simpa using hs
  go_enter Tryz.func69, Tryz.ntmps69
  go_wp2_with fail
  first | (go_region_with ((go_at_call 84; refine (implValOfNum _ _).mono ?_; rintro e w1 ⟨rfl, hb⟩; obtain ⟨r0, r1, r2⟩ := boxed hb))) | fail
  all_goals
    go_wp2
    go_ret2
    exact ⟨rfl, chain1 w _ hb⟩

set_option maxRecDepth 100000 in
set_option maxHeartbeats 1000000 in
theorem held2yes (s : ByteArray) (w : World) (h : decide ((s.size : Int) ≤ 12) = true) :
    Calls Tryz.prog 69 #[.agg #[.int .i64 2, .int .i64 0, .string s]] w (HeldOk 2 0 s w) := by
  have hm := rightOfStr s
  go_enter Tryz.func69, Tryz.ntmps69
  go_wp2_with fail
  go_region_held3 (fun w' => w'.cell? ⟨w.heap.size, 0, none⟩ = some (.int .i64 2) ∧ w'.cell? ⟨w.heap.size, 1, none⟩ = some (.int .i64 0) ∧ w'.cell? ⟨w.heap.size, 2, none⟩ = some (.string s)) (first | go_keep | (refine ⟨?_, ?_, ?_⟩ <;> (rw [hb.cell (by simp)]; simp)) | (refine ⟨?_, ?_, ?_⟩ <;> (rw [hb2.cell (by have := hb.size; simp at this; simp; omega), hb.cell (by simp)]; simp)))
    (first | (go_at_call 84; refine (implValOfStr _ _).mono ?_; rintro e w1 ⟨rfl, hb⟩) | (go_at_call 148; refine (rightStr _ _).mono ?_; rintro e w2 ⟨rfl, rfl⟩))
  go_wp2
  go_ret2
  exact ⟨rfl, chain1 w _ hb⟩

set_option maxRecDepth 100000 in
set_option maxHeartbeats 1000000 in
theorem held2no (s : ByteArray) (w : World) (h : decide ((s.size : Int) ≤ 12) = false) :
    Calls Tryz.prog 69 #[.agg #[.int .i64 2, .int .i64 0, .string s]] w (HeldNo w) := by
  have hm := rightOfStr s
  go_enter Tryz.func69, Tryz.ntmps69
  go_wp2_with fail
  go_region_held3 (fun w' => w'.cell? ⟨w.heap.size, 0, none⟩ = some (.int .i64 2) ∧ w'.cell? ⟨w.heap.size, 1, none⟩ = some (.int .i64 0) ∧ w'.cell? ⟨w.heap.size, 2, none⟩ = some (.string s)) (first | go_keep | (refine ⟨?_, ?_, ?_⟩ <;> (rw [hb.cell (by simp)]; simp)) | (refine ⟨?_, ?_, ?_⟩ <;> (rw [hb2.cell (by have := hb.size; simp at this; simp; omega), hb.cell (by simp)]; simp)))
    (first | (go_at_call 84; refine (implValOfStr _ _).mono ?_; rintro e w1 ⟨rfl, hb⟩) | (go_at_call 148; refine (rightStr _ _).mono ?_; rintro e w2 ⟨rfl, rfl⟩))
  go_wp2
  go_ret2
  exact ⟨rfl, chain1 w _ hb⟩

set_option maxRecDepth 100000 in
set_option maxHeartbeats 1000000 in
theorem held2n (n : Int) (s : ByteArray) (w : World) (hn : ¬ n = 0) :
    Calls Tryz.prog 69 #[.agg #[.int .i64 2, .int .i64 n, .string s]] w (HeldNo w) := by
  have e1 : (0 == n) = false := by simp; omega
  go_enter Tryz.func69, Tryz.ntmps69
  go_wp2_with fail
  first | (go_region_with ((go_at_call 84; refine (implValOfStr _ _).mono ?_; rintro e w1 ⟨rfl, hb⟩; obtain ⟨r0, r1, r2⟩ := boxed hb))) | fail
  all_goals
    go_wp2
    go_ret2
    exact ⟨rfl, chain1 w _ hb⟩

theorem heldElse (k n : Int) (s : ByteArray) (w : World) (k0 : (k == 0) = false) (k1 : (k == 1) = false) (k2 : (k == 2) = false) :
    Calls Tryz.prog 69 #[.agg #[.int .i64 k, .int .i64 n, .string s]] w (HeldNo w) := by
  go_enter Tryz.func69, Tryz.ntmps69
  go_wp2
  go_ret2
  exact ⟨rfl, (Below.refl _ _).alloc (Nat.le_refl _) _⟩

end Go.Proofs.YtakhcgkhjmfndaaGreat
