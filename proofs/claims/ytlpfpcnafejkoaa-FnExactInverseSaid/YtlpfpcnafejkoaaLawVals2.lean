/-
  Contracts of what the exact laws do with lists of values: their size, their copy, and whether two are one.
-/
import Derived.Test.YtlpfpcnafejkoaaLawToks
import Derived.Test.YtlpfpcnafejkoaaVls
import Derived.Deep.RegionHeld3
namespace Go.Proofs.Ytlpfpcnafejkoaa
open Go.RowKit

/-- An answer of a size: less than 0, or no more than what was left, and then no value is larger. -/
def SzVals (left : Int) (vs : List Vl) (w : World) (e : Ending) (w' : World) : Prop :=
  ∃ m : Int, e = .returned (.int .i64 m) ∧ m ≤ left ∧ (0 ≤ m → vs.length ≤ left ∧ ∀ v ∈ vs, (v.s.size : Int) ≤ left) ∧ Below w.heap.size w w'

set_option maxHeartbeats 400000 in
theorem lawsSzVals (A : Option Addr) (n cap : Nat) (vs : List Vl) (left : Int) (w : World) (h : Vals w A n vs) (hn : n ≤ maxLen) (h0 : 0 ≤ left) (h1 : left ≤ 1048576) (hs : ∀ v ∈ vs, v.s.size ≤ maxLen) :
    Calls Try.prog 33 #[.slice A n cap, .int .i64 left] w (SzVals left vs w) := by
  unfold maxLen at hn
  obtain rfl : n = vs.length := h.len.symm
  by_cases hlt : left - vs.length < 0
  · go_enter Try.func33, Try.ntmps33
    go_wp2
    go_ret
    exact ⟨-1, rfl, by omega, fun h => by omega, Below.refl _ _⟩
  have hlt' : decide (left - (vs.length : Int) < 0) = false := by simpa using hlt
  go_enter Try.func33, Try.ntmps33
  go_wp2
  go_loopw [1, 5] (fun m i wr => ∃ (k : Nat) (l : Int), k ≤ vs.length ∧ i = .int .i64 k ∧ m = .int .i64 l ∧ 0 ≤ l ∧ l ≤ left - vs.length ∧ Hid (∀ v ∈ vs.take k, (v.s.size : Int) ≤ left) ∧ Below w.heap.size w wr) (fun _ i _ => vs.length - (intOf i).toNat)
  case atStart => exact ⟨0, _, by omega, rfl, rfl, by omega, by omega, Lib.hid (by simp), Below.refl _ _⟩
  case round =>
    obtain ⟨k, l, hk, rfl, rfl, hl0, hl1, hall, hb⟩ := hrel
    by_cases hlt2 : k < vs.length
    · obtain ⟨b, off, rfl, c0, c1, c2⟩ := (h.below hb).at_ hlt2
      have HS := Lib.hid (hs _ (List.getElem_mem hlt2))
      by_cases hneg : szN l vs[k].s < 0
      · go_wp2_with fail
        refine (lawsSzVal vs[k].k vs[k].n vs[k].s l _ hl0 (by omega) HS.out).mono ?_
        rintro e w1 ⟨rfl, hb1⟩
        go_wp2_with fail
        go_ret
        exact ⟨-1, rfl, by omega, fun h => by omega, hb.trans (hb1.mono hb.size)⟩
      · have hneg' : decide (szN l vs[k].s < 0) = false := by simpa using hneg
        have hle : szN l vs[k].s ≤ l := by unfold szN; split <;> omega
        have hv : (vs[k].s.size : Int) ≤ left := by unfold szN at hneg; split at hneg <;> omega
        have hall2 := Lib.hid (show ∀ v ∈ vs.take (k + 1), (v.s.size : Int) ≤ left by
          rw [List.take_succ_eq_append_getElem hlt2]
          intro v ht
          rw [List.mem_append, List.mem_singleton] at ht
          rcases ht with ht | rfl
          · exact hall.out v ht
          · exact hv)
        clear hall hv
        go_wp2_with fail
        refine (lawsSzVal vs[k].k vs[k].n vs[k].s l _ hl0 (by omega) HS.out).mono ?_
        rintro e w1 ⟨rfl, hb1⟩
        go_wp2_with fail
        go_roundw
        case rel => exact ⟨k + 1, _, by omega, by go_num, rfl, by omega, by omega, hall2, hb.trans (hb1.mono hb.size)⟩
        case measure => simp [intOf]; omega
    · have e : vs.take k = vs := List.take_of_length_le (by omega)
      have hall2 := hall.out
      rw [e] at hall2
      have HA := Lib.hid hall2
      clear hall2 hall e
      go_wp2
      go_ret
      exact ⟨l, rfl, by omega, fun _ => ⟨by omega, HA.out⟩, hb⟩

/-- A slice of values that a call has made. -/
def MadeVals (n : Nat) (vs : List Vl) (w : World) (e : Ending) (w' : World) : Prop := ∃ A c, e = .returned (.slice A n c) ∧ Vals w' A n vs ∧ Below w.heap.size w w'

theorem infoVal : (Try.prog.info? 57).map (fun i => (i.zero, i.size, i.bytes)) = some (some (.agg #[.int .i64 0, .int .i64 0, .string ⟨#[]⟩]), 3, 32) := by kernel_rfl

theorem Laid.more3 {cs : Array Value} {k : Nat} {vs : List Vl} (h : Laid cs 3 k (vs.map Vl.cells)) (hk : k < vs.length) (hs : k * 3 + 3 ≤ cs.size) :
    Laid (((cs.setIfInBounds (k * 3) (.int .i64 vs[k].k)).setIfInBounds (k * 3 + 1) (.int .i64 vs[k].n)).setIfInBounds (k * 3 + 2) (.string vs[k].s)) 3 (k + 1) (vs.map Vl.cells) := by
  have h' : Laid cs 3 k ((vs.take k).map Vl.cells) := fun i j v c hi hc hj => h i j v c hi (by
    rw [List.getElem?_map, List.getElem?_take_of_lt hi] at hc
    rw [List.getElem?_map]; exact hc) hj
  have := h'.snoc3 (by simp; omega) (fun c hc => by obtain ⟨v, _, rfl⟩ := List.mem_map.1 hc; rfl) (Nat.le_refl k) (.int .i64 vs[k].k) (.int .i64 vs[k].n) (.string vs[k].s) hs
  intro i j v c hi hc hj
  refine this i j v c hi ?_ hj
  rw [← List.map_take, List.take_take, Nat.min_self]
  by_cases e : i < k
  · rw [List.getElem?_append_left (by simp; omega), List.getElem?_map, List.getElem?_take_of_lt e, ← List.getElem?_map]; exact hc
  · obtain rfl : i = k := by omega
    rw [List.getElem?_append_right (by simp; omega)]
    rw [List.getElem?_map, List.getElem?_eq_getElem hk] at hc
    simp at hc
    subst hc
    have : (List.map Vl.cells (List.take i vs)).length = i := by simp; omega
    rw [this]
    simp [Vl.cells]

set_option maxRecDepth 100000 in
theorem lawsToVals (A : Option Addr) (n cap : Nat) (vs : List Vl) (w : World) (h : Vals w A n vs) (hn : n ≤ 1048576) :
    Calls Try.prog 37 #[.slice A n cap] w (MadeVals n vs w) := by
  obtain rfl : n = vs.length := h.len.symm
  have hmk := fun w => mk_rows (P := Try.prog) Try.underlying40 infoVal (by omega) vs.length hn w
  go_enter Try.func37, Try.ntmps37
  go_wp2
  have row := Row.new w 57 (madeCells #[.int .i64 0, .int .i64 0, .string ⟨#[]⟩] (vs.length * 3))
  have hb0 := (Below.refl w.heap.size w).alloc (Nat.le_refl _) (.cells (madeCells #[.int .i64 0, .int .i64 0, .string ⟨#[]⟩] (vs.length * 3)) 57)
  have hsz := size_madeCells #[.int .i64 0, .int .i64 0, .string ⟨#[]⟩] (vs.length * 3)
  generalize w.alloc (.cells (madeCells #[.int .i64 0, .int .i64 0, .string ⟨#[]⟩] (vs.length * 3)) 57) = x at *
  generalize madeCells #[.int .i64 0, .int .i64 0, .string ⟨#[]⟩] (vs.length * 3) = cs0 at *
  have HZ := Lib.hid hsz
  clear hmk hsz
  go_loopw [4] (fun i wr => ∃ (k : Nat) (cs : Array Value), k ≤ vs.length ∧ i = .int .i64 k ∧ Row wr w.heap.size 57 cs ∧ Hid (cs.size = vs.length * 3) ∧ Hid (Laid cs 3 k (vs.map Vl.cells)) ∧ Below w.heap.size w wr) (fun i _ => vs.length - (intOf i).toNat)
  case atStart => exact ⟨0, cs0, by omega, rfl, row, HZ, Lib.hid (Laid.zero _ _ _), hb0⟩
  case round =>
    obtain ⟨k, cs, hk, rfl, hrow, hcs, hlaid, hb⟩ := hrel
    by_cases hlt : k < vs.length
    · obtain ⟨b, off, rfl, c0, c1, c2⟩ := (h.below hb).at_ hlt
      go_wp2_with fail
      refine (lawsToVal vs[k].k vs[k].n vs[k].s _).mono ?_
      rintro e w1 ⟨rfl, hb1⟩
      have hrow1 := hrow.below hb1
      have hsz1 : k * 3 + 3 ≤ cs.size := by rw [hcs.out]; omega
      have q : ∀ j, j < 3 → w1.cell? ⟨w.heap.size, k * 3 + j, none⟩ = some (cs[k * 3 + j]?.getD undef) := fun j hj => by
        rw [hrow1.cell, Array.getElem?_eq_getElem (by omega)]; rfl
      have q0 : w1.cell? ⟨w.heap.size, k * 3, none⟩ = some (cs[k * 3]?.getD undef) := q 0 (by omega)
      have q1 := q 1 (by omega)
      have q2 := q 2 (by omega)
      have f0 := hrow1.free (k * 3)
      have f1 := hrow1.free (k * 3 + 1)
      have f2 := hrow1.free (k * 3 + 2)
      clear q
      have HR := Lib.hid hrow1
      clear hrow1 hrow c0 c1 c2
      go_wp2_with fail
      go_roundw
      case rel => exact ⟨k + 1, _, by omega, by go_num, ((HR.out.set _ _).set _ _).set _ _, Lib.hid (by simp [hcs.out]), Lib.hid (hlaid.out.more3 hlt hsz1),
        (((hb.trans (hb1.mono hb.size)).setCell (by simp) _).setCell (by simp) _).setCell (by simp) _⟩
      case measure => simp [intOf]; omega
    · obtain rfl : k = vs.length := by omega
      go_wp2
      go_ret
      exact ⟨_, _, rfl, cellz_of_laid hrow hlaid.out (by simp) (by simp [Vl.cells]), hb⟩

set_option maxRecDepth 100000 in
theorem lawsEqVals (A A' : Option Addr) (n cap cap' : Nat) (vs : List Vl) (w : World) (h : Vals w A n vs) (h' : Vals w A' n vs) (hn : n ≤ 1048576) :
    Calls Try.prog 42 #[.slice A n cap, .slice A' n cap'] w fun e w' => e = .returned (.bool true) ∧ Below w.heap.size w w' := by
  obtain rfl : n = vs.length := h.len.symm
  go_enter Try.func42, Try.ntmps42
  go_wp2
  go_loopw [5] (fun i wr => ∃ k : Nat, k ≤ vs.length ∧ i = .int .i64 k ∧ Below w.heap.size w wr) (fun i _ => vs.length - (intOf i).toNat)
  case atStart => exact ⟨0, by omega, rfl, Below.refl _ _⟩
  case round =>
    obtain ⟨k, hk, rfl, hb⟩ := hrel
    by_cases hlt : k < vs.length
    · obtain ⟨b, off, rfl, c0, c1, c2⟩ := (h.below hb).at_ hlt
      obtain ⟨b', off', rfl, d0, d1, d2⟩ := (h'.below hb).at_ hlt
      have i0 : (0 : Int) ≤ k := by omega
      have i1 : (k : Int) < vs.length := by omega
      go_wp2_with fail
      go_region_held3 (fun w' => w'.cell? ⟨b, off + k * 3, none⟩ = some (.int .i64 vs[k].k) ∧ w'.cell? ⟨b, off + k * 3 + 1, none⟩ = some (.int .i64 vs[k].n) ∧ w'.cell? ⟨b, off + k * 3 + 2, none⟩ = some (.string vs[k].s) ∧ w'.cell? ⟨b', off' + k * 3, none⟩ = some (.int .i64 vs[k].k) ∧ w'.cell? ⟨b', off' + k * 3 + 1, none⟩ = some (.int .i64 vs[k].n) ∧ w'.cell? ⟨b', off' + k * 3 + 2, none⟩ = some (.string vs[k].s))
        (first | go_keep | exact keep6v (by assumption) hb1)
        (first | (go_at_call 59; refine (lawsEqVal vs[k].k vs[k].n vs[k].s _).mono ?_; rintro e w1 ⟨rfl, hb1⟩))
      go_wp2
      go_roundw
      case rel => exact ⟨k + 1, by omega, by go_num, hb.drew.trans (hb1.mono hb.size)⟩
      case measure => simp [intOf]; omega
    · go_wp2
      go_ret
      exact ⟨rfl, hb⟩

/-- A slice of values among the arguments. -/
def IsVals (w : World) (a : Option Addr) (n : Nat) (vs : List Vl) : Prop := Vals w a n vs ∧ n ≤ maxLen ∧ ∀ v ∈ vs, v.s.size ≤ maxLen

theorem vals_of_trod {H : Type} {enc : TypeId × Value → H} {W : World} {a : Option Addr} {len cap : Nat} {d : DataW H} {p : List MemPlace}
    (h : DataW.Trod enc Try.prog W 0 (fun _ => true) true 31 (.slice a len cap) d p) : ∃ vs, IsVals W a len vs := by
  obtain ⟨fuel, hf⟩ := h
  obtain ⟨xss, hc, hl, ht⟩ := cellz_of_trod (sz := 3) Try.underlying31 (by kernel_rfl) (by omega) hf
  obtain ⟨vs, rfl, hp⟩ := list_of_cells (f := Vl.cells) (p := fun v => v.s.size ≤ maxLen) xss fun c hc => by
    obtain ⟨n, y, hy⟩ := ht c hc
    obtain ⟨k, n', s, rfl, -, -, h5⟩ := val_of_trod Try.underlying74 (by kernel_rfl) ⟨rfl, rfl, rfl⟩ (by kernel_rfl) (by kernel_rfl) (by kernel_rfl) Try.underlying2 Try.underlying2 Try.underlying9 hy
    exact ⟨⟨k, n', s⟩, rfl, h5⟩
  exact ⟨vs, hc, hl, hp⟩
end Go.Proofs.Ytlpfpcnafejkoaa
