/-
  Contracts on the value of a part, whatever it is; rows that may be seen.
-/
import Derived.Test.YtlpfpcnafejkoaaEval
namespace Go.Proofs.Ytlpfpcnafejkoaa
open Go.RowKit

theorem Vals.six {w : World} {B : Option Addr} {x y : Vl} (h : Vals w B 2 [x, y]) : ∃ b off, B = some ⟨b, off, none⟩ ∧ Six w b off x y := by
  obtain ⟨b, off, rfl, c0, c1, c2⟩ := h.at_ (i := 0) (by simp)
  obtain ⟨b', off', e, d0, d1, d2⟩ := h.at_ (i := 1) (by simp)
  cases e
  exact ⟨b, off, rfl, by simpa using c0, by simpa using c1, by simpa using c2, by simpa using d0, by simpa using d1, by simpa using d2⟩
theorem Vals.tri {w : World} {B : Option Addr} {x : Vl} (h : Vals w B 1 [x]) : ∃ b off, B = some ⟨b, off, none⟩ ∧ Tri w b off x := by
  obtain ⟨b, off, rfl, c0, c1, c2⟩ := h.at_ (i := 0) (by simp)
  exact ⟨b, off, rfl, by simpa using c0, by simpa using c1, by simpa using c2⟩

set_option maxRecDepth 100000 in
theorem implSeenOk (A : Option Addr) (n cap : Nat) (row : List Vl) (w : World) (h : Vals w A n row) (hn : n ≤ maxLen) :
    Calls Try.prog 55 #[.slice A n cap] w fun e w' => e = .returned (.bool (rowB row)) ∧ Below w.heap.size w w' := by
  unfold maxLen at hn
  obtain rfl : n = row.length := h.len.symm
  by_cases h16 : (16 : Int) < row.length
  · go_enter Try.func55, Try.ntmps55
    go_wp2
    go_ret
    exact ⟨retB (by simp [rowB]; omega), Below.refl _ _⟩
  have h16' : decide ((16 : Int) < row.length) = false := by simpa using h16
  go_enter Try.func55, Try.ntmps55
  go_wp2
  go_loopw [10] (fun i wr => ∃ k : Nat, k ≤ row.length ∧ i = .int .i64 k ∧ Hid ((row.take k).all Vl.ok = true) ∧ Below w.heap.size w wr) (fun i _ => row.length - (intOf i).toNat)
  case atStart => exact ⟨0, by omega, rfl, Lib.hid (by simp), Below.refl _ _⟩
  case round =>
    obtain ⟨k, hk, rfl, hall, hb⟩ := hrel
    by_cases hlt : k < row.length
    · obtain ⟨b, off, rfl, c0, c1, c2⟩ := (h.below hb).at_ hlt
      cases hv : row[k].ok
      · have HV := Lib.hid hv
        have HF := Lib.hid (show rowB row = false by
          have : row.all Vl.ok = false := List.all_eq_false.2 ⟨row[k], List.getElem_mem hlt, by simp [hv]⟩
          simp [rowB, this])
        clear hv
        go_wp2_with fail
        refine (implValOk row[k].k row[k].n row[k].s _).mono ?_
        rintro e w1 ⟨rfl, hb1⟩
        rw [show valOkB row[k].k row[k].n row[k].s = false from HV.out]
        go_wp2_with fail
        go_ret
        exact ⟨retB (by rw [HF.out]), hb.trans (((((Below.refl wr.heap.size wr).alloc (Nat.le_refl _) _).trans (hb1.mono (by simp))).mono hb.size))⟩
      · have HV := Lib.hid hv
        have hall2 := Lib.hid (show (row.take (k + 1)).all Vl.ok = true by
          rw [List.take_succ_eq_append_getElem hlt, List.all_append, hall.out]
          simp [hv])
        clear hv hall
        go_wp2_with fail
        refine (implValOk row[k].k row[k].n row[k].s _).mono ?_
        rintro e w1 ⟨rfl, hb1⟩
        rw [show valOkB row[k].k row[k].n row[k].s = true from HV.out]
        go_wp2_with fail
        go_roundw
        case rel => exact ⟨k + 1, by omega, by go_num, hall2, hb.trans (((((Below.refl wr.heap.size wr).alloc (Nat.le_refl _) _).trans (hb1.mono (by simp))).mono hb.size))⟩
        case measure => simp [intOf]; omega
    · have e : row.take k = row := List.take_of_length_le (by omega)
      have ha := hall.out
      rw [e] at ha
      have HA := Lib.hid ha
      clear hall ha e
      go_wp2
      go_ret
      exact ⟨retB (by simp [rowB, HA.out]; omega), hb⟩

set_option maxRecDepth 100000 in
theorem specVals (A : Option Addr) (n cap : Nat) (row : List Vl) (w : World) (h : Vals w A n row) (hn : n ≤ maxLen) :
    Calls Try.prog 48 #[.slice A n cap] w fun e w' => e = .returned (.bool (rowB row)) ∧ Below w.heap.size w w' := by
  unfold maxLen at hn
  obtain rfl : n = row.length := h.len.symm
  go_enter Try.func48, Try.ntmps48
  go_wp2
  go_loopw [3] (fun i wr => ∃ k : Nat, k ≤ row.length ∧ i = .int .i64 k ∧ Hid ((row.take k).all Vl.ok = true) ∧ Below w.heap.size w wr) (fun i _ => row.length - (intOf i).toNat)
  case atStart => exact ⟨0, by omega, rfl, Lib.hid (by simp), Below.refl _ _⟩
  case round =>
    obtain ⟨k, hk, rfl, hall, hb⟩ := hrel
    by_cases hlt : k < row.length
    · obtain ⟨b, off, rfl, c0, c1, c2⟩ := (h.below hb).at_ hlt
      cases hv : row[k].ok
      · have HV := Lib.hid hv
        have HF := Lib.hid (show rowB row = false by
          have : row.all Vl.ok = false := List.all_eq_false.2 ⟨row[k], List.getElem_mem hlt, by simp [hv]⟩
          simp [rowB, this])
        clear hv
        go_wp2_with fail
        refine (specValOk row[k].k row[k].n row[k].s _).mono ?_
        rintro e w1 ⟨rfl, hb1⟩
        rw [show valOkB row[k].k row[k].n row[k].s = false from HV.out]
        go_wp2_with fail
        go_ret
        exact ⟨retB (by rw [HF.out]), hb.trans (hb1.mono hb.size)⟩
      · have HV := Lib.hid hv
        have hall2 := Lib.hid (show (row.take (k + 1)).all Vl.ok = true by
          rw [List.take_succ_eq_append_getElem hlt, List.all_append, hall.out]
          simp [hv])
        clear hv hall
        go_wp2_with fail
        refine (specValOk row[k].k row[k].n row[k].s _).mono ?_
        rintro e w1 ⟨rfl, hb1⟩
        rw [show valOkB row[k].k row[k].n row[k].s = true from HV.out]
        go_wp2_with fail
        go_roundw
        case rel => exact ⟨k + 1, by omega, by go_num, hall2, hb.trans (hb1.mono hb.size)⟩
        case measure => simp [intOf]; omega
    · have e : row.take k = row := List.take_of_length_le (by omega)
      have ha := hall.out
      rw [e] at ha
      have HA := Lib.hid ha
      clear hall ha e
      go_wp2
      go_ret
      exact ⟨retB (by simp [rowB, HA.out]; omega), hb⟩
end Go.Proofs.Ytlpfpcnafejkoaa
