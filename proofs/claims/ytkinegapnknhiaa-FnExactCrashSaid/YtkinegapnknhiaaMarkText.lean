/-
  The text that a mark writes: the letter m and a number's digits.
-/
import Derived.Test.YtkinegapnknhiaaMarks
import Derived.Laws.IdiomStrings
namespace Go.Proofs.Ytkinegapnknhiaa
open Go.RowKit
set_option linter.unusedVariables false
set_option linter.unusedSimpArgs false

def digB (k : Nat) : ByteArray := ⟨#[UInt8.ofNat (48 + k % 10)]⟩
def mtFin : Nat → Nat → ByteArray → ByteArray
  | 0, _, out => ⟨#[109]⟩ ++ out
  | f + 1, k, out => if k = 0 then ⟨#[109]⟩ ++ out else mtFin f (k / 10) (digB k ++ out)
def mtx (k : Nat) : ByteArray := if k = 0 then ⟨#[109, 48]⟩ else mtFin k k ⟨#[]⟩
theorem mtFin_zero (f : Nat) (out : ByteArray) : mtFin f 0 out = ⟨#[109]⟩ ++ out := by cases f <;> simp [mtFin]
theorem mtFin_step (f k : Nat) (out : ByteArray) (h : 0 < k) : mtFin (f + 1) k out = mtFin f (k / 10) (digB k ++ out) := by
  rw [mtFin, if_neg (by omega)]

theorem digB_run (j : Nat) (w : World) :
    (convert 22 9 (.slice (some ⟨w.heap.size, 0, none⟩) 1 1)).run Try.prog (w.alloc (.cells #[.int .u8 (48 + (j : Int) % 10)] 5)) = .ok (.string (digB j)) (w.alloc (.cells #[.int .u8 (48 + (j : Int) % 10)] 5)) := by
  refine run_convert_bytes_back _ _ _ 5 ⟨w.heap.size, 0, none⟩ 1 [UInt8.ofNat (48 + j % 10)] Try.underlying22 Try.underlying5 Try.underlying9 fun i hi => ?_
  have e : i = 0 := by simpa using hi
  subst e
  have e2 : (UInt8.ofNat (48 + j % 10)).toNat = 48 + j % 10 := by rw [UInt8.toNat_ofNat']; omega
  simp [Addr.add, World.cell?_alloc_mark]
  omega

def MtRel (k : Nat) (w : World) (m o : Value) (wr : World) : Prop := ∃ (f j : Nat) (out : ByteArray), m = .int .i64 j ∧ o = .string out ∧ j ≤ f ∧ out.size + f ≤ k ∧ Hid (mtFin k k ⟨#[]⟩ = mtFin f j out) ∧ Below w.heap.size w wr
theorem digB_size (j : Nat) : (digB j).size = 1 := rfl

set_option maxRecDepth 100000 in
set_option maxHeartbeats 1000000 in
theorem lawsMarkText (k : Nat) (w : World) (hk : k ≤ 1073741824) {x : Int} (hx : x = k) :
    Calls Try.prog 96 #[.int .i64 x] w fun e w' => e = .returned (.string (mtx k)) ∧ Below w.heap.size w w' := by
  subst hx
  by_cases h0 : k = 0
  · subst h0
    go_enter Try.func96, Try.ntmps96
    go_wp2_with fail
    go_ret
    exact ⟨rfl, Below.refl _ _⟩
  have hpos : ¬ ((k : Int) ≤ 0) := by omega
  go_enter Try.func96, Try.ntmps96
  go_wp2_with fail
  go_loopw [0, 3] (MtRel k w) (fun m _ _ => (intOf m).toNat)
  case atStart => exact ⟨k, k, ⟨#[]⟩, rfl, rfl, Nat.le_refl _, by simp [ByteArray.size], Lib.hid rfl, Below.refl _ _⟩
  case round =>
    obtain ⟨f, j, out, rfl, rfl, hj, ho, hm, hb⟩ := hrel
    by_cases hlt : 0 < j
    · obtain ⟨f, rfl⟩ : ∃ g, f = g + 1 := ⟨f - 1, by omega⟩
      have hm2 := hm.out
      rw [mtFin_step _ _ _ hlt] at hm2
      have HM := Lib.hid hm2
      clear hm hm2
      have d0 : (0 : Int) < j := by omega
      have hcv := digB_run j wr
      have hc1 : (digB j).size + out.size ≤ 9223372036854775807 := by rw [digB_size]; omega
      have hc2 : ¬ 9223372036854775807 < (digB j).size + out.size := by omega
      have hba := hb.alloc hb.size (.cells #[.int .u8 (48 + (j : Int) % 10)] 5)
      go_wp2_with fail
      go_roundw
      case rel => exact ⟨f, j / 10, digB j ++ out, by go_num, rfl, by omega, by rw [ByteArray.size_append, digB_size]; omega, HM, hba⟩
      case measure => simp [intOf]; omega
    · have e : j = 0 := by omega
      have hm2 := hm.out
      rw [e, mtFin_zero] at hm2
      have HM := Lib.hid (show mtx k = ⟨#[109]⟩ ++ out by rw [mtx, if_neg h0]; exact hm2)
      have d0 : ¬ ((0 : Int) < j) := by omega
      have hc1 : (⟨#[109]⟩ : ByteArray).size + out.size ≤ 9223372036854775807 := by show 1 + out.size ≤ _; omega
      have hc2 : 1 + out.size ≤ 9223372036854775807 := by omega
      clear hm hm2 e
      go_wp2_with fail
      go_ret
      exact ⟨by rw [HM.out]; rfl, hb⟩
end Go.Proofs.Ytkinegapnknhiaa
