/-
  Contracts of the drawn laws' own helpers over lists of numbers: whether two are alike, whether one has a number.
-/
import Derived.Test.YtjlolfikaahobaaEq
namespace Go.Proofs.Ytjlolfikaahobaa
open Go.RowKit
set_option linter.unusedVariables false
set_option linter.unusedSimpArgs false

/-- Whether a list has a number. -/
def hasI (l : List Int) (x : Int) : Bool := l.any fun y => y == x
theorem hasI_take (l : List Int) (x : Int) (k : Nat) (h : k < l.length) : hasI (l.take (k + 1)) x = (hasI (l.take k) x || (l[k] == x)) := by
  unfold hasI
  rw [List.take_succ_eq_append_getElem h, List.any_append]; simp
theorem hasI_all (l : List Int) (x : Int) : hasI (l.take l.length) x = hasI l x := by rw [List.take_length]
theorem hasI_mem (l : List Int) (x : Int) : hasI l x = true ↔ x ∈ l := by
  unfold hasI; simp

set_option maxRecDepth 100000 in
set_option maxHeartbeats 1000000 in
theorem lawsSameInts (A A' : Option Addr) (n c c' : Nat) (l : List Int) (ok ok' : Nat → Prop) (w : World) (h : Sl IntR 1 ok w A n l) (h' : Sl IntR 1 ok' w A' n l) (hs : l.length ≤ 1048576) :
    Calls Try.prog 19 #[.slice A n c, .slice A' n c'] w fun e w' => e = .returned (.bool true) ∧ Below w.heap.size w w' := by
  obtain rfl : l.length = n := h.1
  have hn : l.length ≤ 1048576 := by exact hs
  have HS := Lib.hid hs
  clear hs
  go_enter Try.func19, Try.ntmps19
  go_wp2
  go_loopw [5] (fun i wr => ∃ k : Nat, k ≤ l.length ∧ i = .int .i64 k ∧ Below w.heap.size w wr) (fun i _ => l.length - (intOf i).toNat)
  case atStart => exact ⟨0, by omega, rfl, Below.refl _ _⟩
  case round =>
    obtain ⟨k, hk, rfl, hb⟩ := hrel
    by_cases hlt : k < l.length
    · obtain ⟨b, off, -, rfl, q0⟩ := IntR.at_ (h.below IntR.stays hb) hlt
      obtain ⟨b', off', -, rfl, r0⟩ := IntR.at_ (h'.below IntR.stays hb) hlt
      have i0 : (0 : Int) ≤ k := by omega
      have i1 : (k : Int) < l.length := by omega
      go_wp2_with fail
      go_region_held3 (fun w' => w'.cell? ⟨b, off + k, none⟩ = some (.int .i64 l[k]) ∧ w'.cell? ⟨b', off' + k, none⟩ = some (.int .i64 l[k]))
        (go_keep) (fail)
      go_wp2
      go_roundw
      case rel => exact ⟨k + 1, by omega, by go_num, hb.drew⟩
      case measure => simp [intOf]; omega
    · go_wp2
      go_ret
      exact ⟨rfl, hb⟩

set_option maxRecDepth 100000 in
set_option maxHeartbeats 1000000 in
theorem lawsHas (A : Option Addr) (n c : Nat) (l : List Int) (x : Int) (ok : Nat → Prop) (w : World) (h : Sl IntR 1 ok w A n l) (hs : l.length ≤ 1048576) :
    Calls Try.prog 22 #[.slice A n c, .int .i64 x] w fun e w' => e = .returned (.bool (hasI l x)) ∧ Below w.heap.size w w' := by
  obtain rfl : l.length = n := h.1
  go_enter Try.func22, Try.ntmps22
  go_wp2
  go_loopw [5] (fun i wr => ∃ k : Nat, k ≤ l.length ∧ i = .int .i64 k ∧ Hid (hasI (l.take k) x = false) ∧ Below w.heap.size w wr) (fun i _ => l.length - (intOf i).toNat)
  case atStart => exact ⟨0, by omega, rfl, Lib.hid rfl, Below.refl _ _⟩
  case round =>
    obtain ⟨k, hk, rfl, hno, hb⟩ := hrel
    by_cases hlt : k < l.length
    · obtain ⟨b, off, -, rfl, q0⟩ := IntR.at_ (h.below IntR.stays hb) hlt
      have hst := hasI_take l x k hlt
      have hal := hasI_all l x
      rw [hno.out, Bool.false_or] at hst
      have i0 : (0 : Int) ≤ k := by omega
      have i1 : (k : Int) < l.length := by omega
      cases hx : (l[k] == x)
      · rw [hx] at hst
        have HST := Lib.hid hst
        clear hst hal
        go_wp2
        go_roundw
        case rel => exact ⟨k + 1, by omega, by go_num, HST, hb⟩
        case measure => simp [intOf]; omega
      · have hy : hasI l x = true := by
          rw [hasI_mem]
          rw [beq_iff_eq] at hx
          rw [← hx]; exact List.getElem_mem hlt
        have HY := Lib.hid hy
        clear hst hal hy
        go_wp2
        go_ret
        exact ⟨congrArg (fun b => Ending.returned (Value.bool b)) HY.out.symm, hb⟩
    · obtain rfl : k = l.length := by omega
      have hal := hasI_all l x
      rw [hno.out] at hal
      have HY := Lib.hid hal
      clear hal
      go_wp2
      go_ret
      exact ⟨congrArg (fun b => Ending.returned (Value.bool b)) HY.out, hb⟩
end Go.Proofs.Ytjlolfikaahobaa
