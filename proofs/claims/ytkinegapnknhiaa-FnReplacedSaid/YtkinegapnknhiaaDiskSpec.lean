/-
  Files in the model: lists that are right, what is found, put, cut.
-/
import Derived.Test.YtkinegapnknhiaaDiskNames
import Derived.Test.YtkinegapnknhiaaOwnG
import Derived.Deep.QuietTactic
import Derived.BigQuiet
namespace Go.Proofs.Ytkinegapnknhiaa
open Go.RowKit
set_option linter.unusedVariables false
set_option linter.unusedSimpArgs false

theorem below_dq14 {B : Nat} {w w' : World} (h : Below B w w') (m : Nat) : Below B w (w'.drewN m) := ⟨h.os, h.tape, h.output, h.size, h.block⟩
theorem okN_first {l : List Fz} (h : 0 < l.length) : okN [] l = (nameB l[0].name && okN l[0].name.toList (l.drop 1)) := by
  have e := okN_at (last := []) (k := 0) h
  rw [List.drop_zero] at e
  rw [e]
  cases hn : nameB l[0].name
  · rfl
  · have : decide (([] : List UInt8) < l[0].nm) = true := decide_eq_true (nameB_pos hn)
    rw [this]; rfl

set_option maxRecDepth 100000 in
set_option maxHeartbeats 1000000 in
theorem specFiles14 (A : Option Addr) (n c : Nat) (l : List Fz) (ok : Nat → Prop) (w : World) (h : Sl FzR 2 ok w A n l) (hs : bytesF l ≤ 1073741824) :
    Calls Try.prog 46 #[.slice A n c] w fun e w' => e = .returned (.bool (filesB l)) ∧ Below w.heap.size w w' := by
  obtain rfl : l.length = n := h.1
  by_cases hbig : (60 : Int) < l.length
  · have HF := Lib.hid (filesB_long (l := l) (by omega))
    go_enter Try.func46, Try.ntmps46
    go_wp2
    go_ret
    exact ⟨retB HF.out.symm, Below.refl _ _⟩
  have hbig' : decide ((60 : Int) < l.length) = false := by simpa using hbig
  have HOK := Lib.hid (filesB_okN (l := l) (by omega))
  have HS := Lib.hid hs
  clear hs
  go_enter Try.func46, Try.ntmps46
  go_wp2
  go_loopw [3, 4] (fun u i wr => ∃ (k m : Nat), k ≤ l.length ∧ i = .int .i64 k ∧ u = .int .i64 m ∧ Hid (m = bytesF (l.take k)) ∧ Hid (∀ j (hj : j < l.length), k = j + 1 → okN [] l = okN l[j].name.toList (l.drop k)) ∧ Below w.heap.size w wr) (fun _ i _ => l.length - (intOf i).toNat)
  case atStart => exact ⟨0, 0, by omega, rfl, rfl, Lib.hid rfl, Lib.hid (fun j _ e => by cases e), Below.refl _ _⟩
  case round =>
    obtain ⟨k, m, hk, rfl, rfl, hm, ho, hb⟩ := hrel
    by_cases hlt : k < l.length
    · have hw := h.below FzR.stays hb
      obtain ⟨b, off, -, rfl, q0, q1⟩ := FzR.at_ hw hlt
      have HT := Lib.hid (bytesF_take l k hlt)
      have HTL := Lib.hid (bytesF_take_le l (k + 1))
      have i0 : (0 : Int) ≤ k := by omega
      have i1 : (k : Int) < l.length := by omega
      have m0 : (0 : Int) ≤ (m : Int) + (l[k].data.size : Int) := by omega
      have m1 : (m : Int) + (l[k].data.size : Int) < 4611686018427387904 := by have e1 := hm.out; have e2 := HT.out; have e3 := HTL.out; have e4 := HS.out; omega
      cases hn : nameB l[k].name
      · have HF := Lib.hid (show filesB l = false by
          rw [HOK.out]
          cases k with
          | zero => rw [okN_first hlt, hn]; rfl
          | succ j => rw [ho.out j (by omega) rfl, okN_at hlt, hn]; rfl)
        have HN := Lib.hid hn
        clear hn
        go_wp2_with fail
        go_quiet ((go_at_call 82; exact Calls.quiet_of_same ((specName14 _ _).mono fun _ _ h => ⟨by rw [h.1, HN.out], h.2⟩)))
        go_wp2
        go_ret
        exact ⟨retB HF.out.symm, below_dq14 hb _⟩
      · have HN := Lib.hid hn
        rcases Nat.eq_zero_or_pos k with k0 | kp
        · subst k0
          have HO := Lib.hid (show okN [] l = okN l[0].name.toList (l.drop 1) by rw [okN_first hlt, hn]; rfl)
          clear hn
          simp only [Nat.zero_mul, Nat.add_zero, Int.natCast_zero] at q0 q1 i0 i1 ⊢
          go_wp2_with fail
          go_quiet ((go_at_call 82; exact Calls.quiet_of_same ((specName14 _ _).mono fun _ _ h => ⟨by rw [h.1, HN.out], h.2⟩)))
          go_wp2
          go_roundw
          case rel => exact ⟨1, m + l[0].data.size, by omega, by go_num, by go_num, Lib.hid (by rw [HT.out, hm.out]), Lib.hid (fun j hj e => by obtain rfl : j = 0 := (by omega); exact HO.out), below_dq14 hb _⟩
          case measure => simp [intOf]; omega
        · obtain ⟨j, hj⟩ : ∃ j, k = j + 1 := ⟨k - 1, by omega⟩
          have hjl : j < l.length := by omega
          obtain ⟨b', off', -, e', r0, r1⟩ := FzR.at_ hw hjl
          obtain ⟨rfl, rfl⟩ : b = b' ∧ off = off' := by simpa using e'
          have w1 : (k : Int) - 1 = (j : Int) := by omega
          have w0 : IntKind.i64.wrap ((k : Int) - 1) = (j : Int) := by rw [w1]; exact IntWalk.i64_in _ (by omega)
          have p0 : (0 : Int) < (k : Int) := by omega
          have j0 : (0 : Int) ≤ (j : Int) := by omega
          have j1 : (j : Int) < l.length := by omega
          have HAT := Lib.hid (okN_at (last := l[j].name.toList) hlt)
          have HH := Lib.hid (ho.out j hjl hj)
          have HJ := Lib.hid hj
          clear e' hj
          by_cases hl : l[j].name.toList < l[k].name.toList
          · obtain ⟨x0, x1⟩ := leq_lt hl
            have HO := Lib.hid (show okN [] l = okN l[k].name.toList (l.drop (k + 1)) by
              rw [HH.out, HAT.out, hn]
              have e : decide (l[j].name.toList < l[k].nm) = true := decide_eq_true hl
              rw [e]; rfl)
            clear hn hl
            go_wp2_with fail
            go_quiet ((go_at_call 82; exact Calls.quiet_of_same ((specName14 _ _).mono fun _ _ h => ⟨by rw [h.1, HN.out], h.2⟩)))
            go_wp2
            go_roundw
            case rel => exact ⟨k + 1, m + l[k].data.size, by omega, by go_num, by go_num, Lib.hid (by rw [HT.out, hm.out]), Lib.hid (fun i hi e => by obtain rfl : i = k := (by omega); exact HO.out), below_dq14 hb _⟩
            case measure => simp [intOf]; omega
          · have HF := Lib.hid (show filesB l = false by
              rw [HOK.out, HH.out, HAT.out]
              have e : decide (l[j].name.toList < l[k].nm) = false := decide_eq_false hl
              rw [e]; simp)
            clear hn
            rcases leq_no hl with x0 | ⟨x0, x1⟩
            · clear hl
              go_wp2_with fail
              go_quiet ((go_at_call 82; exact Calls.quiet_of_same ((specName14 _ _).mono fun _ _ h => ⟨by rw [h.1, HN.out], h.2⟩)))
              go_wp2
              go_ret
              exact ⟨retB HF.out.symm, below_dq14 hb _⟩
            · clear hl
              go_wp2_with fail
              go_quiet ((go_at_call 82; exact Calls.quiet_of_same ((specName14 _ _).mono fun _ _ h => ⟨by rw [h.1, HN.out], h.2⟩)))
              go_wp2
              go_ret
              exact ⟨retB HF.out.symm, below_dq14 hb _⟩
    · have e : l.take k = l := List.take_of_length_le (by omega)
      have h1 := hm.out
      rw [e] at h1
      have HA := Lib.hid (show filesB l = decide ((m : Int) ≤ 200000) by
        rw [HOK.out, ← h1]
        have e2 : okN [] l = true := by
          cases k with
          | zero => have : l = [] := List.eq_nil_of_length_eq_zero (by omega); rw [this]; rfl
          | succ j => rw [ho.out j (by omega) rfl, List.drop_eq_nil_of_le (by omega)]; rfl
        rw [e2]; simp; omega)
      clear h1 e hm ho
      go_wp2
      go_ret
      exact ⟨retB HA.out.symm, hb⟩
end Go.Proofs.Ytkinegapnknhiaa
