/-
  Several texts in one: what the proof leans on, part 2.
-/
import Derived.Test.YtciaidjmehelpaaGreatQa
import Derived.Test.YtciaidjmehelpaaGreatMa
import Derived.Test.YtciaidjmehelpaaGreatMb
import Derived.Test.YtciaidjmehelpaaGreatMc
import Derived.Test.YtciaidjmehelpaaGreatMd
import Derived.Test.YtciaidjmehelpaaGreatMe
import Derived.Test.YtciaidjmehelpaaGreatRa
import Derived.Test.YtciaidjmehelpaaGreatRb
import Derived.Test.YtciaidjmehelpaaGreatRc
import Derived.Test.YtciaidjmehelpaaGreatRd
set_option linter.unusedVariables false
set_option linter.unusedSimpArgs false
namespace Go.Proofs.YtciaidjmehelpaaGreat
open Go.RowKit
theorem ent_len {x : En} (h : x.sz ≤ 1048576) : x.key.length ≤ 1048576 := by
 have h4 : x.sz = szL (fun v : Vl => v.s.size) x.key := rfl
 have h2 : x.key.length ≤ szL (fun v : Vl => v.s.size) x.key := by unfold szL; omega
 omega
theorem ents_len {l : List En} (h : szL En.sz l ≤ 1048576) : ∀ x ∈ l, x.key.length ≤ 1048576 := fun x hx => ent_len (Nat.le_trans (szL_mem En.sz l x hx) h)
set_option maxRecDepth 100000 in
set_option maxHeartbeats 1000000 in
theorem implEqVals (A A' : Option Addr) (n c n' c' : Nat) (a b : List Vl) (ok ok' : Nat → Prop) (w : World) (h : Sl VlR 3 ok w A n a) (h' : Sl VlR 3 ok' w A' n' b) (hn : n ≤ 1048576) (hn' : n' ≤ 1048576) :
  Calls Tryz.prog 115 #[.slice A n c, .slice A' n' c'] w fun e w' => e = .returned (.bool (eqlL a b)) ∧ Below w.heap.size w w' := by
 obtain rfl : a.length = n := h.1
 obtain rfl : b.length = n' := h'.1
 by_cases hl : (a.length : Int) = b.length
 case neg =>
  have hl' : ((a.length : Int) == b.length) = false := by simpa using hl
  have HF := Lib.hid (show eqlL a b = false by unfold eqlL; rw [decide_eq_false (by omega)]; rfl)
  clear hl
  go_enter Tryz.func115, Tryz.ntmps115
  go_wp2_with fail
  go_ret
  exact ⟨retB HF.out.symm, Below.refl _ _⟩
 have hl' : ((a.length : Int) == b.length) = true := by simpa using hl
 have HL := Lib.hid (show a.length = b.length by omega)
 clear hl
 go_enter Tryz.func115, Tryz.ntmps115
 go_wp2_with fail
 clear hl'
 go_loopw [13] (fun i wr => ∃ k : Nat, k ≤ a.length ∧ i = .int .i64 k ∧ Hid (((a.zip b).take k).all eqlP = true) ∧ Below w.heap.size w wr) (fun i _ => a.length - (intOf i).toNat)
 case atStart => exact ⟨0, by omega, rfl, Lib.hid (by simp), Below.refl _ _⟩
 case round =>
  obtain ⟨k, hk, rfl, hall, hb⟩ := hrel
  by_cases hlt : k < a.length
  ·have hlt' : k < b.length := by have := HL.out; omega
   obtain ⟨b1, o1, -, rfl, q0, q1, q2⟩ := VlR.at_ (h.below VlR.stays hb) hlt
   obtain ⟨b2, o2, -, rfl, y0, y1, y2⟩ := VlR.at_ (h'.below VlR.stays hb) hlt'
   have i0 : (0 : Int) ≤ k := by omega
   have i1 : (k : Int) < a.length := by omega
   have i2 : (k : Int) < b.length := by omega
   have hst := zip_take a b k hlt hlt' eqlP
   rw [hall.out, Bool.true_and] at hst
   have hno := fun hf => zip_no (f := eqlP) hlt hlt' hf
   generalize a[k] = x at *
   generalize b[k] = y at *
   cases hs : eqlP (x, y)
   ·have HF := Lib.hid (show eqlL a b = false by unfold eqlL; rw [hno hs]; simp)
    have HS := Lib.hid hs
    clear hno hst hall hs
    cases e1 : (x.k == y.k)
    ·clear HS
     go_wp2_with fail
     go_quiet (fail)
     go_wp2_with fail
     go_ret
     exact ⟨retB HF.out.symm, below_dN hb _⟩
    ·cases e2 : (x.n == y.n)
     ·clear HS
      go_wp2_with fail
      go_quiet (fail)
      go_wp2_with fail
      go_ret
      exact ⟨retB HF.out.symm, below_dN hb _⟩
     ·have e3 : (x.s.toList == y.s.toList) = false := by have := HS.out; simp only [eqlP, eqlV, e1, e2, Bool.true_and] at this; exact this
      clear HS
      go_wp2_with fail
      go_quiet (fail)
      go_wp2_with fail
      go_ret
      exact ⟨retB HF.out.symm, below_dN hb _⟩
   ·rw [hs] at hst
    have HA := Lib.hid hst
    simp only [eqlP, eqlV, Bool.and_eq_true] at hs
    obtain ⟨e1, e2, e3⟩ := hs
    clear hno hst hall
    go_wp2_with fail
    go_quiet (fail)
    go_wp2_with fail
    go_roundw
    case rel => exact ⟨k + 1, by omega, by go_num, HA, below_dN hb _⟩
    case measure => simp [intOf]; omega
  ·have e : (a.zip b).take k = a.zip b := List.take_of_length_le (by rw [List.length_zip]; have := HL.out; omega)
   have h1 := hall.out
   rw [e] at h1
   have HA := Lib.hid (show eqlL a b = true by unfold eqlL; rw [decide_eq_true HL.out, h1]; rfl)
   clear e h1 hall
   go_wp2_with fail
   go_ret
   exact ⟨retB HA.out.symm, hb⟩
def hasI (l : List Int) (x : Int) : Bool := l.any fun y => y == x
theorem hasI_take (l : List Int) (x : Int) (k : Nat) (h : k < l.length) : hasI (l.take (k + 1)) x = (hasI (l.take k) x || (l[k] == x)) := by
 unfold hasI
 rw [List.take_succ_eq_append_getElem h, List.any_append]; simp
theorem hasI_all (l : List Int) (x : Int) : hasI (l.take l.length) x = hasI l x := by rw [List.take_length]
theorem hasI_mem (l : List Int) (x : Int) : hasI l x = true ↔ x ∈ l := by
 unfold hasI; simp
set_option maxRecDepth 100000 in
set_option maxHeartbeats 1000000 in
theorem lawsHas (A : Option Addr) (n c : Nat) (l : List Int) (x : Int) (ok : Nat → Prop) (w : World) (h : Sl IntR 1 ok w A n l) (hs : l.length ≤ 1048576) :
  Calls Tryz.prog 35 #[.slice A n c, .int .i64 x] w fun e w' => e = .returned (.bool (hasI l x)) ∧ Below w.heap.size w w' := by
 obtain rfl : l.length = n := h.1
 go_enter Tryz.func35, Tryz.ntmps35
 go_wp2
 go_loopw [5] (fun i wr => ∃ k : Nat, k ≤ l.length ∧ i = .int .i64 k ∧ Hid (hasI (l.take k) x = false) ∧ Below w.heap.size w wr) (fun i _ => l.length - (intOf i).toNat)
 case atStart => exact ⟨0, by omega, rfl, Lib.hid rfl, Below.refl _ _⟩
 case round =>
  obtain ⟨k, hk, rfl, hno, hb⟩ := hrel
  by_cases hlt : k < l.length
  ·obtain ⟨b, off, -, rfl, q0⟩ := IntR.at_ (h.below IntR.stays hb) hlt
   have hst := hasI_take l x k hlt
   have hal := hasI_all l x
   rw [hno.out, Bool.false_or] at hst
   have i0 : (0 : Int) ≤ k := by omega
   have i1 : (k : Int) < l.length := by omega
   cases hx : (l[k] == x)
   ·rw [hx] at hst
    have HST := Lib.hid hst
    clear hst hal
    go_wp2
    go_roundw
    case rel => exact ⟨k + 1, by omega, by go_num, HST, hb⟩
    case measure => simp [intOf]; omega
   ·have hy : hasI l x = true := by
     rw [hasI_mem]
     rw [beq_iff_eq] at hx
     rw [← hx]; exact List.getElem_mem hlt
    have HY := Lib.hid hy
    clear hst hal hy
    go_wp2
    go_ret
    exact ⟨congrArg (fun b => Ending.returned (Value.bool b)) HY.out.symm, hb⟩
  ·obtain rfl : k = l.length := by omega
   have hal := hasI_all l x
   rw [hno.out] at hal
   have HY := Lib.hid hal
   clear hal
   go_wp2
   go_ret
   exact ⟨congrArg (fun b => Ending.returned (Value.bool b)) HY.out, hb⟩
end Go.Proofs.YtciaidjmehelpaaGreat
