/-
  Files in the model: what is found, whether two lists are one, which ops are of their form.
-/
import Derived.Test.YtkinegapnknhiaaDiskSpec
import Derived.Test.YtkinegapnknhiaaVals
namespace Go.Proofs.Ytkinegapnknhiaa
open Go.RowKit
set_option linter.unusedVariables false
set_option linter.unusedSimpArgs false

/-- Where a file of this name first stands. -/
def AtR (l : List Fz) (s : List UInt8) (r : Int) : Prop := (r = -1 ∧ findF l s = none) ∨ ∃ i : Nat, r = i ∧ ∃ h : i < l.length, findF l s = some l[i].data ∧ l[i].nm = s
theorem findF_at {l : List Fz} {s : List UInt8} {k : Nat} (hk : k < l.length) (h : ∀ x ∈ l.take k, x.nm ≠ s) (he : l[k].nm = s) : findF l s = some l[k].data := by
  have e : l = l.take k ++ l[k] :: l.drop (k + 1) := by rw [← List.drop_eq_getElem_cons hk, List.take_append_drop]
  unfold findF
  rw [show l.find? (fun x => x.nm == s) = some l[k] by
    conv => lhs; rw [e]
    rw [List.find?_append, List.find?_eq_none.2 (fun x hx => by simpa using h x hx), Option.none_or, List.find?_cons]
    simp [he]]
  rfl
theorem specAt14 (A : Option Addr) (n c : Nat) (l : List Fz) (s : ByteArray) (ok : Nat → Prop) (w : World) (h : Sl FzR 2 ok w A n l) (hn : n ≤ 1048576) :
    Calls Try.prog 64 #[.slice A n c, .string s] w fun e w' => (∃ r : Int, e = .returned (.int .i64 r) ∧ AtR l s.toList r) ∧ w' = w := by
  obtain rfl : l.length = n := h.1
  go_enter Try.func64, Try.ntmps64
  go_wp2
  go_loop [5] (fun i => ∃ k : Nat, k ≤ l.length ∧ i = .int .i64 k ∧ Hid (∀ x ∈ l.take k, x.nm ≠ s.toList)) (fun i => l.length - (intOf i).toNat)
  case atStart => exact ⟨0, by omega, rfl, Lib.hid (by simp)⟩
  case round =>
    obtain ⟨k, hk, rfl, hno⟩ := hrel
    by_cases hlt : k < l.length
    · obtain ⟨b, off, -, rfl, q0, q1⟩ := FzR.at_ h hlt
      have i0 : (0 : Int) ≤ k := by omega
      have i1 : (k : Int) < l.length := by omega
      by_cases he : l[k].name.toList = s.toList
      · have HA := Lib.hid (show AtR l s.toList k from .inr ⟨k, rfl, hlt, findF_at hlt hno.out he, he⟩)
        have he' : (l[k].name.toList == s.toList) = true := by simpa using he
        clear he
        go_wp2
        go_ret
        exact ⟨⟨_, rfl, HA.out⟩, rfl⟩
      · have HN := Lib.hid (show ∀ x ∈ l.take (k + 1), x.nm ≠ s.toList by
          intro x hx
          rw [List.take_succ_eq_append_getElem hlt] at hx
          rcases List.mem_append.1 hx with hx | hx
          · exact hno.out x hx
          · obtain rfl := List.mem_singleton.1 hx; exact he)
        have he' : (l[k].name.toList == s.toList) = false := by simpa using he
        clear he
        go_wp2
        go_round
        case rel => exact ⟨k + 1, by omega, by go_num, HN⟩
        case measure => simp [intOf]; omega
    · have e : l.take k = l := List.take_of_length_le (by omega)
      have h1 := hno.out
      rw [e] at h1
      have HA := Lib.hid (show AtR l s.toList (-1) from .inl ⟨rfl, findF_none h1⟩)
      clear h1 e hno
      go_wp2
      go_ret
      exact ⟨⟨_, rfl, HA.out⟩, rfl⟩

set_option maxRecDepth 100000 in
theorem specSame14 (A B : Option Addr) (n c m d : Nat) (l k : List Fz) (ok ok' : Nat → Prop) (w : World) (h : Sl FzR 2 ok w A n l) (h' : Sl FzR 2 ok' w B m k) (hn : n ≤ 1048576) (hm : m ≤ 1048576) :
    Calls Try.prog 49 #[.slice A n c, .slice B m d] w fun e w' => e = .returned (.bool (sameF l k)) ∧ Below w.heap.size w w' := by
  obtain rfl : l.length = n := h.1
  obtain rfl : k.length = m := h'.1
  by_cases hne : (l.length : Int) = k.length
  · have hl : l.length = k.length := by omega
    have HT := Lib.hid (sameF_take hl)
    go_enter Try.func49, Try.ntmps49
    go_wp2
    go_loopw [5] (fun i wr => ∃ j : Nat, j ≤ l.length ∧ i = .int .i64 j ∧ Hid (sameF l k = sameF (l.drop j) (k.drop j)) ∧ Below w.heap.size w wr) (fun i _ => l.length - (intOf i).toNat)
    case atStart => exact ⟨0, by omega, rfl, Lib.hid rfl, Below.refl _ _⟩
    case round =>
      obtain ⟨j, hj, rfl, hs, hb⟩ := hrel
      by_cases hlt : j < l.length
      · have hlt' : j < k.length := by omega
        obtain ⟨b, off, -, rfl, q0, q1⟩ := FzR.at_ (h.below FzR.stays hb) hlt
        obtain ⟨b', off', -, rfl, r0, r1⟩ := FzR.at_ (h'.below FzR.stays hb) hlt'
        have i0 : (0 : Int) ≤ j := by omega
        have i1 : (j : Int) < l.length := by omega
        have i2 : (j : Int) < k.length := by omega
        have HS := Lib.hid (hs.out.trans (HT.out j hlt hlt hlt'))
        cases e0 : (l[j].name.toList == k[j].name.toList)
        · have HF := Lib.hid (show sameF l k = false by rw [HS.out]; unfold sameFz; rw [e0]; rfl)
          go_wp2_with fail
          go_quiet (fail)
          go_wp2
          go_ret
          exact ⟨retB HF.out.symm, below_dq14 hb _⟩
        · cases e1 : (l[j].data.toList == k[j].data.toList)
          · have HF := Lib.hid (show sameF l k = false by rw [HS.out]; unfold sameFz; rw [e0, e1]; rfl)
            go_wp2_with fail
            go_quiet (fail)
            go_wp2
            go_ret
            exact ⟨retB HF.out.symm, below_dq14 hb _⟩
          · have HG := Lib.hid (show sameF l k = sameF (l.drop (j + 1)) (k.drop (j + 1)) by rw [HS.out]; unfold sameFz; rw [e0, e1]; rfl)
            go_wp2_with fail
            go_quiet (fail)
            go_wp2
            go_roundw
            case rel => exact ⟨j + 1, by omega, by go_num, HG, below_dq14 hb _⟩
            case measure => simp [intOf]; omega
      · have HG := Lib.hid (show sameF l k = true by rw [hs.out, List.drop_eq_nil_of_le (by omega), List.drop_eq_nil_of_le (by omega)]; rfl)
        clear hs
        go_wp2
        go_ret
        exact ⟨retB HG.out.symm, hb⟩
  · have HF := Lib.hid (sameF_len (l := l) (m := k) (by omega))
    have hne' : ((l.length : Int) == k.length) = false := by simpa using hne
    go_enter Try.func49, Try.ntmps49
    go_wp2
    go_ret
    exact ⟨retB HF.out.symm, Below.refl _ _⟩
end Go.Proofs.Ytkinegapnknhiaa
