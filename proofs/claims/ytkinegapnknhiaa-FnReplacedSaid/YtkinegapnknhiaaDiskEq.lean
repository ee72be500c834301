/-
  Whether two lists of files are one, in the program: the library's Equal.
-/
import Derived.Test.YtkinegapnknhiaaDiskSpec2
namespace Go.Proofs.Ytkinegapnknhiaa
open Go.RowKit
set_option linter.unusedVariables false
set_option linter.unusedSimpArgs false

set_option maxRecDepth 100000 in
theorem implSameFiles (A B : Option Addr) (n c m d : Nat) (l k : List Fz) (ok ok' : Nat → Prop) (w : World) (h : Sl FzR 2 ok w A n l) (h' : Sl FzR 2 ok' w B m k) (hn : n ≤ 1048576) (hm : m ≤ 1048576) :
    Calls Try.prog 44 #[.slice A n c, .slice B m d] w fun e w' => e = .returned (.bool (sameF l k)) ∧ Below w.heap.size w w' := by
  obtain rfl : l.length = n := h.1
  obtain rfl : k.length = m := h'.1
  by_cases hne : (l.length : Int) = k.length
  · have hl : l.length = k.length := by omega
    have HT := Lib.hid (sameF_take hl)
    go_enter Try.func44, Try.ntmps44
    go_wp2
    go_loopw [13] (fun i wr => ∃ j : Nat, j ≤ l.length ∧ i = .int .i64 j ∧ Hid (sameF l k = sameF (l.drop j) (k.drop j)) ∧ Below w.heap.size w wr) (fun i _ => l.length - (intOf i).toNat)
    case atStart => exact ⟨0, by omega, rfl, Lib.hid rfl, Below.refl _ _⟩
    case round =>
      obtain ⟨j, hj, rfl, hs, hb⟩ := hrel
      by_cases hlt : j < l.length
      · have hlt' : j < k.length := by omega
        obtain ⟨b, off, -, rfl, q0, q1⟩ := FzR.at_ (h.below FzR.stays hb) hlt
        obtain ⟨b', off', -, rfl, r0, r1⟩ := FzR.at_ (h'.below FzR.stays hb) hlt'
        have i0 : (0 : Int) ≤ j := by omega
        have i1 : (j : Int) < l.length := by omega
        have i2 : (j : Int) < k.length := by omega
        have HS := Lib.hid (hs.out.trans (HT.out j hlt hlt hlt'))
        cases e0 : (l[j].name.toList == k[j].name.toList)
        · have HF := Lib.hid (show sameF l k = false by rw [HS.out]; unfold sameFz; rw [e0]; rfl)
          go_wp2_with fail
          go_quiet (fail)
          go_wp2
          go_ret
          exact ⟨retB HF.out.symm, below_dq14 hb _⟩
        · cases e1 : (l[j].data.toList == k[j].data.toList)
          · have HF := Lib.hid (show sameF l k = false by rw [HS.out]; unfold sameFz; rw [e0, e1]; rfl)
            go_wp2_with fail
            go_quiet (fail)
            go_wp2
            go_ret
            exact ⟨retB HF.out.symm, below_dq14 hb _⟩
          · have HG := Lib.hid (show sameF l k = sameF (l.drop (j + 1)) (k.drop (j + 1)) by rw [HS.out]; unfold sameFz; rw [e0, e1]; rfl)
            go_wp2_with fail
            go_quiet (fail)
            go_wp2
            go_roundw
            case rel => exact ⟨j + 1, by omega, by go_num, HG, below_dq14 hb _⟩
            case measure => simp [intOf]; omega
      · have HG := Lib.hid (show sameF l k = true by rw [hs.out, List.drop_eq_nil_of_le (by omega), List.drop_eq_nil_of_le (by omega)]; rfl)
        clear hs
        go_wp2
        go_ret
        exact ⟨retB HG.out.symm, hb⟩
  · have HF := Lib.hid (sameF_len (l := l) (m := k) (by omega))
    have hne' : ((l.length : Int) == k.length) = false := by simpa using hne
    go_enter Try.func44, Try.ntmps44
    go_wp2
    go_ret
    exact ⟨retB HF.out.symm, Below.refl _ _⟩
end Go.Proofs.Ytkinegapnknhiaa
