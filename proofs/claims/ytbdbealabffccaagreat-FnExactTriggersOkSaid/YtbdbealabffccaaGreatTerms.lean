/-
  Terms: whether all are right, in the program.
-/
import Derived.Test.YtbdbealabffccaaGreatExprOk2
import Derived.Test.YtbdbealabffccaaGreatTableImpl
namespace Go.Proofs.YtbdbealabffccaaGreat
open Go.RowKit Go.Maps
set_option linter.unusedVariables false
set_option linter.unusedSimpArgs false

def termE (c : Int) (y : Te) : Bool := exprB y.expr c
def termsB (c : Int) (l : List Te) : Bool := l.all (termE c)
theorem termsB_take {c : Int} {l : List Te} {k : Nat} (h : k < l.length) : termsB c (l.take (k + 1)) = (termsB c (l.take k) && exprB l[k].expr c) := by
  unfold termsB
  rw [List.take_succ_eq_append_getElem h, List.all_append]; simp [termE]
theorem termsB_no {c : Int} {l : List Te} {k : Nat} (h : k < l.length) (hf : exprB l[k].expr c = false) : termsB c l = false := by
  unfold termsB
  rw [List.all_eq_false]
  exact ⟨l[k], List.getElem_mem h, by simp [termE, hf]⟩

set_option maxRecDepth 100000 in
set_option maxHeartbeats 1000000 in
theorem implTermsOk (A : Option Addr) (n c : Nat) (l : List Te) (cols : Int) (ok : Nat → Prop) (w : World) (h : Sl TeR 1 ok w A n l) (hn : n ≤ 1048576) (hen : ∀ y ∈ l, y.expr.length ≤ maxLen) :
    Calls Tryz.prog 63 #[.slice A n c, .int .i64 cols] w fun e w' => e = .returned (.bool (termsB cols l)) ∧ Below w.heap.size w w' := by
  obtain rfl : l.length = n := h.1
  have HEN := Lib.hid hen
  clear hen
  go_enter Tryz.func63, Tryz.ntmps63
  go_wp2_with fail
  go_loopw [9] (fun iv wr => ∃ k : Nat, k ≤ l.length ∧ iv = .int .i64 k ∧ Hid (termsB cols (l.take k) = true) ∧ Below w.heap.size w wr) (fun iv _ => l.length - (intOf iv).toNat)
  case atStart => exact ⟨0, by omega, rfl, Lib.hid (by simp [termsB]), Below.refl _ _⟩
  case round =>
    obtain ⟨k, hk, rfl, hall, hb⟩ := hrel
    by_cases hlt : k < l.length
    · obtain ⟨bt, ot, AE, nE, cE, -, rfl, u0, hx, -⟩ := TeR.at_ (h.below TeR.stays hb) hlt
      obtain rfl : l[k].expr.length = nE := hx.1
      have a0 : (0 : Int) ≤ k := by omega
      have a1 : (k : Int) < l.length := by omega
      have hbx := (Below.refl wr.heap.size wr).alloc (Nat.le_refl _) (.cells #[.slice AE l[k].expr.length cE] 109)
      have hba := hb.trans (hbx.mono hb.size)
      have rx := Row.new wr 109 #[.slice AE l[k].expr.length cE]
      have v0 : (wr.alloc (.cells #[.slice AE l[k].expr.length cE] 109)).cell? ⟨wr.heap.size, 0, none⟩ = some (.slice AE l[k].expr.length cE) := by rw [rx.cell]; rfl
      have HXE := Lib.hid (implExprOk AE l[k].expr.length cE l[k].expr cols (wr.alloc (.cells #[.slice AE l[k].expr.length cE] 109)) (Sl.cellz (fun _ => rfl) (hx.below TkR.stays hbx)) (HEN.out _ (List.getElem_mem hlt)))
      have HST := Lib.hid (termsB_take (c := cols) hlt)
      have HNO := Lib.hid (show exprB l[k].expr cols = false → termsB cols l = false from fun hf => termsB_no hlt hf)
      clear hx rx
      go_wp2_with fail
      refine HXE.out.mono ?_
      rintro e w3 ⟨rfl, hq3⟩
      cases he : exprB l[k].expr cols
      · have HF := Lib.hid (HNO.out he)
        clear he
        go_wp2_with fail
        go_ret
        exact ⟨retB HF.out.symm, hba.trans (hq3.mono hba.size)⟩
      · have HA := Lib.hid (show termsB cols (l.take (k + 1)) = true by rw [HST.out, hall.out, he]; rfl)
        clear he
        go_wp2_with fail
        go_roundw
        case rel => exact ⟨k + 1, by omega, by go_num, HA, hba.trans (hq3.mono hba.size)⟩
        case measure => simp [intOf]; omega
    · obtain rfl : k = l.length := by omega
      have h1 := hall.out
      rw [List.take_of_length_le (Nat.le_refl _)] at h1
      have HF := Lib.hid h1
      clear hall h1
      go_wp2_with fail
      go_ret
      exact ⟨retB HF.out.symm, hb⟩
end Go.Proofs.YtbdbealabffccaaGreat
