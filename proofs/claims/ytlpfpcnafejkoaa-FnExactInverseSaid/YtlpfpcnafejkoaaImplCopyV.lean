/-
  Copies of values that the program makes.
-/
import Derived.Test.YtlpfpcnafejkoaaOwnCopyV
import Derived.Test.YtlpfpcnafejkoaaOwnEntR
import Derived.Lib.SliceRun
namespace Go.Proofs.Ytlpfpcnafejkoaa
open Go.RowKit
set_option linter.unusedVariables false
set_option linter.unusedSimpArgs false

set_option maxRecDepth 100000 in
set_option maxHeartbeats 1000000 in
theorem implCloneVals (A : Option Addr) (n c : Nat) (xs : List Vl) (ok : Nat → Prop) (w : World) (h : Sl VlR 3 ok w A n xs) (hl : n ≤ 1073741824) :
    Calls Try.prog 29 #[.slice A n c] w fun e w' => ∃ v', e = .returned v' ∧ OwnK w' w.heap.size v' xs ∧ Below w.heap.size w w' := by
  obtain ⟨i0, hi, hz0, hz1, hz2⟩ := info_parts infoValC
  have H1 := Lib.hid hi
  have H2 := Lib.hid hz0
  have H3 := Lib.hid hz1
  have H4 := Lib.hid hz2
  clear hi hz0 hz1 hz2
  have HO0 := Lib.hid (OwnG.lit (T := 57) (sz := 3) (f := Vl.cells) w (Nat.le_refl w.heap.size))
  have hb0 := (Below.refl w.heap.size w).alloc (Nat.le_refl _) (.cells #[] 57)
  have h0 := h.below VlR.stays hb0
  have q22 : ∀ (w : World) (a : Option Addr) (n c n' c' : Nat), (binOp .eql 40 (.slice a n c) (.slice none n' c')).run Try.prog w = .ok (.bool a.isNone) w := fun w a n c n' c' => Lib.run_eql_slice_nil w _ _ a n c n' c' Try.underlying40
  obtain rfl : xs.length = n := h.1
  cases A with
  | none =>
    have hn : xs.length = 0 := by
      rcases Nat.eq_zero_or_pos xs.length with h | h
      · exact h
      · obtain ⟨b, off, e, -⟩ := h0.2 h
        cases e
    obtain rfl : xs = [] := List.length_eq_zero_iff.1 hn
    simp only [List.length_nil] at *
    go_enter Try.func29, Try.ntmps29
    go_wp2_with fail
    go_ret
    exact ⟨_, rfl, OwnG.nil _ _, Below.refl _ _⟩
  | some ad =>
    have HX := Lib.hid (Sl.flat_cells (f := Vl.cells) (sz := 3) (by decide) (fun _ => rfl) h0)
    clear h0
    go_enter Try.func29, Try.ntmps29
    go_wp2_with (at_builtin; refine wpList_append_own _ rfl _ _ 40 rfl w.heap.size 57 i0 (.agg #[.int .i64 0, .int .i64 0, .string ⟨#[]⟩]) 3 32 Try.underlying40 H1.out H2.out H3.out H4.out rfl (by decide) _ _ _ rfl HO0.out ad xs.length c ((xs.map Vl.cells).flatten) rfl ?c0 ?c1 ?c2 ?c3 ?c4 ?c5 ?_)
    case c0 => exact vl_flat xs
    case c1 => exact HX.out
    case c2 => exact vl_one xs
    case c3 => unfold maxLen; simp; omega
    case c4 => simp; omega
    case c5 => simp
    intro v9 w9 hown9 hgrow9 _
    go_wp2_with fail
    go_ret
    refine ⟨_, rfl, ?_, ?_⟩
    · unfold OwnK OwnG; simpa using hown9
    · exact ((Below.refl w.heap.size w).alloc (Nat.le_refl _) _).grown hgrow9 (by simp) (by intro k hk; simp [Value.ownBlock] at hk; omega)

end Go.Proofs.Ytlpfpcnafejkoaa
