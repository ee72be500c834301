/-
  Not of a both is an either of nots; nots of nots are what they were; a both, and an either, is the same the other way round (law FnLogic, for every input).
-/
import Derived.Test.YtimgaipikgpgkaaBase
import Derived.Test.YtimgaipikgpgkaaLogic
import Derived.Test.YtimgaipikgpgkaaDraws
namespace Go.Proofs.Ytimgaipikgpgkaa.fnLogic
open Go.ChangeShapes Go.WideShapes Go.ChangeAt Go.RowKit Go.Joins
open Go.ChangeMaps (open_string shut_string)
set_option linter.unusedVariables false

theorem and3_comm (a b : Int) : and3 b a = and3 a b := by
  unfold and3; cases tru a <;> cases tru b <;> simp <;> split <;> split <;> (try split) <;> (try split) <;> omega
theorem or3_comm (a b : Int) : or3 b a = or3 a b := by
  unfold or3; cases tru a <;> cases tru b <;> simp <;> split <;> split <;> (try split) <;> (try split) <;> omega
theorem tri0 (a : Int) : a = 0 ∨ a = 1 ∨ a = 2 ∨ tru a = false := by
  rcases tri a with h | h | h | h | h
  · exact .inl h
  · exact .inr (.inl h)
  · exact .inr (.inr (.inl h))
  · exact .inr (.inr (.inr (tru_lo h.1)))
  · exact .inr (.inr (.inr (tru_hi h.1)))
theorem facts (a b : Int) (h : 0 ≤ and3 a b) : not3 (and3 a b) = or3 (not3 a) (not3 b) ∧ and3 a a = a ∧ or3 a (and3 a b) = a := by
  rcases tri0 a with rfl | rfl | rfl | ha
  case inr.inr.inr => rw [and3_a ha] at h; omega
  all_goals
    rcases tri0 b with rfl | rfl | rfl | hb
    case inr.inr.inr => rw [and3_b hb] at h; omega
    all_goals decide
theorem not_facts (n : Int) (h : 0 ≤ not3 n) : not3 (not3 n) = n := by
  rcases tri n with rfl | rfl | rfl | hn | hn
  case inr.inr.inr.inl => exfalso; unfold not3 at h; rw [if_neg (by omega), if_neg (by omega), if_neg (by omega)] at h; omega
  case inr.inr.inr.inr => exfalso; unfold not3 at h; rw [if_neg (by omega), if_neg (by omega), if_neg (by omega)] at h; omega
  all_goals decide

set_option maxHeartbeats 1000000 in
theorem walk (a0 : Option Addr) (len0 cap0 : Nat) (z0 : List Int) (w : World) (w0 : IsRow .u8 w a0 len0 cap0 z0) :
    Calls Try.prog 5 #[.slice a0 len0 cap0] w fun e w' => e = .returned (.bool true) ∧ Below w.heap.size w w' := by
  by_cases hbig : (1048576 : Int) < len0
  · go_enter Try.func5, Try.ntmps5
    go_wp2
    go_ret
    exact ⟨rfl, Below.refl _ _⟩
  · have hbg : decide ((1048576 : Int) < len0) = false := by simpa using hbig
    clear hbig
    go_enter Try.func5, Try.ntmps5
    go_wp2_with fail
    refine (lawsBig a0 len0 cap0 w).mono ?_
    rintro e w' ⟨rfl, rfl⟩
    go_wp2_with fail
    refine (drawAnd3 _ _ _ z0 _ w0).mono ?_
    rintro e w1 ⟨v, rfl, ⟨_, _, rfl, ⟨a, rfl, a0, a1⟩, ⟨b, rfl, b0, b1⟩⟩, hb1⟩
    go_wp2_with fail
    refine (drawOr3 _ _ _ z0 _ (w0.below hb1)).mono ?_
    rintro e w2 ⟨v, rfl, ⟨_, _, rfl, ⟨c, rfl, c0, c1⟩, ⟨d, rfl, d0, d1⟩⟩, hb2⟩
    have hb12 := hb1.trans (hb2.mono hb1.size)
    go_wp2_with fail
    refine (drawNot3 _ _ _ z0 _ (w0.below hb12)).mono ?_
    rintro e w3 ⟨v, rfl, ⟨n, rfl, n0, n1⟩, hb3⟩
    have hb := hb12.trans (hb3.mono hb12.size)
    clear hb1 hb2 hb3 hb12 a0 a1 b0 b1 c0 c1 d0 d1 n0 n1
    have e1 := and3_comm a b
    have e2 := or3_comm c d
    by_cases hx : 0 ≤ and3 a b
    · obtain ⟨f1, f2, f3⟩ := facts a b hx
      by_cases hn : 0 ≤ not3 n
      · have f4 := not_facts n hn
        go_wp2_with (first
          | (go_at_call 29; refine (implAnd3 _ _ _).mono ?_; rintro e w' ⟨rfl, rfl⟩)
          | (go_at_call 31; refine (specAnd3 _ _ _).mono ?_; rintro e w' ⟨rfl, rfl⟩)
          | (go_at_call 30; refine (implOr3 _ _ _).mono ?_; rintro e w' ⟨rfl, rfl⟩)
          | (go_at_call 32; refine (specOr3 _ _ _).mono ?_; rintro e w' ⟨rfl, rfl⟩)
          | (go_at_call 33; refine (implNot3 _ _).mono ?_; rintro e w' ⟨rfl, rfl⟩)
          | (go_at_call 34; refine (specNot3 _ _).mono ?_; rintro e w' ⟨rfl, rfl⟩))
        go_ret
        exact ⟨rfl, hb⟩
      · have f4 : decide (not3 n < 0) = true := by simp; omega
        go_wp2_with (first
          | (go_at_call 29; refine (implAnd3 _ _ _).mono ?_; rintro e w' ⟨rfl, rfl⟩)
          | (go_at_call 31; refine (specAnd3 _ _ _).mono ?_; rintro e w' ⟨rfl, rfl⟩)
          | (go_at_call 30; refine (implOr3 _ _ _).mono ?_; rintro e w' ⟨rfl, rfl⟩)
          | (go_at_call 32; refine (specOr3 _ _ _).mono ?_; rintro e w' ⟨rfl, rfl⟩)
          | (go_at_call 33; refine (implNot3 _ _).mono ?_; rintro e w' ⟨rfl, rfl⟩)
          | (go_at_call 34; refine (specNot3 _ _).mono ?_; rintro e w' ⟨rfl, rfl⟩))
        go_ret
        exact ⟨rfl, hb⟩
    · have f1 : decide (0 ≤ and3 a b) = false := by simpa using hx
      clear hx
      by_cases hn : 0 ≤ not3 n
      · have f4 := not_facts n hn
        go_wp2_with (first
          | (go_at_call 29; refine (implAnd3 _ _ _).mono ?_; rintro e w' ⟨rfl, rfl⟩)
          | (go_at_call 31; refine (specAnd3 _ _ _).mono ?_; rintro e w' ⟨rfl, rfl⟩)
          | (go_at_call 30; refine (implOr3 _ _ _).mono ?_; rintro e w' ⟨rfl, rfl⟩)
          | (go_at_call 32; refine (specOr3 _ _ _).mono ?_; rintro e w' ⟨rfl, rfl⟩)
          | (go_at_call 33; refine (implNot3 _ _).mono ?_; rintro e w' ⟨rfl, rfl⟩)
          | (go_at_call 34; refine (specNot3 _ _).mono ?_; rintro e w' ⟨rfl, rfl⟩))
        go_ret
        exact ⟨rfl, hb⟩
      · have f4 : decide (not3 n < 0) = true := by simp; omega
        go_wp2_with (first
          | (go_at_call 29; refine (implAnd3 _ _ _).mono ?_; rintro e w' ⟨rfl, rfl⟩)
          | (go_at_call 31; refine (specAnd3 _ _ _).mono ?_; rintro e w' ⟨rfl, rfl⟩)
          | (go_at_call 30; refine (implOr3 _ _ _).mono ?_; rintro e w' ⟨rfl, rfl⟩)
          | (go_at_call 32; refine (specOr3 _ _ _).mono ?_; rintro e w' ⟨rfl, rfl⟩)
          | (go_at_call 33; refine (implNot3 _ _).mono ?_; rintro e w' ⟨rfl, rfl⟩)
          | (go_at_call 34; refine (specNot3 _ _).mono ?_; rintro e w' ⟨rfl, rfl⟩))
        go_ret
        exact ⟨rfl, hb⟩

set_option maxRecDepth 100000 in
theorem lifted (os : Os) (started : os.Started) (H : Type) (enc : TypeId × Value → H) :
    ReturnsInHanded {} Try.checked os 5 .any (Rows.fnLogicSpec.pre6 enc Try.prog Try.f5 Rows.fnLogicRow.domain false) (Rows.fnLogicSpec.post enc Try.prog Try.f5 false true false false) := by
  refine returnsInHanded_of_change (C := Try.checked) own started (by kernel_rfl) Try.func5
    (ChangeSpec.witness6 (enc := enc) (C := Try.checked) false ⟨#[], #[.slice none 0 0], []⟩ 8 (by kernel_rfl) (by kernel_rfl) (by kernel_rfl) (by kernel_rfl)) ?_
  intro W base args ds gs before hval0 hW hcnd _
  have hval : ∀ (j : Nat) t v, Try.f5.params[j]? = some t → args[j]? = some v → Value.okWide Try.prog W .any base t v := hval0
  have hW' := hW
  obtain ⟨p, q, hA0, hV, rfl, hfz, hnd⟩ := hW
  have hA : DataW.TrodAll enc Try.prog W 0 (fun _ => true) true Try.f5.params.toList args.toList ds p := hA0
  rw [Try.params5] at hA hval
  obtain ⟨v0, vs0, d0, ds0, p0, q0, hargs, rfl, rfl, h0, r0⟩ := trodAll_cons hA
  obtain ⟨rfl, rfl, rfl⟩ := trodAll_nil r0
  obtain rfl : args = #[v0] := by cases args; simp_all
  obtain ⟨rfl, rfl⟩ := trodVars_none hV
  have k0' := h0
  have lt0 : ∀ x ∈ p0, x.block < W.heap.size := by obtain ⟨m, hm⟩ := k0'; exact DataW.trod_lt m _ _ _ hm
  obtain ⟨a0, len0, cap0, rfl⟩ := okWide_slice Try.underlying22 (hval 0 22 v0 rfl rfl)
  obtain ⟨z0, w0⟩ := isRow_of_trod Try.underlying22 Try.underlying5 (by kernel_rfl) h0
  clear hA0 hval0
  refine (walk a0 len0 cap0 z0 W w0).mono fun e W' ⟨he, bel⟩ => ?_
  subst he
  exact ⟨_, rfl, _, _, _, [], _, [], hW', trodAll_mk1 (shut_bool Try.underlying4 _), (trodAll_cons_mk (Below.trod laidOut (by kernel_rfl) (of_decide_eq_true (by kernel_rfl)) k0' bel lt0) trodAll_mk0), rfl, bel.frame _, fun h => by cases h⟩

theorem over : Rows.fnLogicRow.holds Try.pinned (OpenSpec.ofChange Rows.fnLogicSpec) :=
  OpenClaim.holds_of_wide 5 Try.f5 rfl rfl rfl rfl rfl rfl rfl ⟨rfl, rfl, rfl, rfl, rfl⟩ rfl rfl rfl rfl rfl (by kernel_rfl) Try.func5 (by kernel_rfl)
    (of_decide_eq_true (by kernel_rfl)) (by unfold Func.isWrapper; first | (rw [if_pos (by decide +kernel)]; kernel_rfl) | (rw [if_neg (by decide +kernel)]; exact ⟨rfl, rfl⟩))
    (fun os started H enc _ => lifted os started H enc)

theorem proved : Rows.FnLogicSaid := over
#print axioms proved
end Go.Proofs.Ytimgaipikgpgkaa.fnLogic
