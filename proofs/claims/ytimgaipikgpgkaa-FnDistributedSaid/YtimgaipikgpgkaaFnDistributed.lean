/-
  A both over an either is an either of boths, and the other way round (law FnDistributed, for every input).
-/
import Derived.Test.YtimgaipikgpgkaaBase
import Derived.Test.YtimgaipikgpgkaaLogic
import Derived.Test.YtimgaipikgpgkaaDraws
namespace Go.Proofs.Ytimgaipikgpgkaa.fnDistributed
open Go.ChangeShapes Go.WideShapes Go.ChangeAt Go.RowKit Go.Joins
open Go.ChangeMaps (open_string shut_string)
set_option linter.unusedVariables false

theorem tri0 (a : Int) : a = 0 ∨ a = 1 ∨ a = 2 ∨ tru a = false := by
  rcases tri a with h | h | h | h | h
  · exact .inl h
  · exact .inr (.inl h)
  · exact .inr (.inr (.inl h))
  · exact .inr (.inr (.inr (tru_lo h.1)))
  · exact .inr (.inr (.inr (tru_hi h.1)))
theorem tru_of (a : Int) (h : tru a = true) : a = 0 ∨ a = 1 ∨ a = 2 := by
  rcases tri0 a with h1 | h1 | h1 | h1
  · exact .inl h1
  · exact .inr (.inl h1)
  · exact .inr (.inr h1)
  · rw [h1] at h; cases h
theorem both_tru (a b : Int) (h : 0 ≤ and3 a b) : tru a = true ∧ tru b = true := by
  cases ha : tru a
  · rw [and3_a ha] at h; omega
  · cases hb : tru b
    · rw [and3_b hb] at h; omega
    · exact ⟨rfl, rfl⟩
theorem tru_and {a b : Int} (ha : tru a = true) (hb : tru b = true) : tru (and3 a b) = true := by
  rcases tru_of a ha with rfl | rfl | rfl <;> rcases tru_of b hb with rfl | rfl | rfl <;> decide
theorem tru_not {a : Int} (ha : tru a = true) : tru (not3 a) = true := by
  rcases tru_of a ha with rfl | rfl | rfl <;> decide
theorem dist1 (c a b : Int) (hc : tru c = true) (ha : tru a = true) (hb : tru b = true) : (and3 c (or3 a b) == or3 (and3 c a) (and3 c b)) = true := by
  rcases tru_of a ha with rfl | rfl | rfl <;> rcases tru_of b hb with rfl | rfl | rfl <;> rcases tru_of c hc with rfl | rfl | rfl <;> decide
theorem dist2 (c a b : Int) (hc : tru c = true) (ha : tru a = true) (hb : tru b = true) : (or3 c (and3 a b) == and3 (or3 c a) (or3 c b)) = true := by
  rcases tru_of a ha with rfl | rfl | rfl <;> rcases tru_of b hb with rfl | rfl | rfl <;> rcases tru_of c hc with rfl | rfl | rfl <;> decide

set_option maxHeartbeats 1000000 in
theorem walk (a0 : Option Addr) (len0 cap0 : Nat) (z0 : List Int) (w : World) (w0 : IsRow .u8 w a0 len0 cap0 z0) :
    Calls Try.prog 6 #[.slice a0 len0 cap0] w fun e w' => e = .returned (.bool true) ∧ Below w.heap.size w w' := by
  by_cases hbig : (1048576 : Int) < len0
  · go_enter Try.func6, Try.ntmps6
    go_wp2
    go_ret
    exact ⟨rfl, Below.refl _ _⟩
  · have hbg : decide ((1048576 : Int) < len0) = false := by simpa using hbig
    have hl : (len0 : Int) ≤ 1048576 := by omega
    clear hbig
    go_enter Try.func6, Try.ntmps6
    go_wp2_with fail
    refine (lawsBig a0 len0 cap0 w).mono ?_
    rintro e w' ⟨rfl, rfl⟩
    go_wp2_with fail
    refine (drawAnd3 _ _ _ z0 _ w0).mono ?_
    rintro e w1 ⟨v, rfl, ⟨_, _, rfl, ⟨a, rfl, a0, a1⟩, ⟨b, rfl, b0, b1⟩⟩, hb1⟩
    clear a0 a1 b0 b1
    by_cases hx : 0 ≤ and3 a b
    · obtain ⟨ta, tb⟩ := both_tru a b hx
      have hx' : decide (and3 a b < 0) = false := by simp; omega
      clear hx
      have m : len0 % 4 = 0 ∨ len0 % 4 = 1 ∨ len0 % 4 = 2 ∨ len0 % 4 = 3 := by omega
      rcases m with m | m | m | m
      · have m1 : ((len0 : Nat) : Int) % 4 = 0 := by omega
        clear m
        have d1 := dist1 (a) a b ta ta tb
        have d2 := dist2 (a) a b ta ta tb
        go_wp2_with (first
          | (go_at_call 29; refine (implAnd3 _ _ _).mono ?_; rintro e w' ⟨rfl, rfl⟩)
          | (go_at_call 31; refine (specAnd3 _ _ _).mono ?_; rintro e w' ⟨rfl, rfl⟩)
          | (go_at_call 30; refine (implOr3 _ _ _).mono ?_; rintro e w' ⟨rfl, rfl⟩)
          | (go_at_call 33; refine (implNot3 _ _).mono ?_; rintro e w' ⟨rfl, rfl⟩))
        go_ret
        exact ⟨rfl, hb1.alloc hb1.size _⟩
      · have m1 : ((len0 : Nat) : Int) % 4 = 1 := by omega
        clear m
        have d1 := dist1 (b) a b tb ta tb
        have d2 := dist2 (b) a b tb ta tb
        go_wp2_with (first
          | (go_at_call 29; refine (implAnd3 _ _ _).mono ?_; rintro e w' ⟨rfl, rfl⟩)
          | (go_at_call 31; refine (specAnd3 _ _ _).mono ?_; rintro e w' ⟨rfl, rfl⟩)
          | (go_at_call 30; refine (implOr3 _ _ _).mono ?_; rintro e w' ⟨rfl, rfl⟩)
          | (go_at_call 33; refine (implNot3 _ _).mono ?_; rintro e w' ⟨rfl, rfl⟩))
        go_ret
        exact ⟨rfl, hb1.alloc hb1.size _⟩
      · have m1 : ((len0 : Nat) : Int) % 4 = 2 := by omega
        clear m
        have d1 := dist1 (and3 a b) a b (tru_and ta tb) ta tb
        have d2 := dist2 (and3 a b) a b (tru_and ta tb) ta tb
        go_wp2_with (first
          | (go_at_call 29; refine (implAnd3 _ _ _).mono ?_; rintro e w' ⟨rfl, rfl⟩)
          | (go_at_call 31; refine (specAnd3 _ _ _).mono ?_; rintro e w' ⟨rfl, rfl⟩)
          | (go_at_call 30; refine (implOr3 _ _ _).mono ?_; rintro e w' ⟨rfl, rfl⟩)
          | (go_at_call 33; refine (implNot3 _ _).mono ?_; rintro e w' ⟨rfl, rfl⟩))
        go_ret
        exact ⟨rfl, hb1.alloc hb1.size _⟩
      · have m1 : ((len0 : Nat) : Int) % 4 = 3 := by omega
        clear m
        have d1 := dist1 (not3 a) a b (tru_not ta) ta tb
        have d2 := dist2 (not3 a) a b (tru_not ta) ta tb
        go_wp2_with (first
          | (go_at_call 29; refine (implAnd3 _ _ _).mono ?_; rintro e w' ⟨rfl, rfl⟩)
          | (go_at_call 31; refine (specAnd3 _ _ _).mono ?_; rintro e w' ⟨rfl, rfl⟩)
          | (go_at_call 30; refine (implOr3 _ _ _).mono ?_; rintro e w' ⟨rfl, rfl⟩)
          | (go_at_call 33; refine (implNot3 _ _).mono ?_; rintro e w' ⟨rfl, rfl⟩))
        go_ret
        exact ⟨rfl, hb1.alloc hb1.size _⟩
    · have f1 : decide (and3 a b < 0) = true := by simp; omega
      go_wp2_with (first
        | (go_at_call 29; refine (implAnd3 _ _ _).mono ?_; rintro e w' ⟨rfl, rfl⟩)
        | (go_at_call 31; refine (specAnd3 _ _ _).mono ?_; rintro e w' ⟨rfl, rfl⟩)
        | (go_at_call 30; refine (implOr3 _ _ _).mono ?_; rintro e w' ⟨rfl, rfl⟩)
        | (go_at_call 33; refine (implNot3 _ _).mono ?_; rintro e w' ⟨rfl, rfl⟩))
      go_ret
      exact ⟨rfl, hb1⟩

set_option maxRecDepth 100000 in
theorem lifted (os : Os) (started : os.Started) (H : Type) (enc : TypeId × Value → H) :
    ReturnsInHanded {} Try.checked os 6 .any (Rows.fnDistributedSpec.pre6 enc Try.prog Try.f6 Rows.fnDistributedRow.domain false) (Rows.fnDistributedSpec.post enc Try.prog Try.f6 false true false false) := by
  refine returnsInHanded_of_change (C := Try.checked) own started (by kernel_rfl) Try.func6
    (ChangeSpec.witness6 (enc := enc) (C := Try.checked) false ⟨#[], #[.slice none 0 0], []⟩ 8 (by kernel_rfl) (by kernel_rfl) (by kernel_rfl) (by kernel_rfl)) ?_
  intro W base args ds gs before hval0 hW hcnd _
  have hval : ∀ (j : Nat) t v, Try.f6.params[j]? = some t → args[j]? = some v → Value.okWide Try.prog W .any base t v := hval0
  have hW' := hW
  obtain ⟨p, q, hA0, hV, rfl, hfz, hnd⟩ := hW
  have hA : DataW.TrodAll enc Try.prog W 0 (fun _ => true) true Try.f6.params.toList args.toList ds p := hA0
  rw [Try.params6] at hA hval
  obtain ⟨v0, vs0, d0, ds0, p0, q0, hargs, rfl, rfl, h0, r0⟩ := trodAll_cons hA
  obtain ⟨rfl, rfl, rfl⟩ := trodAll_nil r0
  obtain rfl : args = #[v0] := by cases args; simp_all
  obtain ⟨rfl, rfl⟩ := trodVars_none hV
  have k0' := h0
  have lt0 : ∀ x ∈ p0, x.block < W.heap.size := by obtain ⟨m, hm⟩ := k0'; exact DataW.trod_lt m _ _ _ hm
  obtain ⟨a0, len0, cap0, rfl⟩ := okWide_slice Try.underlying22 (hval 0 22 v0 rfl rfl)
  obtain ⟨z0, w0⟩ := isRow_of_trod Try.underlying22 Try.underlying5 (by kernel_rfl) h0
  clear hA0 hval0
  refine (walk a0 len0 cap0 z0 W w0).mono fun e W' ⟨he, bel⟩ => ?_
  subst he
  exact ⟨_, rfl, _, _, _, [], _, [], hW', trodAll_mk1 (shut_bool Try.underlying4 _), (trodAll_cons_mk (Below.trod laidOut (by kernel_rfl) (of_decide_eq_true (by kernel_rfl)) k0' bel lt0) trodAll_mk0), rfl, bel.frame _, fun h => by cases h⟩

theorem over : Rows.fnDistributedRow.holds Try.pinned (OpenSpec.ofChange Rows.fnDistributedSpec) :=
  OpenClaim.holds_of_wide 6 Try.f6 rfl rfl rfl rfl rfl rfl rfl ⟨rfl, rfl, rfl, rfl, rfl⟩ rfl rfl rfl rfl rfl (by kernel_rfl) Try.func6 (by kernel_rfl)
    (of_decide_eq_true (by kernel_rfl)) (by unfold Func.isWrapper; first | (rw [if_pos (by decide +kernel)]; kernel_rfl) | (rw [if_neg (by decide +kernel)]; exact ⟨rfl, rfl⟩))
    (fun os started H enc _ => lifted os started H enc)

theorem proved : Rows.FnDistributedSaid := over
#print axioms proved
end Go.Proofs.Ytimgaipikgpgkaa.fnDistributed
