/-
  Contracts on the ops of expressions, of the model and of the program.
-/
import Derived.Test.YtkoihpejkcnokaaThree2
import Derived.Test.YtkoihpejkcnokaaVls
import Derived.Test.YtkoihpejkcnokaaEvalMath
import Derived.Test.YtkoihpejkcnokaaToks
import Derived.Deep.RegionHeld3
namespace Go.Proofs.Ytkoihpejkcnokaa
open Go.RowKit

/-- A value and whether there is one. -/
def OptPost (o : Option Vl) (w : World) (e : Ending) (w' : World) : Prop := ∃ x : Vl, e = .returned (.tuple #[.agg #[.int .i64 x.k, .int .i64 x.n, .string x.s], .bool o.isSome]) ∧ (∀ v, o = some v → x = v) ∧ Below w.heap.size w w'

/-- The truth of a value as the model tells it: a number, and whether there is one. -/
def truN (v : Vl) : Int := if truOf v = -1 then 0 else truOf v
def truS (v : Vl) : Bool := decide (truOf v ≠ -1)

theorem specOf (v : Vl) (w : World) :
    Calls Try.prog 44 #[.agg #[.int .i64 v.k, .int .i64 v.n, .string v.s]] w fun e w' => e = .returned (.tuple #[.int .i64 (truN v), .bool (truS v)]) ∧ Below w.heap.size w w' := by
  have HB := Lib.hid ((Below.refl w.heap.size w).alloc (Nat.le_refl _) (.cells #[.int .i64 v.k, .int .i64 v.n, .string v.s] 30))
  unfold truN truS
  obtain ⟨k, n, s⟩ := v
  by_cases h0 : k = 0
  · subst h0
    rw [show truOf ⟨0, n, s⟩ = 2 by simp [truOf]]
    go_enter Try.func44, Try.ntmps44
    go_wp2
    go_ret2
    exact ⟨rfl, HB.out⟩
  by_cases h1 : k = 1
  · subst h1
    have e : truOf ⟨1, n, s⟩ = yes (n != 0) := by simp [truOf]
    have e2 : truOf ⟨1, n, s⟩ ≠ -1 := by rw [e]; rcases yes01 (n != 0) with h | h <;> rw [h] <;> omega
    rw [if_neg e2, decide_eq_true e2, e]
    clear e e2
    go_enter Try.func44, Try.ntmps44
    go_wp2_with fail
    refine (specYes _ _).mono ?_
    rintro e w1 ⟨rfl, rfl⟩
    go_wp2
    go_ret2
    exact ⟨rfl, HB.out⟩
  · rw [show truOf ⟨k, n, s⟩ = -1 by simp [truOf, h0, h1]]
    have e0 : (k == 0) = false := by simpa using h0
    have e1 : (k == 1) = false := by simpa using h1
    go_enter Try.func44, Try.ntmps44
    go_wp2
    go_ret2
    exact ⟨rfl, HB.out⟩

theorem specAs (a : Int) (w : World) :
    Calls Try.prog 59 #[.int .i64 a] w fun e w' => e = .returned (.agg #[.int .i64 (asVl a).k, .int .i64 (asVl a).n, .string (asVl a).s]) ∧ Below w.heap.size w w' := by
  by_cases h : a = 2
  · subst h
    rw [show asVl 2 = Vl.zero by simp [asVl]]
    go_enter Try.func59, Try.ntmps59
    go_wp2
    exact bodyPost_ret (v := .agg #[.int .i64 0, .int .i64 0, .string ⟨#[]⟩]) (by simp [results, Try.results59, go_sem]) rfl ⟨rfl, (Below.refl _ _).alloc (Nat.le_refl _) _⟩
  · rw [show asVl a = ⟨1, a, ⟨#[]⟩⟩ by simp [asVl, h]]
    have e0 : (a == 2) = false := by simpa using h
    go_enter Try.func59, Try.ntmps59
    go_wp2_with fail
    refine (specInt _ _).mono ?_
    rintro e w1 ⟨rfl, o, rfl⟩
    go_wp2
    exact bodyPost_ret (v := .agg #[.int .i64 1, .int .i64 a, .string ⟨#[]⟩]) (by simp [results, Try.results59, go_sem]) rfl ⟨rfl, ((Below.refl _ _).alloc (Nat.le_refl _) _).alloc (by simp) _⟩

theorem Vl.kinds {v : Vl} (h : v.ok = true) : v.k = 0 ∨ v.k = 1 ∧ -1000000000 ≤ v.n ∧ v.n ≤ 1000000000 ∨ v.k = 2 := by
  unfold Vl.ok valOkB at h
  by_cases a : v.k = 0
  · exact .inl a
  by_cases b : v.k = 1
  · simp [b] at h
    exact .inr (.inl ⟨b, h.1.1, h.1.2⟩)
  by_cases c : v.k = 2
  · exact .inr (.inr c)
  · simp [a, b, c] at h

theorem sum_wraps {x y sg : Int} (hx : -1000000000 ≤ x ∧ x ≤ 1000000000) (hy : -1000000000 ≤ y ∧ y ≤ 1000000000) (hsg : sg = 1 ∨ sg = -1) : wrap64 (sg * y) = sg * y ∧ wrap64 (x + sg * y) = x + sg * y := by
  rcases hsg with rfl | rfl <;> unfold wrap64 <;> omega

set_option maxHeartbeats 1000000 in
theorem specSum (a b : Vl) (sg : Int) (w : World) (ha : a.ok = true) (hb : b.ok = true) (hsg : sg = 1 ∨ sg = -1) :
    Calls Try.prog 75 #[.agg #[.int .i64 a.k, .int .i64 a.n, .string a.s], .agg #[.int .i64 b.k, .int .i64 b.n, .string b.s], .int .i64 sg] w (OptPost (sumVl a b sg) w) := by
  have ka := Vl.kinds ha
  have kb := Vl.kinds hb
  clear ha hb
  obtain ⟨k, n, s⟩ := a
  obtain ⟨k', n', s'⟩ := b
  simp only at ka kb
  by_cases a2 : k = 2
  · subst a2
    have HV := Lib.hid (show sumVl ⟨2, n, s⟩ ⟨k', n', s'⟩ sg = none by simp [sumVl])
    go_enter Try.func75, Try.ntmps75
    go_wp2
    exact bodyPost_ret (v := .tuple #[.agg #[.int .i64 0, .int .i64 0, .string ⟨#[]⟩], .bool false]) (by simp [results, Try.results75, go_sem]) rfl ⟨Vl.zero, by rw [HV.out]; rfl, by rw [HV.out]; simp, ((((Below.refl _ _).alloc (Nat.le_refl _) _).alloc (by simp) _).alloc (by simp; omega) _)⟩
  have a2' : (k == 2) = false := by simpa using a2
  by_cases b2 : k' = 2
  · subst b2
    have HV := Lib.hid (show sumVl ⟨k, n, s⟩ ⟨2, n', s'⟩ sg = none by simp [sumVl])
    go_enter Try.func75, Try.ntmps75
    go_wp2
    exact bodyPost_ret (v := .tuple #[.agg #[.int .i64 0, .int .i64 0, .string ⟨#[]⟩], .bool false]) (by simp [results, Try.results75, go_sem]) rfl ⟨Vl.zero, by rw [HV.out]; rfl, by rw [HV.out]; simp, ((((Below.refl _ _).alloc (Nat.le_refl _) _).alloc (by simp) _).alloc (by simp; omega) _)⟩
  have b2' : (k' == 2) = false := by simpa using b2
  by_cases a0 : k = 0
  · subst a0
    have HV := Lib.hid (show sumVl ⟨0, n, s⟩ ⟨k', n', s'⟩ sg = some Vl.zero by simp [sumVl, b2])
    go_enter Try.func75, Try.ntmps75
    go_wp2
    exact bodyPost_ret (v := .tuple #[.agg #[.int .i64 0, .int .i64 0, .string ⟨#[]⟩], .bool true]) (by simp [results, Try.results75, go_sem]) rfl ⟨Vl.zero, by rw [HV.out]; rfl, by rw [HV.out]; simp, ((((Below.refl _ _).alloc (Nat.le_refl _) _).alloc (by simp) _).alloc (by simp; omega) _)⟩
  have a0' : (k == 0) = false := by simpa using a0
  by_cases b0 : k' = 0
  · subst b0
    have HV := Lib.hid (show sumVl ⟨k, n, s⟩ ⟨0, n', s'⟩ sg = some Vl.zero by simp [sumVl, a2])
    go_enter Try.func75, Try.ntmps75
    go_wp2
    exact bodyPost_ret (v := .tuple #[.agg #[.int .i64 0, .int .i64 0, .string ⟨#[]⟩], .bool true]) (by simp [results, Try.results75, go_sem]) rfl ⟨Vl.zero, by rw [HV.out]; rfl, by rw [HV.out]; simp, ((((Below.refl _ _).alloc (Nat.le_refl _) _).alloc (by simp) _).alloc (by simp; omega) _)⟩
  have b0' : (k' == 0) = false := by simpa using b0
  obtain ⟨s1, s2⟩ := sum_wraps (x := n) (y := n') (sg := sg) (by omega) (by omega) hsg
  have HV := Lib.hid (show sumVl ⟨k, n, s⟩ ⟨k', n', s'⟩ sg = if -1000000000 ≤ n + sg * n' ∧ n + sg * n' ≤ 1000000000 then some ⟨1, n + sg * n', ⟨#[]⟩⟩ else none by simp [sumVl, a2, b2, a0, b0])
  go_enter Try.func75, Try.ntmps75
  go_wp2_with fail
  generalize n + sg * n' = m at *
  refine (specInt _ _).mono ?_
  rintro e w1 ⟨rfl, o, rfl⟩
  clear s1 s2
  go_wp2_with fail
  have rv := Row.newAt ((((w.alloc (.cells #[.int .i64 k, .int .i64 n, .string s] 30)).alloc (.cells #[.int .i64 k', .int .i64 n', .string s'] 30)).alloc (.cells #[.int .i64 0, .int .i64 0, .string ⟨#[]⟩] 30)).alloc o) 30 #[.int .i64 1, .int .i64 m, .string ⟨#[]⟩] (w.heap.size + 1 + 1 + 1 + 1) (by simp only [size1])
  have rr := ((Row.newAt ((w.alloc (.cells #[.int .i64 k, .int .i64 n, .string s] 30)).alloc (.cells #[.int .i64 k', .int .i64 n', .string s'] 30)) 30 #[.int .i64 0, .int .i64 0, .string ⟨#[]⟩] (w.heap.size + 1 + 1) (by simp only [size1])).alloc o).alloc (.cells #[.int .i64 1, .int .i64 m, .string ⟨#[]⟩] 30)
  have hb0 := ((((((Below.refl w.heap.size w).alloc (Nat.le_refl _) (.cells #[.int .i64 k, .int .i64 n, .string s] 30)).alloc (by simp only [size1]; omega) (.cells #[.int .i64 k', .int .i64 n', .string s'] 30)).alloc (by simp only [size1]; omega) (.cells #[.int .i64 0, .int .i64 0, .string ⟨#[]⟩] 30)).alloc (by simp only [size1]; omega) o).alloc (by simp only [size1]; omega) (.cells #[.int .i64 1, .int .i64 m, .string ⟨#[]⟩] 30))
  generalize ((((w.alloc (.cells #[.int .i64 k, .int .i64 n, .string s] 30)).alloc (.cells #[.int .i64 k', .int .i64 n', .string s'] 30)).alloc (.cells #[.int .i64 0, .int .i64 0, .string ⟨#[]⟩] 30)).alloc o).alloc (.cells #[.int .i64 1, .int .i64 m, .string ⟨#[]⟩] 30) = x at *
  obtain ⟨⟨c0, c1, c2⟩, -⟩ := rv.three
  have RR := Lib.hid rr
  clear rv rr
  go_region_held3 (fun w' => w'.cell? ⟨w.heap.size + 1 + 1 + 1 + 1, 0, none⟩ = some (.int .i64 1) ∧ w'.cell? ⟨w.heap.size + 1 + 1 + 1 + 1, 1, none⟩ = some (.int .i64 m) ∧ w'.cell? ⟨w.heap.size + 1 + 1 + 1 + 1, 2, none⟩ = some (.string ⟨#[]⟩))
    (first | go_keep | exact keep3 (by assumption) hbA)
    (first | (go_at_call 42; refine (specValOk 1 m ⟨#[]⟩ _).mono ?_; rintro e yA ⟨rfl, hbA⟩; obtain ⟨⟨z0, z1, z2⟩, ⟨z3, z4, z5⟩⟩ := (RR.out.drew.below hbA).three))
  go_wp2
  have hv : valOkB 1 m ⟨#[]⟩ = (sumVl ⟨k, n, s⟩ ⟨k', n', s'⟩ sg).isSome := by
    rw [HV.out]
    by_cases hm : -1000000000 ≤ m ∧ m ≤ 1000000000
    · rw [if_pos hm]; simp [valOkB, hm.1, hm.2]
    · rw [if_neg hm]; simp [valOkB]; omega
  have hz := hb0.drew.trans (hbA.mono hb0.size)
  refine bodyPost_ret (v := .tuple #[.agg #[.int .i64 1, .int .i64 m, .string ⟨#[]⟩], .bool (valOkB 1 m ⟨#[]⟩)]) (by simp [results, Try.results75, go_sem, z0, z1, z2]) rfl ⟨⟨1, m, ⟨#[]⟩⟩, by rw [hv], ?_, ?_⟩
  · intro v hv'
    rw [HV.out] at hv'
    split at hv'
    · cases hv'; rfl
    · cases hv'
  · repeat (first | with_reducible exact hz | with_reducible refine Below.drew ?_ | with_reducible refine Below.setCell ?_ (by simp; omega) _ | with_reducible refine Below.setCell ?_ (by simp) _)
end Go.Proofs.Ytkoihpejkcnokaa
