/-
  Several texts in one: Order2, Three, Three2, Logic, EvalMath, Ops, Ops2, Ops3, Ops4, Ops5, Eval, Eval2, OwnVals, KeyOf, KeySpec, FindMath, Eq, Places, TableAt, ColAt, Names, Columns, TableImpl, TableImpl2, TableImpl3, Eval3, Truth, RowImpl, SchemaImpl, SchemaImpl2, DbImpl, DbImpl2, DbMath.
-/
import Derived.Test.YthafgkcokecnnaaGreatPa
import Derived.Test.YthafgkcokecnnaaGreatRows
import Derived.WalkKit
import Derived.ProofKit
import Derived.Deep.RegionHeld3
import Derived.Deep.QuietTactic
import Derived.BigQuiet
import Derived.Maps.Own
import Derived.Maps.OwnOps
import Derived.Maps.OwnSet
import Derived.IntWalk
import Derived.Deep.DeepMust
namespace Go.Proofs.YthafgkcokecnnaaGreat
open Go.RowKit

def lessV (k n : Int) (s : ByteArray) (k' n' : Int) (s' : ByteArray) : Bool := decide (k < k') || (k == k' && (decide (n < n') || Op.bytesLess s.toList s'.toList))
def sameV (k n : Int) (s : ByteArray) (k' n' : Int) (s' : ByteArray) : Bool := k == k' && (n == n' && s.toList == s'.toList)
def ordV (k n : Int) (s : ByteArray) (k' n' : Int) (s' : ByteArray) : Int := if lessV k n s k' n' s' = true then -1 else if sameV k n s k' n' s' = true then 0 else 1

theorem valOk_cases {k n : Int} {s : ByteArray} (h : valOkB k n s = true) : (k = 0 ∧ n = 0 ∧ s.toList = []) ∨ (k = 1 ∧ s.toList = []) ∨ (k = 2 ∧ n = 0) := by
  unfold valOkB at h
  by_cases k0 : k = 0
  · subst k0; simp at h; exact .inl ⟨rfl, h.1, h.2⟩
  by_cases k1 : k = 1
  · subst k1; simp at h; exact .inr (.inl ⟨rfl, h.2⟩)
  by_cases k2 : k = 2
  · subst k2; simp at h; exact .inr (.inr ⟨rfl, h.1⟩)
  · simp [k0, k1, k2] at h

theorem ord_eq {k n : Int} {s : ByteArray} {k' n' : Int} {s' : ByteArray} (h : valOkB k n s = true) (h' : valOkB k' n' s' = true) :
    firstNZ (cmpI k k') (cmpI n n') (cmpS s s') = ordV k n s k' n' s' := by
  have e0 : Op.bytesLess [] [] = false := rfl
  rcases valOk_cases h with ⟨rfl, rfl, e1⟩ | ⟨rfl, e1⟩ | ⟨rfl, rfl⟩ <;> rcases valOk_cases h' with ⟨rfl, rfl, e2⟩ | ⟨rfl, e2⟩ | ⟨rfl, rfl⟩
  · simp [firstNZ, cmpI, cmpS, ordV, lessV, sameV, e1, e2, e0]
  · simp [firstNZ, cmpI, ordV, lessV]
  · simp [firstNZ, cmpI, ordV, lessV]
  · simp [firstNZ, cmpI, ordV, lessV, sameV]
  · simp only [firstNZ, cmpI, cmpS, ordV, lessV, sameV, e1, e2, e0]
    by_cases a : n < n'
    · simp [a]
    · by_cases b : n' < n
      · have c : ¬ n = n' := by omega
        simp [a, b, c]
      · have c : n = n' := by omega
        simp [c]
  · simp [firstNZ, cmpI, ordV, lessV]
  · simp [firstNZ, cmpI, ordV, lessV, sameV]
  · simp [firstNZ, cmpI, ordV, lessV, sameV]
  · simp only [firstNZ, cmpI, cmpS, ordV, lessV, sameV]
    simp

theorem ordV_of {k n : Int} {s : ByteArray} {k' n' : Int} {s' : ByteArray} (h : lessV k n s k' n' s' = false) : ordV k n s k' n' s' = if sameV k n s k' n' s' = true then 0 else 1 := by simp [ordV, h]

theorem chain2 (w : World) (o o' : Obj) : Below w.heap.size w ((w.alloc o).alloc o') := ((Below.refl _ w).alloc (Nat.le_refl _) o).alloc (by simp) o'

theorem Cells3.two (w : World) (k n : Int) (s : ByteArray) (k' n' : Int) (s' : ByteArray) (T : TypeId) :
    Cells3 ((w.alloc (.cells #[.int .i64 k, .int .i64 n, .string s] T)).alloc (.cells #[.int .i64 k', .int .i64 n', .string s'] T)) w.heap.size k n s ∧
    Cells3 ((w.alloc (.cells #[.int .i64 k, .int .i64 n, .string s] T)).alloc (.cells #[.int .i64 k', .int .i64 n', .string s'] T)) (w.heap.size + 1) k' n' s' := by simp [Cells3]

theorem two_below {w w' : World} {b b' : Nat} {k n : Int} {s : ByteArray} {k' n' : Int} {s' : ByteArray} (h : Cells3 w b k n s ∧ Cells3 w b' k' n' s') (hb : Below w.heap.size w w') : Cells3 w' b k n s ∧ Cells3 w' b' k' n' s' :=
  ⟨h.1.below hb, h.2.below hb⟩

theorem keep6 {w w' : World} {a0 a1 a2 a3 a4 a5 : Addr} {v0 v1 v2 v3 v4 v5 : Value} (h : w.cell? a0 = some v0 ∧ w.cell? a1 = some v1 ∧ w.cell? a2 = some v2 ∧ w.cell? a3 = some v3 ∧ w.cell? a4 = some v4 ∧ w.cell? a5 = some v5) (hb : Below w.heap.size w w') : w'.cell? a0 = some v0 ∧ w'.cell? a1 = some v1 ∧ w'.cell? a2 = some v2 ∧ w'.cell? a3 = some v3 ∧ w'.cell? a4 = some v4 ∧ w'.cell? a5 = some v5 := by
  obtain ⟨h0, h1, h2, h3, h4, h5⟩ := h
  exact ⟨(hb.cell (cell_lt h0)).trans h0, (hb.cell (cell_lt h1)).trans h1, (hb.cell (cell_lt h2)).trans h2, (hb.cell (cell_lt h3)).trans h3, (hb.cell (cell_lt h4)).trans h4, (hb.cell (cell_lt h5)).trans h5⟩

theorem chain3 {B : Nat} {w x y1 y2 y3 : World} (h : Below B w x) (h1 : Below x.drew.heap.size x.drew y1) (h2 : Below y1.heap.size y1 y2) (h3 : Below y2.heap.size y2 y3) (hB : B ≤ w.heap.size := by simp) : Below B w y3 := by
  have a := h.drew.trans (h1.mono (Nat.le_trans hB h.size))
  have b := a.trans (h2.mono (Nat.le_trans hB a.size))
  exact b.trans (h3.mono (Nat.le_trans hB b.size))

def ordOk (k n : Int) (s : ByteArray) (k' n' : Int) (s' : ByteArray) : Int := if (valOkB k n s && valOkB k' n' s') = true then ordV k n s k' n' s' else 0

set_option maxHeartbeats 1000000 in
theorem implOrder (k n : Int) (s : ByteArray) (k' n' : Int) (s' : ByteArray) (w : World) :
    Calls Tryz.prog 130 #[.agg #[.int .i64 k, .int .i64 n, .string s], .agg #[.int .i64 k', .int .i64 n', .string s']] w fun e w' => e = .returned (.int .i64 (ordOk k n s k' n' s')) ∧ Below w.heap.size w w' := by
  have Q0 := Lib.hid (Cells3.two w k n s k' n' s' 95)
  have HB0 := Lib.hid (chain2 w (.cells #[.int .i64 k, .int .i64 n, .string s] 95) (.cells #[.int .i64 k', .int .i64 n', .string s'] 95))
  cases ha : valOkB k n s
  · have Ha := Lib.hid ha
    go_enter Tryz.func130, Tryz.ntmps130
    go_wp2_with fail
    refine (implValOk k n s _).mono ?_
    rintro e w1 ⟨rfl, hb1⟩
    go_wp2
    go_ret
    exact ⟨retI (by simp [ordOk, Ha.out]), HB0.out.trans (hb1.mono HB0.out.size)⟩
  cases hc : valOkB k' n' s'
  · have Hc := Lib.hid hc
    go_enter Tryz.func130, Tryz.ntmps130
    go_wp2_with fail
    refine (implValOk k n s _).mono ?_
    rintro e w1 ⟨rfl, hb1⟩
    obtain ⟨⟨c0, c1, c2⟩, ⟨d0, d1, d2⟩⟩ := two_below Q0.out hb1
    go_wp2_with fail
    refine (implValOk k' n' s' _).mono ?_
    rintro e w2 ⟨rfl, hb2⟩
    go_wp2
    go_ret
    exact ⟨retI (by simp [ordOk, Hc.out]), (HB0.out.trans (hb1.mono HB0.out.size)).trans (hb2.mono (HB0.out.trans (hb1.mono HB0.out.size)).size)⟩
  · have Ha := Lib.hid ha
    have Hc := Lib.hid hc
    go_enter Tryz.func130, Tryz.ntmps130
    go_wp2_with fail
    refine (implValOk k n s _).mono ?_
    rintro e w1 ⟨rfl, hb1⟩
    have q1 := two_below Q0.out hb1
    obtain ⟨⟨c0, c1, c2⟩, ⟨d0, d1, d2⟩⟩ := q1
    go_wp2_with fail
    refine (implValOk k' n' s' _).mono ?_
    rintro e w2 ⟨rfl, hb2⟩
    have h2 := (HB0.out.trans (hb1.mono HB0.out.size)).trans (hb2.mono (HB0.out.trans (hb1.mono HB0.out.size)).size)
    have H2 := Lib.hid h2
    obtain ⟨⟨g0, g1, g2⟩, ⟨e0, e1, e2⟩⟩ := two_below (s := s) (s' := s') ⟨⟨c0, c1, c2⟩, ⟨d0, d1, d2⟩⟩ hb2
    clear c0 c1 c2 d0 d1 d2 hb1 hb2 h2
    go_wp2_with fail
    go_region_held3 (fun w' => w'.cell? ⟨w.heap.size, 0, none⟩ = some (.int .i64 k) ∧ w'.cell? ⟨w.heap.size, 1, none⟩ = some (.int .i64 n) ∧ w'.cell? ⟨w.heap.size, 2, none⟩ = some (.string s) ∧ w'.cell? ⟨w.heap.size + 1, 0, none⟩ = some (.int .i64 k') ∧ w'.cell? ⟨w.heap.size + 1, 1, none⟩ = some (.int .i64 n') ∧ w'.cell? ⟨w.heap.size + 1, 2, none⟩ = some (.string s')) (go_keep)
      (first | (go_at_call 134; refine (cmpInt _ _ _).mono ?_; rintro e w3 ⟨rfl, rfl⟩) | (go_at_call 135; refine (cmpStr _ _ _).mono ?_; rintro e w3 ⟨rfl, rfl⟩) | (go_at_call 133; refine Calls.mono (cmpOr _ (cmpI k k') (cmpI n n') (cmpS s s') _ ?_ ?_ ?_) ?_; simp; simp; simp; rintro e w3 ⟨rfl, rfl⟩))
    go_wp2
    go_ret
    exact ⟨retI (by rw [ord_eq Ha.out Hc.out]; simp [ordOk, Ha.out, Hc.out]), by first | exact (H2.out.alloc H2.out.size _).drew | exact H2.out.drew.alloc H2.out.size _⟩
end Go.Proofs.YthafgkcokecnnaaGreat
namespace Go.Proofs.YthafgkcokecnnaaGreat
open Go.RowKit

theorem bytesLess_irrefl (l : List UInt8) : Op.bytesLess l l = false := by
  induction l with
  | nil => rfl
  | cons a l ih => simp [Op.bytesLess, ih]

def knownB (k n : Int) (s : ByteArray) : Bool := k != 0 && valOkB k n s
def yes (b : Bool) : Int := if b = true then 1 else 0
def eq3 (k n : Int) (s : ByteArray) (k' n' : Int) (s' : ByteArray) : Int := if (knownB k n s && knownB k' n' s') = true then yes (sameV k n s k' n' s') else 2
def less3 (k n : Int) (s : ByteArray) (k' n' : Int) (s' : ByteArray) : Int := if (knownB k n s && knownB k' n' s') = true then yes (decide (ordV k n s k' n' s' < 0)) else 2

theorem ordV_zero (k n : Int) (s : ByteArray) (k' n' : Int) (s' : ByteArray) : (ordV k n s k' n' s' == 0) = sameV k n s k' n' s' := by
  unfold ordV
  cases hs : sameV k n s k' n' s'
  · cases hl : lessV k n s k' n' s' <;> simp
  · have : lessV k n s k' n' s' = false := by
      simp [sameV] at hs
      obtain ⟨rfl, rfl, h⟩ := hs
      simp [lessV, h, bytesLess_irrefl]
    simp [this]

theorem implTruthIf (b : Bool) (w : World) : Calls Tryz.prog 126 #[.bool b] w fun e w' => e = .returned (.int .i64 (yes b)) ∧ w = w' := by
  cases b
  · go_enter Tryz.func126, Tryz.ntmps126
    go_wp2
    go_ret
    exact ⟨rfl, rfl⟩
  · go_enter Tryz.func126, Tryz.ntmps126
    go_wp2
    go_ret
    exact ⟨rfl, rfl⟩

theorem implKnown (k n : Int) (s : ByteArray) (w : World) :
    Calls Tryz.prog 129 #[.agg #[.int .i64 k, .int .i64 n, .string s]] w fun e w' => e = .returned (.bool (knownB k n s)) ∧ Below w.heap.size w w' := by
  have HB0 := Lib.hid ((Below.refl w.heap.size w).alloc (Nat.le_refl _) (.cells #[.int .i64 k, .int .i64 n, .string s] 95))
  by_cases h : k = 0
  · subst h
    go_enter Tryz.func129, Tryz.ntmps129
    go_wp2
    go_ret
    exact ⟨rfl, HB0.out⟩
  · have h' : (k != 0) = true := by simpa using h
    go_enter Tryz.func129, Tryz.ntmps129
    go_wp2_with fail
    refine (implValOk k n s _).mono ?_
    rintro e w1 ⟨rfl, hb1⟩
    go_wp2
    go_ret
    exact ⟨retB (by simp [knownB, h]), HB0.out.trans (hb1.mono HB0.out.size)⟩

set_option maxHeartbeats 1000000 in
theorem implEqual3 (k n : Int) (s : ByteArray) (k' n' : Int) (s' : ByteArray) (w : World) :
    Calls Tryz.prog 120 #[.agg #[.int .i64 k, .int .i64 n, .string s], .agg #[.int .i64 k', .int .i64 n', .string s']] w fun e w' => e = .returned (.int .i64 (eq3 k n s k' n' s')) ∧ Below w.heap.size w w' := by
  have Q0 := Lib.hid (Cells3.two w k n s k' n' s' 95)
  have HB0 := Lib.hid (chain2 w (.cells #[.int .i64 k, .int .i64 n, .string s] 95) (.cells #[.int .i64 k', .int .i64 n', .string s'] 95))
  cases ha : knownB k n s
  · have Ha := Lib.hid ha
    go_enter Tryz.func120, Tryz.ntmps120
    go_wp2_with fail
    refine (implKnown k n s _).mono ?_
    rintro e w1 ⟨rfl, hb1⟩
    go_wp2
    go_ret
    exact ⟨retI (by simp [eq3, Ha.out]), (HB0.out.trans (hb1.mono HB0.out.size))⟩
  cases hc : knownB k' n' s'
  · have Hc := Lib.hid hc
    go_enter Tryz.func120, Tryz.ntmps120
    go_wp2_with fail
    refine (implKnown k n s _).mono ?_
    rintro e w1 ⟨rfl, hb1⟩
    obtain ⟨⟨c0, c1, c2⟩, ⟨d0, d1, d2⟩⟩ := two_below Q0.out hb1
    go_wp2_with fail
    refine (implKnown k' n' s' _).mono ?_
    rintro e w2 ⟨rfl, hb2⟩
    go_wp2
    go_ret
    exact ⟨retI (by simp [eq3, Hc.out]), (HB0.out.trans (hb1.mono HB0.out.size)).trans (hb2.mono (HB0.out.trans (hb1.mono HB0.out.size)).size)⟩
  · have Ha := Lib.hid ha
    have Hc := Lib.hid hc
    go_enter Tryz.func120, Tryz.ntmps120
    go_wp2_with fail
    refine (implKnown k n s _).mono ?_
    rintro e w1 ⟨rfl, hb1⟩
    obtain ⟨⟨c0, c1, c2⟩, ⟨d0, d1, d2⟩⟩ := two_below Q0.out hb1
    go_wp2_with fail
    refine (implKnown k' n' s' _).mono ?_
    rintro e w2 ⟨rfl, hb2⟩
    have H2 := Lib.hid ((HB0.out.trans (hb1.mono HB0.out.size)).trans (hb2.mono (HB0.out.trans (hb1.mono HB0.out.size)).size))
    obtain ⟨⟨g0, g1, g2⟩, ⟨e0, e1, e2⟩⟩ := two_below (s := s) (s' := s') ⟨⟨c0, c1, c2⟩, ⟨d0, d1, d2⟩⟩ hb2
    clear c0 c1 c2 d0 d1 d2 hb1 hb2
    go_wp2_with fail
    refine (implOrder k n s k' n' s' _).mono ?_
    rintro e w3 ⟨rfl, hb3⟩
    go_wp2_with fail
    refine (implTruthIf _ _).mono ?_
    rintro e w4 ⟨rfl, rfl⟩
    go_wp2
    go_ret
    have o1 : valOkB k n s = true := by have := Ha.out; simp [knownB] at this; exact this.2
    have o2 : valOkB k' n' s' = true := by have := Hc.out; simp [knownB] at this; exact this.2
    exact ⟨retI (by simp only [eq3, Ha.out, Hc.out, Bool.and_self, if_true, ordOk, o1, o2, ordV_zero]), H2.out.trans (hb3.mono H2.out.size)⟩

set_option maxHeartbeats 1000000 in
theorem implLess3 (k n : Int) (s : ByteArray) (k' n' : Int) (s' : ByteArray) (w : World) :
    Calls Tryz.prog 121 #[.agg #[.int .i64 k, .int .i64 n, .string s], .agg #[.int .i64 k', .int .i64 n', .string s']] w fun e w' => e = .returned (.int .i64 (less3 k n s k' n' s')) ∧ Below w.heap.size w w' := by
  have Q0 := Lib.hid (Cells3.two w k n s k' n' s' 95)
  have HB0 := Lib.hid (chain2 w (.cells #[.int .i64 k, .int .i64 n, .string s] 95) (.cells #[.int .i64 k', .int .i64 n', .string s'] 95))
  cases ha : knownB k n s
  · have Ha := Lib.hid ha
    go_enter Tryz.func121, Tryz.ntmps121
    go_wp2_with fail
    refine (implKnown k n s _).mono ?_
    rintro e w1 ⟨rfl, hb1⟩
    go_wp2
    go_ret
    exact ⟨retI (by simp [less3, Ha.out]), (HB0.out.trans (hb1.mono HB0.out.size))⟩
  cases hc : knownB k' n' s'
  · have Hc := Lib.hid hc
    go_enter Tryz.func121, Tryz.ntmps121
    go_wp2_with fail
    refine (implKnown k n s _).mono ?_
    rintro e w1 ⟨rfl, hb1⟩
    obtain ⟨⟨c0, c1, c2⟩, ⟨d0, d1, d2⟩⟩ := two_below Q0.out hb1
    go_wp2_with fail
    refine (implKnown k' n' s' _).mono ?_
    rintro e w2 ⟨rfl, hb2⟩
    go_wp2
    go_ret
    exact ⟨retI (by simp [less3, Hc.out]), (HB0.out.trans (hb1.mono HB0.out.size)).trans (hb2.mono (HB0.out.trans (hb1.mono HB0.out.size)).size)⟩
  · have Ha := Lib.hid ha
    have Hc := Lib.hid hc
    go_enter Tryz.func121, Tryz.ntmps121
    go_wp2_with fail
    refine (implKnown k n s _).mono ?_
    rintro e w1 ⟨rfl, hb1⟩
    obtain ⟨⟨c0, c1, c2⟩, ⟨d0, d1, d2⟩⟩ := two_below Q0.out hb1
    go_wp2_with fail
    refine (implKnown k' n' s' _).mono ?_
    rintro e w2 ⟨rfl, hb2⟩
    have H2 := Lib.hid ((HB0.out.trans (hb1.mono HB0.out.size)).trans (hb2.mono (HB0.out.trans (hb1.mono HB0.out.size)).size))
    obtain ⟨⟨g0, g1, g2⟩, ⟨e0, e1, e2⟩⟩ := two_below (s := s) (s' := s') ⟨⟨c0, c1, c2⟩, ⟨d0, d1, d2⟩⟩ hb2
    clear c0 c1 c2 d0 d1 d2 hb1 hb2
    go_wp2_with fail
    refine (implOrder k n s k' n' s' _).mono ?_
    rintro e w3 ⟨rfl, hb3⟩
    go_wp2_with fail
    refine (implTruthIf _ _).mono ?_
    rintro e w4 ⟨rfl, rfl⟩
    go_wp2
    go_ret
    have o1 : valOkB k n s = true := by have := Ha.out; simp [knownB] at this; exact this.2
    have o2 : valOkB k' n' s' = true := by have := Hc.out; simp [knownB] at this; exact this.2
    exact ⟨retI (by simp only [less3, Ha.out, Hc.out, Bool.and_self, if_true, ordOk, o1, o2]), H2.out.trans (hb3.mono H2.out.size)⟩
end Go.Proofs.YthafgkcokecnnaaGreat
namespace Go.Proofs.YthafgkcokecnnaaGreat
open Go.RowKit

end Go.Proofs.YthafgkcokecnnaaGreat
namespace Go.Proofs.YthafgkcokecnnaaGreat
open Go.RowKit

def not3 (a : Int) : Int := if a = 0 then 1 else if a = 1 then 0 else if a = 2 then 2 else -1
def tru (a : Int) : Bool := a == 0 || a == 1 || a == 2
def and3 (a b : Int) : Int := if !tru a || !tru b then -1 else if a = 0 ∨ b = 0 then 0 else if a = 1 ∧ b = 1 then 1 else 2
def or3 (a b : Int) : Int := if !tru a || !tru b then -1 else if a = 1 ∨ b = 1 then 1 else if a = 0 ∧ b = 0 then 0 else 2

theorem tri (a : Int) : a = 0 ∨ a = 1 ∨ a = 2 ∨ (a < 0 ∧ decide (0 ≤ a) = false ∧ (a == 0) = false ∧ (a == 1) = false ∧ (a == 2) = false) ∨ (2 < a ∧ decide (a ≤ 2) = false ∧ (a == 0) = false ∧ (a == 1) = false ∧ (a == 2) = false) := by
  simp only [beq_eq_false_iff_ne, ne_eq, decide_eq_false_iff_not]; omega

theorem implNot3 (a : Int) (w : World) :
    Calls Tryz.prog 125 #[.int .i64 a] w fun e w' => e = .returned (.int .i64 (not3 a)) ∧ w = w' := by
  rcases tri a with rfl | rfl | rfl | ⟨h, hd, h0, h1, h2⟩ | ⟨h, hd, h0, h1, h2⟩
  case' inr.inr.inr.inl => rw [show not3 a = -1 by unfold not3; rw [if_neg (by omega), if_neg (by omega), if_neg (by omega)]]
  case' inr.inr.inr.inr => rw [show not3 a = -1 by unfold not3; rw [if_neg (by omega), if_neg (by omega), if_neg (by omega)]]
  all_goals
    go_enter Tryz.func125, Tryz.ntmps125
    go_wp2
    go_ret
    exact ⟨rfl, rfl⟩

theorem tru_lo {a : Int} (h : a < 0) : tru a = false := by simp [tru]; omega
theorem tru_hi {a : Int} (h : 2 < a) : tru a = false := by simp [tru]; omega
theorem and3_a {a : Int} (h : tru a = false) (b : Int) : and3 a b = -1 := by simp [and3, h]
theorem and3_b {b : Int} (h : tru b = false) (a : Int) : and3 a b = -1 := by simp [and3, h]
theorem or3_a {a : Int} (h : tru a = false) (b : Int) : or3 a b = -1 := by simp [or3, h]
theorem or3_b {b : Int} (h : tru b = false) (a : Int) : or3 a b = -1 := by simp [or3, h]

theorem implAnd3 (a b : Int) (w : World) :
    Calls Tryz.prog 122 #[.int .i64 a, .int .i64 b] w fun e w' => e = .returned (.int .i64 (and3 a b)) ∧ w = w' := by
  rcases tri a with rfl | rfl | rfl | ⟨h, hd, h0, h1, h2⟩ | ⟨h, hd, h0, h1, h2⟩ <;> rcases tri b with rfl | rfl | rfl | ⟨k, kd, k0, k1, k2⟩ | ⟨k, kd, k0, k1, k2⟩
  all_goals
    first
    | rw [and3_a (tru_lo ‹_›)]
    | rw [and3_a (tru_hi ‹_›)]
    | rw [and3_b (tru_lo ‹_›)]
    | rw [and3_b (tru_hi ‹_›)]
    | skip
  all_goals
    go_enter Tryz.func122, Tryz.ntmps122
    go_wp2
    go_ret
    exact ⟨rfl, rfl⟩

theorem implOr3 (a b : Int) (w : World) :
    Calls Tryz.prog 124 #[.int .i64 a, .int .i64 b] w fun e w' => e = .returned (.int .i64 (or3 a b)) ∧ w = w' := by
  rcases tri a with rfl | rfl | rfl | ⟨h, hd, h0, h1, h2⟩ | ⟨h, hd, h0, h1, h2⟩ <;> rcases tri b with rfl | rfl | rfl | ⟨k, kd, k0, k1, k2⟩ | ⟨k, kd, k0, k1, k2⟩
  all_goals
    first
    | rw [or3_a (tru_lo ‹_›)]
    | rw [or3_a (tru_hi ‹_›)]
    | rw [or3_b (tru_lo ‹_›)]
    | rw [or3_b (tru_hi ‹_›)]
    | skip
  all_goals
    go_enter Tryz.func124, Tryz.ntmps124
    go_wp2
    go_ret
    exact ⟨rfl, rfl⟩

end Go.Proofs.YthafgkcokecnnaaGreat
namespace Go.Proofs.YthafgkcokecnnaaGreat
open Go.RowKit

def Vl.zero : Vl := ⟨0, 0, ⟨#[]⟩⟩
def Vl.ok (v : Vl) : Bool := valOkB v.k v.n v.s
def Vl.agg (v : Vl) : Value := .agg #[.int .i64 v.k, .int .i64 v.n, .string v.s]

/-- The truth of a value; -1: it has none. -/
def truOf (v : Vl) : Int := if v.k = 0 then 2 else if v.k = 1 then yes (v.n != 0) else -1
/-- A truth as a value. -/
def asVl (a : Int) : Vl := if a = 2 then Vl.zero else ⟨1, a, ⟨#[]⟩⟩
def asOpt (a : Int) : Option Vl := if a = -1 then none else some (asVl a)
def sumVl (a b : Vl) (sg : Int) : Option Vl :=
  if a.k = 2 ∨ b.k = 2 then none else if a.k = 0 ∨ b.k = 0 then some Vl.zero
  else if -1000000000 ≤ a.n + sg * b.n ∧ a.n + sg * b.n ≤ 1000000000 then some ⟨1, a.n + sg * b.n, ⟨#[]⟩⟩ else none

def op1 (k : Int) (a : Vl) : Option Vl := if k = 7 then asOpt (not3 (truOf a)) else asOpt (yes (a.k == 0))
def op2 (k : Int) (a b : Vl) : Option Vl :=
  if k = 3 then asOpt (eq3 a.k a.n a.s b.k b.n b.s) else if k = 4 then asOpt (less3 a.k a.n a.s b.k b.n b.s)
  else if k = 5 then asOpt (and3 (truOf a) (truOf b)) else if k = 6 then asOpt (or3 (truOf a) (truOf b))
  else if k = 9 then sumVl a b 1 else sumVl a b (-1)

/-- What a part leaves of the values that it takes. -/
def opOf (k : Int) (xs : List Vl) : Option Vl :=
  match xs with
  | [a] => op1 k a
  | [a, b] => op2 k a b
  | _ => none

/-- The value that a part gives. -/
def tokVal (row : List Vl) (t : Tk) (xs : List Vl) : Option Vl :=
  if t.k = 1 then row[t.c.toNat]? else if t.k = 2 then some ⟨t.vk, t.vn, t.vs⟩ else opOf t.k xs

/-- One part more: the values that are left, the last one last. -/
def evalStep (row : List Vl) (t : Tk) (st : List Vl) : Option (List Vl) :=
  (tokVal row t (st.drop (st.length - takes t.k))).map fun v => st.take (st.length - takes t.k) ++ [v]

def evalGo (row : List Vl) : List Tk → List Vl → Option (List Vl)
  | [], st => some st
  | t :: ts, st => (evalStep row t st).bind (evalGo row ts)

def rowB (row : List Vl) : Bool := decide (row.length ≤ 16) && row.all Vl.ok

/-- The value of an expression. -/
def evalB (ts : List Tk) (row : List Vl) : Option Vl :=
  if (rowB row && exprB ts row.length) = true then ((evalGo row ts []).bind (·[0]?)) else none

def optV : Option Vl → Value
  | some v => .tuple #[v.agg, .bool true]
  | none => .tuple #[.agg #[.int .i64 0, .int .i64 0, .string ⟨#[]⟩], .bool false]

theorem evalGo_append (row : List Vl) : ∀ (a b : List Tk) (st : List Vl), evalGo row (a ++ b) st = (evalGo row a st).bind (evalGo row b)
  | [], b, st => rfl
  | t :: ts, b, st => by
    simp only [List.cons_append, evalGo]
    cases evalStep row t st with
    | none => rfl
    | some st' => simp [evalGo_append row ts b st']

theorem evalGo_snoc (row : List Vl) (ts : List Tk) (i : Nat) (hi : i < ts.length) (st st' : List Vl) (h : evalGo row (ts.take i) st = some st') :
    evalGo row (ts.take (i + 1)) st = evalStep row ts[i] st' := by
  rw [List.take_succ_eq_append_getElem hi, evalGo_append, h]
  simp only [Option.bind_some, evalGo]
  cases evalStep row ts[i] st' <;> rfl
theorem evalGo_dead (row : List Vl) (ts : List Tk) (i : Nat) (st : List Vl) (h : evalGo row (ts.take i) st = none) : evalGo row ts st = none := by
  have e : ts = ts.take i ++ ts.drop i := (List.take_append_drop i ts).symm
  rw [e, evalGo_append, h]
  rfl

theorem truOf_cases {v : Vl} (h : v.ok = true) : (v.k = 0 ∧ truOf v = 2) ∨ (v.k = 1 ∧ (truOf v = 0 ∨ truOf v = 1)) ∨ (v.k = 2 ∧ truOf v = -1) := by
  have h1 : v.k = 0 ∨ v.k = 1 ∨ v.k = 2 := by
    unfold Vl.ok valOkB at h
    by_cases a : v.k = 0
    · exact .inl a
    by_cases b : v.k = 1
    · exact .inr (.inl b)
    by_cases c : v.k = 2
    · exact .inr (.inr c)
    · simp [a, b, c] at h
  rcases h1 with e | e | e
  · left; simp [truOf, e]
  · right; left; refine ⟨e, ?_⟩; unfold truOf yes; rw [e]; simp; exact Classical.em _
  · right; right; simp [truOf, e]

theorem asVl_ok {a : Int} (h : a = 0 ∨ a = 1 ∨ a = 2) : (asVl a).ok = true := by
  rcases h with rfl | rfl | rfl <;> simp [asVl, Vl.zero, Vl.ok, valOkB]

theorem asOpt_ok {a : Int} (h : a = -1 ∨ a = 0 ∨ a = 1 ∨ a = 2) {v : Vl} (e : asOpt a = some v) : v.ok = true := by
  unfold asOpt at e
  rcases h with rfl | h
  · simp at e
  · rw [if_neg (by omega)] at e
    cases e
    exact asVl_ok h

theorem sumVl_ok {a b : Vl} {sg : Int} {v : Vl} (e : sumVl a b sg = some v) : v.ok = true := by
  unfold sumVl at e
  split at e
  · cases e
  · split at e
    · cases e; simp [Vl.zero, Vl.ok, valOkB]
    · split at e
      · rename_i h
        cases e
        simp [Vl.ok, valOkB, h.1, h.2]
      · cases e

theorem yes01 (b : Bool) : yes b = 0 ∨ yes b = 1 := by cases b <;> simp [yes]
theorem eq3_rng (k n : Int) (s : ByteArray) (k' n' : Int) (s' : ByteArray) : eq3 k n s k' n' s' = -1 ∨ eq3 k n s k' n' s' = 0 ∨ eq3 k n s k' n' s' = 1 ∨ eq3 k n s k' n' s' = 2 := by
  unfold eq3; split
  · rcases yes01 (sameV k n s k' n' s') with h | h <;> simp [h]
  · simp
theorem less3_rng (k n : Int) (s : ByteArray) (k' n' : Int) (s' : ByteArray) : less3 k n s k' n' s' = -1 ∨ less3 k n s k' n' s' = 0 ∨ less3 k n s k' n' s' = 1 ∨ less3 k n s k' n' s' = 2 := by
  unfold less3; split
  · rcases yes01 (decide (ordV k n s k' n' s' < 0)) with h | h <;> simp [h]
  · simp
theorem and3_rng (a b : Int) : and3 a b = -1 ∨ and3 a b = 0 ∨ and3 a b = 1 ∨ and3 a b = 2 := by unfold and3; (repeat' split) <;> simp
theorem or3_rng (a b : Int) : or3 a b = -1 ∨ or3 a b = 0 ∨ or3 a b = 1 ∨ or3 a b = 2 := by unfold or3; (repeat' split) <;> simp
theorem not3_rng (a : Int) : not3 a = -1 ∨ not3 a = 0 ∨ not3 a = 1 ∨ not3 a = 2 := by unfold not3; (repeat' split) <;> simp

theorem op1_ok {k : Int} {a v : Vl} (e : op1 k a = some v) : v.ok = true := by
  unfold op1 at e
  split at e
  · exact asOpt_ok (not3_rng _) e
  · exact asOpt_ok (by rcases yes01 (a.k == 0) with h | h <;> simp [h]) e
theorem op2_ok {k : Int} {a b v : Vl} (e : op2 k a b = some v) : v.ok = true := by
  unfold op2 at e
  split at e
  · exact asOpt_ok (eq3_rng ..) e
  split at e
  · exact asOpt_ok (less3_rng ..) e
  split at e
  · exact asOpt_ok (and3_rng ..) e
  split at e
  · exact asOpt_ok (or3_rng ..) e
  split at e
  · exact sumVl_ok e
  · exact sumVl_ok e
theorem opOf_ok {k : Int} {xs : List Vl} {v : Vl} (e : opOf k xs = some v) : v.ok = true := by
  unfold opOf at e
  split at e
  · exact op1_ok e
  · exact op2_ok e
  · cases e

/-- What is right as a whole is right part by part. -/
theorem right_at {cols : Int} {ts : List Tk} (h : exprGo cols ts 0 = some 1) {k l : Nat} (hk : k < ts.length) (hg : exprGo cols (ts.take k) 0 = some l) :
    tokB ts[k] cols = true ∧ takes ts[k].k ≤ l ∧ exprGo cols (ts.take (k + 1)) 0 = some (l - takes ts[k].k + 1) := by
  have hs := exprGo_snoc cols ts k hk 0 l hg
  by_cases hc : tokB ts[k] cols = true ∧ takes ts[k].k ≤ l
  · rw [if_pos hc] at hs
    exact ⟨hc.1, hc.2, hs⟩
  · rw [if_neg hc] at hs
    rw [exprGo_dead cols ts (k + 1) 0 hs] at h
    cases h

theorem exprB_go {ts : List Tk} {cols : Int} (h : exprB ts cols = true) : exprGo cols ts 0 = some 1 ∧ ts.length ≤ 24 := by
  simp [exprB] at h
  exact ⟨h.2.2.2, h.2.2.1⟩

theorem tokVal_ok {row : List Vl} {t : Tk} {xs : List Vl} {v : Vl} {cols : Int} (hrow : ∀ v ∈ row, v.ok = true) (ht : tokB t cols = true) (e : tokVal row t xs = some v) : v.ok = true := by
  unfold tokVal at e
  split at e
  · exact hrow v (List.mem_of_getElem? e)
  · split at e
    · rename_i h1 h2
      cases e
      unfold tokB at ht
      rw [if_neg h1, if_pos h2] at ht
      simp at ht
      exact ht.2
    · exact opOf_ok e

theorem evalStep_none {row : List Vl} {t : Tk} {st : List Vl} (h : tokVal row t (st.drop (st.length - takes t.k)) = none) : evalStep row t st = none := by simp [evalStep, h]
theorem evalStep_some {row : List Vl} {t : Tk} {st : List Vl} {v : Vl} (h : tokVal row t (st.drop (st.length - takes t.k)) = some v) : evalStep row t st = some (st.take (st.length - takes t.k) ++ [v]) := by simp [evalStep, h]
end Go.Proofs.YthafgkcokecnnaaGreat
namespace Go.Proofs.YthafgkcokecnnaaGreat
open Go.RowKit

/-- A value and whether there is one. -/
def OptPost (o : Option Vl) (w : World) (e : Ending) (w' : World) : Prop := ∃ x : Vl, e = .returned (.tuple #[.agg #[.int .i64 x.k, .int .i64 x.n, .string x.s], .bool o.isSome]) ∧ (∀ v, o = some v → x = v) ∧ Below w.heap.size w w'

/-- The truth of a value as the model tells it: a number, and whether there is one. -/
def truN (v : Vl) : Int := if truOf v = -1 then 0 else truOf v
def truS (v : Vl) : Bool := decide (truOf v ≠ -1)

theorem Vl.kinds {v : Vl} (h : v.ok = true) : v.k = 0 ∨ v.k = 1 ∧ -1000000000 ≤ v.n ∧ v.n ≤ 1000000000 ∨ v.k = 2 := by
  unfold Vl.ok valOkB at h
  by_cases a : v.k = 0
  · exact .inl a
  by_cases b : v.k = 1
  · simp [b] at h
    exact .inr (.inl ⟨b, h.1.1, h.1.2⟩)
  by_cases c : v.k = 2
  · exact .inr (.inr c)
  · simp [a, b, c] at h

theorem sum_wraps {x y sg : Int} (hx : -1000000000 ≤ x ∧ x ≤ 1000000000) (hy : -1000000000 ≤ y ∧ y ≤ 1000000000) (hsg : sg = 1 ∨ sg = -1) : wrap64 (sg * y) = sg * y ∧ wrap64 (x + sg * y) = x + sg * y := by
  rcases hsg with rfl | rfl <;> unfold wrap64 <;> omega

end Go.Proofs.YthafgkcokecnnaaGreat
namespace Go.Proofs.YthafgkcokecnnaaGreat
open Go.RowKit

/-- Two values that came in, and the answer's place. -/
theorem boxes3 (w : World) (a b : Vl) (T : TypeId) :
    Row (((w.alloc (.cells #[.int .i64 a.k, .int .i64 a.n, .string a.s] T)).alloc (.cells #[.int .i64 b.k, .int .i64 b.n, .string b.s] T)).alloc (.cells #[.int .i64 0, .int .i64 0, .string ⟨#[]⟩] T)) w.heap.size T #[.int .i64 a.k, .int .i64 a.n, .string a.s] ∧
    Row (((w.alloc (.cells #[.int .i64 a.k, .int .i64 a.n, .string a.s] T)).alloc (.cells #[.int .i64 b.k, .int .i64 b.n, .string b.s] T)).alloc (.cells #[.int .i64 0, .int .i64 0, .string ⟨#[]⟩] T)) (w.heap.size + 1) T #[.int .i64 b.k, .int .i64 b.n, .string b.s] ∧
    Row (((w.alloc (.cells #[.int .i64 a.k, .int .i64 a.n, .string a.s] T)).alloc (.cells #[.int .i64 b.k, .int .i64 b.n, .string b.s] T)).alloc (.cells #[.int .i64 0, .int .i64 0, .string ⟨#[]⟩] T)) (w.heap.size + 1 + 1) T #[.int .i64 0, .int .i64 0, .string ⟨#[]⟩] ∧
    Below w.heap.size w (((w.alloc (.cells #[.int .i64 a.k, .int .i64 a.n, .string a.s] T)).alloc (.cells #[.int .i64 b.k, .int .i64 b.n, .string b.s] T)).alloc (.cells #[.int .i64 0, .int .i64 0, .string ⟨#[]⟩] T)) :=
  ⟨((Row.new w T _).alloc _).alloc _, (Row.newAt _ T _ _ (by simp only [size1])).alloc _, Row.newAt _ T _ _ (by simp only [size1]), (((Below.refl w.heap.size w).alloc (Nat.le_refl _) _).alloc (by simp only [size1]; omega) _).alloc (by simp only [size1]; omega) _⟩

theorem yes_ne (b : Bool) : ¬ yes b = -1 := by rcases yes01 b with h | h <;> omega
theorem eq3_ne (k n : Int) (s : ByteArray) (k' n' : Int) (s' : ByteArray) : ¬ eq3 k n s k' n' s' = -1 := by
  unfold eq3; split
  · exact yes_ne _
  · omega
theorem less3_ne (k n : Int) (s : ByteArray) (k' n' : Int) (s' : ByteArray) : ¬ less3 k n s k' n' s' = -1 := by
  unfold less3; split
  · exact yes_ne _
  · omega
theorem asOpt_some {a : Int} (h : ¬ a = -1) : asOpt a = some (asVl a) := by simp [asOpt, h]

theorem truOf_rng (v : Vl) : truOf v = -1 ∨ tru (truOf v) = true := by
  unfold truOf
  split
  · right; rfl
  · split
    · right; rcases yes01 (v.n != 0) with h | h <;> rw [h] <;> rfl
    · left; rfl
theorem and3_ne {a b : Vl} (ha : ¬ truOf a = -1) (hb : ¬ truOf b = -1) : ¬ and3 (truOf a) (truOf b) = -1 := by
  have h1 := (truOf_rng a).resolve_left ha
  have h2 := (truOf_rng b).resolve_left hb
  unfold and3
  simp only [h1, h2, Bool.not_true, Bool.or_self, Bool.false_eq_true, if_false]
  split
  · omega
  · split <;> omega
theorem or3_ne {a b : Vl} (ha : ¬ truOf a = -1) (hb : ¬ truOf b = -1) : ¬ or3 (truOf a) (truOf b) = -1 := by
  have h1 := (truOf_rng a).resolve_left ha
  have h2 := (truOf_rng b).resolve_left hb
  unfold or3
  simp only [h1, h2, Bool.not_true, Bool.or_self, Bool.false_eq_true, if_false]
  split
  · omega
  · split <;> omega


end Go.Proofs.YthafgkcokecnnaaGreat
namespace Go.Proofs.YthafgkcokecnnaaGreat
open Go.RowKit

theorem as_not_not (v : Value) (w : World) : (Instr.typeAssert (.iface 191 v) 179 191 true).run Tryz.prog w = .ok (.tuple #[v, .bool true]) w := by kernel_rfl
theorem as_num_not (v : Value) (w : World) : (Instr.typeAssert (.iface 192 v) 179 191 true).run Tryz.prog w = .ok (.tuple #[.agg #[], .bool false]) w := by kernel_rfl
theorem as_str_not (v : Value) (w : World) : (Instr.typeAssert (.iface 193 v) 179 191 true).run Tryz.prog w = .ok (.tuple #[.agg #[], .bool false]) w := by kernel_rfl

theorem held0V (n : Int) (s : ByteArray) : heldV 0 n s = .iface 191 (.agg #[]) := by simp [heldV]
theorem held1V (n : Int) (s : ByteArray) : heldV 1 n s = .iface 192 (.int .i64 n) := by simp [heldV]
theorem held2V (n : Int) (s : ByteArray) : heldV 2 n s = .iface 193 (.string s) := by simp [heldV]

set_option maxRecDepth 100000 in
theorem implTruthOf (v : Vl) (w : World) (h : v.ok = true) :
    Calls Tryz.prog 123 #[.agg #[.int .i64 v.k, .int .i64 v.n, .string v.s]] w fun e w' => e = .returned (.int .i64 (truOf v)) ∧ Below w.heap.size w w' := by
  obtain ⟨k, n, s⟩ := v
  rcases Vl.kinds h with h0 | ⟨h0, -, -⟩ | h0
  · simp only at h0
    subst h0
    have HV := Lib.hid (show truOf ⟨0, n, s⟩ = 2 by simp [truOf])
    have a1 := as_not_not (.agg #[])
    go_enter Tryz.func123, Tryz.ntmps123
    go_wp2_with fail
    refine (heldYes _ _ _ _ h).mono ?_
    rintro e w1 ⟨rfl, hb1⟩
    rw [held0V]
    go_wp2
    go_ret
    have hz := ((Below.refl w.heap.size w).alloc (Nat.le_refl _) _).trans (hb1.mono (by simp))
    exact ⟨retI (by rw [HV.out]), hz.alloc hz.size _⟩
  · simp only at h0
    subst h0
    have HV := Lib.hid (show truOf ⟨1, n, s⟩ = yes (n != 0) by simp [truOf])
    have a1 := as_num_not (.int .i64 n)
    have a2 := as_num_num (.int .i64 n)
    go_enter Tryz.func123, Tryz.ntmps123
    go_wp2_with fail
    refine (heldYes _ _ _ _ h).mono ?_
    rintro e w1 ⟨rfl, hb1⟩
    rw [held1V]
    go_wp2_with fail
    refine (implTruthIf _ _).mono ?_
    rintro e w2 ⟨rfl, rfl⟩
    go_wp2
    go_ret
    exact ⟨retI (by rw [HV.out]), ((Below.refl _ _).alloc (Nat.le_refl _) _).trans (hb1.mono (by simp))⟩
  · simp only at h0
    subst h0
    have HV := Lib.hid (show truOf ⟨2, n, s⟩ = -1 by simp [truOf])
    have a1 := as_str_not (.string s)
    have a2 := as_str_num (.string s)
    go_enter Tryz.func123, Tryz.ntmps123
    go_wp2_with fail
    refine (heldYes _ _ _ _ h).mono ?_
    rintro e w1 ⟨rfl, hb1⟩
    rw [held2V]
    go_wp2
    go_ret
    exact ⟨retI (by rw [HV.out]), ((Below.refl _ _).alloc (Nat.le_refl _) _).trans (hb1.mono (by simp))⟩

set_option maxHeartbeats 400000 in
theorem implTruthVal (a : Int) (w : World) (h : a = -1 ∨ a = 0 ∨ a = 1 ∨ a = 2) :
    Calls Tryz.prog 119 #[.int .i64 a] w (OptPost (asOpt a) w) := by
  rcases h with rfl | rfl | rfl | rfl
  · have HV := Lib.hid (show asOpt (-1) = none by rfl)
    go_enter Tryz.func119, Tryz.ntmps119
    go_wp2
    exact bodyPost_ret (v := .tuple #[.agg #[.int .i64 0, .int .i64 0, .string ⟨#[]⟩], .bool false]) (by simp [results, Tryz.results119, go_sem]) rfl ⟨Vl.zero, by rw [HV.out]; rfl, by rw [HV.out]; simp, (Below.refl _ _).alloc (Nat.le_refl _) _⟩
  · have HV := Lib.hid (show asOpt 0 = some ⟨1, 0, ⟨#[]⟩⟩ by rfl)
    go_enter Tryz.func119, Tryz.ntmps119
    go_wp2
    exact bodyPost_ret (v := .tuple #[.agg #[.int .i64 1, .int .i64 0, .string ⟨#[]⟩], .bool true]) (by simp [results, Tryz.results119, go_sem]) rfl ⟨⟨1, 0, ⟨#[]⟩⟩, by rw [HV.out]; rfl, by rw [HV.out]; simp, (Below.refl _ _).alloc (Nat.le_refl _) _⟩
  · have HV := Lib.hid (show asOpt 1 = some ⟨1, 1, ⟨#[]⟩⟩ by rfl)
    go_enter Tryz.func119, Tryz.ntmps119
    go_wp2
    exact bodyPost_ret (v := .tuple #[.agg #[.int .i64 1, .int .i64 1, .string ⟨#[]⟩], .bool true]) (by simp [results, Tryz.results119, go_sem]) rfl ⟨⟨1, 1, ⟨#[]⟩⟩, by rw [HV.out]; rfl, by rw [HV.out]; simp, (Below.refl _ _).alloc (Nat.le_refl _) _⟩
  · have HV := Lib.hid (show asOpt 2 = some Vl.zero by rfl)
    go_enter Tryz.func119, Tryz.ntmps119
    go_wp2
    exact bodyPost_ret (v := .tuple #[.agg #[.int .i64 0, .int .i64 0, .string ⟨#[]⟩], .bool true]) (by simp [results, Tryz.results119, go_sem]) rfl ⟨Vl.zero, by rw [HV.out]; rfl, by rw [HV.out]; simp, (Below.refl _ _).alloc (Nat.le_refl _) _⟩

end Go.Proofs.YthafgkcokecnnaaGreat
namespace Go.Proofs.YthafgkcokecnnaaGreat
open Go.RowKit

/-- A cell behind three stores into another block. -/
theorem stayThree {w : World} {g b i : Nat} {x y z v : Value} (h : g ≠ b) (hc : w.cell? ⟨b, i, none⟩ = some v) :
    (((w.setCell ⟨g, 0, none⟩ x).setCell ⟨g, 1, none⟩ y).setCell ⟨g, 2, none⟩ z).cell? ⟨b, i, none⟩ = some v := by
  have e : ∀ o, (⟨g, o, none⟩ : Addr) ≠ ⟨b, i, none⟩ := fun o he => h (congrArg Addr.block he)
  rw [World.cell?_setCell_other _ _ _ _ (e 2), World.cell?_setCell_other _ _ _ _ (e 1), World.cell?_setCell_other _ _ _ _ (e 0)]; exact hc
theorem keep6s {w : World} {g b i0 i1 i2 i3 i4 i5 : Nat} {x y z v0 v1 v2 v3 v4 v5 : Value} (hne : g ≠ b)
    (h : w.cell? ⟨b, i0, none⟩ = some v0 ∧ w.cell? ⟨b, i1, none⟩ = some v1 ∧ w.cell? ⟨b, i2, none⟩ = some v2 ∧ w.cell? ⟨b, i3, none⟩ = some v3 ∧ w.cell? ⟨b, i4, none⟩ = some v4 ∧ w.cell? ⟨b, i5, none⟩ = some v5) :
    (((w.setCell ⟨g, 0, none⟩ x).setCell ⟨g, 1, none⟩ y).setCell ⟨g, 2, none⟩ z).cell? ⟨b, i0, none⟩ = some v0 ∧ (((w.setCell ⟨g, 0, none⟩ x).setCell ⟨g, 1, none⟩ y).setCell ⟨g, 2, none⟩ z).cell? ⟨b, i1, none⟩ = some v1 ∧
    (((w.setCell ⟨g, 0, none⟩ x).setCell ⟨g, 1, none⟩ y).setCell ⟨g, 2, none⟩ z).cell? ⟨b, i2, none⟩ = some v2 ∧ (((w.setCell ⟨g, 0, none⟩ x).setCell ⟨g, 1, none⟩ y).setCell ⟨g, 2, none⟩ z).cell? ⟨b, i3, none⟩ = some v3 ∧
    (((w.setCell ⟨g, 0, none⟩ x).setCell ⟨g, 1, none⟩ y).setCell ⟨g, 2, none⟩ z).cell? ⟨b, i4, none⟩ = some v4 ∧ (((w.setCell ⟨g, 0, none⟩ x).setCell ⟨g, 1, none⟩ y).setCell ⟨g, 2, none⟩ z).cell? ⟨b, i5, none⟩ = some v5 :=
  ⟨stayThree hne h.1, stayThree hne h.2.1, stayThree hne h.2.2.1, stayThree hne h.2.2.2.1, stayThree hne h.2.2.2.2.1, stayThree hne h.2.2.2.2.2⟩

/-- Six cells of two values. -/
def Six (w : World) (b off : Nat) (x y : Vl) : Prop :=
  w.cell? ⟨b, off, none⟩ = some (.int .i64 x.k) ∧ w.cell? ⟨b, off + 1, none⟩ = some (.int .i64 x.n) ∧ w.cell? ⟨b, off + 2, none⟩ = some (.string x.s) ∧
  w.cell? ⟨b, off + 3, none⟩ = some (.int .i64 y.k) ∧ w.cell? ⟨b, off + 3 + 1, none⟩ = some (.int .i64 y.n) ∧ w.cell? ⟨b, off + 3 + 2, none⟩ = some (.string y.s)
/-- Three cells of a value. -/
def Tri (w : World) (b off : Nat) (x : Vl) : Prop :=
  w.cell? ⟨b, off, none⟩ = some (.int .i64 x.k) ∧ w.cell? ⟨b, off + 1, none⟩ = some (.int .i64 x.n) ∧ w.cell? ⟨b, off + 2, none⟩ = some (.string x.s)

set_option maxHeartbeats 1000000 in
theorem implEqualOf (b off cap : Nat) (x y : Vl) (w : World) (h : Six w b off x y) :
    Calls Tryz.prog 109 #[.slice (some ⟨b, off, none⟩) 2 cap] w (OptPost (op2 3 x y) w) := by
  have HV := Lib.hid (show op2 3 x y = asOpt (eq3 x.k x.n x.s y.k y.n y.s) by simp [op2])
  have hb0 := (Below.refl w.heap.size w).alloc (Nat.le_refl _) (.cells #[.int .i64 0, .int .i64 0, .string ⟨#[]⟩] 95)
  have rr := Row.new w 95 #[.int .i64 0, .int .i64 0, .string ⟨#[]⟩]
  have hne : w.heap.size ≠ b := Nat.ne_of_gt (cell_lt h.1)
  obtain ⟨c0, c1, c2, d0, d1, d2⟩ := keep6 h hb0
  clear h
  go_enter Tryz.func109, Tryz.ntmps109
  go_wp2_with fail
  generalize w.alloc (.cells #[.int .i64 0, .int .i64 0, .string ⟨#[]⟩] 95) = u at *
  have RR := Lib.hid rr
  clear rr
  go_region_held3 (fun w' => w'.cell? ⟨b, off, none⟩ = some (.int .i64 x.k) ∧ w'.cell? ⟨b, off + 1, none⟩ = some (.int .i64 x.n) ∧ w'.cell? ⟨b, off + 2, none⟩ = some (.string x.s) ∧ w'.cell? ⟨b, off + 3, none⟩ = some (.int .i64 y.k) ∧ w'.cell? ⟨b, off + 3 + 1, none⟩ = some (.int .i64 y.n) ∧ w'.cell? ⟨b, off + 3 + 2, none⟩ = some (.string y.s))
    (first | go_keep | with_reducible exact keep6s hne (by assumption) | exact keep6 (by assumption) hbZ | exact keep6 (by assumption) hbA)
    (first | (go_at_call 120; refine (implEqual3 x.k x.n x.s y.k y.n y.s _).mono ?_; rintro e yA ⟨rfl, hbA⟩) | (go_at_call 119; refine (implTruthVal _ _ (eq3_rng _ _ _ _ _ _)).mono ?_; rintro e yZ ⟨v, rfl, hv, hbZ⟩; have HW := Lib.hid hv; clear hv; obtain ⟨⟨z0, z1, z2⟩, ⟨z3, z4, z5⟩⟩ := ((RR.out.drew.below hbA).below hbZ).three))
  go_wp2
  have hz1 := hb0.drew.trans (hbA.mono hb0.size)
  have hz := hz1.trans (hbZ.mono hz1.size)
  refine bodyPost_ret (v := .tuple #[.agg #[.int .i64 v.k, .int .i64 v.n, .string v.s], .bool (asOpt (eq3 x.k x.n x.s y.k y.n y.s)).isSome]) (by simp [results, Tryz.results109, go_sem, z0, z1, z2]) rfl ⟨v, by rw [HV.out], by rw [HV.out]; exact HW.out, ?_⟩
  repeat (first | with_reducible exact hz | with_reducible refine Below.drew ?_ | with_reducible refine Below.setCell ?_ (by simp; omega) _ | with_reducible refine Below.setCell ?_ (by simp) _)

set_option maxHeartbeats 1000000 in
theorem implLessOf (b off cap : Nat) (x y : Vl) (w : World) (h : Six w b off x y) :
    Calls Tryz.prog 110 #[.slice (some ⟨b, off, none⟩) 2 cap] w (OptPost (op2 4 x y) w) := by
  have HV := Lib.hid (show op2 4 x y = asOpt (less3 x.k x.n x.s y.k y.n y.s) by simp [op2])
  have hb0 := (Below.refl w.heap.size w).alloc (Nat.le_refl _) (.cells #[.int .i64 0, .int .i64 0, .string ⟨#[]⟩] 95)
  have rr := Row.new w 95 #[.int .i64 0, .int .i64 0, .string ⟨#[]⟩]
  have hne : w.heap.size ≠ b := Nat.ne_of_gt (cell_lt h.1)
  obtain ⟨c0, c1, c2, d0, d1, d2⟩ := keep6 h hb0
  clear h
  go_enter Tryz.func110, Tryz.ntmps110
  go_wp2_with fail
  generalize w.alloc (.cells #[.int .i64 0, .int .i64 0, .string ⟨#[]⟩] 95) = u at *
  have RR := Lib.hid rr
  clear rr
  go_region_held3 (fun w' => w'.cell? ⟨b, off, none⟩ = some (.int .i64 x.k) ∧ w'.cell? ⟨b, off + 1, none⟩ = some (.int .i64 x.n) ∧ w'.cell? ⟨b, off + 2, none⟩ = some (.string x.s) ∧ w'.cell? ⟨b, off + 3, none⟩ = some (.int .i64 y.k) ∧ w'.cell? ⟨b, off + 3 + 1, none⟩ = some (.int .i64 y.n) ∧ w'.cell? ⟨b, off + 3 + 2, none⟩ = some (.string y.s))
    (first | go_keep | with_reducible exact keep6s hne (by assumption) | exact keep6 (by assumption) hbZ | exact keep6 (by assumption) hbA)
    (first | (go_at_call 121; refine (implLess3 x.k x.n x.s y.k y.n y.s _).mono ?_; rintro e yA ⟨rfl, hbA⟩) | (go_at_call 119; refine (implTruthVal _ _ (less3_rng _ _ _ _ _ _)).mono ?_; rintro e yZ ⟨v, rfl, hv, hbZ⟩; have HW := Lib.hid hv; clear hv; obtain ⟨⟨z0, z1, z2⟩, ⟨z3, z4, z5⟩⟩ := ((RR.out.drew.below hbA).below hbZ).three))
  go_wp2
  have hz1 := hb0.drew.trans (hbA.mono hb0.size)
  have hz := hz1.trans (hbZ.mono hz1.size)
  refine bodyPost_ret (v := .tuple #[.agg #[.int .i64 v.k, .int .i64 v.n, .string v.s], .bool (asOpt (less3 x.k x.n x.s y.k y.n y.s)).isSome]) (by simp [results, Tryz.results110, go_sem, z0, z1, z2]) rfl ⟨v, by rw [HV.out], by rw [HV.out]; exact HW.out, ?_⟩
  repeat (first | with_reducible exact hz | with_reducible refine Below.drew ?_ | with_reducible refine Below.setCell ?_ (by simp; omega) _ | with_reducible refine Below.setCell ?_ (by simp) _)

set_option maxHeartbeats 1000000 in
theorem implBothOf (b off cap : Nat) (x y : Vl) (w : World) (h : Six w b off x y) (hx : x.ok = true) (hy : y.ok = true) :
    Calls Tryz.prog 111 #[.slice (some ⟨b, off, none⟩) 2 cap] w (OptPost (op2 5 x y) w) := by
  have HV := Lib.hid (show op2 5 x y = asOpt (and3 (truOf x) (truOf y)) by simp [op2])
  have hb0 := (Below.refl w.heap.size w).alloc (Nat.le_refl _) (.cells #[.int .i64 0, .int .i64 0, .string ⟨#[]⟩] 95)
  have rr := Row.new w 95 #[.int .i64 0, .int .i64 0, .string ⟨#[]⟩]
  have hne : w.heap.size ≠ b := Nat.ne_of_gt (cell_lt h.1)
  obtain ⟨c0, c1, c2, d0, d1, d2⟩ := keep6 h hb0
  clear h
  go_enter Tryz.func111, Tryz.ntmps111
  go_wp2_with fail
  generalize w.alloc (.cells #[.int .i64 0, .int .i64 0, .string ⟨#[]⟩] 95) = u at *
  have RR := Lib.hid rr
  clear rr
  go_region_held3 (fun w' => w'.cell? ⟨b, off, none⟩ = some (.int .i64 x.k) ∧ w'.cell? ⟨b, off + 1, none⟩ = some (.int .i64 x.n) ∧ w'.cell? ⟨b, off + 2, none⟩ = some (.string x.s) ∧ w'.cell? ⟨b, off + 3, none⟩ = some (.int .i64 y.k) ∧ w'.cell? ⟨b, off + 3 + 1, none⟩ = some (.int .i64 y.n) ∧ w'.cell? ⟨b, off + 3 + 2, none⟩ = some (.string y.s))
    (first | go_keep | with_reducible exact keep6s hne (by assumption) | exact keep6 (by assumption) hbZ | exact keep6 (by assumption) hbB | exact keep6 (by assumption) hbA)
    (first | (go_at_call_of 123 (Value.agg #[.int .i64 x.k, .int .i64 x.n, .string x.s]); refine (implTruthOf x _ hx).mono ?_; rintro e yA ⟨rfl, hbA⟩) | (go_at_call_of 123 (Value.agg #[.int .i64 y.k, .int .i64 y.n, .string y.s]); refine (implTruthOf y _ hy).mono ?_; rintro e yB ⟨rfl, hbB⟩) | (go_at_call 122; refine (implAnd3 _ _ _).mono ?_; rintro e yC ⟨rfl, rfl⟩) | (go_at_call 119; refine (implTruthVal _ _ (and3_rng _ _)).mono ?_; rintro e yZ ⟨v, rfl, hv, hbZ⟩; have HW := Lib.hid hv; clear hv; obtain ⟨⟨z0, z1, z2⟩, ⟨z3, z4, z5⟩⟩ := (((RR.out.drew.below hbA).below hbB).below hbZ).three))
  go_wp2
  have hz1 := hb0.drew.trans (hbA.mono hb0.size)
  have hz2 := hz1.trans (hbB.mono hz1.size)
  have hz := hz2.trans (hbZ.mono hz2.size)
  refine bodyPost_ret (v := .tuple #[.agg #[.int .i64 v.k, .int .i64 v.n, .string v.s], .bool (asOpt (and3 (truOf x) (truOf y))).isSome]) (by simp [results, Tryz.results111, go_sem, z0, z1, z2]) rfl ⟨v, by rw [HV.out], by rw [HV.out]; exact HW.out, ?_⟩
  repeat (first | with_reducible exact hz | with_reducible refine Below.drew ?_ | with_reducible refine Below.setCell ?_ (by simp; omega) _ | with_reducible refine Below.setCell ?_ (by simp) _)

set_option maxHeartbeats 1000000 in
theorem implEitherOf (b off cap : Nat) (x y : Vl) (w : World) (h : Six w b off x y) (hx : x.ok = true) (hy : y.ok = true) :
    Calls Tryz.prog 112 #[.slice (some ⟨b, off, none⟩) 2 cap] w (OptPost (op2 6 x y) w) := by
  have HV := Lib.hid (show op2 6 x y = asOpt (or3 (truOf x) (truOf y)) by simp [op2])
  have hb0 := (Below.refl w.heap.size w).alloc (Nat.le_refl _) (.cells #[.int .i64 0, .int .i64 0, .string ⟨#[]⟩] 95)
  have rr := Row.new w 95 #[.int .i64 0, .int .i64 0, .string ⟨#[]⟩]
  have hne : w.heap.size ≠ b := Nat.ne_of_gt (cell_lt h.1)
  obtain ⟨c0, c1, c2, d0, d1, d2⟩ := keep6 h hb0
  clear h
  go_enter Tryz.func112, Tryz.ntmps112
  go_wp2_with fail
  generalize w.alloc (.cells #[.int .i64 0, .int .i64 0, .string ⟨#[]⟩] 95) = u at *
  have RR := Lib.hid rr
  clear rr
  go_region_held3 (fun w' => w'.cell? ⟨b, off, none⟩ = some (.int .i64 x.k) ∧ w'.cell? ⟨b, off + 1, none⟩ = some (.int .i64 x.n) ∧ w'.cell? ⟨b, off + 2, none⟩ = some (.string x.s) ∧ w'.cell? ⟨b, off + 3, none⟩ = some (.int .i64 y.k) ∧ w'.cell? ⟨b, off + 3 + 1, none⟩ = some (.int .i64 y.n) ∧ w'.cell? ⟨b, off + 3 + 2, none⟩ = some (.string y.s))
    (first | go_keep | with_reducible exact keep6s hne (by assumption) | exact keep6 (by assumption) hbZ | exact keep6 (by assumption) hbB | exact keep6 (by assumption) hbA)
    (first | (go_at_call_of 123 (Value.agg #[.int .i64 x.k, .int .i64 x.n, .string x.s]); refine (implTruthOf x _ hx).mono ?_; rintro e yA ⟨rfl, hbA⟩) | (go_at_call_of 123 (Value.agg #[.int .i64 y.k, .int .i64 y.n, .string y.s]); refine (implTruthOf y _ hy).mono ?_; rintro e yB ⟨rfl, hbB⟩) | (go_at_call 124; refine (implOr3 _ _ _).mono ?_; rintro e yC ⟨rfl, rfl⟩) | (go_at_call 119; refine (implTruthVal _ _ (or3_rng _ _)).mono ?_; rintro e yZ ⟨v, rfl, hv, hbZ⟩; have HW := Lib.hid hv; clear hv; obtain ⟨⟨z0, z1, z2⟩, ⟨z3, z4, z5⟩⟩ := (((RR.out.drew.below hbA).below hbB).below hbZ).three))
  go_wp2
  have hz1 := hb0.drew.trans (hbA.mono hb0.size)
  have hz2 := hz1.trans (hbB.mono hz1.size)
  have hz := hz2.trans (hbZ.mono hz2.size)
  refine bodyPost_ret (v := .tuple #[.agg #[.int .i64 v.k, .int .i64 v.n, .string v.s], .bool (asOpt (or3 (truOf x) (truOf y))).isSome]) (by simp [results, Tryz.results112, go_sem, z0, z1, z2]) rfl ⟨v, by rw [HV.out], by rw [HV.out]; exact HW.out, ?_⟩
  repeat (first | with_reducible exact hz | with_reducible refine Below.drew ?_ | with_reducible refine Below.setCell ?_ (by simp; omega) _ | with_reducible refine Below.setCell ?_ (by simp) _)

end Go.Proofs.YthafgkcokecnnaaGreat
namespace Go.Proofs.YthafgkcokecnnaaGreat
open Go.RowKit

set_option maxHeartbeats 1000000 in
theorem implAdded (a b : Vl) (sg : Int) (w : World) (ha : a.ok = true) (hb : b.ok = true) (hsg : sg = 1 ∨ sg = -1) :
    Calls Tryz.prog 127 #[.agg #[.int .i64 a.k, .int .i64 a.n, .string a.s], .agg #[.int .i64 b.k, .int .i64 b.n, .string b.s], .int .i64 sg] w (OptPost (sumVl a b sg) w) := by
  obtain ⟨ra, rb, rr, hb0⟩ := boxes3 w a b 95
  have ka := Vl.kinds ha
  have kb := Vl.kinds hb
  clear ha hb
  obtain ⟨k, n, s⟩ := a
  obtain ⟨k', n', s'⟩ := b
  simp only at ka kb ra rb rr hb0
  by_cases a2 : k = 2
  · subst a2
    have HV := Lib.hid (show sumVl ⟨2, n, s⟩ ⟨k', n', s'⟩ sg = none by simp [sumVl])
    go_enter Tryz.func127, Tryz.ntmps127
    go_wp2
    exact bodyPost_ret (v := .tuple #[.agg #[.int .i64 0, .int .i64 0, .string ⟨#[]⟩], .bool false]) (by simp [results, Tryz.results127, go_sem]) rfl ⟨Vl.zero, by rw [HV.out]; rfl, by rw [HV.out]; simp, ((((Below.refl _ _).alloc (Nat.le_refl _) _).alloc (by simp) _).alloc (by simp; omega) _)⟩
  have a2' : (k == 2) = false := by simpa using a2
  by_cases b2 : k' = 2
  · subst b2
    have HV := Lib.hid (show sumVl ⟨k, n, s⟩ ⟨2, n', s'⟩ sg = none by simp [sumVl])
    go_enter Tryz.func127, Tryz.ntmps127
    go_wp2
    exact bodyPost_ret (v := .tuple #[.agg #[.int .i64 0, .int .i64 0, .string ⟨#[]⟩], .bool false]) (by simp [results, Tryz.results127, go_sem]) rfl ⟨Vl.zero, by rw [HV.out]; rfl, by rw [HV.out]; simp, ((((Below.refl _ _).alloc (Nat.le_refl _) _).alloc (by simp) _).alloc (by simp; omega) _)⟩
  have b2' : (k' == 2) = false := by simpa using b2
  by_cases a0 : k = 0
  · subst a0
    have HV := Lib.hid (show sumVl ⟨0, n, s⟩ ⟨k', n', s'⟩ sg = some Vl.zero by simp [sumVl, b2])
    go_enter Tryz.func127, Tryz.ntmps127
    go_wp2
    exact bodyPost_ret (v := .tuple #[.agg #[.int .i64 0, .int .i64 0, .string ⟨#[]⟩], .bool true]) (by simp [results, Tryz.results127, go_sem]) rfl ⟨Vl.zero, by rw [HV.out]; rfl, by rw [HV.out]; simp, ((((Below.refl _ _).alloc (Nat.le_refl _) _).alloc (by simp) _).alloc (by simp; omega) _)⟩
  have a0' : (k == 0) = false := by simpa using a0
  by_cases b0 : k' = 0
  · subst b0
    have HV := Lib.hid (show sumVl ⟨k, n, s⟩ ⟨0, n', s'⟩ sg = some Vl.zero by simp [sumVl, a2])
    go_enter Tryz.func127, Tryz.ntmps127
    go_wp2
    exact bodyPost_ret (v := .tuple #[.agg #[.int .i64 0, .int .i64 0, .string ⟨#[]⟩], .bool true]) (by simp [results, Tryz.results127, go_sem]) rfl ⟨Vl.zero, by rw [HV.out]; rfl, by rw [HV.out]; simp, ((((Below.refl _ _).alloc (Nat.le_refl _) _).alloc (by simp) _).alloc (by simp; omega) _)⟩
  have b0' : (k' == 0) = false := by simpa using b0
  obtain ⟨s1, s2⟩ := sum_wraps (x := n) (y := n') (sg := sg) (by omega) (by omega) hsg
  have HV := Lib.hid (show sumVl ⟨k, n, s⟩ ⟨k', n', s'⟩ sg = if -1000000000 ≤ n + sg * n' ∧ n + sg * n' ≤ 1000000000 then some ⟨1, n + sg * n', ⟨#[]⟩⟩ else none by simp [sumVl, a2, b2, a0, b0])
  by_cases hm : -1000000000 ≤ n + sg * n' ∧ n + sg * n' ≤ 1000000000
  · have HR := Lib.hid (show (decide (-1000000000 ≤ n + sg * n') && decide (n + sg * n' ≤ 1000000000)) = true by simp [hm.1, hm.2])
    have HN := Lib.hid (HV.out.trans (if_pos hm))
    clear hm HV
    go_enter Tryz.func127, Tryz.ntmps127
    go_wp2_with fail
    generalize n + sg * n' = m at *
    generalize ((w.alloc (.cells #[.int .i64 k, .int .i64 n, .string s] 95)).alloc (.cells #[.int .i64 k', .int .i64 n', .string s'] 95)).alloc (.cells #[.int .i64 0, .int .i64 0, .string ⟨#[]⟩] 95) = x at *
    refine (rightNum _ _).mono ?_
    rintro e w1 ⟨rfl, rfl⟩
    rw [HR.out]
    have S2 := Lib.hid s2
    clear s1 s2
    go_wp2_with fail
    refine (implValOfNum _ _).mono ?_
    rintro e w2 ⟨rfl, hb2⟩
    have hz := hb0.trans (hb2.mono hb0.size)
    obtain ⟨⟨z0, z1, z2⟩, ⟨z3, z4, z5⟩⟩ := (rr.below hb2).three
    clear ra rb rr
    go_wp2_with fail
    refine bodyPost_ret (v := .tuple #[.agg #[.int .i64 1, .int .i64 m, .string ⟨#[]⟩], .bool true]) (by simp [results, Tryz.results127, go_sem, z0, z1, z2, S2.out]) rfl ⟨⟨1, m, ⟨#[]⟩⟩, by rw [HN.out]; rfl, by rw [HN.out]; simp, ?_⟩
    repeat (first | with_reducible exact hz | with_reducible refine Below.drew ?_ | with_reducible refine Below.setCell ?_ (by simp; omega) _ | with_reducible refine Below.setCell ?_ (by simp) _)
  · have HR := Lib.hid (show (decide (-1000000000 ≤ n + sg * n') && decide (n + sg * n' ≤ 1000000000)) = false by simp; omega)
    have HN := Lib.hid (HV.out.trans (if_neg hm))
    clear hm HV
    go_enter Tryz.func127, Tryz.ntmps127
    go_wp2_with fail
    generalize n + sg * n' = m at *
    generalize ((w.alloc (.cells #[.int .i64 k, .int .i64 n, .string s] 95)).alloc (.cells #[.int .i64 k', .int .i64 n', .string s'] 95)).alloc (.cells #[.int .i64 0, .int .i64 0, .string ⟨#[]⟩] 95) = x at *
    refine (rightNum _ _).mono ?_
    rintro e w1 ⟨rfl, rfl⟩
    rw [HR.out]
    clear s1 s2
    obtain ⟨⟨z0, z1, z2⟩, ⟨z3, z4, z5⟩⟩ := rr.three
    have hz := hb0
    clear ra rb rr
    go_wp2_with fail
    refine bodyPost_ret (v := .tuple #[.agg #[.int .i64 0, .int .i64 0, .string ⟨#[]⟩], .bool false]) (by simp [results, Tryz.results127, go_sem, z0, z1, z2]) rfl ⟨Vl.zero, by rw [HN.out]; rfl, by rw [HN.out]; simp, ?_⟩
    repeat (first | with_reducible exact hz | with_reducible refine Below.drew ?_ | with_reducible refine Below.setCell ?_ (by simp; omega) _ | with_reducible refine Below.setCell ?_ (by simp) _)

set_option maxHeartbeats 1000000 in
theorem implSumOf (b off cap : Nat) (x y : Vl) (w : World) (h : Six w b off x y) (hx : x.ok = true) (hy : y.ok = true) :
    Calls Tryz.prog 115 #[.slice (some ⟨b, off, none⟩) 2 cap] w (OptPost (op2 9 x y) w) := by
  have HV := Lib.hid (show op2 9 x y = sumVl x y 1 by simp [op2])
  have hb0 := (Below.refl w.heap.size w).alloc (Nat.le_refl _) (.cells #[.int .i64 0, .int .i64 0, .string ⟨#[]⟩] 95)
  have rr := Row.new w 95 #[.int .i64 0, .int .i64 0, .string ⟨#[]⟩]
  have hne : w.heap.size ≠ b := Nat.ne_of_gt (cell_lt h.1)
  obtain ⟨c0, c1, c2, d0, d1, d2⟩ := keep6 h hb0
  clear h
  go_enter Tryz.func115, Tryz.ntmps115
  go_wp2_with fail
  generalize w.alloc (.cells #[.int .i64 0, .int .i64 0, .string ⟨#[]⟩] 95) = u at *
  have RR := Lib.hid rr
  clear rr
  go_region_held3 (fun w' => w'.cell? ⟨b, off, none⟩ = some (.int .i64 x.k) ∧ w'.cell? ⟨b, off + 1, none⟩ = some (.int .i64 x.n) ∧ w'.cell? ⟨b, off + 2, none⟩ = some (.string x.s) ∧ w'.cell? ⟨b, off + 3, none⟩ = some (.int .i64 y.k) ∧ w'.cell? ⟨b, off + 3 + 1, none⟩ = some (.int .i64 y.n) ∧ w'.cell? ⟨b, off + 3 + 2, none⟩ = some (.string y.s))
    (first | go_keep | with_reducible exact keep6s hne (by assumption) | exact keep6 (by assumption) hbZ)
    (first | (go_at_call 127; refine (implAdded x y 1 _ hx hy (by omega)).mono ?_; rintro e yZ ⟨v, rfl, hv, hbZ⟩; have HW := Lib.hid hv; clear hv; obtain ⟨⟨z0, z1, z2⟩, ⟨z3, z4, z5⟩⟩ := (RR.out.drew.below hbZ).three))
  go_wp2
  have hz := hb0.drew.trans (hbZ.mono hb0.size)
  refine bodyPost_ret (v := .tuple #[.agg #[.int .i64 v.k, .int .i64 v.n, .string v.s], .bool (sumVl x y 1).isSome]) (by simp [results, Tryz.results115, go_sem, z0, z1, z2]) rfl ⟨v, by rw [HV.out], by rw [HV.out]; exact HW.out, ?_⟩
  repeat (first | with_reducible exact hz | with_reducible refine Below.drew ?_ | with_reducible refine Below.setCell ?_ (by simp; omega) _ | with_reducible refine Below.setCell ?_ (by simp) _)

set_option maxHeartbeats 1000000 in
theorem implDifferenceOf (b off cap : Nat) (x y : Vl) (w : World) (h : Six w b off x y) (hx : x.ok = true) (hy : y.ok = true) :
    Calls Tryz.prog 116 #[.slice (some ⟨b, off, none⟩) 2 cap] w (OptPost (op2 10 x y) w) := by
  have HV := Lib.hid (show op2 10 x y = sumVl x y (-1) by simp [op2])
  have hb0 := (Below.refl w.heap.size w).alloc (Nat.le_refl _) (.cells #[.int .i64 0, .int .i64 0, .string ⟨#[]⟩] 95)
  have rr := Row.new w 95 #[.int .i64 0, .int .i64 0, .string ⟨#[]⟩]
  have hne : w.heap.size ≠ b := Nat.ne_of_gt (cell_lt h.1)
  obtain ⟨c0, c1, c2, d0, d1, d2⟩ := keep6 h hb0
  clear h
  go_enter Tryz.func116, Tryz.ntmps116
  go_wp2_with fail
  generalize w.alloc (.cells #[.int .i64 0, .int .i64 0, .string ⟨#[]⟩] 95) = u at *
  have RR := Lib.hid rr
  clear rr
  go_region_held3 (fun w' => w'.cell? ⟨b, off, none⟩ = some (.int .i64 x.k) ∧ w'.cell? ⟨b, off + 1, none⟩ = some (.int .i64 x.n) ∧ w'.cell? ⟨b, off + 2, none⟩ = some (.string x.s) ∧ w'.cell? ⟨b, off + 3, none⟩ = some (.int .i64 y.k) ∧ w'.cell? ⟨b, off + 3 + 1, none⟩ = some (.int .i64 y.n) ∧ w'.cell? ⟨b, off + 3 + 2, none⟩ = some (.string y.s))
    (first | go_keep | with_reducible exact keep6s hne (by assumption) | exact keep6 (by assumption) hbZ)
    (first | (go_at_call 127; refine (implAdded x y (-1) _ hx hy (by omega)).mono ?_; rintro e yZ ⟨v, rfl, hv, hbZ⟩; have HW := Lib.hid hv; clear hv; obtain ⟨⟨z0, z1, z2⟩, ⟨z3, z4, z5⟩⟩ := (RR.out.drew.below hbZ).three))
  go_wp2
  have hz := hb0.drew.trans (hbZ.mono hb0.size)
  refine bodyPost_ret (v := .tuple #[.agg #[.int .i64 v.k, .int .i64 v.n, .string v.s], .bool (sumVl x y (-1)).isSome]) (by simp [results, Tryz.results116, go_sem, z0, z1, z2]) rfl ⟨v, by rw [HV.out], by rw [HV.out]; exact HW.out, ?_⟩
  repeat (first | with_reducible exact hz | with_reducible refine Below.drew ?_ | with_reducible refine Below.setCell ?_ (by simp; omega) _ | with_reducible refine Below.setCell ?_ (by simp) _)

set_option maxHeartbeats 1000000 in
theorem implNotOf (b off cap : Nat) (x : Vl) (w : World) (h : Tri w b off x) (hx : x.ok = true) :
    Calls Tryz.prog 113 #[.slice (some ⟨b, off, none⟩) 1 cap] w (OptPost (op1 7 x) w) := by
  have HV := Lib.hid (show op1 7 x = asOpt (not3 (truOf x)) by simp [op1])
  have hb0 := (Below.refl w.heap.size w).alloc (Nat.le_refl _) (.cells #[.int .i64 0, .int .i64 0, .string ⟨#[]⟩] 95)
  have rr := Row.new w 95 #[.int .i64 0, .int .i64 0, .string ⟨#[]⟩]
  obtain ⟨c0, c1, c2⟩ := keep3 h hb0
  clear h
  go_enter Tryz.func113, Tryz.ntmps113
  go_wp2_with fail
  generalize w.alloc (.cells #[.int .i64 0, .int .i64 0, .string ⟨#[]⟩] 95) = u at *
  refine (implTruthOf x _ hx).mono ?_
  rintro e y1 ⟨rfl, hb1⟩
  have hz1 := hb0.trans (hb1.mono hb0.size)
  have rr1 := rr.below hb1
  clear rr
  go_wp2_with fail
  refine (implNot3 _ _).mono ?_
  rintro e y2 ⟨rfl, rfl⟩
  go_wp2_with fail
  refine (implTruthVal _ _ (not3_rng _)).mono ?_
  rintro e y2 ⟨v, rfl, hv, hb2⟩
  have HW := Lib.hid hv
  have hz := hz1.trans (hb2.mono hz1.size)
  obtain ⟨⟨z0, z1, z2⟩, ⟨z3, z4, z5⟩⟩ := (rr1.below hb2).three
  clear hv rr1
  go_wp2_with fail
  refine bodyPost_ret (v := .tuple #[.agg #[.int .i64 v.k, .int .i64 v.n, .string v.s], .bool (asOpt (not3 (truOf x))).isSome]) (by simp [results, Tryz.results113, go_sem, z0, z1, z2]) rfl ⟨v, by rw [HV.out], by rw [HV.out]; exact HW.out, ?_⟩
  repeat (first | with_reducible exact hz | with_reducible refine Below.drew ?_ | with_reducible refine Below.setCell ?_ (by simp; omega) _ | with_reducible refine Below.setCell ?_ (by simp) _)

set_option maxHeartbeats 1000000 in
theorem implNullOf (b off cap : Nat) (x : Vl) (w : World) (h : Tri w b off x) :
    Calls Tryz.prog 114 #[.slice (some ⟨b, off, none⟩) 1 cap] w (OptPost (op1 8 x) w) := by
  have HV := Lib.hid (show op1 8 x = asOpt (yes (x.k == 0)) by simp [op1])
  have hb0 := (Below.refl w.heap.size w).alloc (Nat.le_refl _) (.cells #[.int .i64 0, .int .i64 0, .string ⟨#[]⟩] 95)
  have rr := Row.new w 95 #[.int .i64 0, .int .i64 0, .string ⟨#[]⟩]
  obtain ⟨c0, c1, c2⟩ := keep3 h hb0
  clear h
  go_enter Tryz.func114, Tryz.ntmps114
  go_wp2_with fail
  generalize w.alloc (.cells #[.int .i64 0, .int .i64 0, .string ⟨#[]⟩] 95) = u at *
  refine (implTruthIf _ _).mono ?_
  rintro e y1 ⟨rfl, rfl⟩
  go_wp2_with fail
  refine (implTruthVal _ _ (by rcases yes01 (x.k == 0) with h | h <;> simp [h])).mono ?_
  rintro e y2 ⟨v, rfl, hv, hb2⟩
  have HW := Lib.hid hv
  have hz := hb0.trans (hb2.mono hb0.size)
  obtain ⟨⟨z0, z1, z2⟩, ⟨z3, z4, z5⟩⟩ := (rr.below hb2).three
  clear hv rr
  go_wp2_with fail
  refine bodyPost_ret (v := .tuple #[.agg #[.int .i64 v.k, .int .i64 v.n, .string v.s], .bool (asOpt (yes (x.k == 0))).isSome]) (by simp [results, Tryz.results114, go_sem, z0, z1, z2]) rfl ⟨v, by rw [HV.out], by rw [HV.out]; exact HW.out, ?_⟩
  repeat (first | with_reducible exact hz | with_reducible refine Below.drew ?_ | with_reducible refine Below.setCell ?_ (by simp; omega) _ | with_reducible refine Below.setCell ?_ (by simp) _)
end Go.Proofs.YthafgkcokecnnaaGreat
namespace Go.Proofs.YthafgkcokecnnaaGreat
open Go.RowKit


end Go.Proofs.YthafgkcokecnnaaGreat
namespace Go.Proofs.YthafgkcokecnnaaGreat
open Go.RowKit

theorem Vals.six {w : World} {B : Option Addr} {x y : Vl} (h : Vals w B 2 [x, y]) : ∃ b off, B = some ⟨b, off, none⟩ ∧ Six w b off x y := by
  obtain ⟨b, off, rfl, c0, c1, c2⟩ := h.at_ (i := 0) (by simp)
  obtain ⟨b', off', e, d0, d1, d2⟩ := h.at_ (i := 1) (by simp)
  cases e
  exact ⟨b, off, rfl, by simpa using c0, by simpa using c1, by simpa using c2, by simpa using d0, by simpa using d1, by simpa using d2⟩
theorem Vals.tri {w : World} {B : Option Addr} {x : Vl} (h : Vals w B 1 [x]) : ∃ b off, B = some ⟨b, off, none⟩ ∧ Tri w b off x := by
  obtain ⟨b, off, rfl, c0, c1, c2⟩ := h.at_ (i := 0) (by simp)
  exact ⟨b, off, rfl, by simpa using c0, by simpa using c1, by simpa using c2⟩

end Go.Proofs.YthafgkcokecnnaaGreat
namespace Go.Proofs.YthafgkcokecnnaaGreat
open Go.RowKit
set_option linter.unusedVariables false
set_option linter.unusedSimpArgs false

theorem flat_get {sz : Nat} : ∀ (l : List (List Value)) (i j : Nat) (hi : i < l.length) (hj : j < sz), (∀ c ∈ l, c.length = sz) → l.flatten[i * sz + j]? = (l[i])[j]?
  | [], i, j, hi, _, _ => by simp at hi
  | c :: cs, i, j, hi, hj, hz => by
    have hc := hz c (by simp)
    cases i with
    | zero => simp only [List.getElem_cons_zero, List.flatten_cons, Nat.zero_mul, Nat.zero_add]; rw [List.getElem?_append_left (by omega)]
    | succ i =>
      simp only [List.getElem_cons_succ]
      rw [List.flatten_cons, List.getElem?_append_right (by rw [hc, Nat.add_mul]; omega), hc, show (i + 1) * sz + j - sz = i * sz + j by rw [Nat.add_mul]; omega]
      exact flat_get cs i j (by simpa using hi) hj fun d hd => hz d (by simp [hd])
theorem flat_len {sz : Nat} : ∀ (l : List (List Value)), (∀ c ∈ l, c.length = sz) → l.flatten.length = l.length * sz
  | [], _ => by simp
  | c :: cs, h => by
    rw [List.flatten_cons, List.length_append, h c (by simp), flat_len cs fun d hd => h d (by simp [hd]), List.length_cons, Nat.add_mul]; omega

/-- v is a slice of the call's own that holds the structs xs, without slices within, sz cells each. -/
def OwnG {α : Type} (T : TypeId) (sz : Nat) (f : α → List Value) (w : World) (base : Nat) (v : Value) (xs : List α) : Prop := w.ownsRow base T sz v xs.length ((xs.map f).flatten)
section
variable {α : Type} {T : TypeId} {sz : Nat} {f : α → List Value}
theorem OwnG.nil (w : World) (base : Nat) : OwnG T sz f w base (.slice none 0 0) [] := World.ownsRow_nil _ _ _ _
theorem OwnG.below {w w' : World} {base : Nat} {v : Value} {xs : List α} (h : OwnG T sz f w base v xs) (hb : Below w.heap.size w w') : OwnG T sz f w' base v xs := by
  refine ⟨h.1, ?_⟩
  rcases h.2 with h | ⟨g, cap, cur, rfl, h1, h2, h3⟩
  · exact .inl h
  · exact .inr ⟨g, cap, cur, rfl, h1, (hb.block g (lt_of_block h2)).trans h2, h3⟩
theorem OwnG.lit (w : World) {base : Nat} (hb : base ≤ w.heap.size) : OwnG T sz f (w.alloc (.cells #[] T)) base (.slice (some ⟨w.heap.size, 0, none⟩) 0 0) ([] : List α) :=
  ⟨by simp, .inr ⟨w.heap.size, 0, #[], rfl, hb, Go.heap_alloc_last w _, Nat.le_refl _, by simp [maxLen], by simp, by simp⟩⟩
theorem OwnG.sl (hf : ∀ d, (f d).length = sz) {w : World} {base : Nat} {v : Value} {xs : List α} (h : OwnG T sz f w base v xs) : ∃ A c, v = .slice A xs.length c ∧ xs.length ≤ c ∧ c ≤ maxLen ∧ Sl (FlatR f) sz (okF base w) w A xs.length xs := by
  rcases h.2 with ⟨rfl, hn⟩ | ⟨g, cap, cur, rfl, h1, h2, h3, h4, h5, h6⟩
  · exact ⟨none, 0, by rw [hn], by omega, by simp [maxLen], rfl, fun h => by omega⟩
  · refine ⟨_, cap, rfl, h3, h4, rfl, fun hn => ⟨g, 0, rfl, ⟨h1, lt_of_block h2, fun off => by simp [World.frozen?, h2]⟩, fun i hi => ⟨f xs[i], hf _, rfl, fun j x hx => ?_⟩⟩⟩
    have hj : j < sz := by have := (List.getElem?_eq_some_iff.1 hx).1; rw [hf] at this; exact this
    rw [cell_of_row _ _ _ _ _ _ h2, Nat.zero_add]
    have hlt : i * sz + j < xs.length * sz := by have : (i + 1) * sz ≤ xs.length * sz := Nat.mul_le_mul_right _ hi; rw [Nat.add_mul] at this; omega
    have h7 := flat_get (sz := sz) (xs.map f) i j (by simpa using hi) hj (fun c hc => by obtain ⟨d, _, rfl⟩ := List.mem_map.1 hc; exact hf d)
    rw [List.getElem_map, hx, ← h6, List.getElem?_take, if_pos hlt] at h7
    rw [← Array.getElem?_toList]
    exact h7
theorem OwnG.block_lt {w : World} {base : Nat} {v : Value} {xs : List α} (h : OwnG T sz f w base v xs) : ∀ k, v.ownBlock = some k → base ≤ k ∧ k < w.heap.size := World.ownsRow.lt h
/-- What append of one struct leaves. -/
theorem OwnG.app {w w' : World} {base : Nat} {v v' : Value} {xs : List α} {x : α} {o : Obj} (h : OwnG T sz f w base v xs) (hb : base ≤ w.heap.size)
    (h' : w'.ownsRow base T sz v' (xs.length + 1) ((xs.map f).flatten ++ f x)) (hg : (w.alloc o).grownBy w' v.ownBlock) : OwnG T sz f w' base v' (xs ++ [x]) ∧ Below base w w' :=
  ⟨by unfold OwnG; rw [List.length_append, List.map_append, List.flatten_append]; simpa using h', ((Below.refl base w).alloc hb o).grown hg (by simp; omega) fun k hk => (h.block_lt k hk).1⟩
end
theorem cells_new (w : World) (l : List Value) (t : TypeId) : ∀ j u, l[j]? = some u → (w.alloc (.cells l.toArray t)).cell? ((⟨w.heap.size, 0, none⟩ : Addr).add j) = some u := by
  intro j u hj
  rw [addr_add, Nat.zero_add, cell_of_row _ _ _ _ _ _ (Go.heap_alloc_last w _)]
  simpa using hj

theorem cells_newAt (w : World) (l : List Value) (t : TypeId) {g : Nat} (hg : g = w.heap.size) : ∀ j u, l[j]? = some u → (w.alloc (.cells l.toArray t)).cell? ((⟨g, 0, none⟩ : Addr).add j) = some u := by
  subst hg
  exact cells_new w l t

/-- A list of the call's own, and a flag. -/
def MadeF {α : Type} (R : Rd α) (sz : Nat) (xs : List α) (b : Bool) (w : World) (e : Ending) (w' : World) : Prop := ∃ A c, e = .returned (.tuple #[.slice A xs.length c, .bool b]) ∧ xs.length ≤ c ∧ Sl R sz (okF w.heap.size w') w' A xs.length xs ∧ Below w.heap.size w w'

def zeroVl : Vl := ⟨0, 0, ⟨#[]⟩⟩
/-- The values of a row in some columns. -/
def keyL (cols : List Int) (vals : List Vl) : List Vl := cols.map fun c => (vals[c.toNat]?).getD zeroVl
def inV (vals : List Vl) (c : Int) : Bool := decide (0 ≤ c) && decide (c < vals.length)
def knownL (l : List Vl) : Bool := l.all fun v => !(v.k == 0)
def keyOk (cols : List Int) (vals : List Vl) : Bool := rowB vals && cols.all (inV vals)
def keyOf (cols : List Int) (vals : List Vl) : List Vl := if keyOk cols vals then keyL cols vals else []
def keyFl (cols : List Int) (vals : List Vl) : Bool := keyOk cols vals && knownL (keyL cols vals)
theorem keyOf_len (cols : List Int) (vals : List Vl) : (keyOf cols vals).length ≤ cols.length := by unfold keyOf; split <;> simp [keyL]
theorem inV_nat {vals : List Vl} {c : Int} (h : inV vals c = true) : ∃ m : Nat, c = m ∧ m < vals.length := by
  simp only [inV, Bool.and_eq_true, decide_eq_true_eq] at h
  exact ⟨c.toNat, by omega, by omega⟩
theorem keyL_take {cols : List Int} {vals : List Vl} {k m : Nat} (h : k < cols.length) (hm : cols[k] = m) (hv : m < vals.length) : (keyL cols vals).take (k + 1) = (keyL cols vals).take k ++ [vals[m]] := by
  rw [List.take_succ_eq_append_getElem (by simpa [keyL] using h)]
  congr 2
  simp [keyL, hm, hv]
theorem known_take {l m : List Vl} {v : Vl} (h : m = l ++ [v]) : knownL m = (knownL l && !(v.k == 0)) := by subst h; simp [knownL]
end Go.Proofs.YthafgkcokecnnaaGreat
namespace Go.Proofs.YthafgkcokecnnaaGreat
open Go.RowKit Go.Maps
set_option linter.unusedVariables false
set_option linter.unusedSimpArgs false

theorem infoValK : (Tryz.prog.info? 95).map (fun i => (i.zero, i.size, i.bytes)) = some (some (.agg #[.int .i64 0, .int .i64 0, .string ⟨#[]⟩]), 3, 32) := by kernel_rfl
def OwnV (w : World) (base : Nat) (v : Value) (xs : List Vl) : Prop := OwnG 95 3 Vl.cells w base v xs

theorem implPlaceK {p nc : Int} {b : Bool} (h : (decide (0 ≤ p) && decide (p < nc)) = b) (w : World) : Calls Tryz.prog 97 #[.int .i64 p, .int .i64 nc] w fun e w' => e = .returned (.bool b) ∧ w = w' := by
  subst h
  by_cases h0 : 0 ≤ p
  · have h0' : decide (0 ≤ p) = true := decide_eq_true h0
    go_enter Tryz.func97, Tryz.ntmps97
    go_wp2
    go_ret
    exact ⟨by simp [h0'], rfl⟩
  · have h0' : decide (0 ≤ p) = false := decide_eq_false h0
    go_enter Tryz.func97, Tryz.ntmps97
    go_wp2
    go_ret
    exact ⟨by simp [h0'], rfl⟩
theorem not_all_of {cols : List Int} {vals : List Vl} {k : Nat} (h : k < cols.length) (hf : inV vals cols[k] = false) : keyOk cols vals = false := by
  unfold keyOk
  rw [Bool.and_eq_false_iff]
  refine Or.inr ?_
  rw [List.all_eq_false]
  exact ⟨cols[k], List.getElem_mem h, by simp [hf]⟩

end Go.Proofs.YthafgkcokecnnaaGreat
namespace Go.Proofs.YthafgkcokecnnaaGreat
open Go.RowKit Go.Maps
set_option linter.unusedVariables false
set_option linter.unusedSimpArgs false

theorem specInK {n lo hi : Int} {b : Bool} (h : (decide (lo ≤ n) && decide (n ≤ hi)) = b) (w : World) :
    Calls Tryz.prog 43 #[.int .i64 n, .int .i64 lo, .int .i64 hi] w fun e w' => e = .returned (.bool b) ∧ w = w' := by
  subst h
  by_cases h0 : lo ≤ n
  · have h0' : decide (lo ≤ n) = true := decide_eq_true h0
    go_enter Tryz.func43, Tryz.ntmps43
    go_wp2
    go_ret
    exact ⟨by simp [h0'], rfl⟩
  · have h0' : decide (lo ≤ n) = false := decide_eq_false h0
    go_enter Tryz.func43, Tryz.ntmps43
    go_wp2
    go_ret
    exact ⟨by simp [h0'], rfl⟩

theorem grown_rowK {w w' : World} {row : Option Nat} (hg : w.grownBy w' row) {g : Nat} {T : TypeId} {cs : Array Value} (h : Row w g T cs) (hne : ∀ k, row = some k → k ≠ g) : Row w' g T cs :=
  (hg.block g (lt_of_block h) (fun e => hne g e.symm rfl)).trans h

end Go.Proofs.YthafgkcokecnnaaGreat
namespace Go.Proofs.YthafgkcokecnnaaGreat
open Go.RowKit
set_option linter.unusedVariables false
set_option linter.unusedSimpArgs false

theorem below_dN {B : Nat} {w w' : World} (h : Below B w w') (m : Nat) : Below B w (w'.drewN m) := ⟨h.os, h.tape, h.output, h.size, h.block⟩
def eqlV (a b : Vl) : Bool := (a.k == b.k) && ((a.n == b.n) && (a.s.toList == b.s.toList))
def eqlP (p : Vl × Vl) : Bool := eqlV p.1 p.2
def eqlL (a b : List Vl) : Bool := decide (a.length = b.length) && (a.zip b).all eqlP
def hitP (p : Vl × Vl) : Bool := !(p.1.k == 0) && eqlP p
/-- Has a row this key in these columns, none a null? -/
def hitB (cols : List Int) (key : List Vl) (vals : List Vl) : Bool := decide (key.length = cols.length) && ((keyL cols vals).zip key).all hitP
theorem hit_zip : ∀ (l m : List Vl), l.length = m.length → (l.zip m).all hitP = (knownL l && (l.zip m).all eqlP)
  | [], [], _ => rfl
  | [], b :: m, h => by simp at h
  | a :: l, [], h => by simp at h
  | a :: l, b :: m, h => by
    have := hit_zip l m (by simpa using h)
    simp only [List.zip_cons_cons, List.all_cons, this, hitP, knownL]
    cases (!(a.k == 0)) <;> cases eqlP (a, b) <;> simp
theorem hitB_eq (cols : List Int) (key : List Vl) (vals : List Vl) : hitB cols key vals = (knownL (keyL cols vals) && eqlL (keyL cols vals) key) := by
  have hl : (keyL cols vals).length = cols.length := by simp [keyL]
  unfold hitB eqlL
  by_cases h : key.length = cols.length
  · rw [decide_eq_true h, decide_eq_true (by omega), hit_zip _ _ (by omega)]; simp
  · rw [decide_eq_false h, decide_eq_false (by omega)]; simp
/-- The places below k of the rows that have it. -/
def idxK (cols : List Int) (key : List Vl) (rows : List Rw) : Nat → List Nat
  | 0 => []
  | k + 1 => idxK cols key rows k ++ (match rows[k]? with | some r => if hitB cols key r.vals then [k] else [] | none => [])
theorem idxK_yes {cols : List Int} {key : List Vl} {rows : List Rw} {k : Nat} (h : k < rows.length) (hr : hitB cols key rows[k].vals = true) : idxK cols key rows (k + 1) = idxK cols key rows k ++ [k] := by
  rw [idxK, List.getElem?_eq_getElem h]; simp [hr]
theorem idxK_no {cols : List Int} {key : List Vl} {rows : List Rw} {k : Nat} (h : k < rows.length) (hr : hitB cols key rows[k].vals = false) : idxK cols key rows (k + 1) = idxK cols key rows k := by
  rw [idxK, List.getElem?_eq_getElem h]; simp [hr]
theorem idxK_len (cols : List Int) (key : List Vl) (rows : List Rw) : ∀ k, (idxK cols key rows k).length ≤ k
  | 0 => Nat.le_refl _
  | k + 1 => by
    have := idxK_len cols key rows k
    rw [idxK]
    split
    · split <;> simp <;> omega
    · simp; omega
theorem idxK_lt (cols : List Int) (key : List Vl) (rows : List Rw) : ∀ k, ∀ x ∈ idxK cols key rows k, x < k ∧ x < rows.length
  | 0, x, h => by cases h
  | k + 1, x, h => by
    rw [idxK, List.mem_append] at h
    rcases h with h | h
    · have := idxK_lt cols key rows k x h; omega
    · split at h
      · next r hr =>
        split at h
        · have := (List.getElem?_eq_some_iff.1 hr).1; simp at h; omega
        · cases h
      · cases h
def idL (rows : List Rw) (l : List Nat) : List Int := l.map fun i => (rows[i]?.map Rw.id).getD 0
/-- The Ids of the rows that have this key. -/
def findL (cols : List Int) (key : List Vl) (rows : List Rw) : List Int := idL rows (idxK cols key rows rows.length)
theorem findL_len (cols : List Int) (key : List Vl) (rows : List Rw) : (findL cols key rows).length ≤ rows.length := by
  unfold findL idL; rw [List.length_map]; exact idxK_len _ _ _ _
theorem idL_app (rows : List Rw) (l : List Nat) (k : Nat) (h : k < rows.length) : idL rows (l ++ [k]) = idL rows l ++ [rows[k].id] := by
  simp [idL, List.getElem?_eq_getElem h]
theorem zip_take {α β : Type} (a : List α) (b : List β) (k : Nat) (h : k < a.length) (h' : k < b.length) (f : α × β → Bool) : ((a.zip b).take (k + 1)).all f = (((a.zip b).take k).all f && f (a[k], b[k])) := by
  rw [List.take_succ_eq_append_getElem (by rw [List.length_zip]; omega), List.all_append]
  simp
theorem zip_no {α β : Type} {a : List α} {b : List β} {k : Nat} (h : k < a.length) (h' : k < b.length) {f : α × β → Bool} (hf : f (a[k], b[k]) = false) : (a.zip b).all f = false := by
  rw [List.all_eq_false]
  exact ⟨(a[k], b[k]), by rw [List.mem_iff_getElem]; exact ⟨k, by rw [List.length_zip]; omega, by simp⟩, by simp [hf]⟩

end Go.Proofs.YthafgkcokecnnaaGreat
namespace Go.Proofs.YthafgkcokecnnaaGreat
open Go.RowKit
set_option linter.unusedVariables false

theorem Sl.drew {α : Type} {R : Rd α} (hR : Stays R) {sz : Nat} {ok : Nat → Prop} {w : World} {A : Option Addr} {n : Nat} {ds : List α} (h : Sl R sz ok w A n ds) : Sl R sz ok w.drew A n ds := h.stays hR (fun _ h => h) fun _ _ _ h => h
theorem keepE2 {w w' : World} {a0 a1 : Addr} {v0 v1 : Value} (h : w.cell? a0 = some v0 ∧ w.cell? a1 = some v1) (hb : Below w.heap.size w w') : w'.cell? a0 = some v0 ∧ w'.cell? a1 = some v1 := by
  obtain ⟨h0, h1⟩ := h
  exact ⟨(hb.cell (cell_lt h0)).trans h0, (hb.cell (cell_lt h1)).trans h1⟩
theorem keepE4 {w w' : World} {a0 a1 a2 a3 : Addr} {v0 v1 v2 v3 : Value} (h : w.cell? a0 = some v0 ∧ w.cell? a1 = some v1 ∧ w.cell? a2 = some v2 ∧ w.cell? a3 = some v3) (hb : Below w.heap.size w w') : w'.cell? a0 = some v0 ∧ w'.cell? a1 = some v1 ∧ w'.cell? a2 = some v2 ∧ w'.cell? a3 = some v3 := by
  obtain ⟨h0, h1, h2, h3⟩ := h
  exact ⟨(hb.cell (cell_lt h0)).trans h0, (hb.cell (cell_lt h1)).trans h1, (hb.cell (cell_lt h2)).trans h2, (hb.cell (cell_lt h3)).trans h3⟩
theorem keepE6 {w w' : World} {a0 a1 a2 a3 a4 a5 : Addr} {v0 v1 v2 v3 v4 v5 : Value} (h : w.cell? a0 = some v0 ∧ w.cell? a1 = some v1 ∧ w.cell? a2 = some v2 ∧ w.cell? a3 = some v3 ∧ w.cell? a4 = some v4 ∧ w.cell? a5 = some v5) (hb : Below w.heap.size w w') : w'.cell? a0 = some v0 ∧ w'.cell? a1 = some v1 ∧ w'.cell? a2 = some v2 ∧ w'.cell? a3 = some v3 ∧ w'.cell? a4 = some v4 ∧ w'.cell? a5 = some v5 := by
  obtain ⟨h0, h1, h2, h3, h4, h5⟩ := h
  exact ⟨(hb.cell (cell_lt h0)).trans h0, (hb.cell (cell_lt h1)).trans h1, (hb.cell (cell_lt h2)).trans h2, (hb.cell (cell_lt h3)).trans h3, (hb.cell (cell_lt h4)).trans h4, (hb.cell (cell_lt h5)).trans h5⟩
theorem keepE8 {w w' : World} {a0 a1 a2 a3 a4 a5 a6 a7 : Addr} {v0 v1 v2 v3 v4 v5 v6 v7 : Value} (h : w.cell? a0 = some v0 ∧ w.cell? a1 = some v1 ∧ w.cell? a2 = some v2 ∧ w.cell? a3 = some v3 ∧ w.cell? a4 = some v4 ∧ w.cell? a5 = some v5 ∧ w.cell? a6 = some v6 ∧ w.cell? a7 = some v7) (hb : Below w.heap.size w w') : w'.cell? a0 = some v0 ∧ w'.cell? a1 = some v1 ∧ w'.cell? a2 = some v2 ∧ w'.cell? a3 = some v3 ∧ w'.cell? a4 = some v4 ∧ w'.cell? a5 = some v5 ∧ w'.cell? a6 = some v6 ∧ w'.cell? a7 = some v7 := by
  obtain ⟨h0, h1, h2, h3, h4, h5, h6, h7⟩ := h
  exact ⟨(hb.cell (cell_lt h0)).trans h0, (hb.cell (cell_lt h1)).trans h1, (hb.cell (cell_lt h2)).trans h2, (hb.cell (cell_lt h3)).trans h3, (hb.cell (cell_lt h4)).trans h4, (hb.cell (cell_lt h5)).trans h5, (hb.cell (cell_lt h6)).trans h6, (hb.cell (cell_lt h7)).trans h7⟩
theorem keepE10 {w w' : World} {a0 a1 a2 a3 a4 a5 a6 a7 a8 a9 : Addr} {v0 v1 v2 v3 v4 v5 v6 v7 v8 v9 : Value} (h : w.cell? a0 = some v0 ∧ w.cell? a1 = some v1 ∧ w.cell? a2 = some v2 ∧ w.cell? a3 = some v3 ∧ w.cell? a4 = some v4 ∧ w.cell? a5 = some v5 ∧ w.cell? a6 = some v6 ∧ w.cell? a7 = some v7 ∧ w.cell? a8 = some v8 ∧ w.cell? a9 = some v9) (hb : Below w.heap.size w w') : w'.cell? a0 = some v0 ∧ w'.cell? a1 = some v1 ∧ w'.cell? a2 = some v2 ∧ w'.cell? a3 = some v3 ∧ w'.cell? a4 = some v4 ∧ w'.cell? a5 = some v5 ∧ w'.cell? a6 = some v6 ∧ w'.cell? a7 = some v7 ∧ w'.cell? a8 = some v8 ∧ w'.cell? a9 = some v9 := by
  obtain ⟨h0, h1, h2, h3, h4, h5, h6, h7, h8, h9⟩ := h
  exact ⟨(hb.cell (cell_lt h0)).trans h0, (hb.cell (cell_lt h1)).trans h1, (hb.cell (cell_lt h2)).trans h2, (hb.cell (cell_lt h3)).trans h3, (hb.cell (cell_lt h4)).trans h4, (hb.cell (cell_lt h5)).trans h5, (hb.cell (cell_lt h6)).trans h6, (hb.cell (cell_lt h7)).trans h7, (hb.cell (cell_lt h8)).trans h8, (hb.cell (cell_lt h9)).trans h9⟩
theorem keepE12 {w w' : World} {a0 a1 a2 a3 a4 a5 a6 a7 a8 a9 a10 a11 : Addr} {v0 v1 v2 v3 v4 v5 v6 v7 v8 v9 v10 v11 : Value} (h : w.cell? a0 = some v0 ∧ w.cell? a1 = some v1 ∧ w.cell? a2 = some v2 ∧ w.cell? a3 = some v3 ∧ w.cell? a4 = some v4 ∧ w.cell? a5 = some v5 ∧ w.cell? a6 = some v6 ∧ w.cell? a7 = some v7 ∧ w.cell? a8 = some v8 ∧ w.cell? a9 = some v9 ∧ w.cell? a10 = some v10 ∧ w.cell? a11 = some v11) (hb : Below w.heap.size w w') : w'.cell? a0 = some v0 ∧ w'.cell? a1 = some v1 ∧ w'.cell? a2 = some v2 ∧ w'.cell? a3 = some v3 ∧ w'.cell? a4 = some v4 ∧ w'.cell? a5 = some v5 ∧ w'.cell? a6 = some v6 ∧ w'.cell? a7 = some v7 ∧ w'.cell? a8 = some v8 ∧ w'.cell? a9 = some v9 ∧ w'.cell? a10 = some v10 ∧ w'.cell? a11 = some v11 := by
  obtain ⟨h0, h1, h2, h3, h4, h5, h6, h7, h8, h9, h10, h11⟩ := h
  exact ⟨(hb.cell (cell_lt h0)).trans h0, (hb.cell (cell_lt h1)).trans h1, (hb.cell (cell_lt h2)).trans h2, (hb.cell (cell_lt h3)).trans h3, (hb.cell (cell_lt h4)).trans h4, (hb.cell (cell_lt h5)).trans h5, (hb.cell (cell_lt h6)).trans h6, (hb.cell (cell_lt h7)).trans h7, (hb.cell (cell_lt h8)).trans h8, (hb.cell (cell_lt h9)).trans h9, (hb.cell (cell_lt h10)).trans h10, (hb.cell (cell_lt h11)).trans h11⟩
set_option maxRecDepth 100000 in
set_option maxHeartbeats 1000000 in
theorem lawsEqIntL (A A' : Option Addr) (n c c' : Nat) (l : List Int) (ok ok' : Nat → Prop) (w : World) (h : Sl IntR 1 ok w A n l) (h' : Sl IntR 1 ok' w A' n l) (hs : l.length ≤ 1048576) :
    Calls Tryz.prog 62 #[.slice A n c, .slice A' n c'] w fun e w' => e = .returned (.bool true) ∧ Below w.heap.size w w' := by
  obtain rfl : l.length = n := h.1
  have hn : l.length ≤ 1048576 := by exact hs
  have HS := Lib.hid hs
  clear hs
  go_enter Tryz.func62, Tryz.ntmps62
  go_wp2
  go_loopw [5] (fun i wr => ∃ k : Nat, k ≤ l.length ∧ i = .int .i64 k ∧ Below w.heap.size w wr) (fun i _ => l.length - (intOf i).toNat)
  case atStart => exact ⟨0, by omega, rfl, Below.refl _ _⟩
  case round =>
    obtain ⟨k, hk, rfl, hb⟩ := hrel
    by_cases hlt : k < l.length
    · obtain ⟨b, off, -, rfl, q0⟩ := IntR.at_ (h.below IntR.stays hb) hlt
      obtain ⟨b', off', -, rfl, r0⟩ := IntR.at_ (h'.below IntR.stays hb) hlt
      have i0 : (0 : Int) ≤ k := by omega
      have i1 : (k : Int) < l.length := by omega
      go_wp2_with fail
      go_region_held3 (fun w' => w'.cell? ⟨b, off + k, none⟩ = some (.int .i64 l[k]) ∧ w'.cell? ⟨b', off' + k, none⟩ = some (.int .i64 l[k]))
        (go_keep) (fail)
      go_wp2
      go_roundw
      case rel => exact ⟨k + 1, by omega, by go_num, hb.drew⟩
      case measure => simp [intOf]; omega
    · go_wp2
      go_ret
      exact ⟨rfl, hb⟩

set_option maxRecDepth 100000 in
set_option maxHeartbeats 1000000 in
theorem lawsEqTokL (A A' : Option Addr) (n c c' : Nat) (l : List Tk) (ok ok' : Nat → Prop) (w : World) (h : Sl TkR 5 ok w A n l) (h' : Sl TkR 5 ok' w A' n l) (hs : szL (fun t : Tk => t.vs.size) l ≤ 1048576) :
    Calls Tryz.prog 31 #[.slice A n c, .slice A' n c'] w fun e w' => e = .returned (.bool true) ∧ Below w.heap.size w w' := by
  obtain rfl : l.length = n := h.1
  have hn : l.length ≤ 1048576 := by unfold szL at hs; omega
  have HS := Lib.hid hs
  clear hs
  go_enter Tryz.func31, Tryz.ntmps31
  go_wp2
  go_loopw [5] (fun i wr => ∃ k : Nat, k ≤ l.length ∧ i = .int .i64 k ∧ Below w.heap.size w wr) (fun i _ => l.length - (intOf i).toNat)
  case atStart => exact ⟨0, by omega, rfl, Below.refl _ _⟩
  case round =>
    obtain ⟨k, hk, rfl, hb⟩ := hrel
    by_cases hlt : k < l.length
    · obtain ⟨b, off, -, rfl, q0, q1, q2, q3, q4⟩ := TkR.at_ (h.below TkR.stays hb) hlt
      obtain ⟨b', off', -, rfl, r0, r1, r2, r3, r4⟩ := TkR.at_ (h'.below TkR.stays hb) hlt
      have i0 : (0 : Int) ≤ k := by omega
      have i1 : (k : Int) < l.length := by omega
      go_wp2_with fail
      go_region_held3 (fun w' => w'.cell? ⟨b, off + k * 5, none⟩ = some (.int .i64 l[k].k) ∧ w'.cell? ⟨b, off + k * 5 + 1, none⟩ = some (.int .i64 l[k].c) ∧ w'.cell? ⟨b, off + k * 5 + 2, none⟩ = some (.int .i64 l[k].vk) ∧ w'.cell? ⟨b, off + k * 5 + 3, none⟩ = some (.int .i64 l[k].vn) ∧ w'.cell? ⟨b, off + k * 5 + 4, none⟩ = some (.string l[k].vs) ∧ w'.cell? ⟨b', off' + k * 5, none⟩ = some (.int .i64 l[k].k) ∧ w'.cell? ⟨b', off' + k * 5 + 1, none⟩ = some (.int .i64 l[k].c) ∧ w'.cell? ⟨b', off' + k * 5 + 2, none⟩ = some (.int .i64 l[k].vk) ∧ w'.cell? ⟨b', off' + k * 5 + 3, none⟩ = some (.int .i64 l[k].vn) ∧ w'.cell? ⟨b', off' + k * 5 + 4, none⟩ = some (.string l[k].vs))
        (first | go_keep | exact keepE10 (by assumption) hb1)
        (first | (go_at_call 67; refine (lawsEqTok l[k] _).mono ?_; rintro e w1 ⟨rfl, hb1⟩))
      go_wp2
      go_roundw
      case rel => exact ⟨k + 1, by omega, by go_num, hb.drew.trans (hb1.mono hb.size)⟩
      case measure => simp [intOf]; omega
    · go_wp2
      go_ret
      exact ⟨rfl, hb⟩

set_option maxRecDepth 100000 in
set_option maxHeartbeats 1000000 in
theorem lawsEqValL (A A' : Option Addr) (n c c' : Nat) (l : List Vl) (ok ok' : Nat → Prop) (w : World) (h : Sl VlR 3 ok w A n l) (h' : Sl VlR 3 ok' w A' n l) (hs : szL (fun v : Vl => v.s.size) l ≤ 1048576) :
    Calls Tryz.prog 102 #[.slice A n c, .slice A' n c'] w fun e w' => e = .returned (.bool true) ∧ Below w.heap.size w w' := by
  obtain rfl : l.length = n := h.1
  have hn : l.length ≤ 1048576 := by unfold szL at hs; omega
  have HS := Lib.hid hs
  clear hs
  go_enter Tryz.func102, Tryz.ntmps102
  go_wp2
  go_loopw [5] (fun i wr => ∃ k : Nat, k ≤ l.length ∧ i = .int .i64 k ∧ Below w.heap.size w wr) (fun i _ => l.length - (intOf i).toNat)
  case atStart => exact ⟨0, by omega, rfl, Below.refl _ _⟩
  case round =>
    obtain ⟨k, hk, rfl, hb⟩ := hrel
    by_cases hlt : k < l.length
    · obtain ⟨b, off, -, rfl, q0, q1, q2⟩ := VlR.at_ (h.below VlR.stays hb) hlt
      obtain ⟨b', off', -, rfl, r0, r1, r2⟩ := VlR.at_ (h'.below VlR.stays hb) hlt
      have i0 : (0 : Int) ≤ k := by omega
      have i1 : (k : Int) < l.length := by omega
      go_wp2_with fail
      go_region_held3 (fun w' => w'.cell? ⟨b, off + k * 3, none⟩ = some (.int .i64 l[k].k) ∧ w'.cell? ⟨b, off + k * 3 + 1, none⟩ = some (.int .i64 l[k].n) ∧ w'.cell? ⟨b, off + k * 3 + 2, none⟩ = some (.string l[k].s) ∧ w'.cell? ⟨b', off' + k * 3, none⟩ = some (.int .i64 l[k].k) ∧ w'.cell? ⟨b', off' + k * 3 + 1, none⟩ = some (.int .i64 l[k].n) ∧ w'.cell? ⟨b', off' + k * 3 + 2, none⟩ = some (.string l[k].s))
        (first | go_keep | exact keepE6 (by assumption) hb1)
        (first | (go_at_call 103; refine (lawsEqVal l[k].k l[k].n l[k].s _).mono ?_; rintro e w1 ⟨rfl, hb1⟩))
      go_wp2
      go_roundw
      case rel => exact ⟨k + 1, by omega, by go_num, hb.drew.trans (hb1.mono hb.size)⟩
      case measure => simp [intOf]; omega
    · go_wp2
      go_ret
      exact ⟨rfl, hb⟩

set_option maxRecDepth 100000 in
set_option maxHeartbeats 1000000 in
theorem lawsEqCol (x : Cl)  (ok ok' : Nat → Prop) (w : World)   (hs : x.sz ≤ 1048576) :
    Calls Tryz.prog 98 #[.agg #[.string x.name, .int .i64 x.kind, .bool x.nn, .int .i64 x.d.k, .int .i64 x.d.n, .string x.d.s], .agg #[.string x.name, .int .i64 x.kind, .bool x.nn, .int .i64 x.d.k, .int .i64 x.d.n, .string x.d.s]] w fun e w' => e = .returned (.bool true) ∧ Below w.heap.size w w' := by
  clear hs
  have ra := (Row.new w 97 #[.string x.name, .int .i64 x.kind, .bool x.nn, .int .i64 x.d.k, .int .i64 x.d.n, .string x.d.s]).alloc (.cells #[.string x.name, .int .i64 x.kind, .bool x.nn, .int .i64 x.d.k, .int .i64 x.d.n, .string x.d.s] 97)
  have rb := Row.newAt (w.alloc (.cells #[.string x.name, .int .i64 x.kind, .bool x.nn, .int .i64 x.d.k, .int .i64 x.d.n, .string x.d.s] 97)) 97 #[.string x.name, .int .i64 x.kind, .bool x.nn, .int .i64 x.d.k, .int .i64 x.d.n, .string x.d.s] (w.heap.size + 1) (by simp)
  have hb0 := ((Below.refl w.heap.size w).alloc (Nat.le_refl _) (.cells #[.string x.name, .int .i64 x.kind, .bool x.nn, .int .i64 x.d.k, .int .i64 x.d.n, .string x.d.s] 97)).alloc (by simp) (.cells #[.string x.name, .int .i64 x.kind, .bool x.nn, .int .i64 x.d.k, .int .i64 x.d.n, .string x.d.s] 97)
  go_enter Tryz.func98, Tryz.ntmps98
  go_wp2_with fail
  generalize (w.alloc (.cells #[.string x.name, .int .i64 x.kind, .bool x.nn, .int .i64 x.d.k, .int .i64 x.d.n, .string x.d.s] 97)).alloc (.cells #[.string x.name, .int .i64 x.kind, .bool x.nn, .int .i64 x.d.k, .int .i64 x.d.n, .string x.d.s] 97) = x0 at *
  refine (lawsEqVal _ _ _ _).mono ?_
  rintro e w1 ⟨rfl, hc0⟩
  have ra := ra.below hc0
  have rb := rb.below hc0
  have hb1 := hb0.trans (hc0.mono hb0.size)
  obtain ⟨⟨a_0_0, a_0_1, a_0_2, a_0_3, a_0_4, a_0_5⟩, -⟩ := ra.all6
  obtain ⟨⟨b_0_0, b_0_1, b_0_2, b_0_3, b_0_4, b_0_5⟩, -⟩ := rb.all6
  go_wp2_with fail
  go_ret
  exact ⟨rfl, hb1⟩

set_option maxRecDepth 100000 in
set_option maxHeartbeats 1000000 in
theorem lawsEqColL (A A' : Option Addr) (n c c' : Nat) (l : List Cl) (ok ok' : Nat → Prop) (w : World) (h : Sl ClR 6 ok w A n l) (h' : Sl ClR 6 ok' w A' n l) (hs : szL Cl.sz l ≤ 1048576) :
    Calls Tryz.prog 61 #[.slice A n c, .slice A' n c'] w fun e w' => e = .returned (.bool true) ∧ Below w.heap.size w w' := by
  obtain rfl : l.length = n := h.1
  have hn : l.length ≤ 1048576 := by unfold szL at hs; omega
  have HS := Lib.hid hs
  clear hs
  go_enter Tryz.func61, Tryz.ntmps61
  go_wp2
  go_loopw [5] (fun i wr => ∃ k : Nat, k ≤ l.length ∧ i = .int .i64 k ∧ Below w.heap.size w wr) (fun i _ => l.length - (intOf i).toNat)
  case atStart => exact ⟨0, by omega, rfl, Below.refl _ _⟩
  case round =>
    obtain ⟨k, hk, rfl, hb⟩ := hrel
    by_cases hlt : k < l.length
    · obtain ⟨b, off, -, rfl, q0, q1, q2, q3, q4, q5⟩ := ClR.at_ (h.below ClR.stays hb) hlt
      obtain ⟨b', off', -, rfl, r0, r1, r2, r3, r4, r5⟩ := ClR.at_ (h'.below ClR.stays hb) hlt
      have i0 : (0 : Int) ≤ k := by omega
      have i1 : (k : Int) < l.length := by omega
      have hszk : l[k].sz ≤ 1048576 := by have := HS.out; have := sum_mem_le (Cl.sz) l k hlt; unfold szL at *; (try simp only at *); omega
      have HSK := Lib.hid hszk
      clear hszk
      go_wp2_with fail
      go_region_held3 (fun w' => w'.cell? ⟨b, off + k * 6, none⟩ = some (.string l[k].name) ∧ w'.cell? ⟨b, off + k * 6 + 1, none⟩ = some (.int .i64 l[k].kind) ∧ w'.cell? ⟨b, off + k * 6 + 2, none⟩ = some (.bool l[k].nn) ∧ w'.cell? ⟨b, off + k * 6 + 3, none⟩ = some (.int .i64 l[k].d.k) ∧ w'.cell? ⟨b, off + k * 6 + 4, none⟩ = some (.int .i64 l[k].d.n) ∧ w'.cell? ⟨b, off + k * 6 + 5, none⟩ = some (.string l[k].d.s) ∧ w'.cell? ⟨b', off' + k * 6, none⟩ = some (.string l[k].name) ∧ w'.cell? ⟨b', off' + k * 6 + 1, none⟩ = some (.int .i64 l[k].kind) ∧ w'.cell? ⟨b', off' + k * 6 + 2, none⟩ = some (.bool l[k].nn) ∧ w'.cell? ⟨b', off' + k * 6 + 3, none⟩ = some (.int .i64 l[k].d.k) ∧ w'.cell? ⟨b', off' + k * 6 + 4, none⟩ = some (.int .i64 l[k].d.n) ∧ w'.cell? ⟨b', off' + k * 6 + 5, none⟩ = some (.string l[k].d.s))
        (first | go_keep | exact keepE12 (by assumption) hb1)
        (first | (go_at_call 98; refine (lawsEqCol l[k]  ok ok' _   HSK.out).mono ?_; rintro e w1 ⟨rfl, hb1⟩))
      go_wp2
      go_roundw
      case rel => exact ⟨k + 1, by omega, by go_num, hb.drew.trans (hb1.mono hb.size)⟩
      case measure => simp [intOf]; omega
    · go_wp2
      go_ret
      exact ⟨rfl, hb⟩

set_option maxRecDepth 100000 in
set_option maxHeartbeats 1000000 in
theorem lawsEqUnique (x : Uq) (A0 B0 : Option Addr) (n0 c0 d0 : Nat) (ok ok' : Nat → Prop) (w : World) (h0 : Sl IntR 1 ok w A0 n0 x.cols) (k0 : Sl IntR 1 ok' w B0 n0 x.cols) (hs : x.sz ≤ 1048576) :
    Calls Tryz.prog 99 #[.agg #[.slice A0 n0 c0], .agg #[.slice B0 n0 d0]] w fun e w' => e = .returned (.bool true) ∧ Below w.heap.size w w' := by
  have HS0 := Lib.hid (show x.cols.length ≤ 1048576 by have := hs; unfold Uq.sz at this; omega)
  clear hs
  have ra := (Row.new w 147 #[.slice A0 n0 c0]).alloc (.cells #[.slice B0 n0 d0] 147)
  have rb := Row.newAt (w.alloc (.cells #[.slice A0 n0 c0] 147)) 147 #[.slice B0 n0 d0] (w.heap.size + 1) (by simp)
  have hb0 := ((Below.refl w.heap.size w).alloc (Nat.le_refl _) (.cells #[.slice A0 n0 c0] 147)).alloc (by simp) (.cells #[.slice B0 n0 d0] 147)
  go_enter Tryz.func99, Tryz.ntmps99
  go_wp2_with fail
  generalize (w.alloc (.cells #[.slice A0 n0 c0] 147)).alloc (.cells #[.slice B0 n0 d0] 147) = x0 at *
  refine (lawsEqIntL A0 B0 n0 c0 d0 x.cols ok ok' _ (h0.below IntR.stays hb0) (k0.below IntR.stays hb0) HS0.out).mono ?_
  rintro e w1 ⟨rfl, hc0⟩
  have ra := ra.below hc0
  have rb := rb.below hc0
  have hb1 := hb0.trans (hc0.mono hb0.size)
  obtain ⟨a_0_0, -⟩ := ra.all1
  obtain ⟨b_0_0, -⟩ := rb.all1
  go_wp2_with fail
  go_ret
  exact ⟨rfl, hb1⟩

set_option maxRecDepth 100000 in
set_option maxHeartbeats 1000000 in
theorem lawsEqUniqueL (A A' : Option Addr) (n c c' : Nat) (l : List Uq) (ok ok' : Nat → Prop) (w : World) (h : Sl UqR 1 ok w A n l) (h' : Sl UqR 1 ok' w A' n l) (hs : szL Uq.sz l ≤ 1048576) :
    Calls Tryz.prog 63 #[.slice A n c, .slice A' n c'] w fun e w' => e = .returned (.bool true) ∧ Below w.heap.size w w' := by
  obtain rfl : l.length = n := h.1
  have hn : l.length ≤ 1048576 := by unfold szL at hs; omega
  have HS := Lib.hid hs
  clear hs
  go_enter Tryz.func63, Tryz.ntmps63
  go_wp2
  go_loopw [5] (fun i wr => ∃ k : Nat, k ≤ l.length ∧ i = .int .i64 k ∧ Below w.heap.size w wr) (fun i _ => l.length - (intOf i).toNat)
  case atStart => exact ⟨0, by omega, rfl, Below.refl _ _⟩
  case round =>
    obtain ⟨k, hk, rfl, hb⟩ := hrel
    by_cases hlt : k < l.length
    · obtain ⟨b, off, A0, n0, c0, -, rfl, q0, s0, -⟩ := UqR.at_ (h.below UqR.stays hb) hlt
      obtain ⟨b', off', B0, m0, d0, -, rfl, r0, t0, -⟩ := UqR.at_ (h'.below UqR.stays hb) hlt
      obtain rfl : n0 = m0 := s0.1.symm.trans t0.1
      have i0 : (0 : Int) ≤ k := by omega
      have i1 : (k : Int) < l.length := by omega
      have hszk : l[k].sz ≤ 1048576 := by have := HS.out; have := sum_mem_le (Uq.sz) l k hlt; unfold szL at *; (try simp only at *); omega
      have HSK := Lib.hid hszk
      clear hszk
      go_wp2_with fail
      go_region_held3 (fun w' => w'.cell? ⟨b, off + k, none⟩ = some (.slice A0 n0 c0) ∧ w'.cell? ⟨b', off' + k, none⟩ = some (.slice B0 n0 d0))
        (first | go_keep | exact keepE2 (by assumption) hb1)
        (first | (go_at_call 99; refine (lawsEqUnique l[k] A0 B0 n0 c0 d0 ok ok' _ (s0.drew IntR.stays) (t0.drew IntR.stays) HSK.out).mono ?_; rintro e w1 ⟨rfl, hb1⟩))
      go_wp2
      go_roundw
      case rel => exact ⟨k + 1, by omega, by go_num, hb.drew.trans (hb1.mono hb.size)⟩
      case measure => simp [intOf]; omega
    · go_wp2
      go_ret
      exact ⟨rfl, hb⟩

set_option maxRecDepth 100000 in
set_option maxHeartbeats 1000000 in
theorem lawsEqCheck (x : Ck) (A0 B0 : Option Addr) (n0 c0 d0 : Nat) (ok ok' : Nat → Prop) (w : World) (h0 : Sl TkR 5 ok w A0 n0 x.expr) (k0 : Sl TkR 5 ok' w B0 n0 x.expr) (hs : x.sz ≤ 1048576) :
    Calls Tryz.prog 100 #[.agg #[.slice A0 n0 c0], .agg #[.slice B0 n0 d0]] w fun e w' => e = .returned (.bool true) ∧ Below w.heap.size w w' := by
  have HS0 := Lib.hid (show szL (fun t : Tk => t.vs.size) x.expr ≤ 1048576 by have := hs; unfold Ck.sz at this; omega)
  clear hs
  have ra := (Row.new w 149 #[.slice A0 n0 c0]).alloc (.cells #[.slice B0 n0 d0] 149)
  have rb := Row.newAt (w.alloc (.cells #[.slice A0 n0 c0] 149)) 149 #[.slice B0 n0 d0] (w.heap.size + 1) (by simp)
  have hb0 := ((Below.refl w.heap.size w).alloc (Nat.le_refl _) (.cells #[.slice A0 n0 c0] 149)).alloc (by simp) (.cells #[.slice B0 n0 d0] 149)
  go_enter Tryz.func100, Tryz.ntmps100
  go_wp2_with fail
  generalize (w.alloc (.cells #[.slice A0 n0 c0] 149)).alloc (.cells #[.slice B0 n0 d0] 149) = x0 at *
  refine (lawsEqTokL A0 B0 n0 c0 d0 x.expr ok ok' _ (h0.below TkR.stays hb0) (k0.below TkR.stays hb0) HS0.out).mono ?_
  rintro e w1 ⟨rfl, hc0⟩
  have ra := ra.below hc0
  have rb := rb.below hc0
  have hb1 := hb0.trans (hc0.mono hb0.size)
  obtain ⟨a_0_0, -⟩ := ra.all1
  obtain ⟨b_0_0, -⟩ := rb.all1
  go_wp2_with fail
  go_ret
  exact ⟨rfl, hb1⟩

set_option maxRecDepth 100000 in
set_option maxHeartbeats 1000000 in
theorem lawsEqCheckL (A A' : Option Addr) (n c c' : Nat) (l : List Ck) (ok ok' : Nat → Prop) (w : World) (h : Sl CkR 1 ok w A n l) (h' : Sl CkR 1 ok' w A' n l) (hs : szL Ck.sz l ≤ 1048576) :
    Calls Tryz.prog 64 #[.slice A n c, .slice A' n c'] w fun e w' => e = .returned (.bool true) ∧ Below w.heap.size w w' := by
  obtain rfl : l.length = n := h.1
  have hn : l.length ≤ 1048576 := by unfold szL at hs; omega
  have HS := Lib.hid hs
  clear hs
  go_enter Tryz.func64, Tryz.ntmps64
  go_wp2
  go_loopw [5] (fun i wr => ∃ k : Nat, k ≤ l.length ∧ i = .int .i64 k ∧ Below w.heap.size w wr) (fun i _ => l.length - (intOf i).toNat)
  case atStart => exact ⟨0, by omega, rfl, Below.refl _ _⟩
  case round =>
    obtain ⟨k, hk, rfl, hb⟩ := hrel
    by_cases hlt : k < l.length
    · obtain ⟨b, off, A0, n0, c0, -, rfl, q0, s0, -⟩ := CkR.at_ (h.below CkR.stays hb) hlt
      obtain ⟨b', off', B0, m0, d0, -, rfl, r0, t0, -⟩ := CkR.at_ (h'.below CkR.stays hb) hlt
      obtain rfl : n0 = m0 := s0.1.symm.trans t0.1
      have i0 : (0 : Int) ≤ k := by omega
      have i1 : (k : Int) < l.length := by omega
      have hszk : l[k].sz ≤ 1048576 := by have := HS.out; have := sum_mem_le (Ck.sz) l k hlt; unfold szL at *; (try simp only at *); omega
      have HSK := Lib.hid hszk
      clear hszk
      go_wp2_with fail
      go_region_held3 (fun w' => w'.cell? ⟨b, off + k, none⟩ = some (.slice A0 n0 c0) ∧ w'.cell? ⟨b', off' + k, none⟩ = some (.slice B0 n0 d0))
        (first | go_keep | exact keepE2 (by assumption) hb1)
        (first | (go_at_call 100; refine (lawsEqCheck l[k] A0 B0 n0 c0 d0 ok ok' _ (s0.drew TkR.stays) (t0.drew TkR.stays) HSK.out).mono ?_; rintro e w1 ⟨rfl, hb1⟩))
      go_wp2
      go_roundw
      case rel => exact ⟨k + 1, by omega, by go_num, hb.drew.trans (hb1.mono hb.size)⟩
      case measure => simp [intOf]; omega
    · go_wp2
      go_ret
      exact ⟨rfl, hb⟩

set_option maxRecDepth 100000 in
set_option maxHeartbeats 1000000 in
theorem lawsEqFk (x : Fk) (A0 B0 : Option Addr) (n0 c0 d0 : Nat) (ok ok' : Nat → Prop) (w : World) (h0 : Sl IntR 1 ok w A0 n0 x.cols) (k0 : Sl IntR 1 ok' w B0 n0 x.cols) (hs : x.sz ≤ 1048576) :
    Calls Tryz.prog 101 #[.agg #[.slice A0 n0 c0, .string x.table, .int .i64 x.del, .int .i64 x.upd, .bool x.dfr], .agg #[.slice B0 n0 d0, .string x.table, .int .i64 x.del, .int .i64 x.upd, .bool x.dfr]] w fun e w' => e = .returned (.bool true) ∧ Below w.heap.size w w' := by
  have HS0 := Lib.hid (show x.cols.length ≤ 1048576 by have := hs; unfold Fk.sz at this; omega)
  clear hs
  have ra := (Row.new w 94 #[.slice A0 n0 c0, .string x.table, .int .i64 x.del, .int .i64 x.upd, .bool x.dfr]).alloc (.cells #[.slice B0 n0 d0, .string x.table, .int .i64 x.del, .int .i64 x.upd, .bool x.dfr] 94)
  have rb := Row.newAt (w.alloc (.cells #[.slice A0 n0 c0, .string x.table, .int .i64 x.del, .int .i64 x.upd, .bool x.dfr] 94)) 94 #[.slice B0 n0 d0, .string x.table, .int .i64 x.del, .int .i64 x.upd, .bool x.dfr] (w.heap.size + 1) (by simp)
  have hb0 := ((Below.refl w.heap.size w).alloc (Nat.le_refl _) (.cells #[.slice A0 n0 c0, .string x.table, .int .i64 x.del, .int .i64 x.upd, .bool x.dfr] 94)).alloc (by simp) (.cells #[.slice B0 n0 d0, .string x.table, .int .i64 x.del, .int .i64 x.upd, .bool x.dfr] 94)
  go_enter Tryz.func101, Tryz.ntmps101
  go_wp2_with fail
  generalize (w.alloc (.cells #[.slice A0 n0 c0, .string x.table, .int .i64 x.del, .int .i64 x.upd, .bool x.dfr] 94)).alloc (.cells #[.slice B0 n0 d0, .string x.table, .int .i64 x.del, .int .i64 x.upd, .bool x.dfr] 94) = x0 at *
  refine (lawsEqIntL A0 B0 n0 c0 d0 x.cols ok ok' _ (h0.below IntR.stays hb0) (k0.below IntR.stays hb0) HS0.out).mono ?_
  rintro e w1 ⟨rfl, hc0⟩
  have ra := ra.below hc0
  have rb := rb.below hc0
  have hb1 := hb0.trans (hc0.mono hb0.size)
  obtain ⟨⟨a_0_0, a_0_1, a_0_2, a_0_3, a_0_4⟩, -⟩ := ra.five
  obtain ⟨⟨b_0_0, b_0_1, b_0_2, b_0_3, b_0_4⟩, -⟩ := rb.five
  go_wp2_with fail
  go_ret
  exact ⟨rfl, hb1⟩

set_option maxRecDepth 100000 in
set_option maxHeartbeats 1000000 in
theorem lawsEqFkL (A A' : Option Addr) (n c c' : Nat) (l : List Fk) (ok ok' : Nat → Prop) (w : World) (h : Sl FkR 5 ok w A n l) (h' : Sl FkR 5 ok' w A' n l) (hs : szL Fk.sz l ≤ 1048576) :
    Calls Tryz.prog 65 #[.slice A n c, .slice A' n c'] w fun e w' => e = .returned (.bool true) ∧ Below w.heap.size w w' := by
  obtain rfl : l.length = n := h.1
  have hn : l.length ≤ 1048576 := by unfold szL at hs; omega
  have HS := Lib.hid hs
  clear hs
  go_enter Tryz.func65, Tryz.ntmps65
  go_wp2
  go_loopw [5] (fun i wr => ∃ k : Nat, k ≤ l.length ∧ i = .int .i64 k ∧ Below w.heap.size w wr) (fun i _ => l.length - (intOf i).toNat)
  case atStart => exact ⟨0, by omega, rfl, Below.refl _ _⟩
  case round =>
    obtain ⟨k, hk, rfl, hb⟩ := hrel
    by_cases hlt : k < l.length
    · obtain ⟨b, off, A0, n0, c0, -, rfl, q0, q1, q2, q3, q4, s0, -⟩ := FkR.at_ (h.below FkR.stays hb) hlt
      obtain ⟨b', off', B0, m0, d0, -, rfl, r0, r1, r2, r3, r4, t0, -⟩ := FkR.at_ (h'.below FkR.stays hb) hlt
      obtain rfl : n0 = m0 := s0.1.symm.trans t0.1
      have i0 : (0 : Int) ≤ k := by omega
      have i1 : (k : Int) < l.length := by omega
      have hszk : l[k].sz ≤ 1048576 := by have := HS.out; have := sum_mem_le (Fk.sz) l k hlt; unfold szL at *; (try simp only at *); omega
      have HSK := Lib.hid hszk
      clear hszk
      go_wp2_with fail
      go_region_held3 (fun w' => w'.cell? ⟨b, off + k * 5, none⟩ = some (.slice A0 n0 c0) ∧ w'.cell? ⟨b, off + k * 5 + 1, none⟩ = some (.string l[k].table) ∧ w'.cell? ⟨b, off + k * 5 + 2, none⟩ = some (.int .i64 l[k].del) ∧ w'.cell? ⟨b, off + k * 5 + 3, none⟩ = some (.int .i64 l[k].upd) ∧ w'.cell? ⟨b, off + k * 5 + 4, none⟩ = some (.bool l[k].dfr) ∧ w'.cell? ⟨b', off' + k * 5, none⟩ = some (.slice B0 n0 d0) ∧ w'.cell? ⟨b', off' + k * 5 + 1, none⟩ = some (.string l[k].table) ∧ w'.cell? ⟨b', off' + k * 5 + 2, none⟩ = some (.int .i64 l[k].del) ∧ w'.cell? ⟨b', off' + k * 5 + 3, none⟩ = some (.int .i64 l[k].upd) ∧ w'.cell? ⟨b', off' + k * 5 + 4, none⟩ = some (.bool l[k].dfr))
        (first | go_keep | exact keepE10 (by assumption) hb1)
        (first | (go_at_call 101; refine (lawsEqFk l[k] A0 B0 n0 c0 d0 ok ok' _ (s0.drew IntR.stays) (t0.drew IntR.stays) HSK.out).mono ?_; rintro e w1 ⟨rfl, hb1⟩))
      go_wp2
      go_roundw
      case rel => exact ⟨k + 1, by omega, by go_num, hb.drew.trans (hb1.mono hb.size)⟩
      case measure => simp [intOf]; omega
    · go_wp2
      go_ret
      exact ⟨rfl, hb⟩

set_option maxRecDepth 100000 in
set_option maxHeartbeats 1000000 in
theorem lawsEqTable (x : Tb) (A1 B1 : Option Addr) (n1 c1 d1 : Nat) (A2 B2 : Option Addr) (n2 c2 d2 : Nat) (A3 B3 : Option Addr) (n3 c3 d3 : Nat) (A4 B4 : Option Addr) (n4 c4 d4 : Nat) (A5 B5 : Option Addr) (n5 c5 d5 : Nat) (ok ok' : Nat → Prop) (w : World) (h1 : Sl ClR 6 ok w A1 n1 x.cols) (h2 : Sl IntR 1 ok w A2 n2 x.key) (h3 : Sl UqR 1 ok w A3 n3 x.uniqs) (h4 : Sl CkR 1 ok w A4 n4 x.checks) (h5 : Sl FkR 5 ok w A5 n5 x.fks) (k1 : Sl ClR 6 ok' w B1 n1 x.cols) (k2 : Sl IntR 1 ok' w B2 n2 x.key) (k3 : Sl UqR 1 ok' w B3 n3 x.uniqs) (k4 : Sl CkR 1 ok' w B4 n4 x.checks) (k5 : Sl FkR 5 ok' w B5 n5 x.fks) (hs : x.sz ≤ 1048576) :
    Calls Tryz.prog 29 #[.agg #[.string x.name, .slice A1 n1 c1, .slice A2 n2 c2, .slice A3 n3 c3, .slice A4 n4 c4, .slice A5 n5 c5], .agg #[.string x.name, .slice B1 n1 d1, .slice B2 n2 d2, .slice B3 n3 d3, .slice B4 n4 d4, .slice B5 n5 d5]] w fun e w' => e = .returned (.bool true) ∧ Below w.heap.size w w' := by
  have HS1 := Lib.hid (show szL Cl.sz x.cols ≤ 1048576 by have := hs; unfold Tb.sz at this; omega)
  have HS2 := Lib.hid (show x.key.length ≤ 1048576 by have := hs; unfold Tb.sz at this; omega)
  have HS3 := Lib.hid (show szL Uq.sz x.uniqs ≤ 1048576 by have := hs; unfold Tb.sz at this; omega)
  have HS4 := Lib.hid (show szL Ck.sz x.checks ≤ 1048576 by have := hs; unfold Tb.sz at this; omega)
  have HS5 := Lib.hid (show szL Fk.sz x.fks ≤ 1048576 by have := hs; unfold Tb.sz at this; omega)
  clear hs
  have ra := (Row.new w 59 #[.string x.name, .slice A1 n1 c1, .slice A2 n2 c2, .slice A3 n3 c3, .slice A4 n4 c4, .slice A5 n5 c5]).alloc (.cells #[.string x.name, .slice B1 n1 d1, .slice B2 n2 d2, .slice B3 n3 d3, .slice B4 n4 d4, .slice B5 n5 d5] 59)
  have rb := Row.newAt (w.alloc (.cells #[.string x.name, .slice A1 n1 c1, .slice A2 n2 c2, .slice A3 n3 c3, .slice A4 n4 c4, .slice A5 n5 c5] 59)) 59 #[.string x.name, .slice B1 n1 d1, .slice B2 n2 d2, .slice B3 n3 d3, .slice B4 n4 d4, .slice B5 n5 d5] (w.heap.size + 1) (by simp)
  have hb0 := ((Below.refl w.heap.size w).alloc (Nat.le_refl _) (.cells #[.string x.name, .slice A1 n1 c1, .slice A2 n2 c2, .slice A3 n3 c3, .slice A4 n4 c4, .slice A5 n5 c5] 59)).alloc (by simp) (.cells #[.string x.name, .slice B1 n1 d1, .slice B2 n2 d2, .slice B3 n3 d3, .slice B4 n4 d4, .slice B5 n5 d5] 59)
  go_enter Tryz.func29, Tryz.ntmps29
  go_wp2_with fail
  generalize (w.alloc (.cells #[.string x.name, .slice A1 n1 c1, .slice A2 n2 c2, .slice A3 n3 c3, .slice A4 n4 c4, .slice A5 n5 c5] 59)).alloc (.cells #[.string x.name, .slice B1 n1 d1, .slice B2 n2 d2, .slice B3 n3 d3, .slice B4 n4 d4, .slice B5 n5 d5] 59) = x0 at *
  refine (lawsEqColL A1 B1 n1 c1 d1 x.cols ok ok' _ (h1.below ClR.stays hb0) (k1.below ClR.stays hb0) HS1.out).mono ?_
  rintro e w1 ⟨rfl, hc0⟩
  have ra := ra.below hc0
  have rb := rb.below hc0
  have hb1 := hb0.trans (hc0.mono hb0.size)
  obtain ⟨⟨a_0_0, a_0_1, a_0_2, a_0_3, a_0_4, a_0_5⟩, -⟩ := ra.all6
  obtain ⟨⟨b_0_0, b_0_1, b_0_2, b_0_3, b_0_4, b_0_5⟩, -⟩ := rb.all6
  go_wp2_with fail
  refine (lawsEqIntL A2 B2 n2 c2 d2 x.key ok ok' _ (h2.below IntR.stays hb1) (k2.below IntR.stays hb1) HS2.out).mono ?_
  rintro e w2 ⟨rfl, hc1⟩
  have ra := ra.below hc1
  have rb := rb.below hc1
  have hb2 := hb1.trans (hc1.mono hb1.size)
  obtain ⟨⟨a_1_0, a_1_1, a_1_2, a_1_3, a_1_4, a_1_5⟩, -⟩ := ra.all6
  obtain ⟨⟨b_1_0, b_1_1, b_1_2, b_1_3, b_1_4, b_1_5⟩, -⟩ := rb.all6
  go_wp2_with fail
  refine (lawsEqUniqueL A3 B3 n3 c3 d3 x.uniqs ok ok' _ (h3.below UqR.stays hb2) (k3.below UqR.stays hb2) HS3.out).mono ?_
  rintro e w3 ⟨rfl, hc2⟩
  have ra := ra.below hc2
  have rb := rb.below hc2
  have hb3 := hb2.trans (hc2.mono hb2.size)
  obtain ⟨⟨a_2_0, a_2_1, a_2_2, a_2_3, a_2_4, a_2_5⟩, -⟩ := ra.all6
  obtain ⟨⟨b_2_0, b_2_1, b_2_2, b_2_3, b_2_4, b_2_5⟩, -⟩ := rb.all6
  go_wp2_with fail
  refine (lawsEqCheckL A4 B4 n4 c4 d4 x.checks ok ok' _ (h4.below CkR.stays hb3) (k4.below CkR.stays hb3) HS4.out).mono ?_
  rintro e w4 ⟨rfl, hc3⟩
  have ra := ra.below hc3
  have rb := rb.below hc3
  have hb4 := hb3.trans (hc3.mono hb3.size)
  obtain ⟨⟨a_3_0, a_3_1, a_3_2, a_3_3, a_3_4, a_3_5⟩, -⟩ := ra.all6
  obtain ⟨⟨b_3_0, b_3_1, b_3_2, b_3_3, b_3_4, b_3_5⟩, -⟩ := rb.all6
  go_wp2_with fail
  refine (lawsEqFkL A5 B5 n5 c5 d5 x.fks ok ok' _ (h5.below FkR.stays hb4) (k5.below FkR.stays hb4) HS5.out).mono ?_
  rintro e w5 ⟨rfl, hc4⟩
  have ra := ra.below hc4
  have rb := rb.below hc4
  have hb5 := hb4.trans (hc4.mono hb4.size)
  obtain ⟨⟨a_4_0, a_4_1, a_4_2, a_4_3, a_4_4, a_4_5⟩, -⟩ := ra.all6
  obtain ⟨⟨b_4_0, b_4_1, b_4_2, b_4_3, b_4_4, b_4_5⟩, -⟩ := rb.all6
  go_wp2_with fail
  go_ret
  exact ⟨rfl, hb5⟩

set_option maxRecDepth 100000 in
set_option maxHeartbeats 1000000 in
theorem lawsEqTableL (A A' : Option Addr) (n c c' : Nat) (l : List Tb) (ok ok' : Nat → Prop) (w : World) (h : Sl TbR 6 ok w A n l) (h' : Sl TbR 6 ok' w A' n l) (hs : szL Tb.sz l ≤ 1048576) :
    Calls Tryz.prog 10 #[.slice A n c, .slice A' n c'] w fun e w' => e = .returned (.bool true) ∧ Below w.heap.size w w' := by
  obtain rfl : l.length = n := h.1
  have hn : l.length ≤ 1048576 := by unfold szL at hs; omega
  have HS := Lib.hid hs
  clear hs
  go_enter Tryz.func10, Tryz.ntmps10
  go_wp2
  go_loopw [5] (fun i wr => ∃ k : Nat, k ≤ l.length ∧ i = .int .i64 k ∧ Below w.heap.size w wr) (fun i _ => l.length - (intOf i).toNat)
  case atStart => exact ⟨0, by omega, rfl, Below.refl _ _⟩
  case round =>
    obtain ⟨k, hk, rfl, hb⟩ := hrel
    by_cases hlt : k < l.length
    · obtain ⟨b, off, A1, n1, c1, A2, n2, c2, A3, n3, c3, A4, n4, c4, A5, n5, c5, -, rfl, q0, q1, q2, q3, q4, q5, s1, s2, s3, s4, s5, -⟩ := TbR.at_ (h.below TbR.stays hb) hlt
      obtain ⟨b', off', B1, m1, d1, B2, m2, d2, B3, m3, d3, B4, m4, d4, B5, m5, d5, -, rfl, r0, r1, r2, r3, r4, r5, t1, t2, t3, t4, t5, -⟩ := TbR.at_ (h'.below TbR.stays hb) hlt
      obtain ⟨rfl, rfl, rfl, rfl, rfl⟩ : n1 = m1 ∧ n2 = m2 ∧ n3 = m3 ∧ n4 = m4 ∧ n5 = m5 := ⟨s1.1.symm.trans t1.1, s2.1.symm.trans t2.1, s3.1.symm.trans t3.1, s4.1.symm.trans t4.1, s5.1.symm.trans t5.1⟩
      have i0 : (0 : Int) ≤ k := by omega
      have i1 : (k : Int) < l.length := by omega
      have hszk : l[k].sz ≤ 1048576 := by have := HS.out; have := sum_mem_le (Tb.sz) l k hlt; unfold szL at *; (try simp only at *); omega
      have HSK := Lib.hid hszk
      clear hszk
      go_wp2_with fail
      go_region_held3 (fun w' => w'.cell? ⟨b, off + k * 6, none⟩ = some (.string l[k].name) ∧ w'.cell? ⟨b, off + k * 6 + 1, none⟩ = some (.slice A1 n1 c1) ∧ w'.cell? ⟨b, off + k * 6 + 2, none⟩ = some (.slice A2 n2 c2) ∧ w'.cell? ⟨b, off + k * 6 + 3, none⟩ = some (.slice A3 n3 c3) ∧ w'.cell? ⟨b, off + k * 6 + 4, none⟩ = some (.slice A4 n4 c4) ∧ w'.cell? ⟨b, off + k * 6 + 5, none⟩ = some (.slice A5 n5 c5) ∧ w'.cell? ⟨b', off' + k * 6, none⟩ = some (.string l[k].name) ∧ w'.cell? ⟨b', off' + k * 6 + 1, none⟩ = some (.slice B1 n1 d1) ∧ w'.cell? ⟨b', off' + k * 6 + 2, none⟩ = some (.slice B2 n2 d2) ∧ w'.cell? ⟨b', off' + k * 6 + 3, none⟩ = some (.slice B3 n3 d3) ∧ w'.cell? ⟨b', off' + k * 6 + 4, none⟩ = some (.slice B4 n4 d4) ∧ w'.cell? ⟨b', off' + k * 6 + 5, none⟩ = some (.slice B5 n5 d5))
        (first | go_keep | exact keepE12 (by assumption) hb1)
        (first | (go_at_call 29; refine (lawsEqTable l[k] A1 B1 n1 c1 d1 A2 B2 n2 c2 d2 A3 B3 n3 c3 d3 A4 B4 n4 c4 d4 A5 B5 n5 c5 d5 ok ok' _ (s1.drew ClR.stays) (s2.drew IntR.stays) (s3.drew UqR.stays) (s4.drew CkR.stays) (s5.drew FkR.stays) (t1.drew ClR.stays) (t2.drew IntR.stays) (t3.drew UqR.stays) (t4.drew CkR.stays) (t5.drew FkR.stays) HSK.out).mono ?_; rintro e w1 ⟨rfl, hb1⟩))
      go_wp2
      go_roundw
      case rel => exact ⟨k + 1, by omega, by go_num, hb.drew.trans (hb1.mono hb.size)⟩
      case measure => simp [intOf]; omega
    · go_wp2
      go_ret
      exact ⟨rfl, hb⟩

set_option maxRecDepth 100000 in
set_option maxHeartbeats 1000000 in
theorem lawsEqRow (x : Rw) (A1 B1 : Option Addr) (n1 c1 d1 : Nat) (ok ok' : Nat → Prop) (w : World) (h1 : Sl VlR 3 ok w A1 n1 x.vals) (k1 : Sl VlR 3 ok' w B1 n1 x.vals) (hs : x.sz ≤ 1048576) :
    Calls Tryz.prog 66 #[.agg #[.int .i64 x.id, .slice A1 n1 c1], .agg #[.int .i64 x.id, .slice B1 n1 d1]] w fun e w' => e = .returned (.bool true) ∧ Below w.heap.size w w' := by
  have HS1 := Lib.hid (show szL (fun v : Vl => v.s.size) x.vals ≤ 1048576 by have := hs; unfold Rw.sz at this; omega)
  clear hs
  have ra := (Row.new w 102 #[.int .i64 x.id, .slice A1 n1 c1]).alloc (.cells #[.int .i64 x.id, .slice B1 n1 d1] 102)
  have rb := Row.newAt (w.alloc (.cells #[.int .i64 x.id, .slice A1 n1 c1] 102)) 102 #[.int .i64 x.id, .slice B1 n1 d1] (w.heap.size + 1) (by simp)
  have hb0 := ((Below.refl w.heap.size w).alloc (Nat.le_refl _) (.cells #[.int .i64 x.id, .slice A1 n1 c1] 102)).alloc (by simp) (.cells #[.int .i64 x.id, .slice B1 n1 d1] 102)
  go_enter Tryz.func66, Tryz.ntmps66
  go_wp2_with fail
  generalize (w.alloc (.cells #[.int .i64 x.id, .slice A1 n1 c1] 102)).alloc (.cells #[.int .i64 x.id, .slice B1 n1 d1] 102) = x0 at *
  refine (lawsEqValL A1 B1 n1 c1 d1 x.vals ok ok' _ (h1.below VlR.stays hb0) (k1.below VlR.stays hb0) HS1.out).mono ?_
  rintro e w1 ⟨rfl, hc0⟩
  have ra := ra.below hc0
  have rb := rb.below hc0
  have hb1 := hb0.trans (hc0.mono hb0.size)
  obtain ⟨⟨a_0_0, a_0_1⟩, -⟩ := ra.all2
  obtain ⟨⟨b_0_0, b_0_1⟩, -⟩ := rb.all2
  go_wp2_with fail
  go_ret
  exact ⟨rfl, hb1⟩

set_option maxRecDepth 100000 in
set_option maxHeartbeats 1000000 in
theorem lawsEqRowL (A A' : Option Addr) (n c c' : Nat) (l : List Rw) (ok ok' : Nat → Prop) (w : World) (h : Sl RwR 2 ok w A n l) (h' : Sl RwR 2 ok' w A' n l) (hs : szL Rw.sz l ≤ 1048576) :
    Calls Tryz.prog 30 #[.slice A n c, .slice A' n c'] w fun e w' => e = .returned (.bool true) ∧ Below w.heap.size w w' := by
  obtain rfl : l.length = n := h.1
  have hn : l.length ≤ 1048576 := by unfold szL at hs; omega
  have HS := Lib.hid hs
  clear hs
  go_enter Tryz.func30, Tryz.ntmps30
  go_wp2
  go_loopw [5] (fun i wr => ∃ k : Nat, k ≤ l.length ∧ i = .int .i64 k ∧ Below w.heap.size w wr) (fun i _ => l.length - (intOf i).toNat)
  case atStart => exact ⟨0, by omega, rfl, Below.refl _ _⟩
  case round =>
    obtain ⟨k, hk, rfl, hb⟩ := hrel
    by_cases hlt : k < l.length
    · obtain ⟨b, off, A1, n1, c1, -, rfl, q0, q1, s1, -⟩ := RwR.at_ (h.below RwR.stays hb) hlt
      obtain ⟨b', off', B1, m1, d1, -, rfl, r0, r1, t1, -⟩ := RwR.at_ (h'.below RwR.stays hb) hlt
      obtain rfl : n1 = m1 := s1.1.symm.trans t1.1
      have i0 : (0 : Int) ≤ k := by omega
      have i1 : (k : Int) < l.length := by omega
      have hszk : l[k].sz ≤ 1048576 := by have := HS.out; have := sum_mem_le (Rw.sz) l k hlt; unfold szL at *; (try simp only at *); omega
      have HSK := Lib.hid hszk
      clear hszk
      go_wp2_with fail
      go_region_held3 (fun w' => w'.cell? ⟨b, off + k * 2, none⟩ = some (.int .i64 l[k].id) ∧ w'.cell? ⟨b, off + k * 2 + 1, none⟩ = some (.slice A1 n1 c1) ∧ w'.cell? ⟨b', off' + k * 2, none⟩ = some (.int .i64 l[k].id) ∧ w'.cell? ⟨b', off' + k * 2 + 1, none⟩ = some (.slice B1 n1 d1))
        (first | go_keep | exact keepE4 (by assumption) hb1)
        (first | (go_at_call 66; refine (lawsEqRow l[k] A1 B1 n1 c1 d1 ok ok' _ (s1.drew VlR.stays) (t1.drew VlR.stays) HSK.out).mono ?_; rintro e w1 ⟨rfl, hb1⟩))
      go_wp2
      go_roundw
      case rel => exact ⟨k + 1, by omega, by go_num, hb.drew.trans (hb1.mono hb.size)⟩
      case measure => simp [intOf]; omega
    · go_wp2
      go_ret
      exact ⟨rfl, hb⟩

set_option maxRecDepth 100000 in
set_option maxHeartbeats 1000000 in
theorem lawsEqSet (x : Se) (A1 B1 : Option Addr) (n1 c1 d1 : Nat) (ok ok' : Nat → Prop) (w : World) (h1 : Sl TkR 5 ok w A1 n1 x.expr) (k1 : Sl TkR 5 ok' w B1 n1 x.expr) (hs : x.sz ≤ 1048576) :
    Calls Tryz.prog 68 #[.agg #[.int .i64 x.col, .slice A1 n1 c1], .agg #[.int .i64 x.col, .slice B1 n1 d1]] w fun e w' => e = .returned (.bool true) ∧ Below w.heap.size w w' := by
  have HS1 := Lib.hid (show szL (fun t : Tk => t.vs.size) x.expr ≤ 1048576 by have := hs; unfold Se.sz at this; omega)
  clear hs
  have ra := (Row.new w 104 #[.int .i64 x.col, .slice A1 n1 c1]).alloc (.cells #[.int .i64 x.col, .slice B1 n1 d1] 104)
  have rb := Row.newAt (w.alloc (.cells #[.int .i64 x.col, .slice A1 n1 c1] 104)) 104 #[.int .i64 x.col, .slice B1 n1 d1] (w.heap.size + 1) (by simp)
  have hb0 := ((Below.refl w.heap.size w).alloc (Nat.le_refl _) (.cells #[.int .i64 x.col, .slice A1 n1 c1] 104)).alloc (by simp) (.cells #[.int .i64 x.col, .slice B1 n1 d1] 104)
  go_enter Tryz.func68, Tryz.ntmps68
  go_wp2_with fail
  generalize (w.alloc (.cells #[.int .i64 x.col, .slice A1 n1 c1] 104)).alloc (.cells #[.int .i64 x.col, .slice B1 n1 d1] 104) = x0 at *
  refine (lawsEqTokL A1 B1 n1 c1 d1 x.expr ok ok' _ (h1.below TkR.stays hb0) (k1.below TkR.stays hb0) HS1.out).mono ?_
  rintro e w1 ⟨rfl, hc0⟩
  have ra := ra.below hc0
  have rb := rb.below hc0
  have hb1 := hb0.trans (hc0.mono hb0.size)
  obtain ⟨⟨a_0_0, a_0_1⟩, -⟩ := ra.all2
  obtain ⟨⟨b_0_0, b_0_1⟩, -⟩ := rb.all2
  go_wp2_with fail
  go_ret
  exact ⟨rfl, hb1⟩

set_option maxRecDepth 100000 in
set_option maxHeartbeats 1000000 in
theorem lawsEqSetL (A A' : Option Addr) (n c c' : Nat) (l : List Se) (ok ok' : Nat → Prop) (w : World) (h : Sl SeR 2 ok w A n l) (h' : Sl SeR 2 ok' w A' n l) (hs : szL Se.sz l ≤ 1048576) :
    Calls Tryz.prog 32 #[.slice A n c, .slice A' n c'] w fun e w' => e = .returned (.bool true) ∧ Below w.heap.size w w' := by
  obtain rfl : l.length = n := h.1
  have hn : l.length ≤ 1048576 := by unfold szL at hs; omega
  have HS := Lib.hid hs
  clear hs
  go_enter Tryz.func32, Tryz.ntmps32
  go_wp2
  go_loopw [5] (fun i wr => ∃ k : Nat, k ≤ l.length ∧ i = .int .i64 k ∧ Below w.heap.size w wr) (fun i _ => l.length - (intOf i).toNat)
  case atStart => exact ⟨0, by omega, rfl, Below.refl _ _⟩
  case round =>
    obtain ⟨k, hk, rfl, hb⟩ := hrel
    by_cases hlt : k < l.length
    · obtain ⟨b, off, A1, n1, c1, -, rfl, q0, q1, s1, -⟩ := SeR.at_ (h.below SeR.stays hb) hlt
      obtain ⟨b', off', B1, m1, d1, -, rfl, r0, r1, t1, -⟩ := SeR.at_ (h'.below SeR.stays hb) hlt
      obtain rfl : n1 = m1 := s1.1.symm.trans t1.1
      have i0 : (0 : Int) ≤ k := by omega
      have i1 : (k : Int) < l.length := by omega
      have hszk : l[k].sz ≤ 1048576 := by have := HS.out; have := sum_mem_le (Se.sz) l k hlt; unfold szL at *; (try simp only at *); omega
      have HSK := Lib.hid hszk
      clear hszk
      go_wp2_with fail
      go_region_held3 (fun w' => w'.cell? ⟨b, off + k * 2, none⟩ = some (.int .i64 l[k].col) ∧ w'.cell? ⟨b, off + k * 2 + 1, none⟩ = some (.slice A1 n1 c1) ∧ w'.cell? ⟨b', off' + k * 2, none⟩ = some (.int .i64 l[k].col) ∧ w'.cell? ⟨b', off' + k * 2 + 1, none⟩ = some (.slice B1 n1 d1))
        (first | go_keep | exact keepE4 (by assumption) hb1)
        (first | (go_at_call 68; refine (lawsEqSet l[k] A1 B1 n1 c1 d1 ok ok' _ (s1.drew TkR.stays) (t1.drew TkR.stays) HSK.out).mono ?_; rintro e w1 ⟨rfl, hb1⟩))
      go_wp2
      go_roundw
      case rel => exact ⟨k + 1, by omega, by go_num, hb.drew.trans (hb1.mono hb.size)⟩
      case measure => simp [intOf]; omega
    · go_wp2
      go_ret
      exact ⟨rfl, hb⟩

set_option maxRecDepth 100000 in
set_option maxHeartbeats 1000000 in
theorem lawsEqStmt (x : Sq) (A2 B2 : Option Addr) (n2 c2 d2 : Nat) (A3 B3 : Option Addr) (n3 c3 d3 : Nat) (A4 B4 : Option Addr) (n4 c4 d4 : Nat) (ok ok' : Nat → Prop) (w : World) (h2 : Sl RwR 2 ok w A2 n2 x.rows) (h3 : Sl TkR 5 ok w A3 n3 x.wher) (h4 : Sl SeR 2 ok w A4 n4 x.sets) (k2 : Sl RwR 2 ok' w B2 n2 x.rows) (k3 : Sl TkR 5 ok' w B3 n3 x.wher) (k4 : Sl SeR 2 ok' w B4 n4 x.sets) (hs : x.sz ≤ 1048576) :
    Calls Tryz.prog 11 #[.agg #[.int .i64 x.kind, .string x.table, .slice A2 n2 c2, .slice A3 n3 c3, .slice A4 n4 c4, .int .i64 x.policy], .agg #[.int .i64 x.kind, .string x.table, .slice B2 n2 d2, .slice B3 n3 d3, .slice B4 n4 d4, .int .i64 x.policy]] w fun e w' => e = .returned (.bool true) ∧ Below w.heap.size w w' := by
  have HS2 := Lib.hid (show szL Rw.sz x.rows ≤ 1048576 by have := hs; unfold Sq.sz at this; omega)
  have HS3 := Lib.hid (show szL (fun t : Tk => t.vs.size) x.wher ≤ 1048576 by have := hs; unfold Sq.sz at this; omega)
  have HS4 := Lib.hid (show szL Se.sz x.sets ≤ 1048576 by have := hs; unfold Sq.sz at this; omega)
  clear hs
  have ra := (Row.new w 37 #[.int .i64 x.kind, .string x.table, .slice A2 n2 c2, .slice A3 n3 c3, .slice A4 n4 c4, .int .i64 x.policy]).alloc (.cells #[.int .i64 x.kind, .string x.table, .slice B2 n2 d2, .slice B3 n3 d3, .slice B4 n4 d4, .int .i64 x.policy] 37)
  have rb := Row.newAt (w.alloc (.cells #[.int .i64 x.kind, .string x.table, .slice A2 n2 c2, .slice A3 n3 c3, .slice A4 n4 c4, .int .i64 x.policy] 37)) 37 #[.int .i64 x.kind, .string x.table, .slice B2 n2 d2, .slice B3 n3 d3, .slice B4 n4 d4, .int .i64 x.policy] (w.heap.size + 1) (by simp)
  have hb0 := ((Below.refl w.heap.size w).alloc (Nat.le_refl _) (.cells #[.int .i64 x.kind, .string x.table, .slice A2 n2 c2, .slice A3 n3 c3, .slice A4 n4 c4, .int .i64 x.policy] 37)).alloc (by simp) (.cells #[.int .i64 x.kind, .string x.table, .slice B2 n2 d2, .slice B3 n3 d3, .slice B4 n4 d4, .int .i64 x.policy] 37)
  go_enter Tryz.func11, Tryz.ntmps11
  go_wp2_with fail
  generalize (w.alloc (.cells #[.int .i64 x.kind, .string x.table, .slice A2 n2 c2, .slice A3 n3 c3, .slice A4 n4 c4, .int .i64 x.policy] 37)).alloc (.cells #[.int .i64 x.kind, .string x.table, .slice B2 n2 d2, .slice B3 n3 d3, .slice B4 n4 d4, .int .i64 x.policy] 37) = x0 at *
  refine (lawsEqRowL A2 B2 n2 c2 d2 x.rows ok ok' _ (h2.below RwR.stays hb0) (k2.below RwR.stays hb0) HS2.out).mono ?_
  rintro e w1 ⟨rfl, hc0⟩
  have ra := ra.below hc0
  have rb := rb.below hc0
  have hb1 := hb0.trans (hc0.mono hb0.size)
  obtain ⟨⟨a_0_0, a_0_1, a_0_2, a_0_3, a_0_4, a_0_5⟩, -⟩ := ra.all6
  obtain ⟨⟨b_0_0, b_0_1, b_0_2, b_0_3, b_0_4, b_0_5⟩, -⟩ := rb.all6
  go_wp2_with fail
  refine (lawsEqTokL A3 B3 n3 c3 d3 x.wher ok ok' _ (h3.below TkR.stays hb1) (k3.below TkR.stays hb1) HS3.out).mono ?_
  rintro e w2 ⟨rfl, hc1⟩
  have ra := ra.below hc1
  have rb := rb.below hc1
  have hb2 := hb1.trans (hc1.mono hb1.size)
  obtain ⟨⟨a_1_0, a_1_1, a_1_2, a_1_3, a_1_4, a_1_5⟩, -⟩ := ra.all6
  obtain ⟨⟨b_1_0, b_1_1, b_1_2, b_1_3, b_1_4, b_1_5⟩, -⟩ := rb.all6
  go_wp2_with fail
  refine (lawsEqSetL A4 B4 n4 c4 d4 x.sets ok ok' _ (h4.below SeR.stays hb2) (k4.below SeR.stays hb2) HS4.out).mono ?_
  rintro e w3 ⟨rfl, hc2⟩
  have ra := ra.below hc2
  have rb := rb.below hc2
  have hb3 := hb2.trans (hc2.mono hb2.size)
  obtain ⟨⟨a_2_0, a_2_1, a_2_2, a_2_3, a_2_4, a_2_5⟩, -⟩ := ra.all6
  obtain ⟨⟨b_2_0, b_2_1, b_2_2, b_2_3, b_2_4, b_2_5⟩, -⟩ := rb.all6
  go_wp2_with fail
  go_ret
  exact ⟨rfl, hb3⟩


end Go.Proofs.YthafgkcokecnnaaGreat
namespace Go.Proofs.YthafgkcokecnnaaGreat
open Go.RowKit Go.Maps
set_option linter.unusedVariables false

/-- The first place of a name, counted from i; -1: there is none. -/
def atGo (s : ByteArray) : List ByteArray → Nat → Int
  | [], _ => -1
  | x :: xs, i => if (x.toList == s.toList) = true then (i : Int) else atGo s xs (i + 1)
def atN (names : List ByteArray) (s : ByteArray) : Int := atGo s names 0

theorem atGo_snoc (s x : ByteArray) : ∀ (l : List ByteArray) (i : Nat), atGo s (l ++ [x]) i = if atGo s l i = -1 then (if (x.toList == s.toList) = true then ((i + l.length : Nat) : Int) else -1) else atGo s l i
  | [], i => by simp [atGo]
  | y :: ys, i => by
    cases hb : (y.toList == s.toList)
    · simp only [List.cons_append, atGo, hb, Bool.false_eq_true, if_false]
      rw [atGo_snoc s x ys (i + 1), show i + 1 + ys.length = i + (y :: ys).length by simp; omega]
    · simp only [List.cons_append, atGo, hb, if_true]
      rw [if_neg (by omega)]
theorem atGo_rng (s : ByteArray) : ∀ (l : List ByteArray) (i : Nat), atGo s l i = -1 ∨ ((i : Int) ≤ atGo s l i ∧ atGo s l i < i + l.length)
  | [], i => .inl rfl
  | y :: ys, i => by
    cases hb : (y.toList == s.toList)
    · simp only [atGo, hb, Bool.false_eq_true, if_false]
      rcases atGo_rng s ys (i + 1) with h1 | h1
      · exact .inl h1
      · right; simp at h1 ⊢; omega
    · simp only [atGo, hb, if_true]
      right; simp; omega
theorem atN_snoc (l : List ByteArray) (s x : ByteArray) : atN (l ++ [x]) s = if atN l s = -1 then (if (x.toList == s.toList) = true then (l.length : Int) else -1) else atN l s := by
  unfold atN; rw [atGo_snoc]; simp
theorem atN_rng (l : List ByteArray) (s : ByteArray) : atN l s = -1 ∨ (0 ≤ atN l s ∧ atN l s < l.length) := by
  rcases atGo_rng s l 0 with h | h
  · exact .inl h
  · right; unfold atN; simpa using h

/-- How many names there are, each counted once. -/
def cntGo (seen : List ByteArray) : List ByteArray → Nat
  | [] => 0
  | x :: xs => (if atN seen x = -1 then 1 else 0) + cntGo (seen ++ [x]) xs
theorem cntGo_snoc (x : ByteArray) : ∀ (l seen : List ByteArray), cntGo seen (l ++ [x]) = cntGo seen l + (if atN (seen ++ l) x = -1 then 1 else 0)
  | [], seen => by simp [cntGo]
  | y :: ys, seen => by
    simp only [List.cons_append, cntGo, cntGo_snoc x ys (seen ++ [y]), List.append_assoc, List.nil_append]
    omega
/-- Whether no two names are alike. -/
def uniqGo (seen : List ByteArray) : List ByteArray → Bool
  | [] => true
  | x :: xs => decide (atN seen x = -1) && uniqGo (seen ++ [x]) xs
theorem cntGo_le : ∀ (l seen : List ByteArray), cntGo seen l ≤ l.length
  | [], _ => Nat.le_refl _
  | x :: xs, seen => by
    have := cntGo_le xs (seen ++ [x])
    simp only [cntGo, List.length_cons]
    split <;> omega
theorem cntGo_uniq : ∀ (l seen : List ByteArray), (cntGo seen l == l.length) = uniqGo seen l
  | [], _ => rfl
  | x :: xs, seen => by
    have h1 := cntGo_le xs (seen ++ [x])
    have h2 := cntGo_uniq xs (seen ++ [x])
    simp only [cntGo, uniqGo, List.length_cons, ← h2]
    by_cases h : atN seen x = -1
    · rw [if_pos h, decide_eq_true h, Bool.true_and, Bool.eq_iff_iff]; simp; omega
    · rw [if_neg h, decide_eq_false h, Bool.false_and]; simp; omega

def keyS (s : ByteArray) : Lit := .string s.data.toList

/-- Block b is a map that has each name's first place. -/
def PlacesIn (w : World) (b : Nat) (names : List ByteArray) : Prop := ∃ D : DataW Unit, w.ownsMap Tryz.prog 9 (plainElem Tryz.prog 2) b names.length D ∧ Tidy D ∧
  (∀ s : ByteArray, Maps.has D (keyS s) = decide (atN names s ≠ -1)) ∧ (∀ s : ByteArray, atN names s ≠ -1 → D.atKey (keyS s) (.lit (.int .i64 0)) = .lit (.int .i64 (atN names s))) ∧ Maps.size D = cntGo [] names

theorem keyS_key (s : ByteArray) : WideAt.IsKeyLit (keyS s) := by first | trivial | (simp [keyS, WideAt.IsKeyLit]) | (unfold keyS WideAt.IsKeyLit; trivial)
theorem keyS_of (s : ByteArray) (hs : s.size ≤ maxLen) : Go.keyOf Tryz.prog 9 (.string s) = some (keyS s) := Go.WideMaps.keyOf_string_mk Tryz.underlying9 hs
theorem lawS : Keyed Tryz.prog 9 := string_keyed Tryz.underlying9
theorem zeroI (w : World) : (zeroValue 2).run Tryz.prog w = .ok (.int .i64 0) w := by kernel_rfl
theorem keyS_eq {s x : ByteArray} : keyS x = keyS s ↔ (x.toList == s.toList) = true := by
  rw [ByteArray.toList_eq, ByteArray.toList_eq]
  simp [keyS]

theorem PlacesIn.made (w : World) : PlacesIn (w.alloc (.map #[] 0)) w.heap.size [] :=
  ⟨.map [], World.ownsMap_made _ _ _ _, tidy_empty, fun s => by simp [Maps.has, atN, atGo], fun s h => absurd rfl h, rfl⟩
theorem PlacesIn.kept {w w' : World} {b : Nat} {names : List ByteArray} {row : Option Nat} (h : PlacesIn w b names) (hg : w.grownBy w' row) (hne : some b ≠ row) : PlacesIn w' b names := by
  obtain ⟨D, h1, h2, h3, h4, h5⟩ := h
  exact ⟨D, h1.kept hg hne, h2, h3, h4, h5⟩
theorem PlacesIn.alloc {w : World} {b : Nat} {names : List ByteArray} (h : PlacesIn w b names) (o : Obj) : PlacesIn (w.alloc o) b names := h.kept (World.grownBy_alloc w o none) (by simp)
theorem PlacesIn.drew {w : World} {b : Nat} {names : List ByteArray} (h : PlacesIn w b names) : PlacesIn w.drew b names := h
theorem PlacesIn.lt {w : World} {b : Nat} {names : List ByteArray} (h : PlacesIn w b names) : b < w.heap.size := by
  obtain ⟨D, h1, _⟩ := h
  exact h1.lt

theorem places_more {w' : World} {b : Nat} {names : List ByteArray} {s : ByteArray} {D : DataW Unit} (hno : atN names s = -1) (h1 : w'.ownsMap Tryz.prog 9 (plainElem Tryz.prog 2) b (names.length + 1) (D.put (keyS s) (.lit (.int .i64 names.length)))) (h2 : Tidy D)
    (h3 : ∀ s : ByteArray, Maps.has D (keyS s) = decide (atN names s ≠ -1)) (h4 : ∀ s : ByteArray, atN names s ≠ -1 → D.atKey (keyS s) (.lit (.int .i64 0)) = .lit (.int .i64 (atN names s))) (h5 : Maps.size D = cntGo [] names) : PlacesIn w' b (names ++ [s]) := by
  refine ⟨_, by simpa using h1, h2.put (keyS_key s) _, fun u => ?_, fun u hu => ?_, by
    rw [Maps.size_put h2, h3 s, decide_eq_false (by simp [hno]), cntGo_snoc, List.nil_append, if_pos hno, ← h5]; rfl⟩
  · rw [atN_snoc]
    by_cases e : keyS u = keyS s
    · rw [e, Maps.has_put_same h2.isMap (keyS_key s)]
      have e2 : (s.toList == u.toList) = true := keyS_eq.1 e.symm
      by_cases hu : atN names u = -1
      · rw [if_pos hu, if_pos e2]; simp
      · rw [if_neg hu]; simp [hu]
    · rw [Maps.has_put_other e, h3]
      have e2 : ¬ (s.toList == u.toList) = true := fun h => e (keyS_eq.2 h).symm
      by_cases hu : atN names u = -1
      · rw [if_pos hu, if_neg e2]; simp [hu]
      · rw [if_neg hu]
  · rw [atN_snoc] at hu ⊢
    by_cases e : keyS u = keyS s
    · have e2 : (s.toList == u.toList) = true := keyS_eq.1 e.symm
      have hu2 : atN names u = -1 := by
        have e3 : s.toList = u.toList := by simpa using e2
        have : atN names u = atN names s := by
          have hh : ∀ (l : List ByteArray) (i : Nat), atGo u l i = atGo s l i := by
            intro l
            induction l with
            | nil => intro i; rfl
            | cons y ys ih => intro i; simp only [atGo, e3, ih]
          exact hh _ _
        rw [this]; exact hno
      rw [if_pos hu2, if_pos e2, e, Maps.atKey_put_same h2.isMap (keyS_key s)]
    · have e2 : ¬ (s.toList == u.toList) = true := fun h => e (keyS_eq.2 h).symm
      by_cases hu2 : atN names u = -1
      · rw [if_pos hu2, if_neg e2] at hu; exact absurd rfl hu
      · rw [if_neg hu2] at hu ⊢
        rw [Maps.atKey_put_other e]
        exact h4 u hu2
theorem places_same {w : World} {b : Nat} {names : List ByteArray} {s : ByteArray} (hyes : atN names s ≠ -1) (h : PlacesIn w b names) : PlacesIn w b (names ++ [s]) := by
  obtain ⟨D, h1, h2, h3, h4, h5⟩ := h
  have key : ∀ u, atN (names ++ [s]) u = atN names u := fun u => by
    rw [atN_snoc]
    by_cases hu : atN names u = -1
    · rw [if_pos hu]
      by_cases e : (s.toList == u.toList) = true
      · exfalso
        have e3 : s.toList = u.toList := by simpa using e
        have hh : ∀ (l : List ByteArray) (i : Nat), atGo u l i = atGo s l i := by
          intro l
          induction l with
          | nil => intro i; rfl
          | cons y ys ih => intro i; simp only [atGo, e3, ih]
        exact hyes ((hh names 0).symm.trans hu)
      · rw [if_neg e, hu]
    · rw [if_neg hu]
  exact ⟨D, h1.mono (by simp), h2, fun u => by rw [key]; exact h3 u, fun u hu => by rw [key] at hu ⊢; exact h4 u hu, by rw [cntGo_snoc, List.nil_append, if_neg hyes, Nat.add_zero]; exact h5⟩

theorem implAddFirst (b : Nat) (names : List ByteArray) (s : ByteArray) (w : World) (h : PlacesIn w b names) (hs : s.size ≤ maxLen) (hn : names.length ≤ 1048576) :
    Calls Tryz.prog 92 #[.map (some b), .string s, .int .i64 names.length] w fun e w' => e = .returned (.tuple #[]) ∧ PlacesIn w' b (names ++ [s]) ∧ w.grownBy w' (some b) := by
  obtain ⟨D, h1, h2, h3, h4, h5⟩ := h
  have wf : (Lit.int .i64 (names.length : Int)).wf = true := WalkArith.wf_i64 (by omega)
  have hval := plainElem_int (H := Unit) Tryz.underlying2 wf
  by_cases hno : atN names s = -1
  · have hh := h3 s
    rw [decide_eq_false (by simp [hno])] at hh
    have HH := Lib.hid hh
    have HN := Lib.hid hno
    have H3 := Lib.hid h3
    have H4 := Lib.hid h4
    have H5 := Lib.hid h5
    clear hh hno h3 h4 h5
    go_enter Tryz.func92, Tryz.ntmps92
    go_wp2_with (first
      | (at_lookup; refine wpList_lookup_own_ok_int _ rfl _ _ 116 rfl 9 2 .i64 lawS Tryz.underlying116 Tryz.underlying2 (zeroI _) b names.length D rfl h1 _ _ rfl (keyS_of s hs) ?_; intro c hat hwc; rw [HH.out])
      | (at_mapUpdate; refine wpList_mapUpdate_own _ rfl _ _ _ 116 rfl 9 2 lawS Tryz.underlying116 _ b names.length D rfl h1 (by unfold maxLen; omega) _ _ _ rfl rfl (keyS_of s hs) _ [] hval ?_; intro w1 hown1 hgrow1))
    go_end0
    exact ⟨rfl, places_more HN.out hown1 h2 H3.out H4.out H5.out, hgrow1⟩
  · have hh := h3 s
    rw [decide_eq_true hno] at hh
    have HH := Lib.hid hh
    have HP := Lib.hid (places_same hno ⟨D, h1, h2, h3, h4, h5⟩)
    clear hh hno h3 h4 h5
    go_enter Tryz.func92, Tryz.ntmps92
    go_wp2_with (first
      | (at_lookup; refine wpList_lookup_own_ok_int _ rfl _ _ 116 rfl 9 2 .i64 lawS Tryz.underlying116 Tryz.underlying2 (zeroI _) b names.length D rfl h1 _ _ rfl (keyS_of s hs) ?_; intro c hat hwc; rw [HH.out]))
    go_end0
    exact ⟨rfl, HP.out, ⟨rfl, rfl, rfl, Nat.le_refl _, fun _ _ _ => rfl⟩⟩

theorem implPlaceOf (b : Nat) (names : List ByteArray) (s : ByteArray) (w : World) (h : PlacesIn w b names) (hs : s.size ≤ maxLen) :
    Calls Tryz.prog 57 #[.map (some b), .string s] w fun e w' => e = .returned (.int .i64 (atN names s)) ∧ w = w' := by
  obtain ⟨D, h1, h2, h3, h4, h5⟩ := h
  have hh := h3 s
  by_cases hno : atN names s = -1
  · rw [decide_eq_false (by simp [hno])] at hh
    have HH := Lib.hid hh
    have HN := Lib.hid hno
    clear hh hno h3 h4 h5
    go_enter Tryz.func57, Tryz.ntmps57
    go_wp2_with (first
      | (at_lookup; refine wpList_lookup_own_ok_int _ rfl _ _ 116 rfl 9 2 .i64 lawS Tryz.underlying116 Tryz.underlying2 (zeroI _) b names.length D rfl h1 _ _ rfl (keyS_of s hs) ?_; intro c hat hwc; rw [HH.out]))
    go_ret
    exact ⟨retI (by rw [HN.out]), rfl⟩
  · rw [decide_eq_true hno] at hh
    have HH := Lib.hid hh
    have HA := Lib.hid (h4 s hno)
    clear hh hno h3 h4 h5
    go_enter Tryz.func57, Tryz.ntmps57
    go_wp2_with (first
      | (at_lookup; refine wpList_lookup_own_ok_int _ rfl _ _ 116 rfl 9 2 .i64 lawS Tryz.underlying116 Tryz.underlying2 (zeroI _) b names.length D rfl h1 _ _ rfl (keyS_of s hs) ?_; intro c hat hwc; rw [HH.out]))
    go_ret
    exact ⟨retI (by have := HA.out; rw [hat] at this; simpa using this), rfl⟩
end Go.Proofs.YthafgkcokecnnaaGreat
namespace Go.Proofs.YthafgkcokecnnaaGreat
open Go.RowKit Go.Maps
set_option linter.unusedVariables false

theorem atGo_drop (nm : ByteArray) (names : List ByteArray) (k : Nat) (h : k < names.length) : atGo nm (names.drop k) k = if (names[k].toList == nm.toList) = true then (k : Int) else atGo nm (names.drop (k + 1)) (k + 1) := by
  rw [List.drop_eq_getElem_cons h]; rfl
theorem tb_name_le {s : List Tb} (hs : szL Tb.sz s ≤ 1048576) (k : Nat) (h : k < s.length) : s[k].name.size ≤ maxLen := by
  have := sum_mem_le Tb.sz s k h
  unfold szL at hs
  have h2 : s[k].name.size ≤ s[k].sz := by unfold Tb.sz; omega
  unfold maxLen; omega
theorem cl_name_le {s : List Cl} (hs : szL Cl.sz s ≤ 1048576) (k : Nat) (h : k < s.length) : s[k].name.size ≤ maxLen := by
  have := sum_mem_le Cl.sz s k h
  unfold szL at hs
  have h2 : s[k].name.size ≤ s[k].sz := by unfold Cl.sz; omega
  unfold maxLen; omega

set_option maxRecDepth 100000 in
set_option maxHeartbeats 1000000 in
theorem specL3At (A : Option Addr) (n c : Nat) (s : List Tb) (nm : ByteArray) (ok : Nat → Prop) (w : World) (h : Sl TbR 6 ok w A n s) (hn : n ≤ 1048576) :
    Calls Tryz.prog 42 #[.slice A n c, .string nm] w fun e w' => e = .returned (.int .i64 (atN (s.map Tb.name) nm)) ∧ Below w.heap.size w w' := by
  obtain rfl : s.length = n := h.1
  have hlen : (s.map Tb.name).length = s.length := by simp
  have HL := Lib.hid hlen
  clear hlen
  go_enter Tryz.func42, Tryz.ntmps42
  go_wp2
  go_loopw [5] (fun i wr => ∃ k : Nat, k ≤ s.length ∧ i = .int .i64 k ∧ Hid (atN (s.map Tb.name) nm = atGo nm ((s.map Tb.name).drop k) k) ∧ Below w.heap.size w wr) (fun i _ => s.length - (intOf i).toNat)
  case atStart => exact ⟨0, by omega, rfl, Lib.hid rfl, Below.refl _ _⟩
  case round =>
    obtain ⟨k, hk, rfl, hat, hb⟩ := hrel
    by_cases hlt : k < s.length
    · obtain ⟨b, off, A1, n1, c1, A2, n2, c2, A3, n3, c3, A4, n4, c4, A5, n5, c5, -, rfl, q0, q1, q2, q3, q4, q5, -⟩ := TbR.at_ (h.below TbR.stays hb) hlt
      have hd := atGo_drop nm (s.map Tb.name) k (by rw [HL.out]; exact hlt)
      rw [List.getElem_map] at hd
      have i0 : (0 : Int) ≤ k := by omega
      have i1 : (k : Int) < s.length := by omega
      cases he : (s[k].name.toList == nm.toList)
      · rw [he] at hd
        have HA := Lib.hid (hat.out.trans hd)
        clear hd hat
        go_wp2_with fail
        go_roundw
        case rel => exact ⟨k + 1, by omega, by go_num, Lib.hid (by simpa using HA.out), hb⟩
        case measure => simp [intOf]; omega
      · rw [he] at hd
        have HA := Lib.hid (hat.out.trans hd)
        clear hd hat
        go_wp2_with fail
        go_ret
        exact ⟨retI (by simpa using HA.out.symm), hb⟩
    · have e : (s.map Tb.name).drop k = [] := List.drop_eq_nil_of_le (by rw [HL.out]; omega)
      have h1 := hat.out
      rw [e] at h1
      have HA := Lib.hid h1
      clear h1 hat e
      go_wp2
      go_ret
      exact ⟨retI HA.out.symm, hb⟩

/-- A map of names that a call has made. -/
def MadePlaces (names : List ByteArray) (w : World) (e : Ending) (w' : World) : Prop := ∃ b, e = .returned (.map (some b)) ∧ PlacesIn w' b names ∧ w.heap.size ≤ b ∧ Below w.heap.size w w'

set_option maxRecDepth 100000 in
set_option maxHeartbeats 1000000 in
theorem implTablePlaces (A : Option Addr) (n c : Nat) (s : List Tb) (ok : Nat → Prop) (w : World) (h : Sl TbR 6 ok w A n s) (hs : szL Tb.sz s ≤ 1048576) :
    Calls Tryz.prog 55 #[.slice A n c] w (MadePlaces (s.map Tb.name) w) := by
  obtain rfl : s.length = n := h.1
  have hn : s.length ≤ 1048576 := by unfold szL at hs; omega
  have HS := Lib.hid hs
  clear hs
  have hmm := @run_makeMap Tryz.prog
  go_enter Tryz.func55, Tryz.ntmps55
  go_wp2
  have hm0 := PlacesIn.made w
  have hb0 := (Below.refl w.heap.size w).alloc (Nat.le_refl _) (.map #[] 0)
  generalize w.alloc (.map #[] 0) = x0 at *
  clear hmm
  go_loopw [9] (fun i wr => ∃ k : Nat, k ≤ s.length ∧ i = .int .i64 k ∧ PlacesIn wr w.heap.size ((s.map Tb.name).take k) ∧ Below w.heap.size w wr) (fun i _ => s.length - (intOf i).toNat)
  case atStart => exact ⟨0, by omega, rfl, hm0, hb0⟩
  case round =>
    obtain ⟨k, hk, rfl, hpl, hb⟩ := hrel
    by_cases hlt : k < s.length
    · obtain ⟨b, off, A1, n1, c1, A2, n2, c2, A3, n3, c3, A4, n4, c4, A5, n5, c5, -, rfl, q0, q1, q2, q3, q4, q5, -⟩ := TbR.at_ (h.below TbR.stays hb) hlt
      have hl : ((s.map Tb.name).take k).length = k := by simp; omega
      have hsn : (s.map Tb.name).take (k + 1) = (s.map Tb.name).take k ++ [s[k].name] := by rw [List.take_succ_eq_append_getElem (by simpa using hlt)]; simp
      have hz := Lib.hid (tb_name_le HS.out k hlt)
      have HL := Lib.hid hl
      have HSN := Lib.hid hsn
      clear hl hsn
      have hpa := hpl.alloc (.cells #[.string s[k].name, .slice A1 n1 c1, .slice A2 n2 c2, .slice A3 n3 c3, .slice A4 n4 c4, .slice A5 n5 c5] 59)
      have hba := hb.alloc hb.size (.cells #[.string s[k].name, .slice A1 n1 c1, .slice A2 n2 c2, .slice A3 n3 c3, .slice A4 n4 c4, .slice A5 n5 c5] 59)
      go_wp2_with fail
      have hcall := implAddFirst w.heap.size _ s[k].name _ hpa hz.out (by rw [HL.out]; omega)
      rw [HL.out] at hcall
      refine hcall.mono ?_
      rintro e w1 ⟨rfl, hp1, hg1⟩
      clear hcall
      go_wp2_with fail
      go_roundw
      case rel => exact ⟨k + 1, by omega, by go_num, by rw [HSN.out]; exact hp1, hba.grown hg1 hba.size (fun j hj => by cases hj; exact Nat.le_refl _)⟩
      case measure => simp [intOf]; omega
    · have e : (s.map Tb.name).take k = s.map Tb.name := List.take_of_length_le (by simp; omega)
      rw [e] at hpl
      clear e
      go_wp2
      go_ret
      exact ⟨_, rfl, hpl, Nat.le_refl _, hb⟩

theorem implTableAt (A : Option Addr) (n c : Nat) (s : List Tb) (nm : ByteArray) (ok : Nat → Prop) (w : World) (h : Sl TbR 6 ok w A n s) (hs : szL Tb.sz s ≤ 1048576) (hnm : nm.size ≤ maxLen) :
    Calls Tryz.prog 24 #[.slice A n c, .string nm] w fun e w' => e = .returned (.int .i64 (atN (s.map Tb.name) nm)) ∧ Below w.heap.size w w' := by
  go_enter Tryz.func24, Tryz.ntmps24
  go_wp2_with fail
  refine (implTablePlaces A n c s ok w h hs).mono ?_
  rintro e w1 ⟨b, rfl, hp, hb0, hb⟩
  go_wp2_with fail
  refine (implPlaceOf b _ nm _ hp hnm).mono ?_
  rintro e w2 ⟨rfl, rfl⟩
  go_wp2
  go_ret
  exact ⟨rfl, hb⟩
end Go.Proofs.YthafgkcokecnnaaGreat
namespace Go.Proofs.YthafgkcokecnnaaGreat
open Go.RowKit Go.Maps
set_option linter.unusedVariables false

set_option maxRecDepth 100000 in
set_option maxHeartbeats 1000000 in
theorem implColPlaces (A : Option Addr) (n c : Nat) (s : List Cl) (ok : Nat → Prop) (w : World) (h : Sl ClR 6 ok w A n s) (hs : szL Cl.sz s ≤ 1048576) :
    Calls Tryz.prog 106 #[.slice A n c] w (MadePlaces (s.map Cl.name) w) := by
  obtain rfl : s.length = n := h.1
  have hn : s.length ≤ 1048576 := by unfold szL at hs; omega
  have HS := Lib.hid hs
  clear hs
  have hmm := @run_makeMap Tryz.prog
  go_enter Tryz.func106, Tryz.ntmps106
  go_wp2
  have hm0 := PlacesIn.made w
  have hb0 := (Below.refl w.heap.size w).alloc (Nat.le_refl _) (.map #[] 0)
  generalize w.alloc (.map #[] 0) = x0 at *
  clear hmm
  go_loopw [9] (fun i wr => ∃ k : Nat, k ≤ s.length ∧ i = .int .i64 k ∧ PlacesIn wr w.heap.size ((s.map Cl.name).take k) ∧ Below w.heap.size w wr) (fun i _ => s.length - (intOf i).toNat)
  case atStart => exact ⟨0, by omega, rfl, hm0, hb0⟩
  case round =>
    obtain ⟨k, hk, rfl, hpl, hb⟩ := hrel
    by_cases hlt : k < s.length
    · obtain ⟨b, off, -, rfl, q0, q1, q2, q3, q4, q5⟩ := ClR.at_ (h.below ClR.stays hb) hlt
      have hl : ((s.map Cl.name).take k).length = k := by simp; omega
      have hsn : (s.map Cl.name).take (k + 1) = (s.map Cl.name).take k ++ [s[k].name] := by rw [List.take_succ_eq_append_getElem (by simpa using hlt)]; simp
      have hz := Lib.hid (cl_name_le HS.out k hlt)
      have HL := Lib.hid hl
      have HSN := Lib.hid hsn
      clear hl hsn
      have hpa := hpl.alloc (.cells #[.string s[k].name, .int .i64 s[k].kind, .bool s[k].nn, .int .i64 s[k].d.k, .int .i64 s[k].d.n, .string s[k].d.s] 97)
      have hba := hb.alloc hb.size (.cells #[.string s[k].name, .int .i64 s[k].kind, .bool s[k].nn, .int .i64 s[k].d.k, .int .i64 s[k].d.n, .string s[k].d.s] 97)
      go_wp2_with fail
      have hcall := implAddFirst w.heap.size _ s[k].name _ hpa hz.out (by rw [HL.out]; omega)
      rw [HL.out] at hcall
      refine hcall.mono ?_
      rintro e w1 ⟨rfl, hp1, hg1⟩
      clear hcall
      go_wp2_with fail
      go_roundw
      case rel => exact ⟨k + 1, by omega, by go_num, by rw [HSN.out]; exact hp1, hba.grown hg1 hba.size (fun j hj => by cases hj; exact Nat.le_refl _)⟩
      case measure => simp [intOf]; omega
    · have e : (s.map Cl.name).take k = s.map Cl.name := List.take_of_length_le (by simp; omega)
      rw [e] at hpl
      clear e
      go_wp2
      go_ret
      exact ⟨_, rfl, hpl, Nat.le_refl _, hb⟩


set_option maxRecDepth 100000 in
set_option maxHeartbeats 1000000 in
theorem specColAt (A1 : Option Addr) (n1 c1 : Nat) (v0 v2 v3 v4 v5 : Value) (s : List Cl) (nm : ByteArray) (ok : Nat → Prop) (w : World) (h : Sl ClR 6 ok w A1 n1 s) (hn : n1 ≤ 1048576) :
    Calls Tryz.prog 77 #[.agg #[v0, .slice A1 n1 c1, v2, v3, v4, v5], .string nm] w fun e w' => e = .returned (.int .i64 (atN (s.map Cl.name) nm)) ∧ Below w.heap.size w w' := by
  obtain rfl : s.length = n1 := h.1
  have hlen : (s.map Cl.name).length = s.length := by simp
  have HL := Lib.hid hlen
  clear hlen
  have hb0 := (Below.refl w.heap.size w).alloc (Nat.le_refl _) (.cells #[v0, .slice A1 s.length c1, v2, v3, v4, v5] 59)
  have r0 := Row.new w 59 #[v0, .slice A1 s.length c1, v2, v3, v4, v5]
  go_enter Tryz.func77, Tryz.ntmps77
  go_wp2
  generalize w.alloc (.cells #[v0, .slice A1 s.length c1, v2, v3, v4, v5] 59) = x0 at *
  go_loopw [5] (fun i wr => ∃ k : Nat, k ≤ s.length ∧ i = .int .i64 k ∧ Hid (atN (s.map Cl.name) nm = atGo nm ((s.map Cl.name).drop k) k) ∧ x0 = wr) (fun i _ => s.length - (intOf i).toNat)
  case atStart => exact ⟨0, by omega, rfl, Lib.hid rfl, rfl⟩
  case round =>
    obtain ⟨k, hk, rfl, hat, rfl⟩ := hrel
    obtain ⟨⟨a0, a1, a2, a3, a4, a5⟩, -⟩ := r0.all6
    by_cases hlt : k < s.length
    · obtain ⟨b, off, -, rfl, q0, q1, q2, q3, q4, q5⟩ := ClR.at_ (h.below ClR.stays hb0) hlt
      have hd := atGo_drop nm (s.map Cl.name) k (by rw [HL.out]; exact hlt)
      rw [List.getElem_map] at hd
      have i0 : (0 : Int) ≤ k := by omega
      have i1 : (k : Int) < s.length := by omega
      cases he : (s[k].name.toList == nm.toList)
      · rw [he] at hd
        have HA := Lib.hid (hat.out.trans hd)
        clear hd hat
        go_wp2_with fail
        go_roundw
        case rel => exact ⟨k + 1, by omega, by go_num, Lib.hid (by simpa using HA.out), by first | trivial | rfl⟩
        case measure => simp [intOf]; omega
      · rw [he] at hd
        have HA := Lib.hid (hat.out.trans hd)
        clear hd hat
        go_wp2_with fail
        go_ret
        exact ⟨retI (by simpa using HA.out.symm), hb0⟩
    · have e : (s.map Cl.name).drop k = [] := List.drop_eq_nil_of_le (by rw [HL.out]; omega)
      have h1 := hat.out
      rw [e] at h1
      have HA := Lib.hid h1
      clear h1 hat e
      go_wp2
      go_ret
      exact ⟨retI HA.out.symm, hb0⟩

end Go.Proofs.YthafgkcokecnnaaGreat
namespace Go.Proofs.YthafgkcokecnnaaGreat
open Go.RowKit Go.Maps
set_option linter.unusedVariables false

def lowC (c : UInt8) : Bool := decide (97 ≤ (c.toNat : Int)) && decide ((c.toNat : Int) ≤ 122)
def charsB (s : ByteArray) : Bool := s.data.toList.all lowC
/-- Whether a text is a name. -/
def nameB (s : ByteArray) : Bool := charsB s && (decide (1 ≤ (s.size : Int)) && decide ((s.size : Int) ≤ 8))

theorem all_take {α : Type} (f : α → Bool) (l : List α) (k : Nat) (h : k < l.length) : (l.take (k + 1)).all f = ((l.take k).all f && f l[k]) := by
  rw [List.take_succ_eq_append_getElem h, List.all_append]; simp
theorem all_no {α : Type} (f : α → Bool) (l : List α) (k : Nat) (h : k < l.length) (hf : f l[k] = false) : l.all f = false := by
  rw [Bool.eq_false_iff]; intro ha
  have := List.all_eq_true.1 ha l[k] (List.getElem_mem h)
  rw [hf] at this; cases this

set_option maxHeartbeats 400000 in
theorem specName (s : ByteArray) (w : World) (hs : s.size ≤ maxLen) :
    Calls Tryz.prog 75 #[.string s] w fun e w' => e = .returned (.bool (nameB s)) ∧ w = w' := by
  unfold maxLen at hs
  go_enter Tryz.func75, Tryz.ntmps75
  go_wp2
  go_loop [3] (fun i => ∃ k : Nat, k ≤ s.size ∧ i = .int .i64 k ∧ Hid ((s.data.toList.take k).all lowC = true)) (fun i => s.size - (intOf i).toNat)
  case atStart => exact ⟨0, by omega, rfl, Lib.hid (by simp)⟩
  case round =>
    obtain ⟨k, hk, rfl, hall⟩ := hrel
    by_cases hlt : k < s.size
    · have hl : k < s.data.toList.length := by simpa using hlt
      have hsn := all_take lowC s.data.toList k hl
      have hget : s.data.toList[k] = s[k] := by simp [ByteArray.getElem_eq_getElem_data]
      rw [hall.out, hget, Bool.true_and] at hsn
      by_cases h1 : (s[k].toNat : Int) < 97
      · have HN := Lib.hid (show nameB s = false by
          unfold nameB charsB
          rw [all_no lowC _ k hl (by rw [hget]; unfold lowC; rw [decide_eq_false (by omega)]; rfl), Bool.false_and])
        clear hsn hget hall
        go_wp2
        go_ret
        exact ⟨retB HN.out.symm, rfl⟩
      by_cases h2 : 122 < (s[k].toNat : Int)
      · have HN := Lib.hid (show nameB s = false by
          unfold nameB charsB
          rw [all_no lowC _ k hl (by rw [hget]; unfold lowC; rw [decide_eq_false (p := (s[k].toNat : Int) ≤ 122) (by omega), Bool.and_false]), Bool.false_and])
        have h1' : decide ((s[k].toNat : Int) < 97) = false := by simpa using h1
        clear hsn hget hall
        go_wp2
        go_ret
        exact ⟨retB HN.out.symm, rfl⟩
      · have HA := Lib.hid (show (s.data.toList.take (k + 1)).all lowC = true by rw [hsn]; unfold lowC; rw [decide_eq_true (by omega), decide_eq_true (by omega)]; rfl)
        have h1' : decide ((s[k].toNat : Int) < 97) = false := by simpa using h1
        have h2' : decide (122 < (s[k].toNat : Int)) = false := by simpa using h2
        clear hsn hget hall
        go_wp2
        go_round
        case rel => exact ⟨k + 1, by omega, by go_num, HA⟩
        case measure => simp [intOf]; omega
    · have e : s.data.toList.take k = s.data.toList := List.take_of_length_le (by simp; omega)
      have h1 := hall.out
      rw [e] at h1
      have HN := Lib.hid (show nameB s = (decide (1 ≤ (s.size : Int)) && decide ((s.size : Int) ≤ 8)) by unfold nameB charsB; rw [h1, Bool.true_and])
      clear h1 e hall
      go_wp2_with fail
      refine (specIn _ _ _ _).mono ?_
      rintro e w1 ⟨rfl, rfl⟩
      go_wp2
      go_ret
      exact ⟨retB HN.out.symm, rfl⟩

set_option maxHeartbeats 400000 in
theorem implIsName (s : ByteArray) (w : World) (hs : s.size ≤ maxLen) :
    Calls Tryz.prog 86 #[.string s] w fun e w' => e = .returned (.bool (nameB s)) ∧ w = w' := by
  unfold maxLen at hs
  by_cases hsm : (s.size : Int) < 1
  · have HN := Lib.hid (show nameB s = false by unfold nameB; rw [decide_eq_false (p := 1 ≤ (s.size : Int)) (by omega), Bool.false_and, Bool.and_false])
    go_enter Tryz.func86, Tryz.ntmps86
    go_wp2
    go_ret
    exact ⟨retB HN.out.symm, rfl⟩
  have hsm' : decide ((s.size : Int) < 1) = false := by simpa using hsm
  by_cases hbig : 8 < (s.size : Int)
  · have HN := Lib.hid (show nameB s = false by unfold nameB; rw [decide_eq_false (p := (s.size : Int) ≤ 8) (by omega), Bool.and_false, Bool.and_false])
    go_enter Tryz.func86, Tryz.ntmps86
    go_wp2
    go_ret
    exact ⟨retB HN.out.symm, rfl⟩
  have hbig' : decide (8 < (s.size : Int)) = false := by simpa using hbig
  have HSZ := Lib.hid (show (decide (1 ≤ (s.size : Int)) && decide ((s.size : Int) ≤ 8)) = true by rw [decide_eq_true (by omega), decide_eq_true (by omega)]; rfl)
  go_enter Tryz.func86, Tryz.ntmps86
  go_wp2
  go_loop [14] (fun i => ∃ k : Nat, k ≤ s.size ∧ i = .int .i64 k ∧ Hid ((s.data.toList.take k).all lowC = true)) (fun i => s.size - (intOf i).toNat)
  case atStart => exact ⟨0, by omega, rfl, Lib.hid (by simp)⟩
  case round =>
    obtain ⟨k, hk, rfl, hall⟩ := hrel
    by_cases hlt : k < s.size
    · have hl : k < s.data.toList.length := by simpa using hlt
      have hsn := all_take lowC s.data.toList k hl
      have hget : s.data.toList[k] = s[k] := by simp [ByteArray.getElem_eq_getElem_data]
      rw [hall.out, hget, Bool.true_and] at hsn
      by_cases h1 : (s[k].toNat : Int) < 97
      · have HN := Lib.hid (show nameB s = false by
          unfold nameB charsB
          rw [all_no lowC _ k hl (by rw [hget]; unfold lowC; rw [decide_eq_false (by omega)]; rfl), Bool.false_and])
        clear hsn hget hall
        go_wp2
        go_ret
        exact ⟨retB HN.out.symm, rfl⟩
      by_cases h2 : 122 < (s[k].toNat : Int)
      · have HN := Lib.hid (show nameB s = false by
          unfold nameB charsB
          rw [all_no lowC _ k hl (by rw [hget]; unfold lowC; rw [decide_eq_false (p := (s[k].toNat : Int) ≤ 122) (by omega), Bool.and_false]), Bool.false_and])
        have h1' : decide ((s[k].toNat : Int) < 97) = false := by simpa using h1
        clear hsn hget hall
        go_wp2
        go_ret
        exact ⟨retB HN.out.symm, rfl⟩
      · have HA := Lib.hid (show (s.data.toList.take (k + 1)).all lowC = true by rw [hsn]; unfold lowC; rw [decide_eq_true (by omega), decide_eq_true (by omega)]; rfl)
        have h1' : decide ((s[k].toNat : Int) < 97) = false := by simpa using h1
        have h2' : decide (122 < (s[k].toNat : Int)) = false := by simpa using h2
        clear hsn hget hall
        go_wp2
        go_round
        case rel => exact ⟨k + 1, by omega, by go_num, HA⟩
        case measure => simp [intOf]; omega
    · have e : s.data.toList.take k = s.data.toList := List.take_of_length_le (by simp; omega)
      have h1 := hall.out
      rw [e] at h1
      have HN := Lib.hid (show nameB s = true by unfold nameB charsB; rw [h1, Bool.true_and]; exact HSZ.out)
      clear h1 e hall
      go_wp2
      go_ret
      exact ⟨retB HN.out.symm, rfl⟩

/-- Columns: places below n, at least one, no two alike. -/
def hasB (l : List Int) (x : Int) : Bool := l.contains x
def colsGo (n : Int) (seen : List Int) : List Int → Bool
  | [] => true
  | x :: xs => (decide (0 ≤ x) && decide (x < n) && !hasB seen x) && colsGo n (seen ++ [x]) xs
def colsInB (l : List Int) (n : Int) : Bool := colsGo n [] l && decide (0 < l.length)
theorem colsGo_at (n : Int) (l : List Int) (k : Nat) (h : k < l.length) : colsGo n (l.take k) (l.drop k) = ((decide (0 ≤ l[k]) && decide (l[k] < n) && !hasB (l.take k) l[k]) && colsGo n (l.take (k + 1)) (l.drop (k + 1))) := by
  rw [List.drop_eq_getElem_cons h, List.take_succ_eq_append_getElem h]; rfl
theorem php : ∀ (n : Nat) (l : List Int), l.Nodup → (∀ x ∈ l, 0 ≤ x ∧ x < n) → l.length ≤ n
  | 0, l, _, h => by
    cases l with
    | nil => simp
    | cons x xs => have := h x (by simp); omega
  | n + 1, l, hd, h => by
    by_cases hm : (n : Int) ∈ l
    · have h1 := php n (l.erase (n : Int)) (hd.erase _) fun x hx => by
        have hx' := (List.Nodup.mem_erase_iff hd).1 hx
        have := h x hx'.2
        have hne := hx'.1
        omega
      rw [List.length_erase_of_mem hm] at h1
      omega
    · have h1 := php n l hd fun x hx => by
        have := h x hx
        have hne : x ≠ (n : Int) := fun e => hm (e ▸ hx)
        omega
      omega
theorem colsGo_nodup (n : Int) : ∀ (l seen : List Int), seen.Nodup → (∀ x ∈ seen, 0 ≤ x ∧ x < n) → colsGo n seen l = true → (seen ++ l).Nodup ∧ ∀ x ∈ seen ++ l, 0 ≤ x ∧ x < n
  | [], seen, h1, h2, _ => by simpa using ⟨h1, h2⟩
  | x :: xs, seen, h1, h2, h => by
    simp only [colsGo, Bool.and_eq_true, decide_eq_true_eq, Bool.not_eq_true'] at h
    obtain ⟨⟨⟨h3, h4⟩, h5⟩, h6⟩ := h
    have hn : x ∉ seen := by simpa [hasB] using h5
    have := colsGo_nodup n xs (seen ++ [x]) (by
      rw [List.nodup_append]
      refine ⟨h1, by simp, fun a ha b hb => ?_⟩
      rw [List.mem_singleton] at hb
      intro e; subst e; subst hb; exact hn ha) (by
      intro y hy
      rw [List.mem_append, List.mem_singleton] at hy
      rcases hy with hy | rfl
      · exact h2 y hy
      · exact ⟨h3, h4⟩) h6
    simpa using this
theorem colsInB_len {l : List Int} {n : Nat} (h : colsInB l n = true) : l.length ≤ n ∧ ∀ x ∈ l, 0 ≤ x ∧ x < n := by
  unfold colsInB at h
  rw [Bool.and_eq_true] at h
  have := colsGo_nodup n l [] (by simp) (by simp) h.1
  simp only [List.nil_append] at this
  exact ⟨php n l this.1 this.2, this.2⟩
end Go.Proofs.YthafgkcokecnnaaGreat
namespace Go.Proofs.YthafgkcokecnnaaGreat
open Go.RowKit Go.Maps
set_option linter.unusedVariables false

theorem Sl.take {α : Type} {R : Rd α} {sz : Nat} {ok : Nat → Prop} {w : World} {A : Option Addr} {n m : Nat} {ds : List α} (h : Sl R sz ok w A n ds) (hm : m ≤ n) : Sl R sz ok w A m (ds.take m) := by
  have hl := h.1
  refine ⟨by simp; omega, fun h0 => ?_⟩
  obtain ⟨b, off, e, hb, hi⟩ := h.2 (by omega)
  refine ⟨b, off, e, hb, fun i hlt => ?_⟩
  simp only [List.length_take] at hlt
  obtain ⟨cs, h1, h2, h3⟩ := hi i (by omega)
  exact ⟨cs, h1, by rw [List.getElem_take]; exact h2, h3⟩

theorem contains_take (l : List Int) (x : Int) (k : Nat) (h : k < l.length) : hasB (l.take (k + 1)) x = (hasB (l.take k) x || l[k] == x) := by
  unfold hasB
  rw [List.take_succ_eq_append_getElem h, List.contains_eq_any_beq, List.any_append, List.contains_eq_any_beq]
  simp [Bool.beq_comm]

theorem specHas (A : Option Addr) (n c : Nat) (l : List Int) (x : Int) (ok : Nat → Prop) (w : World) (h : Sl IntR 1 ok w A n l) (hn : n ≤ 1048576) :
    Calls Tryz.prog 104 #[.slice A n c, .int .i64 x] w fun e w' => e = .returned (.bool (hasB l x)) ∧ w = w' := by
  obtain rfl : l.length = n := h.1
  go_enter Tryz.func104, Tryz.ntmps104
  go_wp2
  go_loop [5] (fun i => ∃ k : Nat, k ≤ l.length ∧ i = .int .i64 k ∧ Hid (hasB (l.take k) x = false)) (fun i => l.length - (intOf i).toNat)
  case atStart => exact ⟨0, by omega, rfl, Lib.hid rfl⟩
  case round =>
    obtain ⟨k, hk, rfl, hno⟩ := hrel
    by_cases hlt : k < l.length
    · obtain ⟨b, off, -, rfl, q0⟩ := IntR.at_ h hlt
      have hs := contains_take l x k hlt
      rw [hno.out, Bool.false_or] at hs
      have i0 : (0 : Int) ≤ k := by omega
      have i1 : (k : Int) < l.length := by omega
      cases he : (l[k] == x)
      · have HA := Lib.hid (hs.trans he)
        clear hs
        go_wp2
        go_round
        case rel => exact ⟨k + 1, by omega, by go_num, HA⟩
        case measure => simp [intOf]; omega
      · have HA := Lib.hid (show hasB l x = true by
          have e : l[k] = x := by simpa using he
          unfold hasB; rw [List.contains_iff_mem]; exact e ▸ List.getElem_mem hlt)
        clear hs
        go_wp2
        go_ret
        exact ⟨retB HA.out.symm, rfl⟩
    · have e : l.take k = l := List.take_of_length_le (by omega)
      have h1 := hno.out
      rw [e] at h1
      have HA := Lib.hid h1
      clear h1 e hno
      go_wp2
      go_ret
      exact ⟨retB HA.out.symm, rfl⟩

theorem Sl.drewN {α : Type} {R : Rd α} (hR : Stays R) {sz : Nat} {ok : Nat → Prop} {w : World} {A : Option Addr} {n : Nat} {ds : List α} (h : Sl R sz ok w A n ds) (m : Nat) : Sl R sz ok (w.drewN m) A n ds := h.stays hR (fun _ h => h) fun _ _ _ h => h
theorem below_drewN {B : Nat} {w w' : World} (h : Below B w w') (m : Nat) : Below B w (w'.drewN m) := ⟨h.os, h.tape, h.output, h.size, h.block⟩
theorem specInV {n lo hi : Int} {b : Bool} (h : (decide (lo ≤ n) && decide (n ≤ hi)) = b) (w : World) :
    Calls Tryz.prog 43 #[.int .i64 n, .int .i64 lo, .int .i64 hi] w fun e w' => e = .returned (.bool b) ∧ w' = w := (specIn n lo hi w).mono fun _ _ ⟨h1, h2⟩ => ⟨by rw [h1, h], h2.symm⟩
theorem specHasV {A : Option Addr} {n c : Nat} {l : List Int} {x : Int} {b : Bool} (hb : hasB l x = b) {ok : Nat → Prop} (w : World) (h : Sl IntR 1 ok w A n l) (hn : n ≤ 1048576) :
    Calls Tryz.prog 104 #[.slice A n c, .int .i64 x] w fun e w' => e = .returned (.bool b) ∧ w' = w := (specHas A n c l x ok w h hn).mono fun _ _ ⟨h1, h2⟩ => ⟨by rw [h1, hb], h2.symm⟩

set_option maxRecDepth 100000 in
set_option maxHeartbeats 1000000 in
theorem specCols (A : Option Addr) (n c : Nat) (l : List Int) (nc : Int) (ok : Nat → Prop) (w : World) (h : Sl IntR 1 ok w A n l) (hc : n ≤ c) (hn : n ≤ 1048576) (h0 : 0 ≤ nc) (h1 : nc ≤ 1048576) :
    Calls Tryz.prog 76 #[.slice A n c, .int .i64 nc] w fun e w' => e = .returned (.bool (colsInB l nc)) ∧ Below w.heap.size w w' := by
  obtain rfl : l.length = n := h.1
  have i2 : IntKind.i64.wrap (nc - 1) = nc - 1 := IntWalk.i64_in _ (by omega)
  go_enter Tryz.func76, Tryz.ntmps76
  go_wp2
  go_loopw [5] (fun i wr => ∃ k : Nat, k ≤ l.length ∧ i = .int .i64 k ∧ Hid (colsGo nc [] l = colsGo nc (l.take k) (l.drop k)) ∧ Below w.heap.size w wr) (fun i _ => l.length - (intOf i).toNat)
  case atStart => exact ⟨0, by omega, rfl, Lib.hid (by simp), Below.refl _ _⟩
  case round =>
    obtain ⟨k, hk, rfl, hgo, hb⟩ := hrel
    by_cases hlt : k < l.length
    · have hw := h.below IntR.stays hb
      obtain ⟨b, off, -, rfl, q0⟩ := IntR.at_ hw hlt
      have ht := hw.take (m := k) (by omega)
      have hs := colsGo_at nc l k hlt
      have i0 : (0 : Int) ≤ k := by omega
      have i1 : (k : Int) < l.length := by omega
      have i3 : (k : Int) ≤ c := by omega
      cases hin : (decide (0 ≤ l[k]) && decide (l[k] ≤ nc - 1))
      · have HI := Lib.hid hin
        have HF := Lib.hid (show colsInB l nc = false by
          unfold colsInB
          rw [hgo.out, hs, show (decide (0 ≤ l[k]) && decide (l[k] < nc)) = false by
            rw [← hin]; congr 1; rw [decide_eq_decide]; omega]
          simp)
        clear hs hin
        go_wp2_with fail
        go_quiet ((go_at_call 43; exact Calls.quiet_of_same (specInV HI.out _)))
        go_wp2
        go_ret
        exact ⟨retB HF.out.symm, below_drewN hb _⟩
      · have HI := Lib.hid hin
        have hin2 : (decide (0 ≤ l[k]) && decide (l[k] < nc)) = true := by
          rw [← hin]; congr 1; rw [decide_eq_decide]; omega
        rw [hin2, Bool.true_and] at hs
        cases hhas : hasB (l.take k) l[k]
        · rw [hhas] at hs
          have HH := Lib.hid hhas
          have HG := Lib.hid (hgo.out.trans hs)
          clear hs hin hhas hgo hin2
          go_wp2_with fail
          go_quiet ((first | (go_at_call 43; exact Calls.quiet_of_same (specInV HI.out _)) | (go_at_call 104; exact Calls.quiet_of_same (specHasV HH.out _ (ht.drewN IntR.stays _) (by omega)))))
          go_wp2
          go_roundw
          case rel => exact ⟨k + 1, by omega, by go_num, Lib.hid (by simpa using HG.out), below_drewN hb _⟩
          case measure => simp [intOf]; omega
        · rw [hhas] at hs
          have HH := Lib.hid hhas
          have HF := Lib.hid (show colsInB l nc = false by unfold colsInB; rw [hgo.out, hs]; simp)
          clear hs hin hhas hgo hin2
          go_wp2_with fail
          go_quiet ((first | (go_at_call 43; exact Calls.quiet_of_same (specInV HI.out _)) | (go_at_call 104; exact Calls.quiet_of_same (specHasV HH.out _ (ht.drewN IntR.stays _) (by omega)))))
          go_wp2
          go_ret
          exact ⟨retB HF.out.symm, below_drewN hb _⟩
    · have e1 : l.take k = l := List.take_of_length_le (by omega)
      have e2 : l.drop k = [] := List.drop_eq_nil_of_le (by omega)
      have hg := hgo.out
      rw [e1, e2] at hg
      have HA := Lib.hid (show colsInB l nc = decide (0 < l.length) by
        unfold colsInB; rw [hg]; simp [colsGo])
      clear hg e1 e2 hgo
      go_wp2
      go_ret
      exact ⟨retB HA.out.symm, hb⟩

/-- Block b is a map that says which numbers have been met. -/
def MetIn (w : World) (b n : Nat) (l : List Int) : Prop := ∃ D : DataW Unit, w.ownsMap Tryz.prog 2 (plainElem Tryz.prog 4) b n D ∧ IsMap D ∧ ∀ x : Int, D.atKey (.int .i64 x) (.lit (.bool false)) = .lit (.bool (hasB l x))
theorem MetIn.made (w : World) : MetIn (w.alloc (.map #[] 0)) w.heap.size 0 [] := ⟨.map [], World.ownsMap_made _ _ _ _, isMap_empty, fun x => by simp [DataW.atKey, hasB]⟩
theorem lawI : Keyed Tryz.prog 2 := int_keyed Tryz.underlying2
theorem zeroB' (w : World) : (zeroValue 4).run Tryz.prog w = .ok (.bool false) w := by kernel_rfl
theorem plainElem_bool_inv {P : Program} {e : TypeId} (he : P.underlying e = some .bool) {v : Value} {z : DataW Unit × List MemPlace} (h : plainElem P e v = some z) : ∃ x, v = .bool x ∧ z = (.lit (.bool x), []) := by
  unfold plainElem at h
  rw [he] at h
  cases v <;> simp at h
  exact ⟨_, rfl, h.symm⟩
theorem MetIn.look {w : World} {b n : Nat} {l : List Int} (h : MetIn w b n l) {x : Int} (hw : (Lit.int .i64 x).wf = true) : (Instr.lookup 168 (.map (some b)) (.int .i64 x) false).run Tryz.prog w = .ok (.bool (hasB l x)) w := by
  obtain ⟨D, h1, h2, h3⟩ := h
  obtain ⟨v, ps, hrun, hv⟩ := h1.lookup lawI Tryz.underlying168 (zeroB' w) (plainElem_bool Tryz.underlying4 false) (keyOf_int_mk Tryz.underlying2 hw)
  obtain ⟨y, rfl, hy⟩ := plainElem_bool_inv Tryz.underlying4 hv
  simp only [Prod.mk.injEq] at hy
  rw [h3 x] at hy
  have : hasB l x = y := by simpa using hy.1
  rw [this]; exact hrun

theorem implIsPlace (p nc : Int) (w : World) : Calls Tryz.prog 97 #[.int .i64 p, .int .i64 nc] w fun e w' => e = .returned (.bool (decide (0 ≤ p) && decide (p < nc))) ∧ w = w' := by
  by_cases h : 0 ≤ p
  · go_enter Tryz.func97, Tryz.ntmps97
    go_wp2
    go_ret
    exact ⟨retB (by simp [h]), rfl⟩
  · have h' : decide (0 ≤ p) = false := by simpa using h
    go_enter Tryz.func97, Tryz.ntmps97
    go_wp2
    go_ret
    exact ⟨retB (by simp), rfl⟩
theorem IsMap.key_int (x : Int) : WideAt.IsKeyLit (.int .i64 x) := by first | trivial | (simp [WideAt.IsKeyLit]) | (unfold WideAt.IsKeyLit; trivial)

set_option maxRecDepth 100000 in
set_option maxHeartbeats 1000000 in
theorem implAreColumns (A : Option Addr) (n c : Nat) (l : List Int) (nc : Nat) (ok : Nat → Prop) (w : World) (h : Sl IntR 1 ok w A n l) (hn : n ≤ 1048576) (h1 : nc ≤ 1048576) :
    Calls Tryz.prog 60 #[.slice A n c, .int .i64 nc] w fun e w' => e = .returned (.bool (colsInB l nc)) ∧ Below w.heap.size w w' := by
  obtain rfl : l.length = n := h.1
  by_cases hsm : (l.length : Int) < 1
  · have HF := Lib.hid (show colsInB l nc = false by unfold colsInB; rw [decide_eq_false (p := 0 < l.length) (by omega), Bool.and_false])
    go_enter Tryz.func60, Tryz.ntmps60
    go_wp2
    go_ret
    exact ⟨retB HF.out.symm, Below.refl _ _⟩
  have hsm' : decide ((l.length : Int) < 1) = false := by simpa using hsm
  by_cases hbig : nc < l.length
  · have HF := Lib.hid (show colsInB l nc = false by
      rw [Bool.eq_false_iff]; intro e
      have := (colsInB_len e).1; omega)
    have hbig' : decide ((nc : Int) < (l.length : Int)) = true := by simpa using hbig
    have hbig2 : decide (nc < l.length) = true := by simpa using hbig
    go_enter Tryz.func60, Tryz.ntmps60
    go_wp2
    go_ret
    exact ⟨retB HF.out.symm, Below.refl _ _⟩
  have hbig' : decide ((nc : Int) < (l.length : Int)) = false := by simpa using hbig
  have hbig2 : decide (nc < l.length) = false := by simpa using hbig
  have hmm := @run_makeMap Tryz.prog
  go_enter Tryz.func60, Tryz.ntmps60
  go_wp2
  have hm0 := MetIn.made w
  have hb0 := (Below.refl w.heap.size w).alloc (Nat.le_refl _) (.map #[] 0)
  generalize w.alloc (.map #[] 0) = x0 at *
  clear hmm
  go_loopw [20] (fun i wr => ∃ k : Nat, k ≤ l.length ∧ i = .int .i64 k ∧ MetIn wr w.heap.size k (l.take k) ∧ Hid (colsGo nc [] l = colsGo nc (l.take k) (l.drop k)) ∧ Below w.heap.size w wr) (fun i _ => l.length - (intOf i).toNat)
  case atStart => exact ⟨0, by omega, rfl, hm0, Lib.hid (by simp), hb0⟩
  case round =>
    obtain ⟨k, hk, rfl, hmet, hgo, hb⟩ := hrel
    by_cases hlt : k < l.length
    · obtain ⟨b, off, -, rfl, q0⟩ := IntR.at_ (h.below IntR.stays hb) hlt
      have hs := colsGo_at nc l k hlt
      have i0 : (0 : Int) ≤ k := by omega
      have i1 : (k : Int) < l.length := by omega
      cases hin : (decide (0 ≤ l[k]) && decide (l[k] < nc))
      · have HI := Lib.hid hin
        have HF := Lib.hid (show colsInB l nc = false by unfold colsInB; rw [hgo.out, hs, hin]; simp)
        clear hs hin
        go_wp2_with fail
        refine (implIsPlace _ _ _).mono ?_
        rintro e w1 ⟨rfl, rfl⟩
        rw [HI.out]
        go_wp2
        go_ret
        exact ⟨retB HF.out.symm, hb⟩
      · have HI := Lib.hid hin
        have hwf : (Lit.int .i64 l[k]).wf = true := WalkArith.wf_i64 (by rw [Bool.and_eq_true, decide_eq_true_eq, decide_eq_true_eq] at hin; omega)
        have hlk := hmet.look hwf
        rw [hin, Bool.true_and] at hs
        cases hhas : hasB (l.take k) l[k]
        · rw [hhas] at hs hlk
          have HG := Lib.hid (hgo.out.trans hs)
          have HH := Lib.hid hhas
          obtain ⟨D, m1, m2, m3⟩ := hmet
          have M3 := Lib.hid m3
          have hval := plainElem_bool (H := Unit) Tryz.underlying4 true
          clear hs hin hhas hgo m3
          go_wp2_with fail
          refine (implIsPlace _ _ _).mono ?_
          rintro e w1 ⟨rfl, rfl⟩
          rw [HI.out]
          go_wp2_with (first
            | (at_mapUpdate; refine wpList_mapUpdate_own _ rfl _ _ _ 168 rfl 2 4 lawI Tryz.underlying168 _ w.heap.size k D rfl m1 (by unfold maxLen; omega) _ _ _ rfl rfl (keyOf_int_mk Tryz.underlying2 hwf) _ [] hval ?_; intro w1 hown1 hgrow1))
          go_roundw
          case rel =>
            refine ⟨k + 1, by omega, by go_num, ⟨_, hown1, m2.put _ _, fun x => ?_⟩, Lib.hid (by simpa using HG.out), hb.grown hgrow1 hb.size (fun j hj => by cases hj; exact Nat.le_refl _)⟩
            rw [contains_take l x k hlt]
            by_cases e : (Lit.int .i64 x) = .int .i64 l[k]
            · have e2 : x = l[k] := by injection e
              rw [e, Maps.atKey_put_same m2 (IsMap.key_int _), e2]
              simp
            · rw [Maps.atKey_put_other e, M3.out x]
              have e2 : (l[k] == x) = false := by
                rw [beq_eq_false_iff_ne]; intro h; exact e (by rw [h])
              rw [e2, Bool.or_false]
          case measure => simp [intOf]; omega
        · rw [hhas] at hs hlk
          have HF := Lib.hid (show colsInB l nc = false by unfold colsInB; rw [hgo.out, hs]; simp)
          clear hs hin hhas hgo
          go_wp2_with fail
          refine (implIsPlace _ _ _).mono ?_
          rintro e w1 ⟨rfl, rfl⟩
          rw [HI.out]
          go_wp2
          go_ret
          exact ⟨retB HF.out.symm, hb⟩
    · have e1 : l.take k = l := List.take_of_length_le (by omega)
      have e2 : l.drop k = [] := List.drop_eq_nil_of_le (by omega)
      have hg := hgo.out
      rw [e1, e2] at hg
      have HA := Lib.hid (show colsInB l nc = true by unfold colsInB; rw [hg, decide_eq_true (by omega)]; rfl)
      clear hg e1 e2 hgo
      go_wp2
      go_ret
      exact ⟨retB HA.out.symm, hb⟩
end Go.Proofs.YthafgkcokecnnaaGreat
namespace Go.Proofs.YthafgkcokecnnaaGreat
open Go.RowKit Go.Maps
set_option linter.unusedVariables false

def fitsB (k : Int) (v : Vl) : Bool := valOkB v.k v.n v.s && (v.k == 0 || v.k == k)
def colB (c : Cl) : Bool := nameB c.name && ((c.kind == 1 || c.kind == 2) && fitsB c.kind c.d)
def colsB (l : List Cl) : Bool := decide (1 ≤ l.length) && (decide (l.length ≤ 8) && (l.all colB && uniqGo [] (l.map Cl.name)))
def nnAt (cols : List Cl) (i : Int) : Bool := (cols[i.toNat]?.map Cl.nn).getD false
def keyB (cols : List Cl) (key : List Int) : Bool := colsInB key cols.length && key.all (nnAt cols)
def uqsB (cols : List Cl) (l : List Uq) : Bool := decide (l.length ≤ 3) && l.all (fun u => colsInB u.cols cols.length)
def cksB (cols : List Cl) (l : List Ck) : Bool := decide (l.length ≤ 3) && l.all (fun u => exprB u.expr cols.length)
def actB (a : Int) : Bool := a == 0 || (a == 1 || a == 2)
def fkB (n : Nat) (f : Fk) : Bool := colsInB f.cols n && (nameB f.table && (actB f.del && actB f.upd))
def fksB (cols : List Cl) (l : List Fk) : Bool := decide (l.length ≤ 3) && l.all (fkB cols.length)
def tableB (t : Tb) : Bool := nameB t.name && (colsB t.cols && (keyB t.cols t.key && (uqsB t.cols t.uniqs && (cksB t.cols t.checks && fksB t.cols t.fks))))

theorem implValFits (k : Int) (v : Vl) (w : World) :
    Calls Tryz.prog 94 #[.int .i64 k, .agg #[.int .i64 v.k, .int .i64 v.n, .string v.s]] w fun e w' => e = .returned (.bool (fitsB k v)) ∧ Below w.heap.size w w' := by
  have hb0 := (Below.refl w.heap.size w).alloc (Nat.le_refl _) (.cells #[.int .i64 v.k, .int .i64 v.n, .string v.s] 95)
  have r0 := Row.new w 95 #[.int .i64 v.k, .int .i64 v.n, .string v.s]
  unfold fitsB
  cases hok : valOkB v.k v.n v.s
  · have HO := Lib.hid hok
    clear hok
    go_enter Tryz.func94, Tryz.ntmps94
    go_wp2_with fail
    refine (implValOk _ _ _ _).mono ?_
    rintro e w1 ⟨rfl, hb1⟩
    rw [HO.out]
    go_wp2
    go_ret
    exact ⟨rfl, hb0.trans (hb1.mono hb0.size)⟩
  · have HO := Lib.hid hok
    clear hok
    by_cases h0 : v.k = 0
    · have e0 : (v.k == 0) = true := by simpa using h0
      clear h0
      have HE := Lib.hid e0
      go_enter Tryz.func94, Tryz.ntmps94
      go_wp2_with fail
      refine (implValOk _ _ _ _).mono ?_
      rintro e w1 ⟨rfl, hb1⟩
      rw [HO.out]
      obtain ⟨⟨c0, c1, c2⟩, -⟩ := (r0.below hb1).three
      go_wp2
      go_ret
      exact ⟨retB (by rw [HE.out]; rfl), hb0.trans (hb1.mono hb0.size)⟩
    · have e0 : (v.k == 0) = false := by simpa using h0
      clear h0
      have HE := Lib.hid e0
      go_enter Tryz.func94, Tryz.ntmps94
      go_wp2_with fail
      refine (implValOk _ _ _ _).mono ?_
      rintro e w1 ⟨rfl, hb1⟩
      rw [HO.out]
      obtain ⟨⟨c0, c1, c2⟩, -⟩ := (r0.below hb1).three
      go_wp2
      go_ret
      exact ⟨retB (by rw [HE.out]; rfl), hb0.trans (hb1.mono hb0.size)⟩

set_option maxRecDepth 100000 in
set_option maxHeartbeats 400000 in
theorem implColOk (x : Cl) (w : World) (hs : x.name.size ≤ maxLen) :
    Calls Tryz.prog 105 #[.agg #[.string x.name, .int .i64 x.kind, .bool x.nn, .int .i64 x.d.k, .int .i64 x.d.n, .string x.d.s]] w fun e w' => e = .returned (.bool (colB x)) ∧ Below w.heap.size w w' := by
  have hb0 := (Below.refl w.heap.size w).alloc (Nat.le_refl _) (.cells #[.string x.name, .int .i64 x.kind, .bool x.nn, .int .i64 x.d.k, .int .i64 x.d.n, .string x.d.s] 97)
  have HB := Lib.hid hb0
  unfold colB
  cases hn : nameB x.name
  · have HN := Lib.hid hn
    clear hn
    go_enter Tryz.func105, Tryz.ntmps105
    go_wp2_with fail
    refine (implIsName _ _ hs).mono ?_
    rintro e w1 ⟨rfl, rfl⟩
    rw [HN.out]
    go_wp2
    go_ret
    exact ⟨rfl, HB.out⟩
  have HN := Lib.hid hn
  clear hn
  by_cases h1 : x.kind = 1
  · have e1 : (x.kind == 1) = true := by simpa using h1
    have HE := Lib.hid e1
    clear h1
    go_enter Tryz.func105, Tryz.ntmps105
    go_wp2_with fail
    refine (implIsName _ _ hs).mono ?_
    rintro e w1 ⟨rfl, rfl⟩
    rw [HN.out]
    go_wp2_with fail
    refine (implValFits _ x.d _).mono ?_
    rintro e w1 ⟨rfl, hb1⟩
    go_wp2
    go_ret
    exact ⟨retB (by rw [HE.out]; rfl), HB.out.trans (hb1.mono HB.out.size)⟩
  have e1 : (x.kind == 1) = false := by simpa using h1
  by_cases h2 : x.kind = 2
  · have e2 : (x.kind == 2) = true := by simpa using h2
    have HE := Lib.hid e1
    have HE2 := Lib.hid e2
    clear h1 h2
    go_enter Tryz.func105, Tryz.ntmps105
    go_wp2_with fail
    refine (implIsName _ _ hs).mono ?_
    rintro e w1 ⟨rfl, rfl⟩
    rw [HN.out]
    go_wp2_with fail
    refine (implValFits _ x.d _).mono ?_
    rintro e w1 ⟨rfl, hb1⟩
    go_wp2
    go_ret
    exact ⟨retB (by rw [HE.out, HE2.out]; rfl), HB.out.trans (hb1.mono HB.out.size)⟩
  · have e2 : (x.kind == 2) = false := by simpa using h2
    have HE := Lib.hid e1
    have HE2 := Lib.hid e2
    clear h1 h2
    go_enter Tryz.func105, Tryz.ntmps105
    go_wp2_with fail
    refine (implIsName _ _ hs).mono ?_
    rintro e w1 ⟨rfl, rfl⟩
    rw [HN.out]
    go_wp2
    go_ret
    exact ⟨retB (by rw [HE.out, HE2.out]; rfl), HB.out⟩

theorem implAction (a : Int) (w : World) : Calls Tryz.prog 107 #[.int .i64 a] w fun e w' => e = .returned (.bool (actB a)) ∧ w = w' := by
  unfold actB
  by_cases h0 : a = 0
  · subst h0
    go_enter Tryz.func107, Tryz.ntmps107
    go_wp2
    go_ret
    exact ⟨rfl, rfl⟩
  have e0 : (a == 0) = false := by simpa using h0
  by_cases h1 : a = 1
  · subst h1
    go_enter Tryz.func107, Tryz.ntmps107
    go_wp2
    go_ret
    exact ⟨rfl, rfl⟩
  have e1 : (a == 1) = false := by simpa using h1
  have HE := Lib.hid e0
  have HE1 := Lib.hid e1
  go_enter Tryz.func107, Tryz.ntmps107
  go_wp2
  go_ret
  exact ⟨retB (by rw [HE.out, HE1.out]; rfl), rfl⟩

set_option maxRecDepth 100000 in
set_option maxHeartbeats 1000000 in
theorem implColsOk (A : Option Addr) (n c : Nat) (l : List Cl) (ok : Nat → Prop) (w : World) (h : Sl ClR 6 ok w A n l) (hs : szL Cl.sz l ≤ 1048576) :
    Calls Tryz.prog 87 #[.slice A n c] w fun e w' => e = .returned (.bool (colsB l)) ∧ Below w.heap.size w w' := by
  obtain rfl : l.length = n := h.1
  have hn : l.length ≤ 1048576 := by unfold szL at hs; omega
  have HS := Lib.hid hs
  clear hs
  by_cases h1 : (l.length : Int) < 1
  · have HF := Lib.hid (show colsB l = false by unfold colsB; rw [decide_eq_false (p := 1 ≤ l.length) (by omega)]; rfl)
    go_enter Tryz.func87, Tryz.ntmps87
    go_wp2
    go_ret
    exact ⟨retB HF.out.symm, Below.refl _ _⟩
  have h1' : decide ((l.length : Int) < 1) = false := by simpa using h1
  by_cases h8 : 8 < (l.length : Int)
  · have HF := Lib.hid (show colsB l = false by unfold colsB; rw [decide_eq_false (p := l.length ≤ 8) (by omega), Bool.false_and, Bool.and_false])
    go_enter Tryz.func87, Tryz.ntmps87
    go_wp2
    go_ret
    exact ⟨retB HF.out.symm, Below.refl _ _⟩
  have h8' : decide (8 < (l.length : Int)) = false := by simpa using h8
  have HLEN := Lib.hid (show decide (1 ≤ l.length) = true ∧ decide (l.length ≤ 8) = true from ⟨decide_eq_true (by omega), decide_eq_true (by omega)⟩)
  go_enter Tryz.func87, Tryz.ntmps87
  go_wp2
  go_loopw [15] (fun i wr => ∃ k : Nat, k ≤ l.length ∧ i = .int .i64 k ∧ Hid ((l.take k).all colB = true) ∧ Below w.heap.size w wr) (fun i _ => l.length - (intOf i).toNat)
  case atStart => exact ⟨0, by omega, rfl, Lib.hid (by simp), Below.refl _ _⟩
  case round =>
    obtain ⟨k, hk, rfl, hall, hb⟩ := hrel
    by_cases hlt : k < l.length
    · obtain ⟨b, off, -, rfl, q0, q1, q2, q3, q4, q5⟩ := ClR.at_ (h.below ClR.stays hb) hlt
      have hsn := all_take colB l k hlt
      rw [hall.out, Bool.true_and] at hsn
      have HZ := Lib.hid (cl_name_le HS.out k hlt)
      have hba := hb.alloc hb.size (.cells #[.string l[k].name, .int .i64 l[k].kind, .bool l[k].nn, .int .i64 l[k].d.k, .int .i64 l[k].d.n, .string l[k].d.s] 97)
      cases hc : colB l[k]
      · have HC := Lib.hid hc
        have HF := Lib.hid (show colsB l = false by unfold colsB; rw [all_no colB l k hlt hc]; simp)
        clear hsn hc hall
        go_wp2_with fail
        refine (implColOk _ _ HZ.out).mono ?_
        rintro e w1 ⟨rfl, hb1⟩
        rw [HC.out]
        go_wp2
        go_ret
        exact ⟨retB HF.out.symm, hba.trans (hb1.mono hba.size)⟩
      · have HC := Lib.hid hc
        have HA := Lib.hid (hsn.trans hc)
        clear hsn hc hall
        go_wp2_with fail
        refine (implColOk _ _ HZ.out).mono ?_
        rintro e w1 ⟨rfl, hb1⟩
        rw [HC.out]
        go_wp2
        go_roundw
        case rel => exact ⟨k + 1, by omega, by go_num, HA, hba.trans (hb1.mono hba.size)⟩
        case measure => simp [intOf]; omega
    · have e : l.take k = l := List.take_of_length_le (by omega)
      have h2 := hall.out
      rw [e] at h2
      have HA := Lib.hid h2
      have HF := Lib.hid (show colsB l = uniqGo [] (l.map Cl.name) by unfold colsB; rw [h2, HLEN.out.1, HLEN.out.2]; simp)
      clear h2 e hall
      go_wp2_with fail
      refine (implColPlaces A l.length c l ok _ (h.below ClR.stays hb) HS.out).mono ?_
      rintro e w1 ⟨bm, rfl, hp, hbb, hb1⟩
      obtain ⟨D, p1, p2, p3, p4, p5⟩ := hp
      have HU := Lib.hid (cntGo_uniq (l.map Cl.name) [])
      have HP := Lib.hid p5
      clear p3 p4 p5
      go_wp2_with (first | (at_len; refine wpList_len_own _ rfl _ 116 rfl 9 2 Tryz.underlying116 _ bm _ D rfl p1 ?_))
      go_ret
      refine ⟨retB ?_, hb.trans (hb1.mono hb.size)⟩
      rw [HF.out, ← HU.out, HP.out, Bool.eq_iff_iff]
      simp
      try omega
end Go.Proofs.YthafgkcokecnnaaGreat
namespace Go.Proofs.YthafgkcokecnnaaGreat
open Go.RowKit Go.Maps
set_option linter.unusedVariables false

theorem len_eq {α : Type} {R : Rd α} {sz : Nat} {ok : Nat → Prop} {w : World} {A : Option Addr} {n : Nat} {ds : List α} (h : Sl R sz ok w A n ds) : ds.length = n := h.1

set_option maxRecDepth 100000 in
set_option maxHeartbeats 1000000 in
theorem implKeyOk (A1 A2 : Option Addr) (n1 c1 n2 c2 : Nat) (v0 v3 v4 v5 : Value) (cols : List Cl) (key : List Int) (ok : Nat → Prop) (w : World) (h : Sl ClR 6 ok w A1 n1 cols) (hk : Sl IntR 1 ok w A2 n2 key) (hn1 : n1 ≤ 1048576) (hn2 : n2 ≤ 1048576) :
    Calls Tryz.prog 88 #[.agg #[v0, .slice A1 n1 c1, .slice A2 n2 c2, v3, v4, v5]] w fun e w' => e = .returned (.bool (keyB cols key)) ∧ Below w.heap.size w w' := by
  obtain rfl : cols.length = n1 := h.1
  obtain rfl : key.length = n2 := hk.1
  have hb0 := (Below.refl w.heap.size w).alloc (Nat.le_refl _) (.cells #[v0, .slice A1 cols.length c1, .slice A2 key.length c2, v3, v4, v5] 59)
  have r0 := Row.new w 59 #[v0, .slice A1 cols.length c1, .slice A2 key.length c2, v3, v4, v5]
  cases hc : colsInB key cols.length
  · have HC := Lib.hid hc
    clear hc
    go_enter Tryz.func88, Tryz.ntmps88
    go_wp2_with fail
    refine (implAreColumns A2 key.length c2 key cols.length ok _ (hk.below IntR.stays hb0) hn2 hn1).mono ?_
    rintro e w1 ⟨rfl, hb1⟩
    rw [HC.out]
    go_wp2
    go_ret
    exact ⟨retB (by unfold keyB; rw [HC.out]; rfl), hb0.trans (hb1.mono hb0.size)⟩
  have HIN := Lib.hid (colsInB_len hc).2
  have HC := Lib.hid hc
  clear hc
  go_enter Tryz.func88, Tryz.ntmps88
  go_wp2_with fail
  refine (implAreColumns A2 key.length c2 key cols.length ok _ (hk.below IntR.stays hb0) hn2 hn1).mono ?_
  rintro e w1 ⟨rfl, hb1⟩
  rw [HC.out]
  have hbb := hb0.trans (hb1.mono hb0.size)
  have r1 := r0.below hb1
  obtain ⟨⟨a0, a1, a2, a3, a4, a5⟩, -⟩ := r1.all6
  have h1' := h.below ClR.stays hbb
  have hk1 := hk.below IntR.stays hbb
  clear r0 r1
  go_wp2_with fail
  go_loop [15] (fun i => ∃ k : Nat, k ≤ key.length ∧ i = .int .i64 k ∧ Hid ((key.take k).all (nnAt cols) = true)) (fun i => key.length - (intOf i).toNat)
  case atStart => exact ⟨0, by omega, rfl, Lib.hid (by simp)⟩
  case round =>
    obtain ⟨k, hkk, rfl, hall⟩ := hrel
    by_cases hlt : k < key.length
    · obtain ⟨b, off, -, rfl, q0⟩ := IntR.at_ hk1 hlt
      have hin := HIN.out _ (List.getElem_mem hlt)
      have hsn := all_take (nnAt cols) key k hlt
      rw [hall.out, Bool.true_and] at hsn
      have hno := fun hf => all_no (nnAt cols) key k hlt hf
      obtain ⟨j, hj⟩ : ∃ j : Nat, key[k] = (j : Int) := ⟨key[k].toNat, by omega⟩
      rw [hj] at q0 hsn hno hin
      have hjl : j < cols.length := by omega
      obtain ⟨b', off', -, rfl, p0, p1, p2, p3, p4, p5⟩ := ClR.at_ h1' hjl
      have hnn : nnAt cols j = cols[j].nn := by unfold nnAt; simp [List.getElem?_eq_getElem hjl]
      have i0 : (0 : Int) ≤ j := by omega
      have i1 : (j : Int) < cols.length := by omega
      cases hnb : cols[j].nn
      · rw [hnb] at p2
        have HF := Lib.hid (show keyB cols key = false by unfold keyB; rw [hno (hnn.trans hnb), Bool.and_false])
        clear hsn hno hnn hnb hj hall
        go_wp2
        go_ret
        exact ⟨retB HF.out.symm, hbb⟩
      · rw [hnb] at p2
        have HA := Lib.hid (hsn.trans (hnn.trans hnb))
        clear hsn hno hnn hnb hj hall
        go_wp2
        go_round
        case rel => exact ⟨k + 1, by omega, by go_num, HA⟩
        case measure => simp [intOf]; omega
    · have e : key.take k = key := List.take_of_length_le (by omega)
      have h2 := hall.out
      rw [e] at h2
      have HF := Lib.hid (show keyB cols key = true by unfold keyB; rw [h2, HC.out]; rfl)
      clear h2 e hall
      go_wp2
      go_ret
      exact ⟨retB HF.out.symm, hbb⟩

set_option maxRecDepth 100000 in
set_option maxHeartbeats 1000000 in
theorem implUniquesOk (A1 AL : Option Addr) (n1 c1 nL cL : Nat) (v0 v2 v4 v5 : Value) (cols : List Cl) (l : List Uq) (ok : Nat → Prop) (w : World) (h : Sl ClR 6 ok w A1 n1 cols) (hl : Sl UqR 1 ok w AL nL l) (hn1 : n1 ≤ 1048576) (hs : szL Uq.sz l ≤ 1048576) :
    Calls Tryz.prog 89 #[.agg #[v0, .slice A1 n1 c1, v2, .slice AL nL cL, v4, v5]] w fun e w' => e = .returned (.bool (uqsB cols l)) ∧ Below w.heap.size w w' := by
  obtain rfl : cols.length = n1 := h.1
  obtain rfl : l.length = nL := hl.1
  have hn2 : l.length ≤ 1048576 := by unfold szL at hs; omega
  have HSZ := Lib.hid hs
  clear hs
  have hb0 := (Below.refl w.heap.size w).alloc (Nat.le_refl _) (.cells #[v0, .slice A1 cols.length c1, v2, .slice AL l.length cL, v4, v5] 59)
  have r0 := Row.new w 59 #[v0, .slice A1 cols.length c1, v2, .slice AL l.length cL, v4, v5]
  by_cases hbig : 3 < (l.length : Int)
  · have HF := Lib.hid (show uqsB cols l = false by unfold uqsB; rw [decide_eq_false (by omega), Bool.false_and])
    go_enter Tryz.func89, Tryz.ntmps89
    go_wp2
    go_ret
    exact ⟨retB HF.out.symm, hb0⟩
  have hbig' : decide (3 < (l.length : Int)) = false := by simpa using hbig
  have H3 := Lib.hid (show decide (l.length ≤ 3) = true from decide_eq_true (by omega))
  go_enter Tryz.func89, Tryz.ntmps89
  go_wp2_with fail
  generalize w.alloc (.cells #[v0, .slice A1 cols.length c1, v2, .slice AL l.length cL, v4, v5] 59) = x0 at *
  go_loopw [12] (fun i wr => ∃ k : Nat, k ≤ l.length ∧ i = .int .i64 k ∧ Hid ((l.take k).all (fun u : Uq => colsInB u.cols cols.length) = true) ∧ Row wr w.heap.size 59 #[v0, .slice A1 cols.length c1, v2, .slice AL l.length cL, v4, v5] ∧ Below w.heap.size w wr) (fun i _ => l.length - (intOf i).toNat)
  case atStart => exact ⟨0, by omega, rfl, Lib.hid (by simp), r0, hb0⟩
  case round =>
    obtain ⟨k, hkk, rfl, hall, hr, hb⟩ := hrel
    obtain ⟨⟨a0, a1, a2, a3, a4, a5⟩, -⟩ := hr.all6
    by_cases hlt : k < l.length
    · obtain ⟨b, off, A9, n9, c9, -, rfl, q0, s0, hcp⟩ := UqR.at_ (hl.below UqR.stays hb) hlt
      obtain rfl : l[k].cols.length = n9 := s0.1
      have hsn := all_take (fun u : Uq => colsInB u.cols cols.length) l k hlt
      rw [hall.out, Bool.true_and] at hsn
      have hno := fun hf => all_no (fun u : Uq => colsInB u.cols cols.length) l k hlt hf
      have hk9 : l[k].cols.length ≤ 1048576 := by have := HSZ.out; have := sum_mem_le Uq.sz l k hlt; unfold szL at *; simp only [Uq.sz] at *;  omega
      have HK9 := Lib.hid hk9
      clear hk9
      have hbx := (Below.refl wr.heap.size wr).alloc (Nat.le_refl _) (.cells #[.slice A9 l[k].cols.length c9] 147)
      have hba := hb.trans (hbx.mono hb.size)
      have s1 := s0.below IntR.stays hbx
      have hr1 := hr.below hbx
      obtain ⟨⟨d0, d1, d2, d3, d4, d5⟩, -⟩ := hr1.all6
      cases hc : colsInB l[k].cols cols.length
      · have HC := Lib.hid hc
        have HF := Lib.hid (show uqsB cols l = false by unfold uqsB; rw [hno hc, Bool.and_false])
        clear hsn hno hc hall hr
        go_wp2_with fail
        refine (implAreColumns A9 l[k].cols.length c9 l[k].cols cols.length ok _ s1 HK9.out hn1).mono ?_
        rintro e w1 ⟨rfl, hb1⟩
        rw [HC.out]
        go_wp2
        go_ret
        exact ⟨retB HF.out.symm, hba.trans (hb1.mono hba.size)⟩
      · have HC := Lib.hid hc
        have HA := Lib.hid (hsn.trans hc)
        clear hsn hno hc hall hr
        go_wp2_with fail
        refine (implAreColumns A9 l[k].cols.length c9 l[k].cols cols.length ok _ s1 HK9.out hn1).mono ?_
        rintro e w1 ⟨rfl, hb1⟩
        rw [HC.out]
        have hr2 := hr1.below hb1
        go_wp2
        go_roundw
        case rel => exact ⟨k + 1, by omega, by go_num, HA, hr2, hba.trans (hb1.mono hba.size)⟩
        case measure => simp [intOf]; omega
    · have e : l.take k = l := List.take_of_length_le (by omega)
      have h2 := hall.out
      rw [e] at h2
      have HF := Lib.hid (show uqsB cols l = true by unfold uqsB; rw [h2, H3.out]; rfl)
      clear h2 e hall
      go_wp2
      go_ret
      exact ⟨retB HF.out.symm, hb⟩

set_option maxRecDepth 100000 in
set_option maxHeartbeats 1000000 in
theorem implChecksOk (A1 AL : Option Addr) (n1 c1 nL cL : Nat) (v0 v2 v3 v5 : Value) (cols : List Cl) (l : List Ck) (ok : Nat → Prop) (w : World) (h : Sl ClR 6 ok w A1 n1 cols) (hl : Sl CkR 1 ok w AL nL l) (hn1 : n1 ≤ 1048576) (hs : szL Ck.sz l ≤ 1048576) :
    Calls Tryz.prog 90 #[.agg #[v0, .slice A1 n1 c1, v2, v3, .slice AL nL cL, v5]] w fun e w' => e = .returned (.bool (cksB cols l)) ∧ Below w.heap.size w w' := by
  obtain rfl : cols.length = n1 := h.1
  obtain rfl : l.length = nL := hl.1
  have hn2 : l.length ≤ 1048576 := by unfold szL at hs; omega
  have HSZ := Lib.hid hs
  clear hs
  have hb0 := (Below.refl w.heap.size w).alloc (Nat.le_refl _) (.cells #[v0, .slice A1 cols.length c1, v2, v3, .slice AL l.length cL, v5] 59)
  have r0 := Row.new w 59 #[v0, .slice A1 cols.length c1, v2, v3, .slice AL l.length cL, v5]
  by_cases hbig : 3 < (l.length : Int)
  · have HF := Lib.hid (show cksB cols l = false by unfold cksB; rw [decide_eq_false (by omega), Bool.false_and])
    go_enter Tryz.func90, Tryz.ntmps90
    go_wp2
    go_ret
    exact ⟨retB HF.out.symm, hb0⟩
  have hbig' : decide (3 < (l.length : Int)) = false := by simpa using hbig
  have H3 := Lib.hid (show decide (l.length ≤ 3) = true from decide_eq_true (by omega))
  go_enter Tryz.func90, Tryz.ntmps90
  go_wp2_with fail
  generalize w.alloc (.cells #[v0, .slice A1 cols.length c1, v2, v3, .slice AL l.length cL, v5] 59) = x0 at *
  go_loopw [12] (fun i wr => ∃ k : Nat, k ≤ l.length ∧ i = .int .i64 k ∧ Hid ((l.take k).all (fun u : Ck => exprB u.expr cols.length) = true) ∧ Row wr w.heap.size 59 #[v0, .slice A1 cols.length c1, v2, v3, .slice AL l.length cL, v5] ∧ Below w.heap.size w wr) (fun i _ => l.length - (intOf i).toNat)
  case atStart => exact ⟨0, by omega, rfl, Lib.hid (by simp), r0, hb0⟩
  case round =>
    obtain ⟨k, hkk, rfl, hall, hr, hb⟩ := hrel
    obtain ⟨⟨a0, a1, a2, a3, a4, a5⟩, -⟩ := hr.all6
    by_cases hlt : k < l.length
    · obtain ⟨b, off, A9, n9, c9, -, rfl, q0, s0, hcp⟩ := CkR.at_ (hl.below CkR.stays hb) hlt
      obtain rfl : l[k].expr.length = n9 := s0.1
      have hsn := all_take (fun u : Ck => exprB u.expr cols.length) l k hlt
      rw [hall.out, Bool.true_and] at hsn
      have hno := fun hf => all_no (fun u : Ck => exprB u.expr cols.length) l k hlt hf
      have hk9 : l[k].expr.length ≤ 1048576 := by have := HSZ.out; have := sum_mem_le Ck.sz l k hlt; unfold szL at *; simp only [Ck.sz] at *; (try unfold szL at *); (try simp only at *); omega
      have HK9 := Lib.hid hk9
      clear hk9
      have hbx := (Below.refl wr.heap.size wr).alloc (Nat.le_refl _) (.cells #[.slice A9 l[k].expr.length c9] 149)
      have hba := hb.trans (hbx.mono hb.size)
      have s1 := s0.below TkR.stays hbx
      have hr1 := hr.below hbx
      obtain ⟨⟨d0, d1, d2, d3, d4, d5⟩, -⟩ := hr1.all6
      cases hc : exprB l[k].expr cols.length
      · have HC := Lib.hid hc
        have HF := Lib.hid (show cksB cols l = false by unfold cksB; rw [hno hc, Bool.and_false])
        clear hsn hno hc hall hr
        go_wp2_with fail
        refine (implExprOk A9 l[k].expr.length c9 l[k].expr cols.length _ (Sl.cellz (fun _ => rfl) s1) (by have := HK9.out; unfold maxLen; omega)).mono ?_
        rintro e w1 ⟨rfl, hb1⟩
        rw [HC.out]
        go_wp2
        go_ret
        exact ⟨retB HF.out.symm, hba.trans (hb1.mono hba.size)⟩
      · have HC := Lib.hid hc
        have HA := Lib.hid (hsn.trans hc)
        clear hsn hno hc hall hr
        go_wp2_with fail
        refine (implExprOk A9 l[k].expr.length c9 l[k].expr cols.length _ (Sl.cellz (fun _ => rfl) s1) (by have := HK9.out; unfold maxLen; omega)).mono ?_
        rintro e w1 ⟨rfl, hb1⟩
        rw [HC.out]
        have hr2 := hr1.below hb1
        go_wp2
        go_roundw
        case rel => exact ⟨k + 1, by omega, by go_num, HA, hr2, hba.trans (hb1.mono hba.size)⟩
        case measure => simp [intOf]; omega
    · have e : l.take k = l := List.take_of_length_le (by omega)
      have h2 := hall.out
      rw [e] at h2
      have HF := Lib.hid (show cksB cols l = true by unfold cksB; rw [h2, H3.out]; rfl)
      clear h2 e hall
      go_wp2
      go_ret
      exact ⟨retB HF.out.symm, hb⟩
end Go.Proofs.YthafgkcokecnnaaGreat
namespace Go.Proofs.YthafgkcokecnnaaGreat
open Go.RowKit Go.Maps
set_option linter.unusedVariables false

set_option maxRecDepth 100000 in
set_option maxHeartbeats 1000000 in
theorem implFksOk (A1 AL : Option Addr) (n1 c1 nL cL : Nat) (v0 v2 v3 v4 : Value) (cols : List Cl) (l : List Fk) (ok : Nat → Prop) (w : World) (h : Sl ClR 6 ok w A1 n1 cols) (hl : Sl FkR 5 ok w AL nL l) (hn1 : n1 ≤ 1048576) (hs : szL Fk.sz l ≤ 1048576) :
    Calls Tryz.prog 91 #[.agg #[v0, .slice A1 n1 c1, v2, v3, v4, .slice AL nL cL]] w fun e w' => e = .returned (.bool (fksB cols l)) ∧ Below w.heap.size w w' := by
  obtain rfl : cols.length = n1 := h.1
  obtain rfl : l.length = nL := hl.1
  have hn2 : l.length ≤ 1048576 := by unfold szL at hs; omega
  have HSZ := Lib.hid hs
  clear hs
  have hb0 := (Below.refl w.heap.size w).alloc (Nat.le_refl _) (.cells #[v0, .slice A1 cols.length c1, v2, v3, v4, .slice AL l.length cL] 59)
  have r0 := Row.new w 59 #[v0, .slice A1 cols.length c1, v2, v3, v4, .slice AL l.length cL]
  by_cases hbig : 3 < (l.length : Int)
  · have HF := Lib.hid (show fksB cols l = false by unfold fksB; rw [decide_eq_false (by omega), Bool.false_and])
    go_enter Tryz.func91, Tryz.ntmps91
    go_wp2
    go_ret
    exact ⟨retB HF.out.symm, hb0⟩
  have hbig' : decide (3 < (l.length : Int)) = false := by simpa using hbig
  have H3 := Lib.hid (show decide (l.length ≤ 3) = true from decide_eq_true (by omega))
  go_enter Tryz.func91, Tryz.ntmps91
  go_wp2_with fail
  generalize w.alloc (.cells #[v0, .slice A1 cols.length c1, v2, v3, v4, .slice AL l.length cL] 59) = x0 at *
  go_loopw [12] (fun i wr => ∃ k : Nat, k ≤ l.length ∧ i = .int .i64 k ∧ Hid ((l.take k).all (fkB cols.length) = true) ∧ Row wr w.heap.size 59 #[v0, .slice A1 cols.length c1, v2, v3, v4, .slice AL l.length cL] ∧ Below w.heap.size w wr) (fun i _ => l.length - (intOf i).toNat)
  case atStart => exact ⟨0, by omega, rfl, Lib.hid (by simp), r0, hb0⟩
  case round =>
    obtain ⟨k, hkk, rfl, hall, hr, hb⟩ := hrel
    obtain ⟨⟨a0, a1, a2, a3, a4, a5⟩, -⟩ := hr.all6
    by_cases hlt : k < l.length
    · obtain ⟨b, off, A9, n9, c9, -, rfl, q0, q1, q2, q3, q4, s0, hcp⟩ := FkR.at_ (hl.below FkR.stays hb) hlt
      obtain rfl : l[k].cols.length = n9 := s0.1
      have hsn := all_take (fkB cols.length) l k hlt
      rw [hall.out, Bool.true_and] at hsn
      have hno := fun hf => all_no (fkB cols.length) l k hlt hf
      obtain ⟨hk9, hk8⟩ : l[k].cols.length ≤ 1048576 ∧ l[k].table.size ≤ 1048576 := by have := HSZ.out; have := sum_mem_le Fk.sz l k hlt; unfold szL at *; simp only [Fk.sz] at *; omega
      have HK9 := Lib.hid hk9
      have HK8 := Lib.hid (show l[k].table.size ≤ maxLen by unfold maxLen; omega)
      clear hk9 hk8
      have hbx := (Below.refl wr.heap.size wr).alloc (Nat.le_refl _) (.cells #[.slice A9 l[k].cols.length c9, .string l[k].table, .int .i64 l[k].del, .int .i64 l[k].upd, .bool l[k].dfr] 94)
      have hba := hb.trans (hbx.mono hb.size)
      have s1 := s0.below IntR.stays hbx
      have hr1 := hr.below hbx
      have rf := Row.new wr 94 #[.slice A9 l[k].cols.length c9, .string l[k].table, .int .i64 l[k].del, .int .i64 l[k].upd, .bool l[k].dfr]
      obtain ⟨⟨d0, d1, d2, d3, d4, d5⟩, -⟩ := hr1.all6
      have hcall := fun (w' : World) (hw : Sl IntR 1 ok w' A9 l[k].cols.length l[k].cols) => implAreColumns A9 l[k].cols.length c9 l[k].cols cols.length ok w' hw HK9.out hn1
      cases hc : colsInB l[k].cols cols.length
      · have HC := Lib.hid hc
        have HF := Lib.hid (show fksB cols l = false by unfold fksB; rw [hno (by unfold fkB; rw [hc]; rfl), Bool.and_false])
        clear hsn hno hc hall hr
        go_wp2_with fail
        refine (hcall _ s1).mono ?_
        rintro e w1 ⟨rfl, hb1⟩
        rw [HC.out]
        clear hcall
        go_wp2
        go_ret
        exact ⟨retB HF.out.symm, hba.trans (hb1.mono hba.size)⟩
      have HC := Lib.hid hc
      cases hnm : nameB l[k].table
      · have HN := Lib.hid hnm
        have HF := Lib.hid (show fksB cols l = false by unfold fksB; rw [hno (by unfold fkB; rw [hc, hnm]; rfl), Bool.and_false])
        clear hsn hno hc hall hr hnm
        go_wp2_with fail
        refine (hcall _ s1).mono ?_
        rintro e w1 ⟨rfl, hb1⟩
        rw [HC.out]
        clear hcall
        obtain ⟨⟨f0, f1, f2, f3, f4⟩, -⟩ := (rf.below hb1).five
        go_wp2_with fail
        refine (implIsName _ _ HK8.out).mono ?_
        rintro e w2 ⟨rfl, rfl⟩
        rw [HN.out]
        go_wp2
        go_ret
        exact ⟨retB HF.out.symm, hba.trans (hb1.mono hba.size)⟩
      have HN := Lib.hid hnm
      cases hd : actB l[k].del
      · have HD := Lib.hid hd
        have HF := Lib.hid (show fksB cols l = false by unfold fksB; rw [hno (by unfold fkB; rw [hc, hnm, hd]; rfl), Bool.and_false])
        clear hsn hno hc hall hr hnm hd
        go_wp2_with fail
        refine (hcall _ s1).mono ?_
        rintro e w1 ⟨rfl, hb1⟩
        rw [HC.out]
        clear hcall
        obtain ⟨⟨f0, f1, f2, f3, f4⟩, -⟩ := (rf.below hb1).five
        go_wp2_with fail
        refine (implIsName _ _ HK8.out).mono ?_
        rintro e w2 ⟨rfl, rfl⟩
        rw [HN.out]
        go_wp2_with fail
        refine (implAction _ _).mono ?_
        rintro e w2 ⟨rfl, rfl⟩
        rw [HD.out]
        go_wp2
        go_ret
        exact ⟨retB HF.out.symm, hba.trans (hb1.mono hba.size)⟩
      have HD := Lib.hid hd
      cases hu : actB l[k].upd
      · have HU := Lib.hid hu
        have HF := Lib.hid (show fksB cols l = false by unfold fksB; rw [hno (by unfold fkB; rw [hc, hnm, hd, hu]; rfl), Bool.and_false])
        clear hsn hno hc hall hr hnm hd hu
        go_wp2_with fail
        refine (hcall _ s1).mono ?_
        rintro e w1 ⟨rfl, hb1⟩
        rw [HC.out]
        clear hcall
        obtain ⟨⟨f0, f1, f2, f3, f4⟩, -⟩ := (rf.below hb1).five
        go_wp2_with fail
        refine (implIsName _ _ HK8.out).mono ?_
        rintro e w2 ⟨rfl, rfl⟩
        rw [HN.out]
        go_wp2_with fail
        refine (implAction _ _).mono ?_
        rintro e w2 ⟨rfl, rfl⟩
        rw [HD.out]
        go_wp2_with fail
        refine (implAction _ _).mono ?_
        rintro e w2 ⟨rfl, rfl⟩
        rw [HU.out]
        go_wp2
        go_ret
        exact ⟨retB HF.out.symm, hba.trans (hb1.mono hba.size)⟩
      · have HU := Lib.hid hu
        have HA := Lib.hid (hsn.trans (show fkB cols.length l[k] = true by unfold fkB; rw [hc, hnm, hd, hu]; rfl))
        clear hsn hno hc hall hr hnm hd hu
        go_wp2_with fail
        refine (hcall _ s1).mono ?_
        rintro e w1 ⟨rfl, hb1⟩
        rw [HC.out]
        clear hcall
        obtain ⟨⟨f0, f1, f2, f3, f4⟩, -⟩ := (rf.below hb1).five
        go_wp2_with fail
        refine (implIsName _ _ HK8.out).mono ?_
        rintro e w2 ⟨rfl, rfl⟩
        rw [HN.out]
        go_wp2_with fail
        refine (implAction _ _).mono ?_
        rintro e w2 ⟨rfl, rfl⟩
        rw [HD.out]
        go_wp2_with fail
        refine (implAction _ _).mono ?_
        rintro e w2 ⟨rfl, rfl⟩
        rw [HU.out]
        have hr2 := hr1.below hb1
        go_wp2
        go_roundw
        case rel => exact ⟨k + 1, by omega, by go_num, HA, hr2, hba.trans (hb1.mono hba.size)⟩
        case measure => simp [intOf]; omega
    · have e : l.take k = l := List.take_of_length_le (by omega)
      have h2 := hall.out
      rw [e] at h2
      have HF := Lib.hid (show fksB cols l = true by unfold fksB; rw [h2, H3.out]; rfl)
      clear h2 e hall
      go_wp2
      go_ret
      exact ⟨retB HF.out.symm, hb⟩

set_option maxRecDepth 100000 in
set_option maxHeartbeats 1000000 in
theorem implTableOk (x : Tb) (A1 : Option Addr) (n1 c1 : Nat) (A2 : Option Addr) (n2 c2 : Nat) (A3 : Option Addr) (n3 c3 : Nat) (A4 : Option Addr) (n4 c4 : Nat) (A5 : Option Addr) (n5 c5 : Nat) (ok : Nat → Prop) (w : World)
    (h1 : Sl ClR 6 ok w A1 n1 x.cols) (h2 : Sl IntR 1 ok w A2 n2 x.key) (h3 : Sl UqR 1 ok w A3 n3 x.uniqs) (h4 : Sl CkR 1 ok w A4 n4 x.checks) (h5 : Sl FkR 5 ok w A5 n5 x.fks) (hs : x.sz ≤ 1048576) :
    Calls Tryz.prog 54 #[.agg #[.string x.name, .slice A1 n1 c1, .slice A2 n2 c2, .slice A3 n3 c3, .slice A4 n4 c4, .slice A5 n5 c5]] w fun e w' => e = .returned (.bool (tableB x)) ∧ Below w.heap.size w w' := by
  have e1 := h1.1
  have e2 := h2.1
  have HNM := Lib.hid (show x.name.size ≤ maxLen by unfold Tb.sz at hs; unfold maxLen; omega)
  have HS1 := Lib.hid (show szL Cl.sz x.cols ≤ 1048576 by unfold Tb.sz at hs; omega)
  have HS3 := Lib.hid (show szL Uq.sz x.uniqs ≤ 1048576 by unfold Tb.sz at hs; omega)
  have HS4 := Lib.hid (show szL Ck.sz x.checks ≤ 1048576 by unfold Tb.sz at hs; omega)
  have HS5 := Lib.hid (show szL Fk.sz x.fks ≤ 1048576 by unfold Tb.sz at hs; omega)
  have HL1 := Lib.hid (show n1 ≤ 1048576 by unfold Tb.sz szL at hs; omega)
  have HL2 := Lib.hid (show n2 ≤ 1048576 by unfold Tb.sz szL at hs; omega)
  clear e1 e2 hs
  have hb0 := (Below.refl w.heap.size w).alloc (Nat.le_refl _) (.cells #[.string x.name, .slice A1 n1 c1, .slice A2 n2 c2, .slice A3 n3 c3, .slice A4 n4 c4, .slice A5 n5 c5] 59)
  have r0 := Row.new w 59 #[.string x.name, .slice A1 n1 c1, .slice A2 n2 c2, .slice A3 n3 c3, .slice A4 n4 c4, .slice A5 n5 c5]
  cases hN : nameB x.name
  · have HN := Lib.hid hN
    clear hN
    go_enter Tryz.func54, Tryz.ntmps54
    go_wp2_with fail
    refine (implIsName _ _ HNM.out).mono ?_
    rintro e w1 ⟨rfl, rfl⟩
    rw [HN.out]
    go_wp2_with fail
    go_ret
    exact ⟨retB (by unfold tableB; rw [HN.out]; rfl), hb0⟩
  have HN := Lib.hid hN
  clear hN
  cases hC : colsB x.cols
  · have HC := Lib.hid hC
    clear hC
    go_enter Tryz.func54, Tryz.ntmps54
    go_wp2_with fail
    refine (implIsName _ _ HNM.out).mono ?_
    rintro e w1 ⟨rfl, rfl⟩
    rw [HN.out]
    go_wp2_with fail
    refine (implColsOk A1 n1 c1 x.cols ok _ (h1.below ClR.stays hb0) HS1.out).mono ?_
    rintro e w2 ⟨rfl, hq2⟩
    have hb2 := hb0.trans (hq2.mono hb0.size)
    have r2 := r0.below hq2
    obtain ⟨⟨x2_0, x2_1, x2_2, x2_3, x2_4, x2_5⟩, -⟩ := r2.all6
    rw [HC.out]
    go_wp2_with fail
    go_ret
    exact ⟨retB (by unfold tableB; rw [HN.out, HC.out]; rfl), hb2⟩
  have HC := Lib.hid hC
  clear hC
  cases hK : keyB x.cols x.key
  · have HK := Lib.hid hK
    clear hK
    go_enter Tryz.func54, Tryz.ntmps54
    go_wp2_with fail
    refine (implIsName _ _ HNM.out).mono ?_
    rintro e w1 ⟨rfl, rfl⟩
    rw [HN.out]
    go_wp2_with fail
    refine (implColsOk A1 n1 c1 x.cols ok _ (h1.below ClR.stays hb0) HS1.out).mono ?_
    rintro e w2 ⟨rfl, hq2⟩
    have hb2 := hb0.trans (hq2.mono hb0.size)
    have r2 := r0.below hq2
    obtain ⟨⟨x2_0, x2_1, x2_2, x2_3, x2_4, x2_5⟩, -⟩ := r2.all6
    rw [HC.out]
    go_wp2_with fail
    refine (implKeyOk A1 A2 n1 c1 n2 c2 _ _ _ _ x.cols x.key ok _ (h1.below ClR.stays hb2) (h2.below IntR.stays hb2) HL1.out HL2.out).mono ?_
    rintro e w3 ⟨rfl, hq3⟩
    have hb3 := hb2.trans (hq3.mono hb2.size)
    have r3 := r2.below hq3
    obtain ⟨⟨x3_0, x3_1, x3_2, x3_3, x3_4, x3_5⟩, -⟩ := r3.all6
    rw [HK.out]
    go_wp2_with fail
    go_ret
    exact ⟨retB (by unfold tableB; rw [HN.out, HC.out, HK.out]; rfl), hb3⟩
  have HK := Lib.hid hK
  clear hK
  cases hU : uqsB x.cols x.uniqs
  · have HU := Lib.hid hU
    clear hU
    go_enter Tryz.func54, Tryz.ntmps54
    go_wp2_with fail
    refine (implIsName _ _ HNM.out).mono ?_
    rintro e w1 ⟨rfl, rfl⟩
    rw [HN.out]
    go_wp2_with fail
    refine (implColsOk A1 n1 c1 x.cols ok _ (h1.below ClR.stays hb0) HS1.out).mono ?_
    rintro e w2 ⟨rfl, hq2⟩
    have hb2 := hb0.trans (hq2.mono hb0.size)
    have r2 := r0.below hq2
    obtain ⟨⟨x2_0, x2_1, x2_2, x2_3, x2_4, x2_5⟩, -⟩ := r2.all6
    rw [HC.out]
    go_wp2_with fail
    refine (implKeyOk A1 A2 n1 c1 n2 c2 _ _ _ _ x.cols x.key ok _ (h1.below ClR.stays hb2) (h2.below IntR.stays hb2) HL1.out HL2.out).mono ?_
    rintro e w3 ⟨rfl, hq3⟩
    have hb3 := hb2.trans (hq3.mono hb2.size)
    have r3 := r2.below hq3
    obtain ⟨⟨x3_0, x3_1, x3_2, x3_3, x3_4, x3_5⟩, -⟩ := r3.all6
    rw [HK.out]
    go_wp2_with fail
    refine (implUniquesOk A1 A3 n1 c1 n3 c3 _ _ _ _ x.cols x.uniqs ok _ (h1.below ClR.stays hb3) (h3.below UqR.stays hb3) HL1.out HS3.out).mono ?_
    rintro e w4 ⟨rfl, hq4⟩
    have hb4 := hb3.trans (hq4.mono hb3.size)
    have r4 := r3.below hq4
    obtain ⟨⟨x4_0, x4_1, x4_2, x4_3, x4_4, x4_5⟩, -⟩ := r4.all6
    rw [HU.out]
    go_wp2_with fail
    go_ret
    exact ⟨retB (by unfold tableB; rw [HN.out, HC.out, HK.out, HU.out]; rfl), hb4⟩
  have HU := Lib.hid hU
  clear hU
  cases hE : cksB x.cols x.checks
  · have HE := Lib.hid hE
    clear hE
    go_enter Tryz.func54, Tryz.ntmps54
    go_wp2_with fail
    refine (implIsName _ _ HNM.out).mono ?_
    rintro e w1 ⟨rfl, rfl⟩
    rw [HN.out]
    go_wp2_with fail
    refine (implColsOk A1 n1 c1 x.cols ok _ (h1.below ClR.stays hb0) HS1.out).mono ?_
    rintro e w2 ⟨rfl, hq2⟩
    have hb2 := hb0.trans (hq2.mono hb0.size)
    have r2 := r0.below hq2
    obtain ⟨⟨x2_0, x2_1, x2_2, x2_3, x2_4, x2_5⟩, -⟩ := r2.all6
    rw [HC.out]
    go_wp2_with fail
    refine (implKeyOk A1 A2 n1 c1 n2 c2 _ _ _ _ x.cols x.key ok _ (h1.below ClR.stays hb2) (h2.below IntR.stays hb2) HL1.out HL2.out).mono ?_
    rintro e w3 ⟨rfl, hq3⟩
    have hb3 := hb2.trans (hq3.mono hb2.size)
    have r3 := r2.below hq3
    obtain ⟨⟨x3_0, x3_1, x3_2, x3_3, x3_4, x3_5⟩, -⟩ := r3.all6
    rw [HK.out]
    go_wp2_with fail
    refine (implUniquesOk A1 A3 n1 c1 n3 c3 _ _ _ _ x.cols x.uniqs ok _ (h1.below ClR.stays hb3) (h3.below UqR.stays hb3) HL1.out HS3.out).mono ?_
    rintro e w4 ⟨rfl, hq4⟩
    have hb4 := hb3.trans (hq4.mono hb3.size)
    have r4 := r3.below hq4
    obtain ⟨⟨x4_0, x4_1, x4_2, x4_3, x4_4, x4_5⟩, -⟩ := r4.all6
    rw [HU.out]
    go_wp2_with fail
    refine (implChecksOk A1 A4 n1 c1 n4 c4 _ _ _ _ x.cols x.checks ok _ (h1.below ClR.stays hb4) (h4.below CkR.stays hb4) HL1.out HS4.out).mono ?_
    rintro e w5 ⟨rfl, hq5⟩
    have hb5 := hb4.trans (hq5.mono hb4.size)
    have r5 := r4.below hq5
    obtain ⟨⟨x5_0, x5_1, x5_2, x5_3, x5_4, x5_5⟩, -⟩ := r5.all6
    rw [HE.out]
    go_wp2_with fail
    go_ret
    exact ⟨retB (by unfold tableB; rw [HN.out, HC.out, HK.out, HU.out, HE.out]; rfl), hb5⟩
  have HE := Lib.hid hE
  clear hE
  cases hF : fksB x.cols x.fks
  · have HF := Lib.hid hF
    clear hF
    go_enter Tryz.func54, Tryz.ntmps54
    go_wp2_with fail
    refine (implIsName _ _ HNM.out).mono ?_
    rintro e w1 ⟨rfl, rfl⟩
    rw [HN.out]
    go_wp2_with fail
    refine (implColsOk A1 n1 c1 x.cols ok _ (h1.below ClR.stays hb0) HS1.out).mono ?_
    rintro e w2 ⟨rfl, hq2⟩
    have hb2 := hb0.trans (hq2.mono hb0.size)
    have r2 := r0.below hq2
    obtain ⟨⟨x2_0, x2_1, x2_2, x2_3, x2_4, x2_5⟩, -⟩ := r2.all6
    rw [HC.out]
    go_wp2_with fail
    refine (implKeyOk A1 A2 n1 c1 n2 c2 _ _ _ _ x.cols x.key ok _ (h1.below ClR.stays hb2) (h2.below IntR.stays hb2) HL1.out HL2.out).mono ?_
    rintro e w3 ⟨rfl, hq3⟩
    have hb3 := hb2.trans (hq3.mono hb2.size)
    have r3 := r2.below hq3
    obtain ⟨⟨x3_0, x3_1, x3_2, x3_3, x3_4, x3_5⟩, -⟩ := r3.all6
    rw [HK.out]
    go_wp2_with fail
    refine (implUniquesOk A1 A3 n1 c1 n3 c3 _ _ _ _ x.cols x.uniqs ok _ (h1.below ClR.stays hb3) (h3.below UqR.stays hb3) HL1.out HS3.out).mono ?_
    rintro e w4 ⟨rfl, hq4⟩
    have hb4 := hb3.trans (hq4.mono hb3.size)
    have r4 := r3.below hq4
    obtain ⟨⟨x4_0, x4_1, x4_2, x4_3, x4_4, x4_5⟩, -⟩ := r4.all6
    rw [HU.out]
    go_wp2_with fail
    refine (implChecksOk A1 A4 n1 c1 n4 c4 _ _ _ _ x.cols x.checks ok _ (h1.below ClR.stays hb4) (h4.below CkR.stays hb4) HL1.out HS4.out).mono ?_
    rintro e w5 ⟨rfl, hq5⟩
    have hb5 := hb4.trans (hq5.mono hb4.size)
    have r5 := r4.below hq5
    obtain ⟨⟨x5_0, x5_1, x5_2, x5_3, x5_4, x5_5⟩, -⟩ := r5.all6
    rw [HE.out]
    go_wp2_with fail
    refine (implFksOk A1 A5 n1 c1 n5 c5 _ _ _ _ x.cols x.fks ok _ (h1.below ClR.stays hb5) (h5.below FkR.stays hb5) HL1.out HS5.out).mono ?_
    rintro e w6 ⟨rfl, hq6⟩
    have hb6 := hb5.trans (hq6.mono hb5.size)
    have r6 := r5.below hq6
    obtain ⟨⟨x6_0, x6_1, x6_2, x6_3, x6_4, x6_5⟩, -⟩ := r6.all6
    rw [HF.out]
    go_wp2_with fail
    go_ret
    exact ⟨retB (by unfold tableB; rw [HN.out, HC.out, HK.out, HU.out, HE.out, HF.out]; rfl), hb6⟩
  have HF := Lib.hid hF
  clear hF
  go_enter Tryz.func54, Tryz.ntmps54
  go_wp2_with fail
  refine (implIsName _ _ HNM.out).mono ?_
  rintro e w1 ⟨rfl, rfl⟩
  rw [HN.out]
  go_wp2_with fail
  refine (implColsOk A1 n1 c1 x.cols ok _ (h1.below ClR.stays hb0) HS1.out).mono ?_
  rintro e w2 ⟨rfl, hq2⟩
  have hb2 := hb0.trans (hq2.mono hb0.size)
  have r2 := r0.below hq2
  obtain ⟨⟨x2_0, x2_1, x2_2, x2_3, x2_4, x2_5⟩, -⟩ := r2.all6
  rw [HC.out]
  go_wp2_with fail
  refine (implKeyOk A1 A2 n1 c1 n2 c2 _ _ _ _ x.cols x.key ok _ (h1.below ClR.stays hb2) (h2.below IntR.stays hb2) HL1.out HL2.out).mono ?_
  rintro e w3 ⟨rfl, hq3⟩
  have hb3 := hb2.trans (hq3.mono hb2.size)
  have r3 := r2.below hq3
  obtain ⟨⟨x3_0, x3_1, x3_2, x3_3, x3_4, x3_5⟩, -⟩ := r3.all6
  rw [HK.out]
  go_wp2_with fail
  refine (implUniquesOk A1 A3 n1 c1 n3 c3 _ _ _ _ x.cols x.uniqs ok _ (h1.below ClR.stays hb3) (h3.below UqR.stays hb3) HL1.out HS3.out).mono ?_
  rintro e w4 ⟨rfl, hq4⟩
  have hb4 := hb3.trans (hq4.mono hb3.size)
  have r4 := r3.below hq4
  obtain ⟨⟨x4_0, x4_1, x4_2, x4_3, x4_4, x4_5⟩, -⟩ := r4.all6
  rw [HU.out]
  go_wp2_with fail
  refine (implChecksOk A1 A4 n1 c1 n4 c4 _ _ _ _ x.cols x.checks ok _ (h1.below ClR.stays hb4) (h4.below CkR.stays hb4) HL1.out HS4.out).mono ?_
  rintro e w5 ⟨rfl, hq5⟩
  have hb5 := hb4.trans (hq5.mono hb4.size)
  have r5 := r4.below hq5
  obtain ⟨⟨x5_0, x5_1, x5_2, x5_3, x5_4, x5_5⟩, -⟩ := r5.all6
  rw [HE.out]
  go_wp2_with fail
  refine (implFksOk A1 A5 n1 c1 n5 c5 _ _ _ _ x.cols x.fks ok _ (h1.below ClR.stays hb5) (h5.below FkR.stays hb5) HL1.out HS5.out).mono ?_
  rintro e w6 ⟨rfl, hq6⟩
  have hb6 := hb5.trans (hq6.mono hb5.size)
  have r6 := r5.below hq6
  obtain ⟨⟨x6_0, x6_1, x6_2, x6_3, x6_4, x6_5⟩, -⟩ := r6.all6
  rw [HF.out]
  go_wp2_with fail
  go_ret
  exact ⟨retB (by unfold tableB; rw [HN.out, HC.out, HK.out, HU.out, HE.out, HF.out]; rfl), hb6⟩
end Go.Proofs.YthafgkcokecnnaaGreat
namespace Go.Proofs.YthafgkcokecnnaaGreat
open Go.RowKit

theorem keep8 {w w' : World} {a0 a1 a2 a3 a4 a5 a6 a7 : Addr} {v0 v1 v2 v3 v4 v5 v6 v7 : Value} (h : w.cell? a0 = some v0 ∧ w.cell? a1 = some v1 ∧ w.cell? a2 = some v2 ∧ w.cell? a3 = some v3 ∧ w.cell? a4 = some v4 ∧ w.cell? a5 = some v5 ∧ w.cell? a6 = some v6 ∧ w.cell? a7 = some v7) (hb : Below w.heap.size w w') : w'.cell? a0 = some v0 ∧ w'.cell? a1 = some v1 ∧ w'.cell? a2 = some v2 ∧ w'.cell? a3 = some v3 ∧ w'.cell? a4 = some v4 ∧ w'.cell? a5 = some v5 ∧ w'.cell? a6 = some v6 ∧ w'.cell? a7 = some v7 := by
  obtain ⟨h0, h1, h2, h3, h4, h5, h6, h7⟩ := h
  exact ⟨(hb.cell (cell_lt h0)).trans h0, (hb.cell (cell_lt h1)).trans h1, (hb.cell (cell_lt h2)).trans h2, (hb.cell (cell_lt h3)).trans h3, (hb.cell (cell_lt h4)).trans h4, (hb.cell (cell_lt h5)).trans h5, (hb.cell (cell_lt h6)).trans h6, (hb.cell (cell_lt h7)).trans h7⟩

theorem keep8s {w : World} {g b c i0 i1 i2 i3 i4 i5 i6 i7 : Nat} {x y z v0 v1 v2 v3 v4 v5 v6 v7 : Value} (hne : g ≠ b) (hne2 : g ≠ c)
    (h : w.cell? ⟨b, i0, none⟩ = some v0 ∧ w.cell? ⟨b, i1, none⟩ = some v1 ∧ w.cell? ⟨b, i2, none⟩ = some v2 ∧ w.cell? ⟨c, i3, none⟩ = some v3 ∧ w.cell? ⟨c, i4, none⟩ = some v4 ∧ w.cell? ⟨c, i5, none⟩ = some v5 ∧ w.cell? ⟨c, i6, none⟩ = some v6 ∧ w.cell? ⟨c, i7, none⟩ = some v7) :
    (((w.setCell ⟨g, 0, none⟩ x).setCell ⟨g, 1, none⟩ y).setCell ⟨g, 2, none⟩ z).cell? ⟨b, i0, none⟩ = some v0 ∧ (((w.setCell ⟨g, 0, none⟩ x).setCell ⟨g, 1, none⟩ y).setCell ⟨g, 2, none⟩ z).cell? ⟨b, i1, none⟩ = some v1 ∧
    (((w.setCell ⟨g, 0, none⟩ x).setCell ⟨g, 1, none⟩ y).setCell ⟨g, 2, none⟩ z).cell? ⟨b, i2, none⟩ = some v2 ∧ (((w.setCell ⟨g, 0, none⟩ x).setCell ⟨g, 1, none⟩ y).setCell ⟨g, 2, none⟩ z).cell? ⟨c, i3, none⟩ = some v3 ∧
    (((w.setCell ⟨g, 0, none⟩ x).setCell ⟨g, 1, none⟩ y).setCell ⟨g, 2, none⟩ z).cell? ⟨c, i4, none⟩ = some v4 ∧ (((w.setCell ⟨g, 0, none⟩ x).setCell ⟨g, 1, none⟩ y).setCell ⟨g, 2, none⟩ z).cell? ⟨c, i5, none⟩ = some v5 ∧
    (((w.setCell ⟨g, 0, none⟩ x).setCell ⟨g, 1, none⟩ y).setCell ⟨g, 2, none⟩ z).cell? ⟨c, i6, none⟩ = some v6 ∧ (((w.setCell ⟨g, 0, none⟩ x).setCell ⟨g, 1, none⟩ y).setCell ⟨g, 2, none⟩ z).cell? ⟨c, i7, none⟩ = some v7 :=
  ⟨stayThree hne h.1, stayThree hne h.2.1, stayThree hne h.2.2.1, stayThree hne2 h.2.2.2.1, stayThree hne2 h.2.2.2.2.1, stayThree hne2 h.2.2.2.2.2.1, stayThree hne2 h.2.2.2.2.2.2.1, stayThree hne2 h.2.2.2.2.2.2.2⟩

theorem ops_at (k : Nat) (h : k < 11) : ∃ o0 o2, opsCells[k * 3]? = some o0 ∧ opsCells[k * 3 + 2]? = some o2 := by
  have hs : opsCells.size = 33 := rfl
  exact ⟨opsCells[k * 3], opsCells[k * 3 + 2], Array.getElem?_eq_getElem (by omega), Array.getElem?_eq_getElem (by omega)⟩

theorem Vals.drew {w : World} {A : Option Addr} {n : Nat} {vs : List Vl} (h : Vals w A n vs) : Vals w.drew A n vs := h

/-- The answer of a value, zero where there is none. -/
def EvalPost (o : Option Vl) (w : World) (e : Ending) (w' : World) : Prop := e = .returned (.tuple #[.agg #[.int .i64 (o.getD Vl.zero).k, .int .i64 (o.getD Vl.zero).n, .string (o.getD Vl.zero).s], .bool o.isSome]) ∧ Below w.heap.size w w'

end Go.Proofs.YthafgkcokecnnaaGreat
namespace Go.Proofs.YthafgkcokecnnaaGreat
open Go.RowKit

theorem evalGo_ok {row : List Vl} {cols : Int} (hrow : ∀ v ∈ row, v.ok = true) : ∀ (ts : List Tk) (l m : Nat) (st st' : List Vl), exprGo cols ts l = some m → (∀ v ∈ st, v.ok = true) → evalGo row ts st = some st' → ∀ v ∈ st', v.ok = true
  | [], _, _, st, st', _, hs, he => by simp [evalGo] at he; subst he; exact hs
  | t :: ts, l, m, st, st', hx, hs, he => by
    simp only [exprGo] at hx
    split at hx
    · rename_i hc
      simp only [evalGo, evalStep] at he
      cases htv : tokVal row t (st.drop (st.length - takes t.k)) with
      | none => simp [htv] at he
      | some v =>
        simp only [htv, Option.map_some, Option.bind_some] at he
        refine evalGo_ok hrow ts _ m _ st' hx ?_ he
        intro u hu
        rw [List.mem_append, List.mem_singleton] at hu
        rcases hu with hu | rfl
        · exact hs u (List.mem_of_mem_take hu)
        · exact tokVal_ok hrow hc.1 htv
    · cases hx

theorem evalB_ok {ts : List Tk} {row : List Vl} {v : Vl} (h : evalB ts row = some v) : v.ok = true := by
  unfold evalB at h
  split at h
  · rename_i hc
    rw [Bool.and_eq_true] at hc
    obtain ⟨st, hst, hv⟩ := Option.bind_eq_some_iff.1 h
    have hrow : ∀ v ∈ row, v.ok = true := by have := hc.1; simp [rowB] at this; exact this.2
    exact evalGo_ok hrow ts 0 1 [] st (exprB_go hc.2).1 (by simp) hst v (List.mem_of_getElem? hv)
  · cases h

/-- The truth of an expression; -1: there is none. -/
def truthB (ts : List Tk) (row : List Vl) : Int := match evalB ts row with
  | some v => truOf v
  | none => -1

end Go.Proofs.YthafgkcokecnnaaGreat
namespace Go.Proofs.YthafgkcokecnnaaGreat
open Go.RowKit Go.Maps
set_option linter.unusedVariables false

def fitV (p : Cl × Vl) : Bool := fitsB p.1.kind p.2
def nullV (p : Cl × Vl) : Bool := !(p.1.nn && p.2.k == 0)
def truOkB (t : Int) : Bool := t == 1 || t == 2
def ckV (row : List Vl) (u : Ck) : Bool := truOkB (truthB u.expr row)
def fitAll (cols : List Cl) (row : List Vl) : Bool := (cols.zip row).all fitV
def kindsB (cols : List Cl) (row : List Vl) : Bool := decide (row.length = cols.length) && fitAll cols row
def nullsB (cols : List Cl) (row : List Vl) : Bool := (cols.zip row).all nullV
def checksB (cks : List Ck) (row : List Vl) : Bool := cks.all (ckV row)
def rowOkB (t : Tb) (row : List Vl) : Bool := tableB t && (kindsB t.cols row && (nullsB t.cols row && checksB t.checks row))

theorem keepF {w w' : World} {a0 a1 a2 a3 a4 : Addr} {v0 v1 v2 v3 v4 : Value} (h : w.cell? a0 = some v0 ∧ w.cell? a1 = some v1 ∧ w.cell? a2 = some v2 ∧ w.cell? a3 = some v3 ∧ w.cell? a4 = some v4) (hb : Below w.heap.size w w') : w'.cell? a0 = some v0 ∧ w'.cell? a1 = some v1 ∧ w'.cell? a2 = some v2 ∧ w'.cell? a3 = some v3 ∧ w'.cell? a4 = some v4 := by
  obtain ⟨h0, h1, h2, h3, h4⟩ := h
  exact ⟨(hb.cell (cell_lt h0)).trans h0, (hb.cell (cell_lt h1)).trans h1, (hb.cell (cell_lt h2)).trans h2, (hb.cell (cell_lt h3)).trans h3, (hb.cell (cell_lt h4)).trans h4⟩

set_option maxRecDepth 100000 in
set_option maxHeartbeats 1000000 in
theorem implFits (g : Nat) (A1 AR : Option Addr) (n1 c1 nR cR : Nat) (v0 v2 v3 v4 v5 : Value) (cols : List Cl) (row : List Vl) (ok : Nat → Prop) (w : World)
    (hr : Row w g 59 #[v0, .slice A1 n1 c1, v2, v3, v4, v5]) (h : Sl ClR 6 ok w A1 n1 cols) (hv : Vals w AR nR row) (hn1 : n1 ≤ 1048576) (hn2 : nR ≤ 1048576) :
    Calls Tryz.prog 58 #[.pointer (some ⟨g, 0, none⟩), .slice AR nR cR] w fun e w' => e = .returned (.bool (kindsB cols row)) ∧ Below w.heap.size w w' := by
  obtain rfl : cols.length = n1 := h.1
  obtain rfl : row.length = nR := hv.len
  obtain ⟨⟨x0, x1, x2, x3, x4, x5⟩, -⟩ := hr.all6
  cases hl : (row.length == cols.length)
  · have hl' : ¬ ((row.length : Int) = cols.length) := by have := beq_eq_false_iff_ne.1 hl; omega
    have HF := Lib.hid (show kindsB cols row = false by unfold kindsB; rw [decide_eq_false (beq_eq_false_iff_ne.1 hl)]; rfl)
    clear hl
    go_enter Tryz.func58, Tryz.ntmps58
    go_wp2
    go_ret
    exact ⟨retB HF.out.symm, Below.refl _ _⟩
  have hlen : row.length = cols.length := by simpa using hl
  have hl' : (row.length : Int) = cols.length := by omega
  have hz : (cols.zip row).length = cols.length := by simp [hlen]
  have HZ := Lib.hid hz
  have HL := Lib.hid hlen
  have HE := Lib.hid (show kindsB cols row = fitAll cols row by unfold kindsB; rw [decide_eq_true hlen]; rfl)
  clear hl hz hlen
  go_enter Tryz.func58, Tryz.ntmps58
  go_wp2
  go_loopw [17] (fun i wr => ∃ k : Nat, k ≤ cols.length ∧ i = .int .i64 k ∧ Hid (((cols.zip row).take k).all fitV = true) ∧ Below w.heap.size w wr) (fun i _ => cols.length - (intOf i).toNat)
  case atStart => exact ⟨0, by omega, rfl, Lib.hid (by simp), Below.refl _ _⟩
  case round =>
    obtain ⟨k, hk, rfl, hall, hb⟩ := hrel
    by_cases hlt : k < cols.length
    · have hlt2 : k < row.length := by have := HL.out; omega
      have hbx := (Below.refl wr.heap.size wr).alloc (Nat.le_refl _) (.cells #[.int .i64 row[k].k, .int .i64 row[k].n, .string row[k].s] 95)
      have hba := hb.trans (hbx.mono hb.size)
      have rv := Row.new wr 95 #[.int .i64 row[k].k, .int .i64 row[k].n, .string row[k].s]
      obtain ⟨b2, off2, rfl, p0, p1, p2⟩ := (hv.below hb).at_ hlt2
      obtain ⟨b, off, -, rfl, q0, q1, q2, q3, q4, q5⟩ := ClR.at_ (h.below ClR.stays hba) hlt
      obtain ⟨⟨d0, d1, d2, d3, d4, d5⟩, -⟩ := (hr.below hba).all6
      obtain ⟨⟨f0, f1, f2⟩, -⟩ := rv.three
      have hsn := all_take fitV (cols.zip row) k (by rw [HZ.out]; exact hlt)
      have hno := fun hf => all_no fitV (cols.zip row) k (by rw [HZ.out]; exact hlt) hf
      have eg : fitV ((cols.zip row)[k]'(by rw [HZ.out]; exact hlt)) = fitsB cols[k].kind row[k] := by rw [List.getElem_zip]; rfl
      rw [hall.out, Bool.true_and, eg] at hsn
      rw [eg] at hno
      have i0 : (0 : Int) ≤ k := by omega
      have i1 : (k : Int) < cols.length := by omega
      have i2 : (k : Int) < row.length := by have := HL.out; omega
      clear eg
      cases hc : fitsB cols[k].kind row[k]
      · have HC := Lib.hid hc
        have HF := Lib.hid (show kindsB cols row = false by rw [HE.out]; exact hno hc)
        clear hsn hno hc hall
        go_wp2_with fail
        go_region_held3 (fun w' => w'.cell? ⟨g, 1, none⟩ = some (.slice (some ⟨b, off, none⟩) cols.length c1) ∧ w'.cell? ⟨b, off + k * 6 + 1, none⟩ = some (.int .i64 cols[k].kind) ∧ w'.cell? ⟨wr.heap.size, 0, none⟩ = some (.int .i64 row[k].k) ∧ w'.cell? ⟨wr.heap.size, 1, none⟩ = some (.int .i64 row[k].n) ∧ w'.cell? ⟨wr.heap.size, 2, none⟩ = some (.string row[k].s))
          (first | go_keep | exact keepF (by assumption) hb1)
          (first | (go_at_call 94; refine (implValFits cols[k].kind row[k] _).mono ?_; rintro e w1 ⟨rfl, hb1⟩; rw [HC.out]))
        all_goals
          go_wp2
          go_ret
          exact ⟨retB HF.out.symm, hba.drew.trans (hb1.mono hba.size)⟩
      · have HC := Lib.hid hc
        have HA := Lib.hid (hsn.trans hc)
        clear hsn hno hc hall
        go_wp2_with fail
        go_region_held3 (fun w' => w'.cell? ⟨g, 1, none⟩ = some (.slice (some ⟨b, off, none⟩) cols.length c1) ∧ w'.cell? ⟨b, off + k * 6 + 1, none⟩ = some (.int .i64 cols[k].kind) ∧ w'.cell? ⟨wr.heap.size, 0, none⟩ = some (.int .i64 row[k].k) ∧ w'.cell? ⟨wr.heap.size, 1, none⟩ = some (.int .i64 row[k].n) ∧ w'.cell? ⟨wr.heap.size, 2, none⟩ = some (.string row[k].s))
          (first | go_keep | exact keepF (by assumption) hb1)
          (first | (go_at_call 94; refine (implValFits cols[k].kind row[k] _).mono ?_; rintro e w1 ⟨rfl, hb1⟩; rw [HC.out]))
        all_goals
          go_wp2
          go_roundw
          case rel => exact ⟨k + 1, by omega, by go_num, Lib.hid HA.out, hba.drew.trans (hb1.mono hba.size)⟩
          case measure => simp [intOf]; omega
    · have e : (cols.zip row).take k = cols.zip row := List.take_of_length_le (by rw [HZ.out]; omega)
      have h1 := hall.out
      rw [e] at h1
      have HF := Lib.hid (show kindsB cols row = true by rw [HE.out]; exact h1)
      clear e h1 hall
      go_wp2
      go_ret
      exact ⟨retB HF.out.symm, hb⟩

end Go.Proofs.YthafgkcokecnnaaGreat
namespace Go.Proofs.YthafgkcokecnnaaGreat
open Go.RowKit Go.Maps
set_option linter.unusedVariables false
set_option linter.unusedSimpArgs false

def kindAt (cols : List Cl) (i : Int) : Int := (cols[i.toNat]?.map Cl.kind).getD 0
def kindV (c1 c2 : List Cl) (p : Int × Int) : Bool := kindAt c1 p.1 == kindAt c2 p.2
def sameB (c1 : List Cl) (l1 : List Int) (c2 : List Cl) (l2 : List Int) : Bool := decide (l1.length = l2.length) && (l1.zip l2).all (kindV c1 c2)
def leadB (s : List Tb) (x : Tb) (f : Fk) : Bool := decide (atN (s.map Tb.name) f.table ≠ -1) && (match s[(atN (s.map Tb.name) f.table).toNat]? with | some o => sameB x.cols f.cols o.cols o.key | none => false)
def leadsB (s : List Tb) (x : Tb) : Bool := x.fks.all (leadB s x)
def schemaB (s : List Tb) : Bool := decide (s.length ≤ 5) && (s.all tableB && (uniqGo [] (s.map Tb.name) && s.all (leadsB s)))
theorem kindAt_nat {cols : List Cl} {j : Nat} (h : j < cols.length) : kindAt cols j = cols[j].kind := by
  unfold kindAt; simp [List.getElem?_eq_getElem h]
theorem PlacesIn.below {w w' : World} {b : Nat} {names : List ByteArray} (h : PlacesIn w b names) (hb : Below w.heap.size w w') : PlacesIn w' b names :=
  h.kept (row := none) ⟨hb.os, hb.tape, hb.output, hb.size, fun k hk _ => hb.block k hk⟩ (by simp)

set_option maxRecDepth 100000 in
set_option maxHeartbeats 1000000 in
theorem implSameKinds (A1 AK B1 BK : Option Addr) (n1 c1 nK cK m1 d1 mK dK : Nat) (v0 v2 v3 v4 v5 u0 u2 u3 u4 u5 : Value) (cols1 cols2 : List Cl) (l1 l2 : List Int) (ok : Nat → Prop) (w : World)
    (h1 : Sl ClR 6 ok w A1 n1 cols1) (hk1 : Sl IntR 1 ok w AK nK l1) (h2 : Sl ClR 6 ok w B1 m1 cols2) (hk2 : Sl IntR 1 ok w BK mK l2) (hin1 : ∀ x ∈ l1, 0 ≤ x ∧ x < cols1.length) (hin2 : ∀ x ∈ l2, 0 ≤ x ∧ x < cols2.length)
    (hn1 : n1 ≤ 1048576) (hnK : nK ≤ 1048576) (hm1 : m1 ≤ 1048576) (hmK : mK ≤ 1048576) :
    Calls Tryz.prog 93 #[.agg #[v0, .slice A1 n1 c1, v2, v3, v4, v5], .slice AK nK cK, .agg #[u0, .slice B1 m1 d1, u2, u3, u4, u5], .slice BK mK dK] w fun e w' => e = .returned (.bool (sameB cols1 l1 cols2 l2)) ∧ Below w.heap.size w w' := by
  obtain rfl : cols1.length = n1 := h1.1
  obtain rfl : cols2.length = m1 := h2.1
  obtain rfl : l1.length = nK := hk1.1
  obtain rfl : l2.length = mK := hk2.1
  have HI1 := Lib.hid hin1
  have HI2 := Lib.hid hin2
  clear hin1 hin2
  have hb0 := ((Below.refl w.heap.size w).alloc (Nat.le_refl _) (.cells #[v0, .slice A1 cols1.length c1, v2, v3, v4, v5] 59)).alloc (by simp) (.cells #[u0, .slice B1 cols2.length d1, u2, u3, u4, u5] 59)
  have r1 := (Row.new w 59 #[v0, .slice A1 cols1.length c1, v2, v3, v4, v5]).alloc (.cells #[u0, .slice B1 cols2.length d1, u2, u3, u4, u5] 59)
  have r2 := Row.newAt (w.alloc (.cells #[v0, .slice A1 cols1.length c1, v2, v3, v4, v5] 59)) 59 #[u0, .slice B1 cols2.length d1, u2, u3, u4, u5] (w.heap.size + 1) (by simp)
  cases hl : (l1.length == l2.length)
  · have hl' : ¬ ((l1.length : Int) = l2.length) := by have := beq_eq_false_iff_ne.1 hl; omega
    have HF := Lib.hid (show sameB cols1 l1 cols2 l2 = false by unfold sameB; rw [decide_eq_false (beq_eq_false_iff_ne.1 hl)]; rfl)
    clear hl
    go_enter Tryz.func93, Tryz.ntmps93
    go_wp2
    go_ret
    exact ⟨retB HF.out.symm, hb0⟩
  have hlen : l1.length = l2.length := by simpa using hl
  have hl' : (l1.length : Int) = l2.length := by omega
  have hz : (l1.zip l2).length = l1.length := by simp [hlen]
  have HZ := Lib.hid hz
  have HL := Lib.hid hlen
  have HE := Lib.hid (show sameB cols1 l1 cols2 l2 = (l1.zip l2).all (kindV cols1 cols2) by unfold sameB; rw [decide_eq_true hlen]; rfl)
  clear hl hz hlen
  go_enter Tryz.func93, Tryz.ntmps93
  go_wp2_with fail
  clear hl'
  generalize (w.alloc (.cells #[v0, .slice A1 cols1.length c1, v2, v3, v4, v5] 59)).alloc (.cells #[u0, .slice B1 cols2.length d1, u2, u3, u4, u5] 59) = x0 at *
  go_loopw [17] (fun i wr => ∃ k : Nat, k ≤ l1.length ∧ i = .int .i64 k ∧ Hid (((l1.zip l2).take k).all (kindV cols1 cols2) = true) ∧ Row wr w.heap.size 59 #[v0, .slice A1 cols1.length c1, v2, v3, v4, v5] ∧ Row wr (w.heap.size + 1) 59 #[u0, .slice B1 cols2.length d1, u2, u3, u4, u5] ∧ Below w.heap.size w wr) (fun i _ => l1.length - (intOf i).toNat)
  case atStart => exact ⟨0, by omega, rfl, Lib.hid (by simp), r1, r2, hb0⟩
  case round =>
    obtain ⟨k, hk, rfl, hall, hr1, hr2, hb⟩ := hrel
    by_cases hlt : k < l1.length
    · have hlt2 : k < l2.length := by have := HL.out; omega
      obtain ⟨⟨a0, a1, a2, a3, a4, a5⟩, -⟩ := hr1.all6
      obtain ⟨⟨z0, z1, z2, z3, z4, z5⟩, -⟩ := hr2.all6
      obtain ⟨bk, offk, -, rfl, p0⟩ := IntR.at_ (hk1.below IntR.stays hb) hlt
      obtain ⟨bl, offl, -, rfl, p1⟩ := IntR.at_ (hk2.below IntR.stays hb) hlt2
      have hi1 := HI1.out _ (List.getElem_mem hlt)
      have hi2 := HI2.out _ (List.getElem_mem hlt2)
      have hsn := all_take (kindV cols1 cols2) (l1.zip l2) k (by rw [HZ.out]; exact hlt)
      have hno := fun hf => all_no (kindV cols1 cols2) (l1.zip l2) k (by rw [HZ.out]; exact hlt) hf
      obtain ⟨j1, hj1⟩ : ∃ j : Nat, l1[k] = (j : Int) := ⟨l1[k].toNat, by omega⟩
      obtain ⟨j2, hj2⟩ : ∃ j : Nat, l2[k] = (j : Int) := ⟨l2[k].toNat, by omega⟩
      rw [hj1] at p0 hi1
      rw [hj2] at p1 hi2
      have hjl1 : j1 < cols1.length := by omega
      have hjl2 : j2 < cols2.length := by omega
      have eg : kindV cols1 cols2 ((l1.zip l2)[k]'(by rw [HZ.out]; exact hlt)) = (cols1[j1].kind == cols2[j2].kind) := by
        rw [List.getElem_zip]; unfold kindV; simp only [hj1, hj2, kindAt_nat hjl1, kindAt_nat hjl2]
      rw [hall.out, Bool.true_and, eg] at hsn
      rw [eg] at hno
      obtain ⟨b, off, -, rfl, q0, q1, q2, q3, q4, q5⟩ := ClR.at_ (h1.below ClR.stays hb) hjl1
      obtain ⟨b', off', -, rfl, y0, y1, y2, y3, y4, y5⟩ := ClR.at_ (h2.below ClR.stays hb) hjl2
      have i0 : (0 : Int) ≤ k := by omega
      have i1 : (k : Int) < l1.length := by omega
      have i2 : (k : Int) < l2.length := by omega
      have i3 : (0 : Int) ≤ j1 := by omega
      have i4 : (j1 : Int) < cols1.length := by omega
      have i5 : (0 : Int) ≤ j2 := by omega
      have i6 : (j2 : Int) < cols2.length := by omega
      clear eg hj1 hj2 hi1 hi2
      cases hc : (cols1[j1].kind == cols2[j2].kind)
      · have HF := Lib.hid (show sameB cols1 l1 cols2 l2 = false by rw [HE.out]; exact hno hc)
        have hc2 : (cols1[j1].kind != cols2[j2].kind) = true := by rw [bne, hc]; rfl
        clear hsn hno hall
        go_wp2_with fail
        go_quiet (fail)
        go_wp2_with fail
        go_ret
        exact ⟨retB HF.out.symm, below_drewN hb _⟩
      · have HA := Lib.hid (hsn.trans hc)
        have hc2 : (cols1[j1].kind != cols2[j2].kind) = false := by rw [bne, hc]; rfl
        clear hsn hno hall
        go_wp2_with fail
        go_quiet (fail)
        go_wp2_with fail
        go_roundw
        case rel => exact ⟨k + 1, by omega, by go_num, Lib.hid HA.out, hr1.drewN _, hr2.drewN _, below_drewN hb _⟩
        case measure => simp [intOf]; omega
    · have e : (l1.zip l2).take k = l1.zip l2 := List.take_of_length_le (by rw [HZ.out]; omega)
      have h1 := hall.out
      rw [e] at h1
      have HF := Lib.hid (show sameB cols1 l1 cols2 l2 = true by rw [HE.out]; exact h1)
      have i3 : ¬ (k : Int) < l2.length := by have := HL.out; omega
      clear e h1 hall
      go_wp2
      go_ret
      exact ⟨retB HF.out.symm, hb⟩

theorem fk_cols {x : Tb} (hx : tableB x = true) {k : Nat} (hlt : k < x.fks.length) : ∀ y ∈ x.fks[k].cols, 0 ≤ y ∧ y < x.cols.length := by
  unfold tableB fksB at hx
  simp only [Bool.and_eq_true, decide_eq_true_eq] at hx
  have := List.all_eq_true.1 hx.2.2.2.2.2.2 _ (List.getElem_mem hlt)
  unfold fkB at this
  rw [Bool.and_eq_true] at this
  exact (colsInB_len this.1).2
theorem key_cols {x : Tb} (hx : tableB x = true) : ∀ y ∈ x.key, 0 ≤ y ∧ y < x.cols.length := by
  unfold tableB keyB at hx
  simp only [Bool.and_eq_true] at hx
  exact (colsInB_len hx.2.2.1.1).2

set_option maxRecDepth 100000 in
set_option maxHeartbeats 2000000 in
theorem implFksLead (s : List Tb) (x : Tb) (AS : Option Addr) (nS cS bm : Nat) (A1 : Option Addr) (n1 c1 : Nat) (A2 : Option Addr) (n2 c2 : Nat) (A3 : Option Addr) (n3 c3 : Nat) (A4 : Option Addr) (n4 c4 : Nat) (A5 : Option Addr) (n5 c5 : Nat) (ok : Nat → Prop) (w : World)
    (hs : Sl TbR 6 ok w AS nS s) (hp : PlacesIn w bm (s.map Tb.name)) (h1 : Sl ClR 6 ok w A1 n1 x.cols) (h5 : Sl FkR 5 ok w A5 n5 x.fks) (hx : tableB x = true) (hall : s.all tableB = true) (hsz : szL Tb.sz s ≤ 1048576) (hxs : x.sz ≤ 1048576) :
    Calls Tryz.prog 56 #[.slice AS nS cS, .map (some bm), .agg #[.string x.name, .slice A1 n1 c1, .slice A2 n2 c2, .slice A3 n3 c3, .slice A4 n4 c4, .slice A5 n5 c5]] w fun e w' => e = .returned (.bool (leadsB s x)) ∧ Below w.heap.size w w' := by
  obtain rfl : s.length = nS := hs.1
  obtain rfl : x.fks.length = n5 := h5.1
  have e1 := h1.1
  have HN1 := Lib.hid (show n1 ≤ 1048576 by unfold Tb.sz szL at hxs; omega)
  have hn5 : x.fks.length ≤ 1048576 := by unfold Tb.sz szL at hxs; omega
  have HXS := Lib.hid (show szL Fk.sz x.fks ≤ 1048576 by unfold Tb.sz at hxs; omega)
  have HSZ := Lib.hid hsz
  have HX := Lib.hid hx
  have HALL := Lib.hid hall
  clear hsz hxs hx hall e1
  have hb0 := (Below.refl w.heap.size w).alloc (Nat.le_refl _) (.cells #[.string x.name, .slice A1 n1 c1, .slice A2 n2 c2, .slice A3 n3 c3, .slice A4 n4 c4, .slice A5 x.fks.length c5] 59)
  have r0 := Row.new w 59 #[.string x.name, .slice A1 n1 c1, .slice A2 n2 c2, .slice A3 n3 c3, .slice A4 n4 c4, .slice A5 x.fks.length c5]
  have hp0 := hp.alloc (.cells #[.string x.name, .slice A1 n1 c1, .slice A2 n2 c2, .slice A3 n3 c3, .slice A4 n4 c4, .slice A5 x.fks.length c5] 59)
  go_enter Tryz.func56, Tryz.ntmps56
  go_wp2_with fail
  generalize w.alloc (.cells #[.string x.name, .slice A1 n1 c1, .slice A2 n2 c2, .slice A3 n3 c3, .slice A4 n4 c4, .slice A5 x.fks.length c5] 59) = x0 at *
  go_loopw [14] (fun i wr => ∃ k : Nat, k ≤ x.fks.length ∧ i = .int .i64 k ∧ Hid ((x.fks.take k).all (leadB s x) = true) ∧ Row wr w.heap.size 59 #[.string x.name, .slice A1 n1 c1, .slice A2 n2 c2, .slice A3 n3 c3, .slice A4 n4 c4, .slice A5 x.fks.length c5] ∧ PlacesIn wr bm (s.map Tb.name) ∧ Below w.heap.size w wr) (fun i _ => x.fks.length - (intOf i).toNat)
  case atStart => exact ⟨0, by omega, rfl, Lib.hid (by simp), r0, hp0, hb0⟩
  case round =>
    clear hp hp0 r0 hb0
    obtain ⟨k, hk, rfl, hall, hr, hp, hb⟩ := hrel
    by_cases hlt : k < x.fks.length
    · obtain ⟨b, off, A9, n9, c9, -, rfl, q0, q1, q2, q3, q4, hfc, -⟩ := FkR.at_ (h5.below FkR.stays hb) hlt
      obtain rfl : x.fks[k].cols.length = n9 := hfc.1
      have hsn := all_take (leadB s x) x.fks k hlt
      rw [hall.out, Bool.true_and] at hsn
      have hno := fun hf : leadB s x x.fks[k] = false => show leadsB s x = false from all_no (leadB s x) x.fks k hlt hf
      have hfk : x.fks[k].cols.length ≤ 1048576 ∧ x.fks[k].table.size ≤ 1048576 := by have := HXS.out; have := sum_mem_le Fk.sz x.fks k hlt; unfold szL at *; simp only [Fk.sz] at *; omega
      have HN9 := Lib.hid hfk.1
      have HTB := Lib.hid (show x.fks[k].table.size ≤ maxLen by have := hfk.2; unfold maxLen; omega)
      have HI1 := Lib.hid (show ∀ y ∈ x.fks[k].cols, 0 ≤ y ∧ y < x.cols.length from fk_cols HX.out hlt)
      clear hfk
      generalize x.fks[k] = f at *
      have hbx := (Below.refl wr.heap.size wr).alloc (Nat.le_refl _) (.cells #[.slice A9 f.cols.length c9, .string f.table, .int .i64 f.del, .int .i64 f.upd, .bool f.dfr] 94)
      have hba := hb.trans (hbx.mono hb.size)
      have rf := Row.new wr 94 #[.slice A9 f.cols.length c9, .string f.table, .int .i64 f.del, .int .i64 f.upd, .bool f.dfr]
      have hr1 := hr.below hbx
      have hp1 := hp.below hbx
      obtain ⟨⟨f0, f1, f2, f3, f4⟩, -⟩ := rf.five
      obtain ⟨⟨x0, x1, x2, x3, x4, x5⟩, -⟩ := hr1.all6
      obtain ⟨D, m1', m2', m3, m4, m5⟩ := id hp1
      have hh := m3 f.table
      clear m5 m3 m2'
      by_cases hno1 : atN (s.map Tb.name) f.table = -1
      · rw [decide_eq_false (by simp [hno1])] at hh
        have HH := Lib.hid hh
        have HF := Lib.hid (hno (by unfold leadB; rw [decide_eq_false (by simp [hno1])]; rfl))
        clear hh hno1 hno hsn hall m4
        go_wp2_with (first
          | (at_lookup; refine wpList_lookup_own_ok_int _ rfl _ _ 116 rfl 9 2 .i64 lawS Tryz.underlying116 Tryz.underlying2 (zeroI _) bm _ D rfl m1' _ _ rfl (keyS_of f.table HTB.out) ?_; intro c hat hwc; rw [HH.out]))
        clear hat hwc m1'
        go_quiet (fail)
        go_wp2_with fail
        go_ret
        exact ⟨retB HF.out.symm, below_drewN hba _⟩
      rw [decide_eq_true hno1] at hh
      have HH := Lib.hid hh
      obtain ⟨j, hj, hjl⟩ : ∃ j : Nat, atN (s.map Tb.name) f.table = (j : Int) ∧ j < s.length := by
        rcases atN_rng (s.map Tb.name) f.table with h | h
        · exact absurd h hno1
        · rw [List.length_map] at h; exact ⟨(atN (s.map Tb.name) f.table).toNat, by omega, by omega⟩
      have hm4 := m4 f.table hno1
      rw [hj] at hm4
      have HA := Lib.hid hm4
      have hld : leadB s x f = sameB x.cols f.cols s[j].cols s[j].key := by
        unfold leadB; rw [decide_eq_true hno1, hj]; simp [List.getElem?_eq_getElem hjl]
      rw [hld] at hsn hno
      obtain ⟨bs, offs, B1, m1, d1, B2, m2, d2, B3, m3, d3, B4, m4', d4, B5, m5, d5, -, rfl, y0, y1, y2, y3, y4, y5, hs1, hs2, -, -, -, -⟩ := TbR.at_ (hs.below TbR.stays hba) hjl
      have hx1 := h1.below ClR.stays hba
      have hfc := hfc.below IntR.stays hbx
      have hto : tableB s[j] = true := List.all_eq_true.1 HALL.out _ (List.getElem_mem hjl)
      have HI2 := Lib.hid (show ∀ y ∈ s[j].key, 0 ≤ y ∧ y < s[j].cols.length from key_cols hto)
      have hsj : m1 ≤ 1048576 ∧ m2 ≤ 1048576 := by have := HSZ.out; have := sum_mem_le Tb.sz s j hjl; have := hs1.1; have := hs2.1; unfold szL at *; simp only [Tb.sz] at *; unfold szL at *; omega
      have HM1 := Lib.hid hsj.1
      have HM2 := Lib.hid hsj.2
      have i0 : (0 : Int) ≤ j := by omega
      have i1 : (j : Int) < s.length := by omega
      clear hh hno1 hall m4 hm4 hj hld hto hsj
      cases hsm : sameB x.cols f.cols s[j].cols s[j].key
      · have HSM := Lib.hid hsm
        have HF := Lib.hid (hno hsm)
        clear hsn hno hsm
        go_wp2_with (first
          | (at_lookup; refine wpList_lookup_own_ok_int _ rfl _ _ 116 rfl 9 2 .i64 lawS Tryz.underlying116 Tryz.underlying2 (zeroI _) bm _ D rfl m1' _ _ rfl (keyS_of f.table HTB.out) ?_; intro c hat hwc; rw [HH.out]))
        obtain rfl : c = (j : Int) := by have := HA.out; rw [hat] at this; simpa using this
        clear hat hwc m1'
        generalize wr.alloc (.cells #[.slice A9 f.cols.length c9, .string f.table, .int .i64 f.del, .int .i64 f.upd, .bool f.dfr] 94) = z1 at *
        refine wp_region_noPanic ?_
        refine wp_region_held_drew (S := fun w' => w'.cell? ⟨w.heap.size, 0, none⟩ = some (.string x.name) ∧ w'.cell? ⟨w.heap.size, 1, none⟩ = some (.slice A1 n1 c1) ∧ w'.cell? ⟨w.heap.size, 2, none⟩ = some (.slice A2 n2 c2) ∧ w'.cell? ⟨w.heap.size, 3, none⟩ = some (.slice A3 n3 c3) ∧ w'.cell? ⟨w.heap.size, 4, none⟩ = some (.slice A4 n4 c4) ∧ w'.cell? ⟨w.heap.size, 5, none⟩ = some (.slice (some ⟨b,off,none⟩) x.fks.length c5) ∧ w'.cell? ⟨wr.heap.size, 0, none⟩ = some (.slice A9 f.cols.length c9) ∧ w'.cell? ⟨bs, offs + j * 6, none⟩ = some (.string s[j].name) ∧ w'.cell? ⟨bs, offs + j * 6 + 1, none⟩ = some (.slice B1 m1 d1) ∧ w'.cell? ⟨bs, offs + j * 6 + 2, none⟩ = some (.slice B2 m2 d2) ∧ w'.cell? ⟨bs, offs + j * 6 + 3, none⟩ = some (.slice B3 m3 d3) ∧ w'.cell? ⟨bs, offs + j * 6 + 4, none⟩ = some (.slice B4 m4' d4) ∧ w'.cell? ⟨bs, offs + j * 6 + 5, none⟩ = some (.slice B5 m5 d5)) (by kernel_rfl) ⟨x0, x1, x2, x3, x4, x5, f0, y0, y1, y2, y3, y4, y5⟩ (fun hHeld => ?_)
        refine wpAnyH_take (i := 0) (v := ?v1) rfl (by kernel_rfl) (by kernel_rfl) (by kernel_rfl) (fun _ _ _ h => h) (Or.inl ⟨by rfl, ?hy1⟩) hHeld ?rest1
        case hy1 => (intro w' hSw; (try dsimp only at hSw); first | (go_simp; done) | (go_simp; with_reducible rfl))
        simp only [Act.put, List.getElem_toArray, List.getElem_cons_zero, List.getElem_cons_succ, List.setIfInBounds_toArray, List.set_cons_zero, List.set_cons_succ]
        refine wpAnyH_take (i := 1) (v := ?v2) rfl (by kernel_rfl) (by kernel_rfl) (by kernel_rfl) (fun _ _ _ h => h) (Or.inl ⟨by rfl, ?hy2⟩) hHeld ?rest2
        case hy2 => (intro w' hSw; (try dsimp only at hSw); first | (go_simp; done) | (go_simp; with_reducible rfl))
        simp only [Act.put, List.getElem_toArray, List.getElem_cons_zero, List.getElem_cons_succ, List.setIfInBounds_toArray, List.set_cons_zero, List.set_cons_succ]
        refine wpAnyH_take (i := 2) (v := ?v3) rfl (by kernel_rfl) (by kernel_rfl) (by kernel_rfl) (fun _ _ _ h => h) (Or.inl ⟨by rfl, ?hy3⟩) hHeld ?rest3
        case hy3 => (intro w' hSw; (try dsimp only at hSw); first | (go_simp; done) | (go_simp; with_reducible rfl))
        simp only [Act.put, List.getElem_toArray, List.getElem_cons_zero, List.getElem_cons_succ, List.setIfInBounds_toArray, List.set_cons_zero, List.set_cons_succ]
        refine wpAnyH_take (i := 3) (v := ?v4) rfl (by kernel_rfl) (by kernel_rfl) (by kernel_rfl) (fun _ _ _ h => h) (Or.inl ⟨by rfl, ?hy4⟩) hHeld ?rest4
        case hy4 => (intro w' hSw; (try dsimp only at hSw); first | (go_simp; done) | (go_simp; with_reducible rfl))
        simp only [Act.put, List.getElem_toArray, List.getElem_cons_zero, List.getElem_cons_succ, List.setIfInBounds_toArray, List.set_cons_zero, List.set_cons_succ]
        refine wpAnyH_take (i := 4) (v := ?v5) rfl (by kernel_rfl) (by kernel_rfl) (by kernel_rfl) (fun _ _ _ h => h) (Or.inl ⟨by rfl, ?hy5⟩) hHeld ?rest5
        case hy5 => (intro w' hSw; (try dsimp only at hSw); first | (go_simp; done) | (go_simp; with_reducible rfl))
        simp only [Act.put, List.getElem_toArray, List.getElem_cons_zero, List.getElem_cons_succ, List.setIfInBounds_toArray, List.set_cons_zero, List.set_cons_succ]
        refine wpAnyH_take (i := 5) (v := ?v6) rfl (by kernel_rfl) (by kernel_rfl) (by kernel_rfl) (fun _ _ _ h => h) (Or.inl ⟨by rfl, ?hy6⟩) hHeld ?rest6
        case hy6 => (intro w' hSw; (try dsimp only at hSw); first | (go_simp; done) | (go_simp; with_reducible rfl))
        simp only [Act.put, List.getElem_toArray, List.getElem_cons_zero, List.getElem_cons_succ, List.setIfInBounds_toArray, List.set_cons_zero, List.set_cons_succ]
        refine wpAnyH_take (i := 6) (v := ?v7) rfl (by kernel_rfl) (by kernel_rfl) (by kernel_rfl) (fun _ _ _ h => h) (Or.inl ⟨by rfl, ?hy7⟩) hHeld ?rest7
        case hy7 => (intro w' hSw; (try dsimp only at hSw); first | (go_simp; done) | (go_simp; with_reducible rfl))
        simp only [Act.put, List.getElem_toArray, List.getElem_cons_zero, List.getElem_cons_succ, List.setIfInBounds_toArray, List.set_cons_zero, List.set_cons_succ]
        refine wpAnyH_take (i := 7) (v := ?v8) rfl (by kernel_rfl) (by kernel_rfl) (by kernel_rfl) (fun _ _ _ h => h) (Or.inl ⟨by rfl, ?hy8⟩) hHeld ?rest8
        case hy8 => (intro w' hSw; (try dsimp only at hSw); first | (go_simp; done) | (go_simp; with_reducible rfl))
        simp only [Act.put, List.getElem_toArray, List.getElem_cons_zero, List.getElem_cons_succ, List.setIfInBounds_toArray, List.set_cons_zero, List.set_cons_succ]
        refine wpAnyH_take (i := 8) (v := ?v9) rfl (by kernel_rfl) (by kernel_rfl) (by kernel_rfl) (fun _ _ _ h => h) (Or.inl ⟨by rfl, ?hy9⟩) hHeld ?rest9
        case hy9 => (intro w' hSw; (try dsimp only at hSw); first | (go_simp; done) | (go_simp; with_reducible rfl))
        simp only [Act.put, List.getElem_toArray, List.getElem_cons_zero, List.getElem_cons_succ, List.setIfInBounds_toArray, List.set_cons_zero, List.set_cons_succ]
        refine wpAnyH_take (i := 9) (v := ?v10) rfl (by kernel_rfl) (by kernel_rfl) (by kernel_rfl) (fun _ _ _ h => h) (Or.inl ⟨by rfl, ?hy10⟩) hHeld ?rest10
        case hy10 => (intro w' hSw; (try dsimp only at hSw); first | (go_simp; done) | (go_simp; with_reducible rfl))
        simp only [Act.put, List.getElem_toArray, List.getElem_cons_zero, List.getElem_cons_succ, List.setIfInBounds_toArray, List.set_cons_zero, List.set_cons_succ]
        refine wpAnyH_take (i := 10) (v := ?v11) rfl (by kernel_rfl) (by kernel_rfl) (by kernel_rfl) (fun _ _ _ h => h) (Or.inl ⟨by rfl, ?hy11⟩) hHeld ?rest11
        case hy11 => (intro w' hSw; (try dsimp only at hSw); first | (go_simp; done) | (go_simp; with_reducible rfl))
        simp only [Act.put, List.getElem_toArray, List.getElem_cons_zero, List.getElem_cons_succ, List.setIfInBounds_toArray, List.set_cons_zero, List.set_cons_succ]
        refine wpAnyH_take (i := 11) (v := ?v12) rfl (by kernel_rfl) (by kernel_rfl) (by kernel_rfl) (fun _ _ _ h => h) (Or.inl ⟨by rfl, ?hy12⟩) hHeld ?rest12
        case hy12 => (intro w' hSw; (try dsimp only at hSw); first | (go_simp; done) | (go_simp; with_reducible rfl))
        simp only [Act.put, List.getElem_toArray, List.getElem_cons_zero, List.getElem_cons_succ, List.setIfInBounds_toArray, List.set_cons_zero, List.set_cons_succ]
        refine wpAnyH_take (i := 12) (v := ?v13) rfl (by kernel_rfl) (by kernel_rfl) (by kernel_rfl) (fun _ _ _ h => h) (Or.inl ⟨by rfl, ?hy13⟩) hHeld ?rest13
        case hy13 => (intro w' hSw; (try dsimp only at hSw); first | (go_simp; done) | (go_simp; with_reducible rfl))
        simp only [Act.put, List.getElem_toArray, List.getElem_cons_zero, List.getElem_cons_succ, List.setIfInBounds_toArray, List.set_cons_zero, List.set_cons_succ]
        refine wpAnyH_take (i := 13) (v := ?v14) rfl (by kernel_rfl) (by kernel_rfl) (by kernel_rfl) (fun _ _ _ h => h) (Or.inl ⟨by rfl, ?hy14⟩) hHeld ?rest14
        case hy14 => (intro w' hSw; (try dsimp only at hSw); first | (go_simp; done) | (go_simp; with_reducible rfl))
        simp only [Act.put, List.getElem_toArray, List.getElem_cons_zero, List.getElem_cons_succ, List.setIfInBounds_toArray, List.set_cons_zero, List.set_cons_succ]
        refine wpAnyH_take (i := 14) (v := ?v15) rfl (by kernel_rfl) (by kernel_rfl) (by kernel_rfl) (fun _ _ _ h => h) (Or.inl ⟨by rfl, ?hy15⟩) hHeld ?rest15
        case hy15 => (intro w' hSw; (try dsimp only at hSw); first | (go_simp; done) | (go_simp; with_reducible rfl))
        simp only [Act.put, List.getElem_toArray, List.getElem_cons_zero, List.getElem_cons_succ, List.setIfInBounds_toArray, List.set_cons_zero, List.set_cons_succ]
        refine wpAnyH_ready (rs := [15]) (by kernel_rfl) (by simp) ?_
        refine AllReadyH.cons rfl (fun K hK => ?_) AllReadyH.nil
        go_simp
        refine (implSameKinds A1 A9 B1 B2 n1 c1 f.cols.length c9 m1 d1 m2 d2 _ _ _ _ _ _ _ _ _ _ x.cols s[j].cols f.cols s[j].key ok _ (hx1.drew ClR.stays) (hfc.drew IntR.stays) (hs1.drew ClR.stays) (hs2.drew IntR.stays) HI1.out HI2.out HN1.out HN9.out HM1.out HM2.out).mono ?_
        rintro e wd ⟨rfl, hqd⟩
        rw [HSM.out]
        go_wp2_with fail
        refine hK.out _ _ ⟨below_keep hqd _ _ hHeld.1, below_keep hqd _ _ hHeld.2.1, below_keep hqd _ _ hHeld.2.2.1, below_keep hqd _ _ hHeld.2.2.2.1, below_keep hqd _ _ hHeld.2.2.2.2.1, below_keep hqd _ _ hHeld.2.2.2.2.2.1, below_keep hqd _ _ hHeld.2.2.2.2.2.2.1, below_keep hqd _ _ hHeld.2.2.2.2.2.2.2.1, below_keep hqd _ _ hHeld.2.2.2.2.2.2.2.2.1, below_keep hqd _ _ hHeld.2.2.2.2.2.2.2.2.2.1, below_keep hqd _ _ hHeld.2.2.2.2.2.2.2.2.2.2.1, below_keep hqd _ _ hHeld.2.2.2.2.2.2.2.2.2.2.2.1, below_keep hqd _ _ hHeld.2.2.2.2.2.2.2.2.2.2.2.2⟩ (fun hHeld => ?_)
        clear hK K
        (try simp only [Act.put, List.getElem_toArray, List.getElem_cons_zero, List.getElem_cons_succ, List.setIfInBounds_toArray, List.set_cons_zero, List.set_cons_succ])
        refine wpAnyH_take (i := 16) (v := ?v16) rfl (by kernel_rfl) (by kernel_rfl) (by kernel_rfl) (fun _ _ _ h => h) (Or.inl ⟨by rfl, ?hy16⟩) hHeld ?rest16
        case hy16 => (intro w' hSw; (try dsimp only at hSw); first | (go_simp; done) | (go_simp; with_reducible rfl))
        simp only [Act.put, List.getElem_toArray, List.getElem_cons_zero, List.getElem_cons_succ, List.setIfInBounds_toArray, List.set_cons_zero, List.set_cons_succ]
        refine wpAnyH_take (i := 17) (v := ?v17) rfl (by kernel_rfl) (by kernel_rfl) (by kernel_rfl) (fun _ _ _ h => h) (Or.inl ⟨by rfl, ?hy17⟩) hHeld ?rest17
        case hy17 => (intro w' hSw; (try dsimp only at hSw); first | (go_simp; done) | (go_simp; with_reducible rfl))
        simp only [Act.put, List.getElem_toArray, List.getElem_cons_zero, List.getElem_cons_succ, List.setIfInBounds_toArray, List.set_cons_zero, List.set_cons_succ]
        refine wpAnyH_done (by kernel_rfl) ?_ _
        refine NoPanic.normal ?_
        have hz := hba.drew.trans (hqd.mono hba.drew.size)
        have rz := hr1.drew.below hqd
        have hpz := hp1.drew.below hqd
        clear hHeld x0 x1 x2 x3 x4 x5 f0 y0 y1 y2 y3 y4 y5
        go_wp2_with fail
        go_ret
        exact ⟨retB HF.out.symm, hz⟩
      · have HSM := Lib.hid hsm
        have HG := Lib.hid (hsn.trans hsm)
        clear hsn hno hsm
        go_wp2_with (first
          | (at_lookup; refine wpList_lookup_own_ok_int _ rfl _ _ 116 rfl 9 2 .i64 lawS Tryz.underlying116 Tryz.underlying2 (zeroI _) bm _ D rfl m1' _ _ rfl (keyS_of f.table HTB.out) ?_; intro c hat hwc; rw [HH.out]))
        obtain rfl : c = (j : Int) := by have := HA.out; rw [hat] at this; simpa using this
        clear hat hwc m1'
        generalize wr.alloc (.cells #[.slice A9 f.cols.length c9, .string f.table, .int .i64 f.del, .int .i64 f.upd, .bool f.dfr] 94) = z1 at *
        refine wp_region_noPanic ?_
        refine wp_region_held_drew (S := fun w' => w'.cell? ⟨w.heap.size, 0, none⟩ = some (.string x.name) ∧ w'.cell? ⟨w.heap.size, 1, none⟩ = some (.slice A1 n1 c1) ∧ w'.cell? ⟨w.heap.size, 2, none⟩ = some (.slice A2 n2 c2) ∧ w'.cell? ⟨w.heap.size, 3, none⟩ = some (.slice A3 n3 c3) ∧ w'.cell? ⟨w.heap.size, 4, none⟩ = some (.slice A4 n4 c4) ∧ w'.cell? ⟨w.heap.size, 5, none⟩ = some (.slice (some ⟨b,off,none⟩) x.fks.length c5) ∧ w'.cell? ⟨wr.heap.size, 0, none⟩ = some (.slice A9 f.cols.length c9) ∧ w'.cell? ⟨bs, offs + j * 6, none⟩ = some (.string s[j].name) ∧ w'.cell? ⟨bs, offs + j * 6 + 1, none⟩ = some (.slice B1 m1 d1) ∧ w'.cell? ⟨bs, offs + j * 6 + 2, none⟩ = some (.slice B2 m2 d2) ∧ w'.cell? ⟨bs, offs + j * 6 + 3, none⟩ = some (.slice B3 m3 d3) ∧ w'.cell? ⟨bs, offs + j * 6 + 4, none⟩ = some (.slice B4 m4' d4) ∧ w'.cell? ⟨bs, offs + j * 6 + 5, none⟩ = some (.slice B5 m5 d5)) (by kernel_rfl) ⟨x0, x1, x2, x3, x4, x5, f0, y0, y1, y2, y3, y4, y5⟩ (fun hHeld => ?_)
        refine wpAnyH_take (i := 0) (v := ?v18) rfl (by kernel_rfl) (by kernel_rfl) (by kernel_rfl) (fun _ _ _ h => h) (Or.inl ⟨by rfl, ?hy18⟩) hHeld ?rest18
        case hy18 => (intro w' hSw; (try dsimp only at hSw); first | (go_simp; done) | (go_simp; with_reducible rfl))
        simp only [Act.put, List.getElem_toArray, List.getElem_cons_zero, List.getElem_cons_succ, List.setIfInBounds_toArray, List.set_cons_zero, List.set_cons_succ]
        refine wpAnyH_take (i := 1) (v := ?v19) rfl (by kernel_rfl) (by kernel_rfl) (by kernel_rfl) (fun _ _ _ h => h) (Or.inl ⟨by rfl, ?hy19⟩) hHeld ?rest19
        case hy19 => (intro w' hSw; (try dsimp only at hSw); first | (go_simp; done) | (go_simp; with_reducible rfl))
        simp only [Act.put, List.getElem_toArray, List.getElem_cons_zero, List.getElem_cons_succ, List.setIfInBounds_toArray, List.set_cons_zero, List.set_cons_succ]
        refine wpAnyH_take (i := 2) (v := ?v20) rfl (by kernel_rfl) (by kernel_rfl) (by kernel_rfl) (fun _ _ _ h => h) (Or.inl ⟨by rfl, ?hy20⟩) hHeld ?rest20
        case hy20 => (intro w' hSw; (try dsimp only at hSw); first | (go_simp; done) | (go_simp; with_reducible rfl))
        simp only [Act.put, List.getElem_toArray, List.getElem_cons_zero, List.getElem_cons_succ, List.setIfInBounds_toArray, List.set_cons_zero, List.set_cons_succ]
        refine wpAnyH_take (i := 3) (v := ?v21) rfl (by kernel_rfl) (by kernel_rfl) (by kernel_rfl) (fun _ _ _ h => h) (Or.inl ⟨by rfl, ?hy21⟩) hHeld ?rest21
        case hy21 => (intro w' hSw; (try dsimp only at hSw); first | (go_simp; done) | (go_simp; with_reducible rfl))
        simp only [Act.put, List.getElem_toArray, List.getElem_cons_zero, List.getElem_cons_succ, List.setIfInBounds_toArray, List.set_cons_zero, List.set_cons_succ]
        refine wpAnyH_take (i := 4) (v := ?v22) rfl (by kernel_rfl) (by kernel_rfl) (by kernel_rfl) (fun _ _ _ h => h) (Or.inl ⟨by rfl, ?hy22⟩) hHeld ?rest22
        case hy22 => (intro w' hSw; (try dsimp only at hSw); first | (go_simp; done) | (go_simp; with_reducible rfl))
        simp only [Act.put, List.getElem_toArray, List.getElem_cons_zero, List.getElem_cons_succ, List.setIfInBounds_toArray, List.set_cons_zero, List.set_cons_succ]
        refine wpAnyH_take (i := 5) (v := ?v23) rfl (by kernel_rfl) (by kernel_rfl) (by kernel_rfl) (fun _ _ _ h => h) (Or.inl ⟨by rfl, ?hy23⟩) hHeld ?rest23
        case hy23 => (intro w' hSw; (try dsimp only at hSw); first | (go_simp; done) | (go_simp; with_reducible rfl))
        simp only [Act.put, List.getElem_toArray, List.getElem_cons_zero, List.getElem_cons_succ, List.setIfInBounds_toArray, List.set_cons_zero, List.set_cons_succ]
        refine wpAnyH_take (i := 6) (v := ?v24) rfl (by kernel_rfl) (by kernel_rfl) (by kernel_rfl) (fun _ _ _ h => h) (Or.inl ⟨by rfl, ?hy24⟩) hHeld ?rest24
        case hy24 => (intro w' hSw; (try dsimp only at hSw); first | (go_simp; done) | (go_simp; with_reducible rfl))
        simp only [Act.put, List.getElem_toArray, List.getElem_cons_zero, List.getElem_cons_succ, List.setIfInBounds_toArray, List.set_cons_zero, List.set_cons_succ]
        refine wpAnyH_take (i := 7) (v := ?v25) rfl (by kernel_rfl) (by kernel_rfl) (by kernel_rfl) (fun _ _ _ h => h) (Or.inl ⟨by rfl, ?hy25⟩) hHeld ?rest25
        case hy25 => (intro w' hSw; (try dsimp only at hSw); first | (go_simp; done) | (go_simp; with_reducible rfl))
        simp only [Act.put, List.getElem_toArray, List.getElem_cons_zero, List.getElem_cons_succ, List.setIfInBounds_toArray, List.set_cons_zero, List.set_cons_succ]
        refine wpAnyH_take (i := 8) (v := ?v26) rfl (by kernel_rfl) (by kernel_rfl) (by kernel_rfl) (fun _ _ _ h => h) (Or.inl ⟨by rfl, ?hy26⟩) hHeld ?rest26
        case hy26 => (intro w' hSw; (try dsimp only at hSw); first | (go_simp; done) | (go_simp; with_reducible rfl))
        simp only [Act.put, List.getElem_toArray, List.getElem_cons_zero, List.getElem_cons_succ, List.setIfInBounds_toArray, List.set_cons_zero, List.set_cons_succ]
        refine wpAnyH_take (i := 9) (v := ?v27) rfl (by kernel_rfl) (by kernel_rfl) (by kernel_rfl) (fun _ _ _ h => h) (Or.inl ⟨by rfl, ?hy27⟩) hHeld ?rest27
        case hy27 => (intro w' hSw; (try dsimp only at hSw); first | (go_simp; done) | (go_simp; with_reducible rfl))
        simp only [Act.put, List.getElem_toArray, List.getElem_cons_zero, List.getElem_cons_succ, List.setIfInBounds_toArray, List.set_cons_zero, List.set_cons_succ]
        refine wpAnyH_take (i := 10) (v := ?v28) rfl (by kernel_rfl) (by kernel_rfl) (by kernel_rfl) (fun _ _ _ h => h) (Or.inl ⟨by rfl, ?hy28⟩) hHeld ?rest28
        case hy28 => (intro w' hSw; (try dsimp only at hSw); first | (go_simp; done) | (go_simp; with_reducible rfl))
        simp only [Act.put, List.getElem_toArray, List.getElem_cons_zero, List.getElem_cons_succ, List.setIfInBounds_toArray, List.set_cons_zero, List.set_cons_succ]
        refine wpAnyH_take (i := 11) (v := ?v29) rfl (by kernel_rfl) (by kernel_rfl) (by kernel_rfl) (fun _ _ _ h => h) (Or.inl ⟨by rfl, ?hy29⟩) hHeld ?rest29
        case hy29 => (intro w' hSw; (try dsimp only at hSw); first | (go_simp; done) | (go_simp; with_reducible rfl))
        simp only [Act.put, List.getElem_toArray, List.getElem_cons_zero, List.getElem_cons_succ, List.setIfInBounds_toArray, List.set_cons_zero, List.set_cons_succ]
        refine wpAnyH_take (i := 12) (v := ?v30) rfl (by kernel_rfl) (by kernel_rfl) (by kernel_rfl) (fun _ _ _ h => h) (Or.inl ⟨by rfl, ?hy30⟩) hHeld ?rest30
        case hy30 => (intro w' hSw; (try dsimp only at hSw); first | (go_simp; done) | (go_simp; with_reducible rfl))
        simp only [Act.put, List.getElem_toArray, List.getElem_cons_zero, List.getElem_cons_succ, List.setIfInBounds_toArray, List.set_cons_zero, List.set_cons_succ]
        refine wpAnyH_take (i := 13) (v := ?v31) rfl (by kernel_rfl) (by kernel_rfl) (by kernel_rfl) (fun _ _ _ h => h) (Or.inl ⟨by rfl, ?hy31⟩) hHeld ?rest31
        case hy31 => (intro w' hSw; (try dsimp only at hSw); first | (go_simp; done) | (go_simp; with_reducible rfl))
        simp only [Act.put, List.getElem_toArray, List.getElem_cons_zero, List.getElem_cons_succ, List.setIfInBounds_toArray, List.set_cons_zero, List.set_cons_succ]
        refine wpAnyH_take (i := 14) (v := ?v32) rfl (by kernel_rfl) (by kernel_rfl) (by kernel_rfl) (fun _ _ _ h => h) (Or.inl ⟨by rfl, ?hy32⟩) hHeld ?rest32
        case hy32 => (intro w' hSw; (try dsimp only at hSw); first | (go_simp; done) | (go_simp; with_reducible rfl))
        simp only [Act.put, List.getElem_toArray, List.getElem_cons_zero, List.getElem_cons_succ, List.setIfInBounds_toArray, List.set_cons_zero, List.set_cons_succ]
        refine wpAnyH_ready (rs := [15]) (by kernel_rfl) (by simp) ?_
        refine AllReadyH.cons rfl (fun K hK => ?_) AllReadyH.nil
        go_simp
        refine (implSameKinds A1 A9 B1 B2 n1 c1 f.cols.length c9 m1 d1 m2 d2 _ _ _ _ _ _ _ _ _ _ x.cols s[j].cols f.cols s[j].key ok _ (hx1.drew ClR.stays) (hfc.drew IntR.stays) (hs1.drew ClR.stays) (hs2.drew IntR.stays) HI1.out HI2.out HN1.out HN9.out HM1.out HM2.out).mono ?_
        rintro e wd ⟨rfl, hqd⟩
        rw [HSM.out]
        go_wp2_with fail
        refine hK.out _ _ ⟨below_keep hqd _ _ hHeld.1, below_keep hqd _ _ hHeld.2.1, below_keep hqd _ _ hHeld.2.2.1, below_keep hqd _ _ hHeld.2.2.2.1, below_keep hqd _ _ hHeld.2.2.2.2.1, below_keep hqd _ _ hHeld.2.2.2.2.2.1, below_keep hqd _ _ hHeld.2.2.2.2.2.2.1, below_keep hqd _ _ hHeld.2.2.2.2.2.2.2.1, below_keep hqd _ _ hHeld.2.2.2.2.2.2.2.2.1, below_keep hqd _ _ hHeld.2.2.2.2.2.2.2.2.2.1, below_keep hqd _ _ hHeld.2.2.2.2.2.2.2.2.2.2.1, below_keep hqd _ _ hHeld.2.2.2.2.2.2.2.2.2.2.2.1, below_keep hqd _ _ hHeld.2.2.2.2.2.2.2.2.2.2.2.2⟩ (fun hHeld => ?_)
        clear hK K
        (try simp only [Act.put, List.getElem_toArray, List.getElem_cons_zero, List.getElem_cons_succ, List.setIfInBounds_toArray, List.set_cons_zero, List.set_cons_succ])
        refine wpAnyH_take (i := 16) (v := ?v33) rfl (by kernel_rfl) (by kernel_rfl) (by kernel_rfl) (fun _ _ _ h => h) (Or.inl ⟨by rfl, ?hy33⟩) hHeld ?rest33
        case hy33 => (intro w' hSw; (try dsimp only at hSw); first | (go_simp; done) | (go_simp; with_reducible rfl))
        simp only [Act.put, List.getElem_toArray, List.getElem_cons_zero, List.getElem_cons_succ, List.setIfInBounds_toArray, List.set_cons_zero, List.set_cons_succ]
        refine wpAnyH_take (i := 17) (v := ?v34) rfl (by kernel_rfl) (by kernel_rfl) (by kernel_rfl) (fun _ _ _ h => h) (Or.inl ⟨by rfl, ?hy34⟩) hHeld ?rest34
        case hy34 => (intro w' hSw; (try dsimp only at hSw); first | (go_simp; done) | (go_simp; with_reducible rfl))
        simp only [Act.put, List.getElem_toArray, List.getElem_cons_zero, List.getElem_cons_succ, List.setIfInBounds_toArray, List.set_cons_zero, List.set_cons_succ]
        refine wpAnyH_done (by kernel_rfl) ?_ _
        refine NoPanic.normal ?_
        have hz := hba.drew.trans (hqd.mono hba.drew.size)
        have rz := hr1.drew.below hqd
        have hpz := hp1.drew.below hqd
        clear hHeld x0 x1 x2 x3 x4 x5 f0 y0 y1 y2 y3 y4 y5
        go_wp2_with fail
        go_roundw
        case rel => exact ⟨k + 1, by omega, by go_num, Lib.hid HG.out, rz, hpz, hz⟩
        case measure => simp [intOf]; omega
    · have e : x.fks.take k = x.fks := List.take_of_length_le (by omega)
      have g1 := hall.out
      rw [e] at g1
      have HF := Lib.hid (show leadsB s x = true from g1)
      clear e g1 hall
      go_wp2
      go_ret
      exact ⟨retB HF.out.symm, hb⟩
end Go.Proofs.YthafgkcokecnnaaGreat
namespace Go.Proofs.YthafgkcokecnnaaGreat
open Go.RowKit Go.Maps
set_option linter.unusedVariables false
set_option linter.unusedSimpArgs false

set_option maxRecDepth 100000 in
set_option maxHeartbeats 2000000 in
theorem implSchemaOk (AS : Option Addr) (nS cS : Nat) (s : List Tb) (ok : Nat → Prop) (w : World) (hs : Sl TbR 6 ok w AS nS s) (hsz : szL Tb.sz s ≤ 1048576) :
    Calls Tryz.prog 22 #[.slice AS nS cS] w fun e w' => e = .returned (.bool (schemaB s)) ∧ Below w.heap.size w w' := by
  obtain rfl : s.length = nS := hs.1
  have hn : s.length ≤ 1048576 := by unfold szL at hsz; omega
  have HSZ := Lib.hid hsz
  have HT := Lib.hid (fun k (hlt : k < s.length) => show s[k].sz ≤ 1048576 by have := HSZ.out; have := sum_mem_le Tb.sz s k hlt; unfold szL at *; omega)
  clear hsz
  by_cases h5 : 5 < (s.length : Int)
  · have HF := Lib.hid (show schemaB s = false by unfold schemaB; rw [decide_eq_false (by omega)]; rfl)
    go_enter Tryz.func22, Tryz.ntmps22
    go_wp2
    go_ret
    exact ⟨retB HF.out.symm, Below.refl _ _⟩
  have h5' : decide (5 < (s.length : Int)) = false := by simpa using h5
  have H5 := Lib.hid (show decide (s.length ≤ 5) = true from decide_eq_true (by omega))
  go_enter Tryz.func22, Tryz.ntmps22
  go_wp2_with fail
  go_loopw [13] (fun i wr => ∃ k : Nat, k ≤ s.length ∧ i = .int .i64 k ∧ Hid ((s.take k).all tableB = true) ∧ Below w.heap.size w wr) (fun i _ => s.length - (intOf i).toNat)
  case atStart => exact ⟨0, by omega, rfl, Lib.hid (by simp), Below.refl _ _⟩
  case round =>
    obtain ⟨k, hk, rfl, hall, hb⟩ := hrel
    by_cases hlt : k < s.length
    · obtain ⟨b, off, A1, n1, c1, A2, n2, c2, A3, n3, c3, A4, n4, c4, A5, n5, c5, -, rfl, q0, q1, q2, q3, q4, q5, s1, s2, s3, s4, s5, -⟩ := TbR.at_ (hs.below TbR.stays hb) hlt
      have hsn := all_take tableB s k hlt
      rw [hall.out, Bool.true_and] at hsn
      have hno := fun hf => all_no tableB s k hlt hf
      have HX := Lib.hid (HT.out k hlt)
      have hbx := (Below.refl wr.heap.size wr).alloc (Nat.le_refl _) (.cells #[.string s[k].name, .slice A1 n1 c1, .slice A2 n2 c2, .slice A3 n3 c3, .slice A4 n4 c4, .slice A5 n5 c5] 59)
      have hba := hb.trans (hbx.mono hb.size)
      have r0 := Row.new wr 59 #[.string s[k].name, .slice A1 n1 c1, .slice A2 n2 c2, .slice A3 n3 c3, .slice A4 n4 c4, .slice A5 n5 c5]
      obtain ⟨⟨f0, f1, f2, f3, f4, f5⟩, -⟩ := r0.all6
      have HC := Lib.hid (implTableOk s[k] A1 n1 c1 A2 n2 c2 A3 n3 c3 A4 n4 c4 A5 n5 c5 ok _ (s1.below ClR.stays hbx) (s2.below IntR.stays hbx) (s3.below UqR.stays hbx) (s4.below CkR.stays hbx) (s5.below FkR.stays hbx) HX.out)
      cases hc : tableB s[k]
      · have HCC := Lib.hid hc
        have HF := Lib.hid (show schemaB s = false by unfold schemaB; rw [hno hc]; simp)
        clear hsn hno hall hc
        go_wp2_with fail
        refine HC.out.mono ?_
        rintro e w1 ⟨rfl, hb1⟩
        rw [HCC.out]
        clear HC
        go_wp2_with fail
        go_ret
        exact ⟨retB HF.out.symm, hba.trans (hb1.mono hba.size)⟩
      · have HCC := Lib.hid hc
        have HA := Lib.hid (hsn.trans hc)
        clear hsn hno hall hc
        go_wp2_with fail
        refine HC.out.mono ?_
        rintro e w1 ⟨rfl, hb1⟩
        rw [HCC.out]
        clear HC
        go_wp2_with fail
        go_roundw
        case rel => exact ⟨k + 1, by omega, by go_num, Lib.hid HA.out, hba.trans (hb1.mono hba.size)⟩
        case measure => simp [intOf]; omega
    · have e : s.take k = s := List.take_of_length_le (by omega)
      have g1 := hall.out
      rw [e] at g1
      have HALL := Lib.hid g1
      have HU := Lib.hid (cntGo_uniq (s.map Tb.name) [])
      clear e g1 hall
      go_wp2_with fail
      refine (implTablePlaces AS s.length cS s ok _ (hs.below TbR.stays hb) HSZ.out).mono ?_
      rintro e w1 ⟨bm, rfl, hp, hbb, hb1⟩
      have hbz := hb.trans (hb1.mono hb.size)
      obtain ⟨D, p1, p2, p3, p4, p5⟩ := id hp
      clear p2 p3 p4
      have hu := HU.out
      rw [← p5, List.length_map] at hu
      clear p5
      cases huq : uniqGo [] (s.map Tb.name)
      · have hne : ¬ ((Maps.size D : Int) = s.length) := by
          rw [huq] at hu; have := beq_eq_false_iff_ne.1 hu; omega
        have HF := Lib.hid (show schemaB s = false by unfold schemaB; rw [huq]; simp)
        clear hu huq
        go_wp2_with (first | (at_len; refine wpList_len_own _ rfl _ 116 rfl 9 2 Tryz.underlying116 _ bm _ D rfl p1 ?_))
        go_ret
        exact ⟨retB HF.out.symm, hbz⟩
      have heq : (Maps.size D : Int) = s.length := by rw [huq] at hu; have : Maps.size D = s.length := by simpa using hu
                                                      omega
      have HUQ := Lib.hid huq
      clear hu huq hk hlt
      go_wp2_with (first | (at_len; refine wpList_len_own _ rfl _ 116 rfl 9 2 Tryz.underlying116 _ bm _ D rfl p1 ?_))
      clear heq p1
      go_loopw [30] (fun i wr => ∃ k : Nat, k ≤ s.length ∧ i = .int .i64 k ∧ Hid ((s.take k).all (leadsB s) = true) ∧ PlacesIn wr bm (s.map Tb.name) ∧ Below w.heap.size w wr) (fun i _ => s.length - (intOf i).toNat)
      case atStart => exact ⟨0, by omega, rfl, Lib.hid (by simp), hp, hbz⟩
      case round =>
        clear hp hbz hb1 hb
        obtain ⟨k, hk, rfl, hall, hp, hb⟩ := hrel
        by_cases hlt : k < s.length
        · obtain ⟨b, off, A1, n1, c1, A2, n2, c2, A3, n3, c3, A4, n4, c4, A5, n5, c5, -, ea, q0, q1, q2, q3, q4, q5, s1, s2, s3, s4, s5, -⟩ := TbR.at_ (hs.below TbR.stays hb) hlt
          subst ea
          have hsn := all_take (leadsB s) s k hlt
          rw [hall.out, Bool.true_and] at hsn
          have hno := fun hf => all_no (leadsB s) s k hlt hf
          have HX := Lib.hid (HT.out k hlt)
          have HTB := Lib.hid (show tableB s[k] = true from List.all_eq_true.1 HALL.out _ (List.getElem_mem hlt))
          have hbx := (Below.refl wr.heap.size wr).alloc (Nat.le_refl _) (.cells #[.string s[k].name, .slice A1 n1 c1, .slice A2 n2 c2, .slice A3 n3 c3, .slice A4 n4 c4, .slice A5 n5 c5] 59)
          have hba := hb.trans (hbx.mono hb.size)
          have hp1 := hp.below hbx
          have r0 := Row.new wr 59 #[.string s[k].name, .slice A1 n1 c1, .slice A2 n2 c2, .slice A3 n3 c3, .slice A4 n4 c4, .slice A5 n5 c5]
          obtain ⟨⟨f0, f1, f2, f3, f4, f5⟩, -⟩ := r0.all6
          have HC := Lib.hid (implFksLead s s[k] _ s.length cS bm A1 n1 c1 A2 n2 c2 A3 n3 c3 A4 n4 c4 A5 n5 c5 ok _ (hs.below TbR.stays hba) hp1 (s1.below ClR.stays hbx) (s5.below FkR.stays hbx) HTB.out HALL.out HSZ.out HX.out)
          cases hc : leadsB s s[k]
          · have HCC := Lib.hid hc
            have HF := Lib.hid (show schemaB s = false by unfold schemaB; rw [hno hc]; simp)
            clear hsn hno hall hc
            go_wp2_with fail
            refine HC.out.mono ?_
            rintro e w1 ⟨rfl, hb1⟩
            rw [HCC.out]
            clear HC
            go_wp2_with fail
            go_ret
            exact ⟨retB HF.out.symm, hba.trans (hb1.mono hba.size)⟩
          · have HCC := Lib.hid hc
            have HA := Lib.hid (hsn.trans hc)
            clear hsn hno hall hc
            go_wp2_with fail
            refine HC.out.mono ?_
            rintro e w1 ⟨rfl, hb1⟩
            rw [HCC.out]
            clear HC
            go_wp2_with fail
            go_roundw
            case rel => exact ⟨k + 1, by omega, by go_num, Lib.hid HA.out, hp1.below hb1, hba.trans (hb1.mono hba.size)⟩
            case measure => simp [intOf]; omega
        · have e : s.take k = s := List.take_of_length_le (by omega)
          have g1 := hall.out
          rw [e] at g1
          have HF := Lib.hid (show schemaB s = true by unfold schemaB; rw [H5.out, HALL.out, HUQ.out, g1]; rfl)
          clear e g1 hall
          go_wp2_with fail
          go_ret
          exact ⟨retB HF.out.symm, hb⟩
end Go.Proofs.YthafgkcokecnnaaGreat
namespace Go.Proofs.YthafgkcokecnnaaGreat
open Go.RowKit Go.Maps
set_option linter.unusedVariables false
set_option linter.unusedSimpArgs false

set_option maxRecDepth 100000 in
set_option maxHeartbeats 1000000 in
theorem implFitsAt (g o : Nat) (A1 AR : Option Addr) (n1 c1 nR cR : Nat) (cols : List Cl) (row : List Vl) (ok : Nat → Prop) (w : World)
    (x1 : w.cell? ⟨g, o + 1, none⟩ = some (.slice A1 n1 c1)) (h : Sl ClR 6 ok w A1 n1 cols) (hv : Vals w AR nR row) (hn1 : n1 ≤ 1048576) (hn2 : nR ≤ 1048576) :
    Calls Tryz.prog 58 #[.pointer (some ⟨g, o, none⟩), .slice AR nR cR] w fun e w' => e = .returned (.bool (kindsB cols row)) ∧ Below w.heap.size w w' := by
  obtain rfl : cols.length = n1 := h.1
  obtain rfl : row.length = nR := hv.len
  cases hl : (row.length == cols.length)
  · have hl' : ¬ ((row.length : Int) = cols.length) := by have := beq_eq_false_iff_ne.1 hl; omega
    have HF := Lib.hid (show kindsB cols row = false by unfold kindsB; rw [decide_eq_false (beq_eq_false_iff_ne.1 hl)]; rfl)
    clear hl
    go_enter Tryz.func58, Tryz.ntmps58
    go_wp2
    go_ret
    exact ⟨retB HF.out.symm, Below.refl _ _⟩
  have hlen : row.length = cols.length := by simpa using hl
  have hl' : (row.length : Int) = cols.length := by omega
  have hz : (cols.zip row).length = cols.length := by simp [hlen]
  have HZ := Lib.hid hz
  have HL := Lib.hid hlen
  have HE := Lib.hid (show kindsB cols row = fitAll cols row by unfold kindsB; rw [decide_eq_true hlen]; rfl)
  clear hl hz hlen
  go_enter Tryz.func58, Tryz.ntmps58
  go_wp2
  go_loopw [17] (fun i wr => ∃ k : Nat, k ≤ cols.length ∧ i = .int .i64 k ∧ Hid (((cols.zip row).take k).all fitV = true) ∧ Below w.heap.size w wr) (fun i _ => cols.length - (intOf i).toNat)
  case atStart => exact ⟨0, by omega, rfl, Lib.hid (by simp), Below.refl _ _⟩
  case round =>
    obtain ⟨k, hk, rfl, hall, hb⟩ := hrel
    by_cases hlt : k < cols.length
    · have hlt2 : k < row.length := by have := HL.out; omega
      have hbx := (Below.refl wr.heap.size wr).alloc (Nat.le_refl _) (.cells #[.int .i64 row[k].k, .int .i64 row[k].n, .string row[k].s] 95)
      have hba := hb.trans (hbx.mono hb.size)
      have rv := Row.new wr 95 #[.int .i64 row[k].k, .int .i64 row[k].n, .string row[k].s]
      obtain ⟨b2, off2, rfl, p0, p1, p2⟩ := (hv.below hb).at_ hlt2
      obtain ⟨b, off, -, rfl, q0, q1, q2, q3, q4, q5⟩ := ClR.at_ (h.below ClR.stays hba) hlt
      have d1 := (hba.cell (cell_lt x1)).trans x1
      obtain ⟨⟨f0, f1, f2⟩, -⟩ := rv.three
      have hsn := all_take fitV (cols.zip row) k (by rw [HZ.out]; exact hlt)
      have hno := fun hf => all_no fitV (cols.zip row) k (by rw [HZ.out]; exact hlt) hf
      have eg : fitV ((cols.zip row)[k]'(by rw [HZ.out]; exact hlt)) = fitsB cols[k].kind row[k] := by rw [List.getElem_zip]; rfl
      rw [hall.out, Bool.true_and, eg] at hsn
      rw [eg] at hno
      have i0 : (0 : Int) ≤ k := by omega
      have i1 : (k : Int) < cols.length := by omega
      have i2 : (k : Int) < row.length := by have := HL.out; omega
      clear eg
      cases hc : fitsB cols[k].kind row[k]
      · have HC := Lib.hid hc
        have HF := Lib.hid (show kindsB cols row = false by rw [HE.out]; exact hno hc)
        clear hsn hno hc hall
        go_wp2_with fail
        go_region_held3 (fun w' => w'.cell? ⟨g, o + 1, none⟩ = some (.slice (some ⟨b, off, none⟩) cols.length c1) ∧ w'.cell? ⟨b, off + k * 6 + 1, none⟩ = some (.int .i64 cols[k].kind) ∧ w'.cell? ⟨wr.heap.size, 0, none⟩ = some (.int .i64 row[k].k) ∧ w'.cell? ⟨wr.heap.size, 1, none⟩ = some (.int .i64 row[k].n) ∧ w'.cell? ⟨wr.heap.size, 2, none⟩ = some (.string row[k].s))
          (first | go_keep | exact keepF (by assumption) hb1)
          (first | (go_at_call 94; refine (implValFits cols[k].kind row[k] _).mono ?_; rintro e w1 ⟨rfl, hb1⟩; rw [HC.out]))
        all_goals
          go_wp2
          go_ret
          exact ⟨retB HF.out.symm, hba.drew.trans (hb1.mono hba.size)⟩
      · have HC := Lib.hid hc
        have HA := Lib.hid (hsn.trans hc)
        clear hsn hno hc hall
        go_wp2_with fail
        go_region_held3 (fun w' => w'.cell? ⟨g, o + 1, none⟩ = some (.slice (some ⟨b, off, none⟩) cols.length c1) ∧ w'.cell? ⟨b, off + k * 6 + 1, none⟩ = some (.int .i64 cols[k].kind) ∧ w'.cell? ⟨wr.heap.size, 0, none⟩ = some (.int .i64 row[k].k) ∧ w'.cell? ⟨wr.heap.size, 1, none⟩ = some (.int .i64 row[k].n) ∧ w'.cell? ⟨wr.heap.size, 2, none⟩ = some (.string row[k].s))
          (first | go_keep | exact keepF (by assumption) hb1)
          (first | (go_at_call 94; refine (implValFits cols[k].kind row[k] _).mono ?_; rintro e w1 ⟨rfl, hb1⟩; rw [HC.out]))
        all_goals
          go_wp2
          go_roundw
          case rel => exact ⟨k + 1, by omega, by go_num, Lib.hid HA.out, hba.drew.trans (hb1.mono hba.size)⟩
          case measure => simp [intOf]; omega
    · have e : (cols.zip row).take k = cols.zip row := List.take_of_length_le (by rw [HZ.out]; omega)
      have h1 := hall.out
      rw [e] at h1
      have HF := Lib.hid (show kindsB cols row = true by rw [HE.out]; exact h1)
      clear e h1 hall
      go_wp2
      go_ret
      exact ⟨retB HF.out.symm, hb⟩


def idsGo (cols : List Cl) : Int → List Rw → Bool
  | _, [] => true
  | last, r :: rs => decide (last < r.id) && (decide (r.id ≤ 1000000000) && (kindsB cols r.vals && idsGo cols r.id rs))
def dataB (cols : List Cl) (l : List Rw) : Bool := decide (l.length ≤ 60) && idsGo cols 0 l
def dbV (p : Tb × Dt) : Bool := dataB p.1.cols p.2.rows
def dbB (s : List Tb) (db : List Dt) : Bool := schemaB s && (decide (db.length = s.length) && (s.zip db).all dbV)
theorem idsGo_at (cols : List Cl) (last : Int) (l : List Rw) (k : Nat) (h : k < l.length) : idsGo cols last (l.drop k) = (decide (last < l[k].id) && (decide (l[k].id ≤ 1000000000) && (kindsB cols l[k].vals && idsGo cols l[k].id (l.drop (k + 1))))) := by
  rw [List.drop_eq_getElem_cons h]; rfl

end Go.Proofs.YthafgkcokecnnaaGreat
namespace Go.Proofs.YthafgkcokecnnaaGreat
open Go.RowKit Go.Maps
set_option linter.unusedVariables false
set_option linter.unusedSimpArgs false

end Go.Proofs.YthafgkcokecnnaaGreat
namespace Go.Proofs.YthafgkcokecnnaaGreat
open Go.RowKit
set_option linter.unusedVariables false
set_option linter.unusedSimpArgs false

theorem idsGo_mem {cols : List Cl} : ∀ {l : List Rw} {last : Int}, idsGo cols last l = true → ∀ r ∈ l, kindsB cols r.vals = true
  | [], _, _, r, h => by cases h
  | x :: xs, last, h, r, hr => by
    simp only [idsGo, Bool.and_eq_true] at h
    rcases List.mem_cons.1 hr with rfl | hr
    · exact h.2.2.1
    · exact idsGo_mem h.2.2.2 r hr
theorem dbB_row {s : List Tb} {db : List Dt} (h : dbB s db = true) {m : Nat} (h1 : m < s.length) (h2 : m < db.length) : ∀ r ∈ db[m].rows, r.vals.length = s[m].cols.length := fun r hr => by
  simp only [dbB, Bool.and_eq_true, decide_eq_true_eq] at h
  have h3 := List.all_eq_true.1 h.2.2 (s[m], db[m]) (by rw [List.mem_iff_getElem]; exact ⟨m, by rw [List.length_zip]; omega, by simp⟩)
  simp only [dbV, dataB, Bool.and_eq_true] at h3
  have h4 := idsGo_mem h3.2 r hr
  simp only [kindsB, Bool.and_eq_true, decide_eq_true_eq] at h4
  exact h4.1
theorem dbB_len {s : List Tb} {db : List Dt} (h : dbB s db = true) : db.length = s.length := by
  simp only [dbB, Bool.and_eq_true, decide_eq_true_eq] at h
  exact h.2.1
theorem all_inV {cols : List Int} {vals : List Vl} {n : Nat} (h : colsInB cols n = true) (hv : vals.length = n) : cols.all (inV vals) = true := by
  rw [List.all_eq_true]
  intro c hc
  have := (colsInB_len h).2 c hc
  simp only [inV, Bool.and_eq_true, decide_eq_true_eq]
  omega
/-- No row has more values than the size of the whole. -/
theorem rows_le {db : List Dt} {m : Nat} (h : szL Dt.sz db ≤ m) : ∀ d ∈ db, ∀ r ∈ d.rows, r.vals.length ≤ m := fun d hd r hr => by
  have h1 : d.sz ≤ m := by
    obtain ⟨i, hi, rfl⟩ := List.mem_iff_getElem.1 hd
    have := sum_mem_le Dt.sz db i hi
    unfold szL at h
    omega
  have h2 : r.sz ≤ m := by
    obtain ⟨i, hi, rfl⟩ := List.mem_iff_getElem.1 hr
    have := sum_mem_le Rw.sz d.rows i hi
    unfold Dt.sz szL at h1
    omega
  unfold Rw.sz szL at h2
  omega

end Go.Proofs.YthafgkcokecnnaaGreat
