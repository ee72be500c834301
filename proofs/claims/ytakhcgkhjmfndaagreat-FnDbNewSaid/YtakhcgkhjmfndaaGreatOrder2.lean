/-
  Contracts on the order of values, of two right ones and of any.
-/
import Derived.Test.YtakhcgkhjmfndaaGreatLawVals
namespace Go.Proofs.YtakhcgkhjmfndaaGreat
open Go.RowKit

def lessV (k n : Int) (s : ByteArray) (k' n' : Int) (s' : ByteArray) : Bool := decide (k < k') || (k == k' && (decide (n < n') || Op.bytesLess s.toList s'.toList))
def sameV (k n : Int) (s : ByteArray) (k' n' : Int) (s' : ByteArray) : Bool := k == k' && (n == n' && s.toList == s'.toList)
def ordV (k n : Int) (s : ByteArray) (k' n' : Int) (s' : ByteArray) : Int := if lessV k n s k' n' s' = true then -1 else if sameV k n s k' n' s' = true then 0 else 1

theorem valOk_cases {k n : Int} {s : ByteArray} (h : valOkB k n s = true) : (k = 0 ∧ n = 0 ∧ s.toList = []) ∨ (k = 1 ∧ s.toList = []) ∨ (k = 2 ∧ n = 0) := by
  unfold valOkB at h
  by_cases k0 : k = 0
  · subst k0; simp at h; exact .inl ⟨rfl, h.1, h.2⟩
  by_cases k1 : k = 1
  · subst k1; simp at h; exact .inr (.inl ⟨rfl, h.2⟩)
  by_cases k2 : k = 2
  · subst k2; simp at h; exact .inr (.inr ⟨rfl, h.1⟩)
  · simp [k0, k1, k2] at h

theorem ord_eq {k n : Int} {s : ByteArray} {k' n' : Int} {s' : ByteArray} (h : valOkB k n s = true) (h' : valOkB k' n' s' = true) :
    firstNZ (cmpI k k') (cmpI n n') (cmpS s s') = ordV k n s k' n' s' := by
  have e0 : Op.bytesLess [] [] = false := rfl
  rcases valOk_cases h with ⟨rfl, rfl, e1⟩ | ⟨rfl, e1⟩ | ⟨rfl, rfl⟩ <;> rcases valOk_cases h' with ⟨rfl, rfl, e2⟩ | ⟨rfl, e2⟩ | ⟨rfl, rfl⟩
  · simp [firstNZ, cmpI, cmpS, ordV, lessV, sameV, e1, e2, e0]
  · simp [firstNZ, cmpI, ordV, lessV]
  · simp [firstNZ, cmpI, ordV, lessV]
  · simp [firstNZ, cmpI, ordV, lessV, sameV]
  · simp only [firstNZ, cmpI, cmpS, ordV, lessV, sameV, e1, e2, e0]
    by_cases a : n < n'
    · simp [a]
    · by_cases b : n' < n
      · have c : ¬ n = n' := by omega
        simp [a, b, c]
      · have c : n = n' := by omega
        simp [c]
  · simp [firstNZ, cmpI, ordV, lessV]
  · simp [firstNZ, cmpI, ordV, lessV, sameV]
  · simp [firstNZ, cmpI, ordV, lessV, sameV]
  · simp only [firstNZ, cmpI, cmpS, ordV, lessV, sameV]
    simp

theorem ordV_of {k n : Int} {s : ByteArray} {k' n' : Int} {s' : ByteArray} (h : lessV k n s k' n' s' = false) : ordV k n s k' n' s' = if sameV k n s k' n' s' = true then 0 else 1 := by simp [ordV, h]

theorem chain2 (w : World) (o o' : Obj) : Below w.heap.size w ((w.alloc o).alloc o') := ((Below.refl _ w).alloc (Nat.le_refl _) o).alloc (by simp) o'

theorem Cells3.two (w : World) (k n : Int) (s : ByteArray) (k' n' : Int) (s' : ByteArray) (T : TypeId) :
    Cells3 ((w.alloc (.cells #[.int .i64 k, .int .i64 n, .string s] T)).alloc (.cells #[.int .i64 k', .int .i64 n', .string s'] T)) w.heap.size k n s ∧
    Cells3 ((w.alloc (.cells #[.int .i64 k, .int .i64 n, .string s] T)).alloc (.cells #[.int .i64 k', .int .i64 n', .string s'] T)) (w.heap.size + 1) k' n' s' := by simp [Cells3]

theorem two_below {w w' : World} {b b' : Nat} {k n : Int} {s : ByteArray} {k' n' : Int} {s' : ByteArray} (h : Cells3 w b k n s ∧ Cells3 w b' k' n' s') (hb : Below w.heap.size w w') : Cells3 w' b k n s ∧ Cells3 w' b' k' n' s' :=
  ⟨h.1.below hb, h.2.below hb⟩

theorem keep6 {w w' : World} {a0 a1 a2 a3 a4 a5 : Addr} {v0 v1 v2 v3 v4 v5 : Value} (h : w.cell? a0 = some v0 ∧ w.cell? a1 = some v1 ∧ w.cell? a2 = some v2 ∧ w.cell? a3 = some v3 ∧ w.cell? a4 = some v4 ∧ w.cell? a5 = some v5) (hb : Below w.heap.size w w') : w'.cell? a0 = some v0 ∧ w'.cell? a1 = some v1 ∧ w'.cell? a2 = some v2 ∧ w'.cell? a3 = some v3 ∧ w'.cell? a4 = some v4 ∧ w'.cell? a5 = some v5 := by
  obtain ⟨h0, h1, h2, h3, h4, h5⟩ := h
  exact ⟨(hb.cell (cell_lt h0)).trans h0, (hb.cell (cell_lt h1)).trans h1, (hb.cell (cell_lt h2)).trans h2, (hb.cell (cell_lt h3)).trans h3, (hb.cell (cell_lt h4)).trans h4, (hb.cell (cell_lt h5)).trans h5⟩

theorem chain3 {B : Nat} {w x y1 y2 y3 : World} (h : Below B w x) (h1 : Below x.drew.heap.size x.drew y1) (h2 : Below y1.heap.size y1 y2) (h3 : Below y2.heap.size y2 y3) (hB : B ≤ w.heap.size := by simp) : Below B w y3 := by
  have a := h.drew.trans (h1.mono (Nat.le_trans hB h.size))
  have b := a.trans (h2.mono (Nat.le_trans hB a.size))
  exact b.trans (h3.mono (Nat.le_trans hB b.size))

def ordOk (k n : Int) (s : ByteArray) (k' n' : Int) (s' : ByteArray) : Int := if (valOkB k n s && valOkB k' n' s') = true then ordV k n s k' n' s' else 0

set_option maxHeartbeats 1000000 in
theorem implOrder (k n : Int) (s : ByteArray) (k' n' : Int) (s' : ByteArray) (w : World) :
    Calls Tryz.prog 116 #[.agg #[.int .i64 k, .int .i64 n, .string s], .agg #[.int .i64 k', .int .i64 n', .string s']] w fun e w' => e = .returned (.int .i64 (ordOk k n s k' n' s')) ∧ Below w.heap.size w w' := by
  have Q0 := Lib.hid (Cells3.two w k n s k' n' s' 57)
  have HB0 := Lib.hid (chain2 w (.cells #[.int .i64 k, .int .i64 n, .string s] 57) (.cells #[.int .i64 k', .int .i64 n', .string s'] 57))
  cases ha : valOkB k n s
  · have Ha := Lib.hid ha
    go_enter Tryz.func116, Tryz.ntmps116
    go_wp2_with fail
    refine (implValOk k n s _).mono ?_
    rintro e w1 ⟨rfl, hb1⟩
    go_wp2
    go_ret
    exact ⟨retI (by simp [ordOk, Ha.out]), HB0.out.trans (hb1.mono HB0.out.size)⟩
  cases hc : valOkB k' n' s'
  · have Hc := Lib.hid hc
    go_enter Tryz.func116, Tryz.ntmps116
    go_wp2_with fail
    refine (implValOk k n s _).mono ?_
    rintro e w1 ⟨rfl, hb1⟩
    obtain ⟨⟨c0, c1, c2⟩, ⟨d0, d1, d2⟩⟩ := two_below Q0.out hb1
    go_wp2_with fail
    refine (implValOk k' n' s' _).mono ?_
    rintro e w2 ⟨rfl, hb2⟩
    go_wp2
    go_ret
    exact ⟨retI (by simp [ordOk, Hc.out]), (HB0.out.trans (hb1.mono HB0.out.size)).trans (hb2.mono (HB0.out.trans (hb1.mono HB0.out.size)).size)⟩
  · have Ha := Lib.hid ha
    have Hc := Lib.hid hc
    go_enter Tryz.func116, Tryz.ntmps116
    go_wp2_with fail
    refine (implValOk k n s _).mono ?_
    rintro e w1 ⟨rfl, hb1⟩
    have q1 := two_below Q0.out hb1
    obtain ⟨⟨c0, c1, c2⟩, ⟨d0, d1, d2⟩⟩ := q1
    go_wp2_with fail
    refine (implValOk k' n' s' _).mono ?_
    rintro e w2 ⟨rfl, hb2⟩
    have h2 := (HB0.out.trans (hb1.mono HB0.out.size)).trans (hb2.mono (HB0.out.trans (hb1.mono HB0.out.size)).size)
    have H2 := Lib.hid h2
    obtain ⟨⟨g0, g1, g2⟩, ⟨e0, e1, e2⟩⟩ := two_below (s := s) (s' := s') ⟨⟨c0, c1, c2⟩, ⟨d0, d1, d2⟩⟩ hb2
    clear c0 c1 c2 d0 d1 d2 hb1 hb2 h2
    go_wp2_with fail
    go_region_held3 (fun w' => w'.cell? ⟨w.heap.size, 0, none⟩ = some (.int .i64 k) ∧ w'.cell? ⟨w.heap.size, 1, none⟩ = some (.int .i64 n) ∧ w'.cell? ⟨w.heap.size, 2, none⟩ = some (.string s) ∧ w'.cell? ⟨w.heap.size + 1, 0, none⟩ = some (.int .i64 k') ∧ w'.cell? ⟨w.heap.size + 1, 1, none⟩ = some (.int .i64 n') ∧ w'.cell? ⟨w.heap.size + 1, 2, none⟩ = some (.string s')) (go_keep)
      (first | (go_at_call 126; refine (cmpInt _ _ _).mono ?_; rintro e w3 ⟨rfl, rfl⟩) | (go_at_call 127; refine (cmpStr _ _ _).mono ?_; rintro e w3 ⟨rfl, rfl⟩) | (go_at_call 125; refine Calls.mono (cmpOr _ (cmpI k k') (cmpI n n') (cmpS s s') _ ?_ ?_ ?_) ?_; simp; simp; simp; rintro e w3 ⟨rfl, rfl⟩))
    go_wp2
    go_ret
    exact ⟨retI (by rw [ord_eq Ha.out Hc.out]; simp [ordOk, Ha.out, Hc.out]), by first | exact (H2.out.alloc H2.out.size _).drew | exact H2.out.drew.alloc H2.out.size _⟩
end Go.Proofs.YtakhcgkhjmfndaaGreat
