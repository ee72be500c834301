/-
  Contracts of the functions that draw values out of a code, more: DrawEqual3, DrawValOk.
-/
import Derived.Test.YtimgaipikgpgkaaDraws2
namespace Go.Proofs.Ytimgaipikgpgkaa
open Go.RowKit

theorem Blk.below {w w' : World} {b : Nat} {k n : Int} {s : ByteArray} (h : Blk w b k n s) (hb : Below w.heap.size w w') : Blk w' b k n s := (hb.block b h.lt).trans h

set_option maxHeartbeats 1000000 in
theorem drawEqual3 (a : Option Addr) (len cap : Nat) (zs : List Int) (w : World) (h : IsRow .u8 w a len cap zs) :
    Calls Try.prog 21 #[.slice a len cap] w (Drawn (isPair isOkVal isOkVal) w) := by
  have hx := ((Below.refl w.heap.size w).alloc (Nat.le_refl _) (.cells #[.int .i64 0, .int .i64 0, .string ⟨#[]⟩] 25)).alloc (by simp) (.cells #[.int .i64 0, .int .i64 0, .string ⟨#[]⟩] 25)
  have r0 := (Blk.new w 0 0 ⟨#[]⟩).alloc (.cells #[.int .i64 0, .int .i64 0, .string ⟨#[]⟩] 25)
  have r1 := Blk.new (w.alloc (.cells #[.int .i64 0, .int .i64 0, .string ⟨#[]⟩] 25)) 0 0 ⟨#[]⟩
  rw [show (w.alloc (.cells #[.int .i64 0, .int .i64 0, .string ⟨#[]⟩] 25)).heap.size = w.heap.size + 1 by simp] at r1
  have hrow := h.below hx
  go_enter Try.func21, Try.ntmps21
  go_wp2_with fail
  generalize (w.alloc (.cells #[.int .i64 0, .int .i64 0, .string ⟨#[]⟩] 25)).alloc (.cells #[.int .i64 0, .int .i64 0, .string ⟨#[]⟩] 25) = x at *
  refine (drawOrder _ _ _ zs _ hrow).mono ?_
  rintro e w1 ⟨v, rfl, ⟨_, _, rfl, ⟨k, n, s, rfl, ok1⟩, ⟨k', n', s', rfl, ok2⟩⟩, hb⟩
  have hz := hx.trans (hb.mono hx.size)
  have u0 := r0.below hb
  have u1 := r1.below hb
  obtain ⟨d0, d1, d2⟩ := u0.cells
  obtain ⟨e0, e1, e2⟩ := u1.cells
  obtain ⟨f0, f1, f2⟩ := u0.free
  obtain ⟨g0, g1, g2⟩ := u1.free
  go_wp2_with fail
  refine bodyPost_ret (v := .tuple #[.agg #[.int .i64 k, .int .i64 n, .string s], .agg #[.int .i64 k', .int .i64 n', .string s']]) (by simp [results, Try.results21, go_sem, d0, d1, d2, e0, e1, e2]) rfl
        ⟨_, rfl, ⟨_, _, rfl, ⟨k, n, s, rfl, ok1⟩, ⟨k', n', s', rfl, ok2⟩⟩, ?_⟩
  repeat (first | with_reducible exact hz | with_reducible refine Below.drew ?_ | with_reducible refine Below.setCell ?_ (by simp) _)

theorem wf_small {n : Int} (h : -9223372036854775808 ≤ n) (h' : n ≤ 9223372036854775807) : (Lit.int .i64 n).wf = true := by
  have e1 : IntKind.i64.min = -9223372036854775808 := rfl
  have e2 : IntKind.i64.max = 9223372036854775807 := rfl
  simp [Lit.wf]; omega
theorem okV_isVal {k n : Int} {s : ByteArray} (h : okV k n s) : IsVal k n s := by
  rcases h with ⟨rfl, rfl, rfl⟩ | ⟨rfl, h1, h2, rfl⟩ | ⟨rfl, rfl, h⟩
  · exact ⟨by decide, by decide, by decide⟩
  · exact ⟨by decide, wf_small (by omega) (by omega), by decide⟩
  · exact ⟨by decide, by decide, by unfold maxLen; omega⟩

set_option maxHeartbeats 1000000 in
theorem drawValOk (a : Option Addr) (len cap : Nat) (zs : List Int) (w : World) (h : IsRow .u8 w a len cap zs) :
    Calls Try.prog 16 #[.slice a len cap] w (Drawn isVal w) := by
  have hx := (Below.refl w.heap.size w).alloc (Nat.le_refl _) (.cells #[.int .i64 0, .int .i64 0, .string ⟨#[]⟩] 25)
  have r0 := Blk.new w 0 0 ⟨#[]⟩
  have hrow := h.below hx
  go_enter Try.func16, Try.ntmps16
  go_wp2_with fail
  generalize w.alloc (.cells #[.int .i64 0, .int .i64 0, .string ⟨#[]⟩] 25) = x at *
  refine (specOpen _ _ _ _).mono ?_
  rintro e w1 ⟨rfl, rfl⟩
  have h0 := Rd.new hrow 59
  have q0 := r0.alloc (.cells #[.slice a len cap, .int .i64 0] 59)
  have hy := hx.alloc hx.size (.cells #[.slice a len cap, .int .i64 0] 59)
  have n0 : w.heap.size ≠ x.heap.size := Nat.ne_of_lt r0.lt
  go_wp2_with fail
  refine (rdVal _ _ a len cap zs h0).mono ?_
  rintro e w2 ⟨v, rfl, ⟨k, n, s, rfl, ok1⟩, hb, hr⟩
  have p0 := q0.but hb n0
  have hz := hy.trans (hb.below (Nat.le_of_lt (by have := r0.lt; omega)) (by have := r0.lt; simp; omega))
  have p2 := Blk.new w2 k n s
  have n2 : w2.heap.size ≠ x.heap.size := Nat.ne_of_gt (by have := cell_lt hr.code; simpa using this)
  go_wp2_with fail
  refine (rdBelow _ _ _ a len cap zs (hr.alloc _)).mono ?_
  rintro e w3 ⟨v, rfl, ⟨y, rfl, y0, y1⟩, hb3, hr3⟩
  have u0 := (p0.alloc _).but hb3 n0
  have u2 := p2.but hb3 n2
  have hz3 := (hz.alloc hz.size _).trans (hb3.below (Nat.le_of_lt (by have := r0.lt; omega)) (Nat.le_trans (Nat.le_trans hz.size (Nat.le_succ _)) (by simp)))
  have m0 : w.heap.size ≠ w2.heap.size := Nat.ne_of_lt p0.lt
  have hz2 := hz.size
  have hx0 := hx.size
  have hv := okV_isVal ok1
  clear p0 p2 hz hb3 hb hr hy h0 hx r0 q0 hrow
  by_cases c6 : y = 6
  · subst c6
    go_wp2_with fail
    refine (rdOff _ _ (by omega) (by omega) (by omega) _ _ a len cap zs hr3).mono ?_
    rintro e w4 ⟨v, rfl, ⟨z, rfl, z0, z1⟩, hb4, hr4⟩
    have t0 := u0.but hb4 n0
    have t2 := u2.but hb4 n2
    have hz4 := hz3.trans (hb4.below hx0 (Nat.le_of_lt u0.lt))
    obtain ⟨c0, c1, c2⟩ := t2.cells
    obtain ⟨d0, d1, d2⟩ := t0.cells
    obtain ⟨f0, f1, f2⟩ := t2.free
    obtain ⟨g0, g1, g2⟩ := t0.free
    go_wp2_with fail
    refine bodyPost_ret (v := .agg #[.int .i64 z, .int .i64 n, .string s]) (by simp [results, Try.results16, go_sem, d0, d1, d2]) rfl
        ⟨_, rfl, ⟨z, n, s, rfl, wf_small z0 z1, hv.2.1, hv.2.2⟩, ?_⟩
    repeat (first | with_reducible exact hz4 | with_reducible refine Below.drew ?_ | with_reducible refine Below.setCell ?_ (by simp; omega) _ | with_reducible refine Below.setCell ?_ (by simp) _)
  by_cases c7 : y = 7
  · subst c7
    go_wp2_with fail
    refine (rdOff _ _ (by omega) (by omega) (by omega) _ _ a len cap zs hr3).mono ?_
    rintro e w4 ⟨v, rfl, ⟨z, rfl, z0, z1⟩, hb4, hr4⟩
    have t0 := u0.but hb4 n0
    have t2 := u2.but hb4 n2
    have hz4 := hz3.trans (hb4.below hx0 (Nat.le_of_lt u0.lt))
    obtain ⟨c0, c1, c2⟩ := t2.cells
    obtain ⟨d0, d1, d2⟩ := t0.cells
    obtain ⟨f0, f1, f2⟩ := t2.free
    obtain ⟨g0, g1, g2⟩ := t0.free
    go_wp2_with fail
    refine bodyPost_ret (v := .agg #[.int .i64 k, .int .i64 z, .string s]) (by simp [results, Try.results16, go_sem, d0, d1, d2]) rfl
        ⟨_, rfl, ⟨k, z, s, rfl, hv.1, wf_small z0 z1, hv.2.2⟩, ?_⟩
    repeat (first | with_reducible exact hz4 | with_reducible refine Below.drew ?_ | with_reducible refine Below.setCell ?_ (by simp; omega) _ | with_reducible refine Below.setCell ?_ (by simp) _)
  have e6 : (y == 6) = false := by simpa using c6
  have e7 : (y == 7) = false := by simpa using c7
  obtain ⟨c0, c1, c2⟩ := u2.cells
  obtain ⟨d0, d1, d2⟩ := u0.cells
  obtain ⟨g0, g1, g2⟩ := u0.free
  go_wp2_with fail
  refine bodyPost_ret (v := .agg #[.int .i64 k, .int .i64 n, .string s]) (by simp [results, Try.results16, go_sem, d0, d1, d2]) rfl
      ⟨_, rfl, ⟨k, n, s, rfl, hv⟩, ?_⟩
  repeat (first | with_reducible exact hz3 | with_reducible refine Below.drew ?_ | with_reducible refine Below.setCell ?_ (by simp) _)
end Go.Proofs.Ytimgaipikgpgkaa
