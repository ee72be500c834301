/-
  Contracts of the functions that draw expressions out of a code: more of them.
-/
import Derived.Test.YtkoihpejkcnokaaDrawExpr3
namespace Go.Proofs.Ytkoihpejkcnokaa
open Go.RowKit Go.Maps
set_option linter.unusedVariables false
set_option linter.unusedSimpArgs false

def isExprCols (base : Nat) (v : Value) (w : World) : Prop := ∃ x n, v = .tuple #[x, .int .i64 n] ∧ isToks base 16 x w
set_option maxHeartbeats 2000000 in
theorem drawExprOk (a : Option Addr) (len cap : Nat) (zs : List Int) (w : World) (h : IsRow .u8 w a len cap zs) :
    Calls Try.prog 14 #[.slice a len cap] w (Drawn (isExprCols w.heap.size) w) := by
  have h0 := Rdr.new h 72
  have b0 := (Below.refl w.heap.size w).alloc (Nat.le_refl _) (.cells #[.slice a len cap, .int .i64 0] 72)
  have hx0 : (w.alloc (.cells #[.slice a len cap, .int .i64 0] 72)).heap.size = w.heap.size + 1 := by simp
  have HX0 := Lib.hid hx0
  obtain ⟨i0, hi', hz0, hz1, hz2⟩ := info_parts infoTokD
  have H1 := Lib.hid hi'
  have H2 := Lib.hid hz0
  have H3 := Lib.hid hz1
  have H4 := Lib.hid hz2
  clear hx0 hi' hz0 hz1 hz2
  go_enter Try.func14, Try.ntmps14
  go_wp2_with fail
  refine (specOpen _ _ _ _).mono ?_
  rintro e w1 ⟨rfl, rfl⟩
  generalize w.alloc (.cells #[.slice a len cap, .int .i64 0] 72) = w1 at *
  go_wp2_with fail
  refine (rdExpr 3 (by omega) (by omega) 3 (Nat.le_refl 3) 3 rfl _ _ a len cap zs h0).mono ?_
  rintro e w2 ⟨v2, rfl, ⟨ts, hown, hl, hp⟩, hb2, hr2⟩
  have HL := Lib.hid (show ts.length ≤ 15 from hl)
  have HOW := Lib.hid hown
  have HLT := Lib.hid (show w.heap.size < w1.heap.size by have := HX0.out; omega)
  clear hown hl
  go_wp2_with fail
  refine (rdOnce 4 _ _ a len cap zs hr2).mono ?_
  rintro e w3 ⟨v, rfl, ⟨b3, rfl⟩, hb3, hr3⟩
  have hb23 := hb2.trans hb3
  have HO3 := Lib.hid (OwnG.but HOW.out hb3 HLT.out)
  cases b3
  · go_wp2_with fail
    refine (rdOff 2 4 (by omega) (by omega) (by omega) _ _ a len cap zs hr3).mono ?_
    rintro e w8 ⟨v8, rfl, ⟨y8, rfl, -, -⟩, hb8, hr8⟩
    have HO8 := Lib.hid (OwnG.but HO3.out hb8 HLT.out)
    have hbz := hb23.trans hb8
    go_wp2_with fail
    go_ret2
    exact ⟨_, rfl, ⟨_, _, rfl, ⟨ts, HO8.out.mono (Nat.le_of_lt HLT.out), by have := HL.out; omega, hp⟩⟩, b0.trans (hbz.below (Nat.le_refl _) (Nat.le_of_lt HLT.out))⟩
  · go_wp2_with fail
    refine (rdOff 1 10 (by omega) (by omega) (by omega) _ _ a len cap zs hr3).mono ?_
    rintro e w4 ⟨v4, rfl, ⟨y4, rfl, -, -⟩, hb4, hr4⟩
    have hb24 := hb23.trans hb4
    have HO4 := Lib.hid (OwnG.but HO3.out hb4 HLT.out)
    go_wp2_with (at_builtin; refine wpList_append_own _ rfl _ _ 24 rfl w1.heap.size 32 i0 (.agg #[.int .i64 0, .int .i64 0, .int .i64 0, .int .i64 0, .string ⟨#[]⟩]) 5 48 Try.underlying24 H1.out H2.out H3.out H4.out rfl (by decide) _ _ _ rfl (World.ownsRow.alloc HO4.out _) ⟨_, 0, none⟩ 1 1 (Tk.cells ⟨y4, 0, 0, 0, ⟨#[]⟩⟩) rfl rfl ?c11 ?c21 ?c31 ?c41 ?c51 ?_)
    case c11 => exact cells_newAt _ (Tk.cells _) _ (by simp)
    case c21 => intro u hu; simp [Tk.cells] at hu; rcases hu with rfl | rfl | rfl | rfl | rfl <;> rfl
    case c31 => have h1 := HL.out; unfold maxLen; omega
    case c41 => have h1 := HL.out; omega
    case c51 => have h1 := (hb24).size; simp; omega
    intro v9 w9 hown9 hgrow9 _
    have hq : ∀ k, Value.ownBlock _ = some k → w1.heap.size ≤ k := fun k hk => (OwnG.block_lt HO4.out k hk).1
    have R9 := OwnG.app HO4.out (hb24).size hown9 hgrow9
    have hb9 := ((hb24).alloc _).grown hgrow9 hq
    have hr9 := h0.grown ((hr4).alloc _) ((hb24).alloc _) hgrow9 hq
    have HO9 := Lib.hid (show OwnT w9 w1.heap.size v9 (ts ++ [(⟨y4, 0, 0, 0, ⟨#[]⟩⟩ : Tk)]) from R9.1)
    have HL9 := Lib.hid (show (ts ++ [(⟨y4, 0, 0, 0, ⟨#[]⟩⟩ : Tk)]).length ≤ 16 by have h1 := HL.out; rw [List.length_append, List.length_singleton]; omega)
    have HP9 := Lib.hid (show 1 ≤ (ts ++ [(⟨y4, 0, 0, 0, ⟨#[]⟩⟩ : Tk)]).length by rw [List.length_append, List.length_singleton]; omega)
    clear hown9 hgrow9 hq R9
    generalize ts ++ [(⟨y4, 0, 0, 0, ⟨#[]⟩⟩ : Tk)] = us at *

    go_wp2_with fail
    refine (rdOff 2 4 (by omega) (by omega) (by omega) _ _ a len cap zs hr9).mono ?_
    rintro e w8 ⟨v8, rfl, ⟨y8, rfl, -, -⟩, hb8, hr8⟩
    have HO8 := Lib.hid (OwnG.but HO9.out hb8 HLT.out)
    have hbz := hb9.trans hb8
    go_wp2_with fail
    go_ret2
    exact ⟨_, rfl, ⟨_, _, rfl, ⟨us, HO8.out.mono (Nat.le_of_lt HLT.out), HL9.out, HP9.out⟩⟩, b0.trans (hbz.below (Nat.le_refl _) (Nat.le_of_lt HLT.out))⟩

set_option maxHeartbeats 2000000 in
theorem drawExprText (a : Option Addr) (len cap : Nat) (zs : List Int) (w : World) (h : IsRow .u8 w a len cap zs) :
    Calls Try.prog 15 #[.slice a len cap] w (Drawn (isToks w.heap.size 16) w) := by
  have h0 := Rdr.new h 72
  have b0 := (Below.refl w.heap.size w).alloc (Nat.le_refl _) (.cells #[.slice a len cap, .int .i64 0] 72)
  have hx0 : (w.alloc (.cells #[.slice a len cap, .int .i64 0] 72)).heap.size = w.heap.size + 1 := by simp
  have HX0 := Lib.hid hx0
  obtain ⟨i0, hi', hz0, hz1, hz2⟩ := info_parts infoTokD
  have H1 := Lib.hid hi'
  have H2 := Lib.hid hz0
  have H3 := Lib.hid hz1
  have H4 := Lib.hid hz2
  clear hx0 hi' hz0 hz1 hz2
  go_enter Try.func15, Try.ntmps15
  go_wp2_with fail
  refine (specOpen _ _ _ _).mono ?_
  rintro e w1 ⟨rfl, rfl⟩
  generalize w.alloc (.cells #[.slice a len cap, .int .i64 0] 72) = w1 at *
  go_wp2_with fail
  refine (rdExpr 3 (by omega) (by omega) 3 (Nat.le_refl 3) 3 rfl _ _ a len cap zs h0).mono ?_
  rintro e w2 ⟨v2, rfl, ⟨ts, hown, hl, hp⟩, hb2, hr2⟩
  have HL := Lib.hid (show ts.length ≤ 15 from hl)
  have HOW := Lib.hid hown
  have HLT := Lib.hid (show w.heap.size < w1.heap.size by have := HX0.out; omega)
  clear hown hl
  go_wp2_with fail
  refine (rdOnce 12 _ _ a len cap zs hr2).mono ?_
  rintro e w3 ⟨v, rfl, ⟨b3, rfl⟩, hb3, hr3⟩
  have hb23 := hb2.trans hb3
  have HO3 := Lib.hid (OwnG.but HOW.out hb3 HLT.out)
  cases b3
  · go_wp2_with fail
    go_ret
    exact ⟨_, rfl, ⟨ts, HO3.out.mono (Nat.le_of_lt HLT.out), by have := HL.out; omega, hp⟩, b0.trans (hb23.below (Nat.le_refl _) (Nat.le_of_lt HLT.out))⟩
  · skip
    go_wp2_with (at_builtin; refine wpList_append_own _ rfl _ _ 24 rfl w1.heap.size 32 i0 (.agg #[.int .i64 0, .int .i64 0, .int .i64 0, .int .i64 0, .string ⟨#[]⟩]) 5 48 Try.underlying24 H1.out H2.out H3.out H4.out rfl (by decide) _ _ _ rfl (World.ownsRow.alloc HO3.out _) ⟨_, 0, none⟩ 1 1 (Tk.cells ⟨5, 0, 0, 0, ⟨#[]⟩⟩) rfl rfl ?c12 ?c22 ?c32 ?c42 ?c52 ?_)
    case c12 => exact cells_newAt _ (Tk.cells _) _ (by simp)
    case c22 => intro u hu; simp [Tk.cells] at hu; rcases hu with rfl | rfl | rfl | rfl | rfl <;> rfl
    case c32 => have h1 := HL.out; unfold maxLen; omega
    case c42 => have h1 := HL.out; omega
    case c52 => have h1 := (hb23).size; simp; omega
    intro v9 w9 hown9 hgrow9 _
    have hq : ∀ k, Value.ownBlock _ = some k → w1.heap.size ≤ k := fun k hk => (OwnG.block_lt HO3.out k hk).1
    have R9 := OwnG.app HO3.out (hb23).size hown9 hgrow9
    have hb9 := ((hb23).alloc _).grown hgrow9 hq
    have hr9 := h0.grown ((hr3).alloc _) ((hb23).alloc _) hgrow9 hq
    have HO9 := Lib.hid (show OwnT w9 w1.heap.size v9 (ts ++ [(⟨5, 0, 0, 0, ⟨#[]⟩⟩ : Tk)]) from R9.1)
    have HL9 := Lib.hid (show (ts ++ [(⟨5, 0, 0, 0, ⟨#[]⟩⟩ : Tk)]).length ≤ 16 by have h1 := HL.out; rw [List.length_append, List.length_singleton]; omega)
    have HP9 := Lib.hid (show 1 ≤ (ts ++ [(⟨5, 0, 0, 0, ⟨#[]⟩⟩ : Tk)]).length by rw [List.length_append, List.length_singleton]; omega)
    clear hown9 hgrow9 hq R9
    generalize ts ++ [(⟨5, 0, 0, 0, ⟨#[]⟩⟩ : Tk)] = us at *

    go_wp2_with fail
    go_ret
    exact ⟨_, rfl, ⟨us, HO9.out.mono (Nat.le_of_lt HLT.out), HL9.out, HP9.out⟩, b0.trans (hb9.below (Nat.le_refl _) (Nat.le_of_lt HLT.out))⟩
end Go.Proofs.Ytkoihpejkcnokaa
