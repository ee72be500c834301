/-
  Contracts of the functions that draw texts out of a code, more: hurt, DrawFrameOf, DrawTakeFrames.
-/
import Derived.Test.YtadjeofjcehaeaaDoorFrDraw
import Derived.Test.YtadjeofjcehaeaaDoorFrameSpec
namespace Go.Proofs.YtadjeofjcehaeaaDoor
open Go.RowKit
set_option linter.unusedVariables false
set_option linter.unusedSimpArgs false

theorem but_undrew {R : Nat} {w w' : World} (h : But R w.drew w') : But R w w' := ⟨h.os, h.tape, h.output, h.size, h.block⟩
theorem rdr_drew {w : World} {R : Nat} {a : Option Addr} {len cap : Nat} {zs : List Int} (h : Rdr w R a len cap zs) : Rdr w.drew R a len cap zs := ⟨h.code, h.place, h.free, h.row, h.apart⟩
theorem hurt_cell {x : Int} (h0 : 0 ≤ x) (h1 : x = 0 ∨ x < 6) : ∃ k : Nat, x = k ∧ k < 6 ∧ ∃ t : ByteArray, (0 : Int) ≤ k ∧ (k : Int) < 6 ∧ t.size = 1 ∧ (#[.string ⟨#[97]⟩, .string ⟨#[48]⟩, .string ⟨#[39]⟩, .string ⟨#[49]⟩, .string ⟨#[37]⟩, .string ⟨#[32]⟩] : Array Value)[k]? = some (.string t) := by
  rcases six h0 h1 rfl with rfl | rfl | rfl | rfl | rfl | rfl
  · exact ⟨0, rfl, by omega, _, by omega, by omega, rfl, rfl⟩
  · exact ⟨1, rfl, by omega, _, by omega, by omega, rfl, rfl⟩
  · exact ⟨2, rfl, by omega, _, by omega, by omega, rfl, rfl⟩
  · exact ⟨3, rfl, by omega, _, by omega, by omega, rfl, rfl⟩
  · exact ⟨4, rfl, by omega, _, by omega, by omega, rfl, rfl⟩
  · exact ⟨5, rfl, by omega, _, by omega, by omega, rfl, rfl⟩
theorem hurt_l {k : Nat} {t : ByteArray} (h : (#[.string ⟨#[97]⟩, .string ⟨#[48]⟩, .string ⟨#[39]⟩, .string ⟨#[49]⟩, .string ⟨#[37]⟩, .string ⟨#[32]⟩] : Array Value)[k]? = some (.string t)) : ∀ hk, ([.string ⟨#[97]⟩, .string ⟨#[48]⟩, .string ⟨#[39]⟩, .string ⟨#[49]⟩, .string ⟨#[37]⟩, .string ⟨#[32]⟩] : List Value)[k]'hk = .string t := fun hk => by
  rw [← Array.getElem?_toList] at h
  have h2 := List.getElem?_eq_getElem hk
  exact Option.some.inj (h2.symm.trans h)
theorem hurt_at {xs : Array Value} {k : Nat} {v : Value} (h : xs[k]? = some v) {n : Nat} (hk : k < n) {hk' : k < xs.size} : some xs[k] = some v := by rw [← h, Array.getElem?_eq_getElem hk']
theorem three {x n : Int} (h0 : 0 ≤ x) (h1 : x = 0 ∨ x < n) (hn : n = 3) : x = 0 ∨ x = 1 ∨ x = 2 := by omega

set_option maxHeartbeats 2000000 in
theorem rdHurt (s : ByteArray) (hs : s.size ≤ 100) (w : World) (R : Nat) (a : Option Addr) (len cap : Nat) (zs : List Int) (h : Rdr w R a len cap zs) :
    Calls Tryd.prog 24 #[.pointer (some ⟨R, 0, none⟩), .string s] w (Drew R a len cap zs (isText (s.size + 1)) w) := by
  have hlt : R < w.heap.size := cell_lt h.code
  have hszE : ∀ i j : Nat, (s.extract i j).size ≤ s.size := fun i j => by rw [ByteArray.size_extract]; omega
  go_enter Tryd.func24, Tryd.ntmps24
  go_wp2_with fail
  refine (rdBelow _ _ R a len cap zs h).mono ?_
  rintro e w1 ⟨v, rfl, ⟨y, rfl, y0, y1⟩, hb, hr⟩
  have hlt1 : R < w1.heap.size := Nat.lt_of_lt_of_le hlt hb.size
  rcases six y0 y1 rfl with rfl | rfl | rfl | rfl | rfl | rfl
  · go_wp2_with fail
    go_ret
    exact ⟨_, rfl, ⟨s, rfl, by omega⟩, hb, hr⟩
  · go_wp2_with fail
    refine (rdBelow _ _ R a len cap zs hr).mono ?_
    rintro e w2 ⟨v, rfl, ⟨j, rfl, j0, j1⟩, hb2, hr2⟩
    have j2 : j ≤ s.size := by omega
    have HE := Lib.hid (hszE 0 j.toNat)
    clear hszE
    go_wp2_with fail
    go_ret
    exact ⟨_, rfl, ⟨_, rfl, Nat.le_succ_of_le HE.out⟩, hb.trans hb2, hr2⟩
  · by_cases h0 : 0 < s.size
    · have g0 : (0 : Int) < s.size := by omega
      go_wp2_with fail
      refine (rdBelow _ _ R a len cap zs hr).mono ?_
      rintro e w2 ⟨v, rfl, ⟨j, rfl, j0, j1⟩, hb2, hr2⟩
      obtain ⟨i, rfl⟩ : ∃ i : Nat, j = i := ⟨j.toNat, by omega⟩
      have i1 : (i : Int) ≤ s.size := by omega
      have i2 : (i : Int) + 1 ≤ s.size := by omega
      have i0 : (0 : Int) ≤ i := by omega
      have i3 : (0 : Int) ≤ (i : Int) + 1 := by omega
      have iw : IntKind.i64.wrap ((i : Int) + 1) = (i : Int) + 1 := by rw [IntKind.wrap_i64]; omega
      have hlt2 : R < w2.heap.size := Nat.lt_of_lt_of_le hlt1 hb2.size
      have HB := Lib.hid (hb.trans hb2)
      have HR := Lib.hid hr2
      have HA := Lib.hid (hr2.alloc (.cells #[.string ⟨#[97]⟩, .string ⟨#[48]⟩, .string ⟨#[39]⟩, .string ⟨#[49]⟩, .string ⟨#[37]⟩, .string ⟨#[32]⟩] 9))
      have hz1 : (s.extract 0 i).size = i := by rw [ByteArray.size_extract]; omega
      have hz2 : (s.extract (i + 1) s.size).size = s.size - (i + 1) := by rw [ByteArray.size_extract]; omega
      have he1 : ∀ w : World, (Instr.slice 9 (.string s) none (some (.int .i64 (i : Int))) none).run Tryd.prog w = .ok (.string (s.extract 0 i)) w := fun w => by
        rw [run_slice_string_to_if (P := Tryd.prog) (w := w) 9 s .i64 (i : Int) Tryd.underlying9, if_pos ⟨i0, i1⟩, Int.toNat_natCast]
      have he2 : ∀ w : World, (Instr.slice 9 (.string s) (some (.int .i64 ((i : Int) + 1))) none none).run Tryd.prog w = .ok (.string (s.extract (i + 1) s.size)) w := fun w => by
        rw [run_slice_string_from_if (P := Tryd.prog) (w := w) 9 s .i64 ((i : Int) + 1) Tryd.underlying9, if_pos ⟨i3, i2⟩, show ((i : Int) + 1).toNat = i + 1 by omega]
      generalize s.extract 0 i = p at *
      generalize s.extract (i + 1) s.size = q at *
      clear hszE hb2 hr2 hb hr j1 j0
      go_wp2_with fail
      go_region_with (go_at_call 22; first | (refine (rdBelow _ _ R a len cap zs (rdr_drew HA.out)).mono ?_; rintro e w3 ⟨v, rfl, ⟨x, rfl, x0, x1⟩, hb3', hr3⟩; have hb3 := but_undrew hb3'; obtain ⟨k, rfl, k6, t, k0, k1, ht, hc⟩ := hurt_cell x0 x1; have c0 := (new_cell hb3 hlt2 k (by simpa using k6)).trans (hurt_at hc k6)) | (refine (rdBelow _ _ R a len cap zs (rdr_drew HR.out)).mono ?_; rintro e w3 ⟨v, rfl, ⟨x, rfl, x0, x1⟩, hb3', hr3⟩; have hb3 := but_undrew hb3'; obtain ⟨k, rfl, k6, t, k0, k1, ht, hc⟩ := hurt_cell x0 x1; have hl := hurt_l hc))
      all_goals
        go_wp2_with fail
        first | go_ret | skip
      all_goals first
        | exact ⟨_, rfl, ⟨_, rfl, by rw [ByteArray.size_append, ByteArray.size_append, hz1, hz2]; omega⟩, (HB.out.alloc _).trans hb3, hr3⟩
        | exact ⟨_, rfl, ⟨_, rfl, by rw [ByteArray.size_append, ByteArray.size_append, hz1, hz2]; omega⟩, ((HB.out.trans hb3).alloc _), hr3.alloc _⟩
    · have g0 : ¬ (0 : Int) < s.size := by omega
      go_wp2_with fail
      go_ret
      exact ⟨_, rfl, ⟨s, rfl, by omega⟩, hb, hr⟩
  · go_wp2_with fail
    refine (rdBelow _ _ R a len cap zs (hr.alloc _)).mono ?_
    rintro e w2 ⟨v, rfl, ⟨j, rfl, j0, j1⟩, hb2, hr2⟩
    have hb3 := (hb.alloc _).trans hb2
    rcases three j0 j1 rfl with rfl | rfl | rfl
    · have c := new_cell hb2 hlt1 0 (by simp)
      go_wp2_with fail
      go_ret
      exact ⟨_, rfl, ⟨_, rfl, by rw [ByteArray.size_append]; exact Nat.le_refl _⟩, hb3, hr2⟩
    · have c := new_cell hb2 hlt1 1 (by simp)
      go_wp2_with fail
      go_ret
      exact ⟨_, rfl, ⟨_, rfl, by rw [ByteArray.size_append]; exact Nat.le_refl _⟩, hb3, hr2⟩
    · have c := new_cell hb2 hlt1 2 (by simp)
      go_wp2_with fail
      go_ret
      exact ⟨_, rfl, ⟨_, rfl, by rw [ByteArray.size_append]; exact Nat.le_refl _⟩, hb3, hr2⟩
  · go_wp2_with fail
    go_ret
    exact ⟨_, rfl, ⟨s, rfl, by omega⟩, hb, hr⟩
  · go_wp2_with fail
    go_ret
    exact ⟨_, rfl, ⟨s, rfl, by omega⟩, hb, hr⟩

set_option maxHeartbeats 1000000 in
theorem drawFrameOf (a : Option Addr) (len cap : Nat) (zs : List Int) (w : World) (h : IsRow .u8 w a len cap zs) :
    Calls Tryd.prog 16 #[.slice a len cap] w (Drawn (isText 8) w) := by
  have h0 := Rdr.new h 46
  have b0 := (Below.refl w.heap.size w).alloc (Nat.le_refl _) (.cells #[.slice a len cap, .int .i64 0] 46)
  go_enter Tryd.func16, Tryd.ntmps16
  go_wp2_with fail
  refine (specOpen _ _ _ _).mono ?_
  rintro e w1 ⟨rfl, rfl⟩
  go_wp2_with fail
  refine (rdText _ _ a len cap zs h0).mono ?_
  rintro e w2 ⟨v, rfl, ⟨x, rfl, hx⟩, hb, hr⟩
  go_wp2_with fail
  refine (rdBytes _ _ a len cap zs hr).mono ?_
  rintro e w3 ⟨v, rfl, ⟨y, rfl, hy⟩, hb2, hr2⟩
  go_wp2_with fail
  go_ret
  exact ⟨_, rfl, ⟨_, rfl, by rw [ByteArray.size_append]; omega⟩, b0.trans ((hb.trans hb2).below (Nat.le_refl _) (by simp))⟩

theorem frameB_size (s : ByteArray) (h : s.size ≤ 100000) : (frameB s).size = 8 + s.size := by
  unfold frameB; rw [if_pos h, ByteArray.size_append, ByteArray.size_append]; rfl

set_option maxHeartbeats 1000000 in
theorem drawTakeFrames (a : Option Addr) (len cap : Nat) (zs : List Int) (w : World) (h : IsRow .u8 w a len cap zs) :
    Calls Tryd.prog 14 #[.slice a len cap] w (Drawn (isText 40) w) := by
  have h0 := Rdr.new h 46
  have b0 := (Below.refl w.heap.size w).alloc (Nat.le_refl _) (.cells #[.slice a len cap, .int .i64 0] 46)
  go_enter Tryd.func14, Tryd.ntmps14
  go_wp2_with fail
  refine (specOpen _ _ _ _).mono ?_
  rintro e w1 ⟨rfl, rfl⟩
  have hRlt : w.heap.size < (w.alloc (.cells #[.slice a len cap, .int .i64 0] 46)).heap.size := by simp
  have hws : w.heap.size ≤ (w.alloc (.cells #[.slice a len cap, .int .i64 0] 46)).heap.size := by simp
  generalize w.alloc (.cells #[.slice a len cap, .int .i64 0] 46) = u at *
  go_wp2_with fail
  refine (rdBelow _ _ _ a len cap zs h0).mono ?_
  rintro e w2 ⟨v, rfl, ⟨y, rfl, y0, y1⟩, hb, hr⟩
  obtain ⟨n, rfl⟩ : ∃ n : Nat, y = n := ⟨y.toNat, by omega⟩
  have hn : n ≤ 3 := by omega
  clear y0 y1
  go_wp2_with fail
  go_loopw [4, 5] (fun v i wr => ∃ (k : Nat) (s : ByteArray), i = .int .i64 k ∧ v = .string s ∧ k ≤ 3 ∧ s.size + 11 * k ≤ 33 ∧ But w.heap.size u wr ∧ Rdr wr w.heap.size a len cap zs) (fun _ i _ => (intOf i).toNat)
  case atStart => exact ⟨n, ⟨#[]⟩, rfl, rfl, hn, by show 0 + 11 * n ≤ 33; omega, hb, hr⟩
  case round =>
    obtain ⟨k, s, rfl, rfl, hk, hs, hbr, hrr⟩ := hrel
    by_cases hk0 : 0 < k
    · have g0 : (0 : Int) < k := by omega
      go_wp2_with fail
      refine (rdText _ _ a len cap zs hrr).mono ?_
      rintro e w3 ⟨v, rfl, ⟨x, rfl, hx⟩, hb3, hr3⟩
      go_wp2_with fail
      refine (specFrameOf x w3 (by unfold maxLen; omega)).mono ?_
      rintro e w4 ⟨rfl, hb4⟩
      have hf := frameB_size x (by omega)
      have hr4 := hr3.grown hr3 hb4
      have hbb := (hbr.trans hb3).trans ((But.refl _ w3).grown hb4)
      generalize frameB x = f at *
      go_wp2_with fail
      go_roundw
      case rel => exact ⟨k - 1, s ++ f, by go_num, rfl, by omega, by rw [ByteArray.size_append]; omega, hbb, hr4⟩
      case measure => simp [intOf]; omega
    · have g0 : ¬ (0 : Int) < k := by omega
      go_wp2_with fail
      refine (rdHurt s (by omega) _ _ a len cap zs hrr).mono ?_
      rintro e w3 ⟨v, rfl, ⟨x, rfl, hx⟩, hb3, hr3⟩
      go_wp2_with fail
      go_ret
      exact ⟨_, rfl, ⟨x, rfl, by omega⟩, b0.trans ((hbr.trans hb3).below (Nat.le_refl _) hws)⟩
end Go.Proofs.YtadjeofjcehaeaaDoor
