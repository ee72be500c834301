/-
  Contracts of the functions that draw expressions and rows out of a code (the whole).
-/
import Derived.Test.YtkoihpejkcnokaaDrawExpr
namespace Go.Proofs.Ytkoihpejkcnokaa
open Go.RowKit Go.Maps
set_option linter.unusedVariables false
set_option linter.unusedSimpArgs false

theorem infoTokD : (Try.prog.info? 32).map (fun i => (i.zero, i.size, i.bytes)) = some (some (.agg #[.int .i64 0, .int .i64 0, .int .i64 0, .int .i64 0, .string ⟨#[]⟩]), 5, 48) := by kernel_rfl
theorem infoValD : (Try.prog.info? 30).map (fun i => (i.zero, i.size, i.bytes)) = some (some (.agg #[.int .i64 0, .int .i64 0, .string ⟨#[]⟩]), 3, 32) := by kernel_rfl

theorem leaf_post {R : Nat} {w w3 w4 : World} {a : Option Addr} {len cap : Nat} {zs : List Int} (h : Rdr w R a len cap zs) (hb : But R w w3) (hr : Rdr w3 R a len cap zs) (hb4 : Below w3.heap.size w3 w4) (t : Tk) {B : Nat} (hB : 1 ≤ B) :
    Drew R a len cap zs (isToks w.heap.size B) w (.returned (.slice (some ⟨w4.heap.size, 0, none⟩) 1 1)) (w4.alloc (.cells (Tk.cells t).toArray 32)) :=
  ⟨_, rfl, ⟨[t], OwnG.one w4 (Nat.le_trans hb.size hb4.size) t rfl, hB, by simp⟩, (hb.trans (But.ofBelow hb4)).alloc _, (hr.below hb4).alloc _⟩

set_option maxRecDepth 100000 in
set_option maxHeartbeats 4000000 in
theorem rdExpr (c : Int) (hc0 : 0 ≤ c) (hc1 : c ≤ 16) : ∀ (d : Nat), d ≤ 3 → ∀ (x : Int), x = d → ∀ (w : World) (R : Nat) (a : Option Addr) (len cap : Nat) (zs : List Int), Rdr w R a len cap zs →
    Calls Try.prog 27 #[.pointer (some ⟨R, 0, none⟩), .int .i64 c, .int .i64 x] w (Drew R a len cap zs (isToks w.heap.size (eb d)) w) := by
  intro d
  induction d with
  | zero =>
    intro hd x hx w R a len cap zs h
    obtain rfl : x = 0 := by simpa using hx
    have hbr := But.refl R w
    clear hx
    go_enter Try.func27, Try.ntmps27
    by_cases hcp : 0 < c
    case neg =>
      have zc : decide (0 < c) = false := decide_eq_false hcp
      go_wp2_with fail
      refine (rdVal _ R a len cap zs h).mono ?_
      rintro e w8 ⟨v, rfl, ⟨vk, vn, vs, rfl, hv⟩, hb8, hr8⟩
      clear hv
      go_wp2_with fail
      refine (specL2Const vk vn vs _).mono ?_
      rintro e w9 ⟨rfl, hb9⟩
      go_wp2_with fail
      go_ret
      exact leaf_post h (hbr.trans hb8) hr8 hb9 ⟨2, 0, vk, vn, vs⟩ (eb_pos _)

    have zc : decide (0 < c) = true := decide_eq_true hcp
    go_wp2_with fail
    refine (rdOnce 3 _ R a len cap zs h).mono ?_
    rintro e w6 ⟨v, rfl, ⟨b6, rfl⟩, hb6, hr6⟩
    cases b6
    case true =>
      go_wp2_with fail
      refine (rdVal _ R a len cap zs hr6).mono ?_
      rintro e w8 ⟨v, rfl, ⟨vk, vn, vs, rfl, hv⟩, hb8, hr8⟩
      clear hv
      go_wp2_with fail
      refine (specL2Const vk vn vs _).mono ?_
      rintro e w9 ⟨rfl, hb9⟩
      go_wp2_with fail
      go_ret
      exact leaf_post h ((hbr.trans hb6).trans hb8) hr8 hb9 ⟨2, 0, vk, vn, vs⟩ (eb_pos _)

    go_wp2_with fail
    refine (rdBelow c _ R a len cap zs hr6).mono ?_
    rintro e w7 ⟨v, rfl, ⟨y7, rfl, z70, z71⟩, hb7, hr7⟩
    go_wp2_with fail
    refine (specL2Col y7 _).mono ?_
    rintro e w8 ⟨rfl, hb8⟩
    go_wp2_with fail
    go_ret
    exact leaf_post h ((hbr.trans hb6).trans hb7) hr7 hb8 ⟨1, y7, 0, 0, ⟨#[]⟩⟩ (eb_pos _)
  | succ d ih =>
    intro hd x hx w R a len cap zs h
    have IH := Lib.hid (ih (by omega))
    have x1 : 1 ≤ x := by omega
    have x3 : x ≤ 3 := by omega
    have zx : (x == 0) = false := by rw [beq_eq_false_iff_ne]; omega
    have HX := Lib.hid (show x - 1 = (d : Int) by omega)
    have hR : R < w.heap.size := cell_lt h.code
    obtain ⟨i0, hi', hz0, hz1, hz2⟩ := info_parts infoTokD
    have H1 := Lib.hid hi'
    have H2 := Lib.hid hz0
    have H3 := Lib.hid hz1
    have H4 := Lib.hid hz2
    clear hi' hz0 hz1 hz2 ih hx
    go_enter Try.func27, Try.ntmps27
    go_wp2_with fail
    refine (rdOnce 4 _ R a len cap zs h).mono ?_
    rintro e w1 ⟨v, rfl, ⟨b1, rfl⟩, hb1, hr1⟩
    cases b1
    case true =>
      by_cases hcp : 0 < c
      case neg =>
        have zc : decide (0 < c) = false := decide_eq_false hcp
        go_wp2_with fail
        refine (rdVal _ R a len cap zs hr1).mono ?_
        rintro e w8 ⟨v, rfl, ⟨vk, vn, vs, rfl, hv⟩, hb8, hr8⟩
        clear hv
        go_wp2_with fail
        refine (specL2Const vk vn vs _).mono ?_
        rintro e w9 ⟨rfl, hb9⟩
        go_wp2_with fail
        go_ret
        exact leaf_post h (hb1.trans hb8) hr8 hb9 ⟨2, 0, vk, vn, vs⟩ (eb_pos _)

      have zc : decide (0 < c) = true := decide_eq_true hcp
      go_wp2_with fail
      refine (rdOnce 3 _ R a len cap zs hr1).mono ?_
      rintro e w6 ⟨v, rfl, ⟨b6, rfl⟩, hb6, hr6⟩
      cases b6
      case true =>
        go_wp2_with fail
        refine (rdVal _ R a len cap zs hr6).mono ?_
        rintro e w8 ⟨v, rfl, ⟨vk, vn, vs, rfl, hv⟩, hb8, hr8⟩
        clear hv
        go_wp2_with fail
        refine (specL2Const vk vn vs _).mono ?_
        rintro e w9 ⟨rfl, hb9⟩
        go_wp2_with fail
        go_ret
        exact leaf_post h ((hb1.trans hb6).trans hb8) hr8 hb9 ⟨2, 0, vk, vn, vs⟩ (eb_pos _)

      go_wp2_with fail
      refine (rdBelow c _ R a len cap zs hr6).mono ?_
      rintro e w7 ⟨v, rfl, ⟨y7, rfl, z70, z71⟩, hb7, hr7⟩
      go_wp2_with fail
      refine (specL2Col y7 _).mono ?_
      rintro e w8 ⟨rfl, hb8⟩
      go_wp2_with fail
      go_ret
      exact leaf_post h ((hb1.trans hb6).trans hb7) hr7 hb8 ⟨1, y7, 0, 0, ⟨#[]⟩⟩ (eb_pos _)
    go_wp2_with fail
    refine (rdBelow 8 _ R a len cap zs hr1).mono ?_
    rintro e w2 ⟨v, rfl, ⟨y, rfl, y0, y1⟩, hb2, hr2⟩
    have y8 : y < 8 := by omega
    have hb02 := hb1.trans hb2
    have HS2 := Lib.hid hb02.size
    clear y1 hb1 hb2
    go_wp2_with fail
    refine (IH.out (x - 1) HX.out _ R a len cap zs hr2).mono ?_
    rintro e w3 ⟨v3, rfl, ⟨ts, hown, hl, hp⟩, hb3, hr3⟩
    have hb03 := hb02.trans hb3
    have HOW := Lib.hid hown
    have HL3 := Lib.hid (show ts.length ≤ eb d + eb d by omega)
    have HSZ := Lib.hid (show w2.heap.size ≤ w3.heap.size from hb3.size)
    clear hown
    by_cases y4 : y = 4
    case pos =>
      subst y4
      go_wp2_with (at_builtin; refine wpList_append_own _ rfl _ _ 24 rfl w2.heap.size 32 i0 (.agg #[.int .i64 0, .int .i64 0, .int .i64 0, .int .i64 0, .string ⟨#[]⟩]) 5 48 Try.underlying24 H1.out H2.out H3.out H4.out rfl (by decide) _ _ _ rfl (World.ownsRow.alloc HOW.out _) ⟨_, 0, none⟩ 1 1 (Tk.cells ⟨7, 0, 0, 0, ⟨#[]⟩⟩) rfl rfl ?c11 ?c21 ?c31 ?c41 ?c51 ?_)
      case c11 => exact cells_newAt _ (Tk.cells _) _ (by simp)
      case c21 => intro u hu; simp [Tk.cells] at hu; rcases hu with rfl | rfl | rfl | rfl | rfl <;> rfl
      case c31 => have h1 := eb_le (d := d) (by omega); have h2 := HL3.out; unfold maxLen; omega
      case c41 => have h1 := eb_le (d := d) (by omega); have h2 := HL3.out; omega
      case c51 => have h1 := HSZ.out; simp; omega
      intro v9 w9 hown9 hgrow9 _
      have hq : ∀ k, Value.ownBlock _ = some k → w.heap.size ≤ k := fun k hk => Nat.le_trans HS2.out (OwnG.block_lt HOW.out k hk).1
      have R9 := OwnG.app HOW.out HSZ.out hown9 hgrow9
      have hb9 := (hb03.alloc _).grown hgrow9 hq
      have hr9 := h.grown (hr3.alloc _) (hb03.alloc _) hgrow9 hq
      have HR9 := Lib.hid (And.intro R9.1 (And.intro hb9 hr9))
      clear hown9 hgrow9 hq R9 hb9 hr9
      go_wp2_with fail
      go_ret
      exact ⟨_, rfl, ⟨_, HR9.out.1.mono HS2.out, by have h2 := HL3.out; simp [eb]; omega, by simp⟩, HR9.out.2.1, HR9.out.2.2⟩
    by_cases y5 : y = 5
    case pos =>
      subst y5
      go_wp2_with (at_builtin; refine wpList_append_own _ rfl _ _ 24 rfl w2.heap.size 32 i0 (.agg #[.int .i64 0, .int .i64 0, .int .i64 0, .int .i64 0, .string ⟨#[]⟩]) 5 48 Try.underlying24 H1.out H2.out H3.out H4.out rfl (by decide) _ _ _ rfl (World.ownsRow.alloc HOW.out _) ⟨_, 0, none⟩ 1 1 (Tk.cells ⟨8, 0, 0, 0, ⟨#[]⟩⟩) rfl rfl ?c12 ?c22 ?c32 ?c42 ?c52 ?_)
      case c12 => exact cells_newAt _ (Tk.cells _) _ (by simp)
      case c22 => intro u hu; simp [Tk.cells] at hu; rcases hu with rfl | rfl | rfl | rfl | rfl <;> rfl
      case c32 => have h1 := eb_le (d := d) (by omega); have h2 := HL3.out; unfold maxLen; omega
      case c42 => have h1 := eb_le (d := d) (by omega); have h2 := HL3.out; omega
      case c52 => have h1 := HSZ.out; simp; omega
      intro v9 w9 hown9 hgrow9 _
      have hq : ∀ k, Value.ownBlock _ = some k → w.heap.size ≤ k := fun k hk => Nat.le_trans HS2.out (OwnG.block_lt HOW.out k hk).1
      have R9 := OwnG.app HOW.out HSZ.out hown9 hgrow9
      have hb9 := (hb03.alloc _).grown hgrow9 hq
      have hr9 := h.grown (hr3.alloc _) (hb03.alloc _) hgrow9 hq
      have HR9 := Lib.hid (And.intro R9.1 (And.intro hb9 hr9))
      clear hown9 hgrow9 hq R9 hb9 hr9
      go_wp2_with fail
      go_ret
      exact ⟨_, rfl, ⟨_, HR9.out.1.mono HS2.out, by have h2 := HL3.out; simp [eb]; omega, by simp⟩, HR9.out.2.1, HR9.out.2.2⟩
    have k7 : (3 + y != 7) = true := by rw [bne_iff_ne]; omega
    have k8 : (3 + y != 8) = true := by rw [bne_iff_ne]; omega
    go_wp2_with fail
    refine (IH.out (x - 1) HX.out _ R a len cap zs hr3).mono ?_
    rintro e w4 ⟨v4, rfl, ⟨us, hown4, hl4, hp4⟩, hb4, hr4⟩
    obtain ⟨g4, cap4, rfl, hg4, hg4', hsrc⟩ := OwnG.src hown4 (by omega)
    have HSRC := Lib.hid hsrc
    have HOZ := Lib.hid (OwnG.but HOW.out hb4 (Nat.lt_of_lt_of_le hR HS2.out))
    have hb04 := hb03.trans hb4
    have HSY := Lib.hid (Nat.le_trans HSZ.out hb4.size)
    clear hsrc hown4 HOW
    go_wp2_with (at_builtin; refine wpList_append_own _ rfl _ _ 24 rfl w2.heap.size 32 i0 (.agg #[.int .i64 0, .int .i64 0, .int .i64 0, .int .i64 0, .string ⟨#[]⟩]) 5 48 Try.underlying24 H1.out H2.out H3.out H4.out rfl (by decide) _ _ _ rfl HOZ.out ⟨g4, 0, none⟩ us.length cap4 ((us.map Tk.cells).flatten) rfl (flat_tk us) HSRC.out (tk_one us) ?e3 ?e4 HSY.out ?_)
    case e3 => have h1 := eb_le (d := d) (by omega); unfold maxLen; omega
    case e4 => have h1 := eb_le (d := d) (by omega); omega
    intro v5 w5 hown5 hgrow5 _
    have hq5 : ∀ k, Value.ownBlock _ = some k → w.heap.size ≤ k := fun k hk => Nat.le_trans HS2.out (OwnG.block_lt HOZ.out k hk).1
    have HO5 := Lib.hid (OwnG.appL HOZ.out hown5)
    have hb5 := hb04.grown hgrow5 hq5
    have hr5 := h.grown hr4 hb04 hgrow5 hq5
    have HSX := Lib.hid (Nat.le_trans HSY.out hgrow5.size)
    have HL5 := Lib.hid (show (ts ++ us).length ≤ eb d + eb d by rw [List.length_append]; omega)
    clear hown5 hgrow5 hq5 HSZ
    have HSZ := HSX
    generalize ts ++ us = ls at *
    go_wp2_with (at_builtin; refine wpList_append_own _ rfl _ _ 24 rfl w2.heap.size 32 i0 (.agg #[.int .i64 0, .int .i64 0, .int .i64 0, .int .i64 0, .string ⟨#[]⟩]) 5 48 Try.underlying24 H1.out H2.out H3.out H4.out rfl (by decide) _ _ _ rfl (World.ownsRow.alloc HO5.out _) ⟨_, 0, none⟩ 1 1 (Tk.cells ⟨3 + y, 0, 0, 0, ⟨#[]⟩⟩) rfl rfl ?c13 ?c23 ?c33 ?c43 ?c53 ?_)
    case c13 => exact cells_newAt _ (Tk.cells _) _ (by simp)
    case c23 => intro u hu; simp [Tk.cells] at hu; rcases hu with rfl | rfl | rfl | rfl | rfl <;> rfl
    case c33 => have h1 := eb_le (d := d) (by omega); have h2 := HL5.out; unfold maxLen; omega
    case c43 => have h1 := eb_le (d := d) (by omega); have h2 := HL5.out; omega
    case c53 => have h1 := HSZ.out; simp; omega
    intro v9 w9 hown9 hgrow9 _
    have hq : ∀ k, Value.ownBlock _ = some k → w.heap.size ≤ k := fun k hk => Nat.le_trans HS2.out (OwnG.block_lt HO5.out k hk).1
    have R9 := OwnG.app HO5.out HSZ.out hown9 hgrow9
    have hb9 := (hb5.alloc _).grown hgrow9 hq
    have hr9 := h.grown (hr5.alloc _) (hb5.alloc _) hgrow9 hq
    have HR9 := Lib.hid (And.intro R9.1 (And.intro hb9 hr9))
    clear hown9 hgrow9 hq R9 hb9 hr9
    go_wp2_with fail
    go_ret
    exact ⟨_, rfl, ⟨_, HR9.out.1.mono HS2.out, by have h2 := HL5.out; simp [eb]; omega, by simp⟩, HR9.out.2.1, HR9.out.2.2⟩

set_option maxRecDepth 100000 in
set_option maxHeartbeats 2000000 in
theorem rdVals (n : Int) (hn0 : 0 ≤ n) (hn1 : n ≤ 16) (w : World) (R : Nat) (a : Option Addr) (len cap : Nat) (zs : List Int) (h : Rdr w R a len cap zs) :
    Calls Try.prog 30 #[.pointer (some ⟨R, 0, none⟩), .int .i64 n] w (Drew R a len cap zs (isRowV w.heap.size 16) w) := by
  have hR : R < w.heap.size := cell_lt h.code
  obtain ⟨i0, hi', hz0, hz1, hz2⟩ := info_parts infoValD
  have H1 := Lib.hid hi'
  have H2 := Lib.hid hz0
  have H3 := Lib.hid hz1
  have H4 := Lib.hid hz2
  clear hi' hz0 hz1 hz2
  have hb0 := (But.refl R w).alloc (.cells #[] 30)
  have hr0 := h.alloc (.cells #[] 30)
  have HO0 := Lib.hid (OwnG.lit (T := 30) (sz := 3) (f := Vl.cells) w (Nat.le_refl w.heap.size))
  go_enter Try.func30, Try.ntmps30
  go_wp2_with fail
  generalize w.alloc (.cells #[] 30) = z0 at *
  go_loopw [5, 6] (fun v i wr => ∃ (k : Nat) (xs : List Vl), i = .int .i64 k ∧ Hid ((k : Int) ≤ n ∧ xs.length = k) ∧ Hid (OwnW wr w.heap.size v xs) ∧ Hid (But R w wr) ∧ Hid (Rdr wr R a len cap zs)) (fun _ i _ => n.toNat - (intOf i).toNat)
  case atStart => exact ⟨0, [], rfl, Lib.hid ⟨by omega, rfl⟩, HO0, Lib.hid hb0, Lib.hid hr0⟩
  case round =>
    clear hb0 hr0
    obtain ⟨k, xs, rfl, hk, hown, hb, hr⟩ := hrel
    by_cases hlt : (k : Int) < n
    · have hk1 : (k : Int) ≤ 16 := by omega
      go_wp2_with fail
      refine (rdVal _ R a len cap zs hr.out).mono ?_
      rintro e w1 ⟨v1, rfl, ⟨vk, vn, vs, rfl, hv⟩, hb1, hr1⟩
      have hb01 := hb.out.trans hb1
      have HOZ := Lib.hid (OwnG.but hown.out hb1 hR)
      have HSZ := Lib.hid hb01.size
      have HKN := Lib.hid (show (((k + 1 : Nat) : Int) ≤ n ∧ (xs ++ [(⟨vk, vn, vs⟩ : Vl)]).length = k + 1) by have := hk.out; rw [List.length_append]; simp; omega)
      have HXL := Lib.hid (show xs.length ≤ 16 by have := hk.out; omega)
      clear hown hv hk
      go_wp2_with (at_builtin; refine wpList_append_own _ rfl _ _ 25 rfl w.heap.size 30 i0 (.agg #[.int .i64 0, .int .i64 0, .string ⟨#[]⟩]) 3 32 Try.underlying25 H1.out H2.out H3.out H4.out rfl (by decide) _ _ _ rfl (World.ownsRow.alloc HOZ.out _) ⟨_, 0, none⟩ 1 1 (Vl.cells ⟨vk, vn, vs⟩) rfl rfl ?c1 ?c2 ?c3 ?c4 ?c5 ?_)
      case c1 => exact cells_newAt _ (Vl.cells _) _ (by simp)
      case c2 => intro u hu; simp [Vl.cells] at hu; rcases hu with rfl | rfl | rfl <;> rfl
      case c3 => have := HXL.out; unfold maxLen; omega
      case c4 => have := HXL.out; omega
      case c5 => have := HSZ.out; simp; omega
      intro v9 w9 hown9 hgrow9 _
      have hq : ∀ k, Value.ownBlock _ = some k → w.heap.size ≤ k := fun k hk => (OwnG.block_lt HOZ.out k hk).1
      have R9 := Lib.hid (OwnG.app HOZ.out HSZ.out hown9 hgrow9)
      have R9W := Lib.hid (show OwnW w9 w.heap.size v9 (xs ++ [(⟨vk, vn, vs⟩ : Vl)]) from R9.out.1)
      have HB9 := Lib.hid ((hb01.alloc _).grown hgrow9 hq)
      have HR9 := Lib.hid (h.grown (hr1.alloc _) (hb01.alloc _) hgrow9 hq)
      clear hown9 hgrow9 hq HOZ hb01 hb1 hr1 hb hr
      go_wp2_with fail
      go_roundw
      case rel => exact ⟨k + 1, xs ++ [(⟨vk, vn, vs⟩ : Vl)], by go_num, HKN, R9W, HB9, HR9⟩
      case measure => simp [intOf]; omega
    · have z : decide ((k : Int) < n) = false := decide_eq_false hlt
      go_wp2_with fail
      go_ret
      exact ⟨_, rfl, ⟨xs, hown.out, by have := hk.out; omega⟩, hb.out, hr.out⟩

def isExprRow (base : Nat) (v : Value) (w : World) : Prop := ∃ x y, v = .tuple #[x, y] ∧ isToks base 15 x w ∧ isRowV base 16 y w
set_option maxHeartbeats 2000000 in
theorem drawEval (a : Option Addr) (len cap : Nat) (zs : List Int) (w : World) (h : IsRow .u8 w a len cap zs) :
    Calls Try.prog 11 #[.slice a len cap] w (Drawn (isExprRow w.heap.size) w) := by
  have h0 := Rdr.new h 72
  have b0 := (Below.refl w.heap.size w).alloc (Nat.le_refl _) (.cells #[.slice a len cap, .int .i64 0] 72)
  have hx0 : (w.alloc (.cells #[.slice a len cap, .int .i64 0] 72)).heap.size = w.heap.size + 1 := by simp
  have HX0 := Lib.hid hx0
  clear hx0
  go_enter Try.func11, Try.ntmps11
  go_wp2_with fail
  refine (specOpen _ _ _ _).mono ?_
  rintro e w1 ⟨rfl, rfl⟩
  generalize w.alloc (.cells #[.slice a len cap, .int .i64 0] 72) = w1 at *
  go_wp2_with fail
  refine (rdExpr 3 (by omega) (by omega) 3 (Nat.le_refl 3) 3 rfl _ _ a len cap zs h0).mono ?_
  rintro e w2 ⟨v2, rfl, ⟨ts, hown, hl, hp⟩, hb2, hr2⟩
  have HOW := Lib.hid hown
  clear hown
  go_wp2_with fail
  refine (rdOnce 12 _ _ a len cap zs hr2).mono ?_
  rintro e w3 ⟨v, rfl, ⟨b3, rfl⟩, hb3, hr3⟩
  have hb23 := hb2.trans hb3
  have HO3 := Lib.hid (OwnG.but HOW.out hb3 (by rw [HX0.out]; exact Nat.lt_succ_self _))
  clear HOW
  cases b3
  · go_wp2_with fail
    refine (rdVals 3 (by omega) (by omega) _ _ a len cap zs hr3).mono ?_
    rintro e w4 ⟨v4, rfl, ⟨xs, hown4, hl4⟩, hb4, hr4⟩
    have HO4 := Lib.hid (OwnG.but HO3.out hb4 (by rw [HX0.out]; exact Nat.lt_succ_self _))
    have HW4 := Lib.hid hown4
    have hbz := hb23.trans hb4
    have HS3 := Lib.hid hb23.size
    clear hown4
    go_wp2_with fail
    go_ret2
    exact ⟨_, rfl, ⟨_, _, rfl, ⟨ts, HO4.out.mono (by have := HX0.out; omega), hl, hp⟩, ⟨xs, HW4.out.mono (by have := HX0.out; have := HS3.out; omega), hl4⟩⟩, b0.trans (hbz.below (Nat.le_refl _) (by have := HX0.out; omega))⟩
  · go_wp2_with fail
    refine (rdBelow 4 _ _ a len cap zs hr3).mono ?_
    rintro e w4 ⟨v, rfl, ⟨y, rfl, y0, y1⟩, hb4, hr4⟩
    have hb24 := hb23.trans hb4
    have HO4 := Lib.hid (OwnG.but HO3.out hb4 (by rw [HX0.out]; exact Nat.lt_succ_self _))
    go_wp2_with fail
    refine (rdVals y (by omega) (by omega) _ _ a len cap zs hr4).mono ?_
    rintro e w5 ⟨v5, rfl, ⟨xs, hown5, hl5⟩, hb5, hr5⟩
    have HO5 := Lib.hid (OwnG.but HO4.out hb5 (by rw [HX0.out]; exact Nat.lt_succ_self _))
    have HW5 := Lib.hid hown5
    have hbz := hb24.trans hb5
    have HS3 := Lib.hid hb24.size
    clear hown5
    go_wp2_with fail
    go_ret2
    exact ⟨_, rfl, ⟨_, _, rfl, ⟨ts, HO5.out.mono (by have := HX0.out; omega), hl, hp⟩, ⟨xs, HW5.out.mono (by have := HX0.out; have := HS3.out; omega), hl5⟩⟩, b0.trans (hbz.below (Nat.le_refl _) (by have := HX0.out; omega))⟩
set_option maxHeartbeats 2000000 in
theorem drawTruth (a : Option Addr) (len cap : Nat) (zs : List Int) (w : World) (h : IsRow .u8 w a len cap zs) :
    Calls Try.prog 7 #[.slice a len cap] w (Drawn (isExprRow w.heap.size) w) := by
  go_enter Try.func7, Try.ntmps7
  go_wp2_with fail
  refine (drawEval _ _ _ zs _ h).mono ?_
  rintro e w1 ⟨v, rfl, ⟨x, y, rfl, hx, hy⟩, hb⟩
  have HX := Lib.hid hx
  have HY := Lib.hid hy
  clear hx hy
  go_wp2_with fail
  go_ret2
  exact ⟨_, rfl, ⟨_, _, rfl, HX.out, HY.out⟩, hb⟩
end Go.Proofs.Ytkoihpejkcnokaa
