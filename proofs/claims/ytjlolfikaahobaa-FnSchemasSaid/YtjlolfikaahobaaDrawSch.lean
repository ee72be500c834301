/-
  Contracts of the drawing of schemas.
-/
import Derived.Test.YtjlolfikaahobaaSchHold
import Derived.Test.YtjlolfikaahobaaVals
import Derived.Deep.CutRange
import Derived.Deep.RegionWith
import Derived.Test.YtjlolfikaahobaaReader2
namespace Go.Proofs.Ytjlolfikaahobaa
open Go.RowKit
set_option linter.unusedVariables false
set_option linter.unusedSimpArgs false

set_option maxHeartbeats 1000000 in
theorem specColTok (n : Int) (w : World) :
    Calls Try.prog 58 #[.int .i64 n] w fun e w' => e = .returned (.agg #[.int .i64 1, .int .i64 n, .int .i64 0, .int .i64 0, .string ⟨#[]⟩]) ∧ Below w.heap.size w w' := by
  go_enter Try.func58, Try.ntmps58
  go_wp2
  exact bodyPost_ret (v := .agg #[.int .i64 1, .int .i64 n, .int .i64 0, .int .i64 0, .string ⟨#[]⟩]) (by simp [results, Try.results58, go_sem]) rfl
    ⟨rfl, (Below.refl _ _).alloc (Nat.le_refl _) _⟩
set_option maxHeartbeats 1000000 in
theorem specConstTok (k n : Int) (s : ByteArray) (w : World) :
    Calls Try.prog 59 #[.agg #[.int .i64 k, .int .i64 n, .string s]] w fun e w' => e = .returned (.agg #[.int .i64 2, .int .i64 0, .int .i64 k, .int .i64 n, .string s]) ∧ Below w.heap.size w w' := by
  go_enter Try.func59, Try.ntmps59
  go_wp2
  exact bodyPost_ret (v := .agg #[.int .i64 2, .int .i64 0, .int .i64 k, .int .i64 n, .string s]) (by simp [results, Try.results59, go_sem]) rfl
    ⟨rfl, ((Below.refl _ _).alloc (Nat.le_refl _) _).alloc (by simp) _⟩
theorem below_but {w w' : World} (h : Below w.heap.size w w') (R : Nat) : But R w w' := ⟨h.os, h.tape, h.output, h.size, fun k hk _ => h.block k hk⟩
theorem rdr_below {w w' : World} {R : Nat} {a : Option Addr} {len cap : Nat} {zs : List Int} (h : Rdr w R a len cap zs) (hb : Below w.heap.size w w') : Rdr w' R a len cap zs := by
  have hR : R < w.heap.size := cell_lt h.code
  obtain ⟨i, hi, hi1⟩ := h.place
  exact ⟨(hb.cell (p := ⟨R, 0, none⟩) hR).trans h.code, ⟨i, hi, (hb.cell (p := ⟨R, 1, none⟩) hR).trans hi1⟩, (hb.frozen (p := ⟨R, 1, none⟩) hR).trans h.free, h.row.below hb, h.apart⟩
theorem PB.below {w w' w'' : World} {R : Nat} {a : Option Addr} {len cap : Nat} {zs : List Int} {gp gc m : Nat} (h : PB w w' R a len cap zs gp gc m) (hb : Below w'.heap.size w' w'') (hR : R < w.heap.size) : PB w w'' R a len cap zs gp gc m :=
  h.but (below_but hb R) (rdr_below (by obtain ⟨_, _, _, _, _, _, _, hr, _⟩ := h; exact hr) hb) hR
theorem PB.rdr {w w' : World} {R : Nat} {a : Option Addr} {len cap : Nat} {zs : List Int} {gp gc m : Nat} (h : PB w w' R a len cap zs gp gc m) : Rdr w' R a len cap zs := by
  obtain ⟨_, _, _, _, _, _, _, hr, _⟩ := h; exact hr
theorem rdAction (w : World) (R : Nat) (a : Option Addr) (len cap : Nat) (zs : List Int) (h : Rdr w R a len cap zs) :
    Calls Try.prog 60 #[.pointer (some ⟨R, 0, none⟩)] w (Drew R a len cap zs (isInt 0 2) w) := by
  go_enter Try.func60, Try.ntmps60
  go_wp2_with fail
  refine (rdBelow 3 w R a len cap zs h).mono ?_
  rintro e w' ⟨v, rfl, ⟨x, rfl, x0, x1⟩, hb, hr⟩
  go_wp2_with fail
  go_ret
  exact ⟨_, rfl, ⟨x, rfl, by omega, by omega⟩, hb, hr⟩
/-- What a drawn schema is: one to three small tables of the drawing's own. -/
def isSch (base m : Nat) (v : Value) (w : World) : Prop := ∃ xs, SchY base w v xs ∧ 0 < xs.length ∧ xs.length ≤ 3 ∧ ∀ x ∈ xs, x.2.2.sz ≤ m
theorem rdr_drewY {w : World} {R : Nat} {a : Option Addr} {len cap : Nat} {zs : List Int} (h : Rdr w R a len cap zs) : Rdr w.drew R a len cap zs := ⟨h.code, h.place, h.free, h.row, h.apart⟩
theorem but_undrewY {R : Nat} {w w' : World} (h : But R w.drew w') : But R w w' := ⟨h.os, h.tape, h.output, h.size, h.block⟩
theorem sz_noKey (t : Tb) : ({ t with key := [] } : Tb).sz ≤ t.sz := by unfold Tb.sz; simp only [List.length_nil]; omega
theorem sz_named (t : Tb) (nm : ByteArray) : ({ t with name := nm } : Tb).sz ≤ t.sz + nm.size := by unfold Tb.sz; simp only; omega
theorem sz_kind (t : Tb) {c0 : Cl} {cs0 : List Cl} (h : t.cols = c0 :: cs0) (z : Int) : ({ t with cols := { c0 with kind := z } :: cs0 } : Tb).sz = t.sz := by unfold Tb.sz; rw [h]; rfl
def colsP : List Cl := [⟨⟨#[107]⟩, 1, true, ⟨0, 0, ⟨#[]⟩⟩⟩, ⟨⟨#[116]⟩, 2, false, ⟨0, 0, ⟨#[]⟩⟩⟩, ⟨⟨#[110]⟩, 1, false, ⟨1, 1, ⟨#[]⟩⟩⟩]
def tabP : Tb := ⟨⟨#[112]⟩, colsP, [0], [], [], []⟩

set_option maxRecDepth 100000 in
set_option maxHeartbeats 4000000 in
theorem rdSchema (w : World) (R : Nat) (a : Option Addr) (len cap : Nat) (zs : List Int) (h : Rdr w R a len cap zs) :
    Calls Try.prog 27 #[.pointer (some ⟨R, 0, none⟩)] w (Drew R a len cap zs (isSch w.heap.size 61) w) := by
  have hlt : R < w.heap.size := cell_lt h.code
  obtain ⟨i0, hi, hz0, hz1, hz2⟩ := info_parts infoTableT
  have H1 := Lib.hid hi
  have H2 := Lib.hid hz0
  have H3 := Lib.hid hz1
  have H4 := Lib.hid hz2
  clear hi hz0 hz1 hz2
  go_enter Try.func27, Try.ntmps27
  go_wp2_with fail
  refine (specInt 1 _).mono ?_
  rintro e w1 ⟨rfl, o, rfl⟩
  go_wp2_with fail
  have hp0 : PB w ((((w.alloc o).alloc (.cells #[.string ⟨#[107]⟩, .int .i64 1, .bool true, .int .i64 0, .int .i64 0, .string ⟨#[]⟩, .string ⟨#[116]⟩, .int .i64 2, .bool false, .int .i64 0, .int .i64 0, .string ⟨#[]⟩, .string ⟨#[110]⟩, .int .i64 1, .bool false, .int .i64 1, .int .i64 1, .string ⟨#[]⟩] 47)).alloc (.cells #[.int .i64 0] 2)).alloc (.cells #[.string ⟨#[112]⟩, .slice (some ⟨w.heap.size + 1, 0, none⟩) 3 3, .slice (some ⟨w.heap.size + 1 + 1, 0, none⟩) 1 1, .slice none 0 0, .slice none 0 0, .slice none 0 0] 34)) R a len cap zs (w.heap.size + 1 + 1 + 1) (w.heap.size + 1) 30 := by
    have b1 := Blo.new (w.alloc o) (colsP.map Cl.cells).flatten 47
    have b2 := Blo.new ((w.alloc o).alloc (.cells (colsP.map Cl.cells).flatten.toArray 47)) ([0].map (Value.int .i64)) 2
    rw [show ((w.alloc o).alloc (.cells (colsP.map Cl.cells).flatten.toArray 47)).heap.size = w.heap.size + 1 + 1 by simp] at b2
    rw [show (w.alloc o).heap.size = w.heap.size + 1 by simp] at b1
    have b3 := Blo.new ((((w.alloc o).alloc (.cells (colsP.map Cl.cells).flatten.toArray 47)).alloc (.cells ([0].map (Value.int .i64)).toArray 2))) [.string ⟨#[112]⟩, .slice (some ⟨w.heap.size + 1, 0, none⟩) 3 3, .slice (some ⟨w.heap.size + 1 + 1, 0, none⟩) 1 1, .slice none 0 0, .slice none 0 0, .slice none 0 0] 34
    rw [show (((w.alloc o).alloc (.cells (colsP.map Cl.cells).flatten.toArray 47)).alloc (.cells ([0].map (Value.int .i64)).toArray 2)).heap.size = w.heap.size + 1 + 1 + 1 by simp] at b3
    have h2 := Hold.alloc w.heap.size ((w.alloc o).alloc (.cells (colsP.map Cl.cells).flatten.toArray 47)) (.cells ([0].map (Value.int .i64)).toArray 2)
    have h3 := Hold.alloc w.heap.size (((w.alloc o).alloc (.cells (colsP.map Cl.cells).flatten.toArray 47)).alloc (.cells ([0].map (Value.int .i64)).toArray 2)) (.cells [.string ⟨#[112]⟩, .slice (some ⟨w.heap.size + 1, 0, none⟩) 3 3, .slice (some ⟨w.heap.size + 1 + 1, 0, none⟩) 1 1, .slice none 0 0, .slice none 0 0, .slice none 0 0].toArray 34)
    refine ⟨[.string ⟨#[112]⟩, .slice (some ⟨w.heap.size + 1, 0, none⟩) 3 3, .slice (some ⟨w.heap.size + 1 + 1, 0, none⟩) 1 1, .slice none 0 0, .slice none 0 0, .slice none 0 0], tabP, b3, by omega, ?_, rfl, (((But.refl R w).alloc o).alloc _).alloc _ |>.alloc _, (((h.alloc o).alloc _).alloc _).alloc _, by decide⟩
    exact ⟨3, _, 1, 1, none, 0, 0, none, 0, 0, none, 0, 0, rfl, by omega, b1.hold (by omega) (h2.trans h3), rfl, by omega, intsY [0] (b2.hold (by omega) h3) (by omega), Sl.nilY, Sl.nilY, Sl.nilY, by omega, by decide⟩
  have H0 := Lib.hid h
  have HP0 := Lib.hid hp0
  clear hp0
  generalize ((((w.alloc o).alloc (.cells #[.string ⟨#[107]⟩, .int .i64 1, .bool true, .int .i64 0, .int .i64 0, .string ⟨#[]⟩, .string ⟨#[116]⟩, .int .i64 2, .bool false, .int .i64 0, .int .i64 0, .string ⟨#[]⟩, .string ⟨#[110]⟩, .int .i64 1, .bool false, .int .i64 1, .int .i64 1, .string ⟨#[]⟩] 47)).alloc (.cells #[.int .i64 0] 2)).alloc (.cells #[.string ⟨#[112]⟩, .slice (some ⟨w.heap.size + 1, 0, none⟩) 3 3, .slice (some ⟨w.heap.size + 1 + 1, 0, none⟩) 1 1, .slice none 0 0, .slice none 0 0, .slice none 0 0] 34)) = y at *
  refine (rdOnce 2 _ R a len cap zs HP0.out.rdr).mono ?_
  rintro e y1 ⟨v, rfl, ⟨b, rfl⟩, hb1, hr1⟩
  have HP1 := Lib.hid (HP0.out.but hb1 hr1 hlt)
  clear HP0 hb1 hr1 h
  obtain ⟨gp, egp⟩ : ∃ gp, w.heap.size + 1 + 1 + 1 = gp := ⟨_, rfl⟩
  obtain ⟨gc, egc⟩ : ∃ gc, w.heap.size + 1 = gc := ⟨_, rfl⟩
  obtain ⟨gk, egk⟩ : ∃ gk, w.heap.size + 1 + 1 = gk := ⟨_, rfl⟩
  rw [egp, egc] at HP1
  rw [egp, egk, egc]
  clear egp egc egk
  go_upto_if 15 with (fail)
  go_cut [] from 14 (fun wx => PB w wx R a len cap zs gp gc 40)
  case first =>
    cases b
    · go_wp2_with fail
      go_meet
      case rel => exact HP1.out.mono (by omega)
    · have k1 := Hold.alloc w.heap.size y1 (.cells #[.int .i64 2] 2)
      have k2 := Hold.alloc w.heap.size (y1.alloc (.cells #[.int .i64 2] 2)) (.cells #[.slice (some ⟨y1.heap.size, 0, none⟩) 1 1] 68)
      obtain ⟨⟨u, c3⟩, f3⟩ := HP1.out.cell (k1.trans k2) 3 (by omega)
      clear k1 k2
      go_wp2_with fail
      go_meet
      case rel => exact (HP1.out.uniq H0.out (by omega)).mono (by omega)
  case rest =>
    have HP2 := Lib.hid hcut
    clear hcut HP1
    go_wp2_with fail
    refine (rdOnce 2 _ R a len cap zs HP2.out.rdr).mono ?_
    rintro e y2 ⟨v, rfl, ⟨b2, rfl⟩, hb2, hr2⟩
    have HP3 := Lib.hid (HP2.out.but hb2 hr2 hlt)
    clear HP2 hb2 hr2
    go_upto_if 21 with (fail)
    go_cut [] from 20 (fun wx => PB w wx R a len cap zs gp gc 60)
    case first =>
      cases b2
      · go_wp2_with fail
        go_meet
        case rel => exact HP3.out.mono (by omega)
      · go_wp2_with fail
        refine (specColTok 0 _).mono ?_
        rintro e y3 ⟨rfl, hb3⟩
        have HP4 := Lib.hid (HP3.out.below hb3 hlt)
        go_wp2_with fail
        refine (specInt 4 _).mono ?_
        rintro e y4 ⟨rfl, o4, rfl⟩
        have HP5 := Lib.hid (HP4.out.below ((Below.refl y3.heap.size y3).alloc (Nat.le_refl _) o4) hlt)
        generalize y3.alloc o4 = y4 at *
        go_wp2_with fail
        refine (specConstTok 1 4 ⟨#[]⟩ _).mono ?_
        rintro e y5 ⟨rfl, hb5⟩
        have HP6 := Lib.hid (HP5.out.below hb5 hlt)
        clear HP3 HP4 HP5 hb3 hb5
        have k1 := Hold.alloc w.heap.size y5 (.cells #[.int .i64 1, .int .i64 0, .int .i64 0, .int .i64 0, .string ⟨#[]⟩, .int .i64 2, .int .i64 0, .int .i64 1, .int .i64 4, .string ⟨#[]⟩, .int .i64 4, .int .i64 0, .int .i64 0, .int .i64 0, .string ⟨#[]⟩] 98)
        have k2 := Hold.alloc w.heap.size (y5.alloc (.cells #[.int .i64 1, .int .i64 0, .int .i64 0, .int .i64 0, .string ⟨#[]⟩, .int .i64 2, .int .i64 0, .int .i64 1, .int .i64 4, .string ⟨#[]⟩, .int .i64 4, .int .i64 0, .int .i64 0, .int .i64 0, .string ⟨#[]⟩] 98)) (.cells #[.slice (some ⟨y5.heap.size, 0, none⟩) 3 3] 76)
        obtain ⟨⟨u, c4⟩, f4⟩ := HP6.out.cell (k1.trans k2) 4 (by omega)
        clear k1 k2
        go_wp2_with fail
        go_meet
        case rel => exact (HP6.out.chk H0.out (by omega)).mono (by omega)
    case rest =>
      obtain ⟨cs, t, hB, hgp, hT, hc3, hb6, hr6, hz6⟩ := hcut
      obtain ⟨x0, x1, x2, x3, x4, x5, rfl⟩ := hT.len
      have d0 := hB.cell 0 x0 rfl
      have d1 := hB.cell 1 x1 rfl
      have d2 := hB.cell 2 x2 rfl
      have d3 := hB.cell 3 x3 rfl
      have d4 := hB.cell 4 x4 rfl
      have d5 := hB.cell 5 x5 rfl
      have HS1 := Lib.hid (show SB w (wc.alloc (.cells #[x0, x1, x2, x3, x4, x5] 34)) R a len cap zs (.slice (some ⟨wc.heap.size, 0, none⟩) 1 1) 1 60 from
        ⟨_, SchY.one hT hb6.size, by simp, by simp, fun x hx => by rw [List.mem_singleton.1 hx]; exact hz6, hb6.alloc _, hr6.alloc _⟩)
      clear hB hT hb6 hr6 HP3
      go_wp2_with fail
      generalize wc.alloc (.cells #[x0, x1, x2, x3, x4, x5] 34) = u1 at *
      generalize Value.slice (some ⟨wc.heap.size, 0, none⟩) 1 1 = v1 at *
      clear d0 d1 d2 d3 d4 d5
      refine (rdOnce 4 _ R a len cap zs HS1.out.rdr).mono ?_
      rintro e u2 ⟨v, rfl, ⟨b3, rfl⟩, hb2, hr2⟩
      have HS2 := Lib.hid (HS1.out.but hb2 hr2 hlt)
      clear HS1 hb2 hr2
      go_upto_if 34 with (fail)
      go_cut [4] from 32 (fun v wx => SB w wx R a len cap zs v 2 60)
      case first =>
        cases b3
        · go_wp2_with fail
          refine (rdOnce 4 _ R a len cap zs HS2.out.rdr).mono ?_
          rintro e z1 ⟨v, rfl, ⟨nn, rfl⟩, hb2, hr2⟩
          have HS3 := Lib.hid (HS2.out.but hb2 hr2 hlt)
          clear HS2 hb2 hr2
          go_wp2_with fail
          refine (rdAction _ R a len cap zs (((HS3.out.rdr.alloc _).alloc _).alloc _)).mono ?_
          rintro e z2 ⟨v, rfl, ⟨d, rfl, d0, d1⟩, hb2, hr2⟩
          go_wp2_with fail
          refine (rdAction _ R a len cap zs hr2).mono ?_
          rintro e z3 ⟨v, rfl, ⟨dd, rfl, dd0, dd1⟩, hb3, hr3⟩
          go_wp2_with fail
          refine (rdOnce 4 _ R a len cap zs hr3).mono ?_
          rintro e z4 ⟨v, rfl, ⟨df, rfl⟩, hb4, hr4⟩
          have HT := Lib.hid (HS3.out.table hlt ⟨#[99]⟩ ⟨#[112]⟩ [⟨⟨#[107]⟩, 1, true, ⟨0, 0, ⟨#[]⟩⟩⟩, ⟨⟨#[112]⟩, 1, nn, ⟨0, 0, ⟨#[]⟩⟩⟩] d dd df rfl ((hb2.trans hb3).trans hb4) hr4 (show (9 : Nat) ≤ 1000 by omega)
            [.string ⟨#[99]⟩, .slice (some ⟨z1.heap.size, 0, none⟩) 2 2, .slice (some ⟨z1.heap.size + 1, 0, none⟩) 1 1, .slice none 0 0, .slice none 0 0, .slice (some ⟨z4.heap.size, 0, none⟩) 1 1]
            [.string ⟨#[99]⟩, .slice (some ⟨z1.heap.size, 0, none⟩) 2 2, .slice (some ⟨z1.heap.size + 1, 0, none⟩) 1 1, .slice none 0 0, .slice none 0 0, .slice (some ⟨z4.heap.size, 0, none⟩) 1 1])
          clear hb2 hb3 hb4 hr2 hr3 hr4 d0 d1 dd0 dd1 HS3
          obtain ⟨xs, hs, hl0, hl, hm, hn, ht, hbq, hrq⟩ := HT.out
          have HS := Lib.hid hs
          have HTT := Lib.hid ht
          have HN := Lib.hid hn
          have HM := Lib.hid hm
          have HBQ := Lib.hid hbq
          have HRQ := Lib.hid hrq
          have hwq : w.heap.size ≤ z4.heap.size + 1 + 1 + 1 := by have := HBQ.out.size; simpa using this
          clear hs ht hn hm hbq hrq HT
          go_wp2_with (at_builtin; refine wpList_append_own _ rfl _ _ 24 rfl w.heap.size 34 i0 (.agg #[.string ⟨#[]⟩, .slice none 0 0, .slice none 0 0, .slice none 0 0, .slice none 0 0, .slice none 0 0]) 6 136 Try.underlying24 H1.out H2.out H3.out H4.out rfl (by decide) _ _ _ rfl HS.out.1 ⟨_, 0, none⟩ 1 1 [.string ⟨#[99]⟩, .slice (some ⟨z1.heap.size, 0, none⟩) 2 2, .slice (some ⟨z1.heap.size + 1, 0, none⟩) 1 1, .slice none 0 0, .slice none 0 0, .slice (some ⟨z4.heap.size, 0, none⟩) 1 1] rfl rfl ?c1 ?c2 ?c3 ?c4 ?c5 ?_)
          case c1 => exact cellsY _ [.string ⟨#[99]⟩, .slice (some ⟨z1.heap.size, 0, none⟩) 2 2, .slice (some ⟨z1.heap.size + 1, 0, none⟩) 1 1, .slice none 0 0, .slice none 0 0, .slice (some ⟨z4.heap.size, 0, none⟩) 1 1] _ (by simp)
          case c2 => intro u hu; simp at hu; rcases hu with rfl | rfl | rfl | rfl | rfl | rfl <;> rfl
          case c3 => unfold maxLen; omega
          case c4 => omega
          case c5 => simp; omega
          intro v' w3 hown3 hgrow _
          have HZ := Lib.hid (SB.add H0.out HS.out HTT.out HN.out hl HM.out (show (9 : Nat) ≤ 60 by omega) HBQ.out HRQ.out hown3 hgrow)
          clear hown3 hgrow HS HTT HN HM HBQ HRQ
          go_wp2_with fail
          go_meet
          case rel => exact HZ.out
        · go_wp2_with fail
          go_meet
          case rel => exact HS2.out.mono (by omega) (by omega)
      case rest =>
        have HS4 := Lib.hid hcut
        clear hcut HS2
        go_wp2_with fail
        refine (rdOnce 3 _ R a len cap zs HS4.out.rdr).mono ?_
        rintro e z1 ⟨v, rfl, ⟨b4, rfl⟩, hb2, hr2⟩
        have HS5 := Lib.hid (HS4.out.but hb2 hr2 hlt)
        clear HS4 hb2 hr2
        go_upto_if 56 with (fail)
        go_cut [4] from 55 (fun v wx => SB w wx R a len cap zs v 3 60)
        case first =>
          cases b4
          · go_wp2_with fail
            go_meet
            case rel => exact HS5.out.mono (by omega) (by omega)
          · go_wp2_with fail
            refine (rdAction _ R a len cap zs (((HS5.out.rdr.alloc _).alloc _).alloc _)).mono ?_
            rintro e z2 ⟨v, rfl, ⟨d, rfl, d0, d1⟩, hb2, hr2⟩
            go_wp2_with fail
            refine (rdAction _ R a len cap zs hr2).mono ?_
            rintro e z3 ⟨v, rfl, ⟨dd, rfl, dd0, dd1⟩, hb3, hr3⟩
            have HT := Lib.hid (HS5.out.table hlt ⟨#[116, 114, 101, 101]⟩ ⟨#[116, 114, 101, 101]⟩ [⟨⟨#[107]⟩, 1, true, ⟨0, 0, ⟨#[]⟩⟩⟩, ⟨⟨#[117, 112]⟩, 1, false, ⟨0, 0, ⟨#[]⟩⟩⟩] d dd false rfl (hb2.trans hb3) hr3 (show (16 : Nat) ≤ 1000 by omega)
              [.string ⟨#[116, 114, 101, 101]⟩, .slice (some ⟨z1.heap.size, 0, none⟩) 2 2, .slice (some ⟨z1.heap.size + 1, 0, none⟩) 1 1, .slice none 0 0, .slice none 0 0, .slice (some ⟨z3.heap.size, 0, none⟩) 1 1]
              [.string ⟨#[116, 114, 101, 101]⟩, .slice (some ⟨z1.heap.size, 0, none⟩) 2 2, .slice (some ⟨z1.heap.size + 1, 0, none⟩) 1 1, .slice none 0 0, .slice none 0 0, .slice (some ⟨z3.heap.size, 0, none⟩) 1 1])
            clear hb2 hb3 hr2 hr3 d0 d1 dd0 dd1 HS5
            obtain ⟨xs, hs, hl0, hl, hm, hn, ht, hbq, hrq⟩ := HT.out
            have HS := Lib.hid hs
            have HTT := Lib.hid ht
            have HN := Lib.hid hn
            have HM := Lib.hid hm
            have HBQ := Lib.hid hbq
            have HRQ := Lib.hid hrq
            have hwq : w.heap.size ≤ z3.heap.size + 1 + 1 + 1 := by have := HBQ.out.size; simpa using this
            clear hs ht hn hm hbq hrq HT
            go_wp2_with (at_builtin; refine wpList_append_own _ rfl _ _ 24 rfl w.heap.size 34 i0 (.agg #[.string ⟨#[]⟩, .slice none 0 0, .slice none 0 0, .slice none 0 0, .slice none 0 0, .slice none 0 0]) 6 136 Try.underlying24 H1.out H2.out H3.out H4.out rfl (by decide) _ _ _ rfl HS.out.1 ⟨_, 0, none⟩ 1 1 [.string ⟨#[116, 114, 101, 101]⟩, .slice (some ⟨z1.heap.size, 0, none⟩) 2 2, .slice (some ⟨z1.heap.size + 1, 0, none⟩) 1 1, .slice none 0 0, .slice none 0 0, .slice (some ⟨z3.heap.size, 0, none⟩) 1 1] rfl rfl ?c1 ?c2 ?c3 ?c4 ?c5 ?_)
            case c1 => exact cellsY _ [.string ⟨#[116, 114, 101, 101]⟩, .slice (some ⟨z1.heap.size, 0, none⟩) 2 2, .slice (some ⟨z1.heap.size + 1, 0, none⟩) 1 1, .slice none 0 0, .slice none 0 0, .slice (some ⟨z3.heap.size, 0, none⟩) 1 1] _ (by simp)
            case c2 => intro u hu; simp at hu; rcases hu with rfl | rfl | rfl | rfl | rfl | rfl <;> rfl
            case c3 => unfold maxLen; omega
            case c4 => omega
            case c5 => simp; omega
            intro v' w3 hown3 hgrow _
            have HZ := Lib.hid (SB.add H0.out HS.out HTT.out HN.out hl HM.out (show (16 : Nat) ≤ 60 by omega) HBQ.out HRQ.out hown3 hgrow)
            clear hown3 hgrow HS HTT HN HM HBQ HRQ
            go_wp2_with fail
            go_meet
            case rel => exact HZ.out
        case rest =>
          have HS6 := Lib.hid hcut
          clear hcut HS5
          go_wp2_with fail
          refine (rdBelow 40 _ R a len cap zs HS6.out.rdr).mono ?_
          rintro e q1 ⟨v, rfl, ⟨y, rfl, y0, y1⟩, hb2, hr2⟩
          have HS7 := Lib.hid (HS6.out.but hb2 hr2 hlt)
          clear HS6 hb2 hr2
          obtain ⟨xs, hs, hl0, hl, hm, hb, hr⟩ := HS7.out
          have hq : y = 37 ∨ y = 38 ∨ y = 39 ∨ (y ≠ 37 ∧ y ≠ 38 ∧ y ≠ 39) := by omega
          clear HS7
          rcases hq with rfl | rfl | rfl | ⟨n7, n8, n9⟩
          · obtain ⟨x, xs, rfl⟩ : ∃ x l, xs = x :: l := by cases xs with
              | nil => simp at hl0
              | cons x l => exact ⟨x, l, rfl⟩
            obtain ⟨g, ca, rfl, hg, hcell, hfree, htc, hne, hput⟩ := hs.head
            have hT := hs.2.2 x (List.mem_cons_self ..)
            obtain ⟨w2, d2⟩ : ∃ u, q1.cell? ⟨g, 2, none⟩ = some u := ⟨_, hcell 2 (x.2.1[2]'(by rw [hT.len6]; omega)) (by rw [List.getElem?_eq_getElem])⟩
            have f2 := hfree 2
            have HF := Lib.hid (show isSch w.heap.size 61 (.slice (some ⟨g, 0, none⟩) (xs.length + 1) ca) (q1.setCell ⟨g, 2, none⟩ (.slice none 0 0)) from
              ⟨_, hput 2 _ _ _ (by omega) rfl (hT.set (p := ⟨g, 2, none⟩) htc hne _).noKey, by simp, by simpa using hl, fun z hz => by
                rcases List.mem_cons.1 hz with rfl | hz
                · have := hm x (List.mem_cons_self ..); have := sz_noKey x.2.2; dsimp only; omega
                · have := hm z (List.mem_cons_of_mem _ hz); omega⟩)
            have HBF := Lib.hid (hb.setNew (p := ⟨g, 2, none⟩) hg (.slice none 0 0))
            have HRF := Lib.hid (H0.out.setNew hr (p := ⟨g, 2, none⟩) hg (.slice none 0 0))
            clear hs hcell hfree hput hT hm hb hr hl hl0
            go_wp2_with fail
            go_ret
            exact ⟨_, rfl, HF.out, HBF.out, HRF.out⟩
          · obtain ⟨x, xs, rfl⟩ : ∃ x l, xs = x :: l := by cases xs with
              | nil => simp at hl0
              | cons x l => exact ⟨x, l, rfl⟩
            obtain ⟨g, ca, rfl, hg, hcell, hfree, htc, hne, hput⟩ := hs.head
            have hT := hs.2.2 x (List.mem_cons_self ..)
            obtain ⟨w0, d0⟩ : ∃ u, q1.cell? ⟨g, 0, none⟩ = some u := ⟨_, hcell 0 (x.2.1[0]'(by rw [hT.len6]; omega)) (by rw [List.getElem?_eq_getElem])⟩
            have f0 := hfree 0
            have hx60 := hm x (List.mem_cons_self ..)
            have hsn := sz_named x.2.2 ⟨#[99]⟩
            have hsn1 : (⟨#[99]⟩ : ByteArray).size = 1 := rfl
            have HF := Lib.hid (show isSch w.heap.size 61 (.slice (some ⟨g, 0, none⟩) (xs.length + 1) ca) (q1.setCell ⟨g, 0, none⟩ (.string ⟨#[99]⟩)) from
              ⟨_, hput 0 _ _ _ (by omega) rfl ((hT.set (p := ⟨g, 0, none⟩) htc hne _).named ⟨#[99]⟩ (by omega)), by simp, by simpa using hl, fun z hz => by
                rcases List.mem_cons.1 hz with rfl | hz
                · dsimp only; omega
                · have := hm z (List.mem_cons_of_mem _ hz); omega⟩)
            have HBF := Lib.hid (hb.setNew (p := ⟨g, 0, none⟩) hg (.string ⟨#[99]⟩))
            have HRF := Lib.hid (H0.out.setNew hr (p := ⟨g, 0, none⟩) hg (.string ⟨#[99]⟩))
            clear hs hcell hfree hput hT hm hb hr hl hl0 hsn hsn1 hx60
            go_wp2_with fail
            go_ret
            exact ⟨_, rfl, HF.out, HBF.out, HRF.out⟩
          · obtain ⟨x, xs, rfl⟩ : ∃ x l, xs = x :: l := by cases xs with
              | nil => simp at hl0
              | cons x l => exact ⟨x, l, rfl⟩
            obtain ⟨g, ca, rfl, hg, hcell, hfree, htc, hne, hput⟩ := hs.head
            obtain ⟨c00, cs00, ec0, hgx, ⟨n1, e1, hn1⟩, -⟩ := hs.kind
            have d1 := hcell 1 _ e1
            have hgs : g < q1.heap.size := cell_lt d1
            have hRg : g ≠ R := by omega
            have HSX := Lib.hid hs
            have HRX := Lib.hid hr
            have HBX := Lib.hid hb
            have HM := Lib.hid hm
            have hn1' : (0 : Int) < n1 := by omega
            clear hs hr hb hm hcell hfree hput htc hne ec0
            go_wp2_with fail
            go_region_with (go_at_call 33; refine (rdOff 1 2 (by omega) (by omega) (by omega) _ R a len cap zs (rdr_drewY HRX.out)).mono ?_; rintro e q2 ⟨v, rfl, ⟨z, rfl, z0, z1⟩, hb2', hr2⟩; have hb2 := but_undrewY hb2'; have HS2 := Lib.hid (HSX.out.hold (Hold.but hb2 hlt)); obtain ⟨c0, cs0, ec, -, -, ⟨k0, k1⟩, k2, k3⟩ := HS2.out.kind; have d1' := (hb2.cell (p := ⟨g, 1, none⟩) hgs hRg).trans d1; have HK3 := Lib.hid k3; have HEC := Lib.hid ec; clear k3 ec hb2')
            all_goals
              go_wp2_with fail
              go_ret
              refine ⟨_, rfl, ⟨_, HK3.out z, by simp, by simpa using hl, fun z' hz => ?_⟩, (HBX.out.trans hb2).setNew (p := ⟨x.1, 1, none⟩) hgx _, H0.out.setNew hr2 (p := ⟨x.1, 1, none⟩) hgx _⟩
              rcases List.mem_cons.1 hz with rfl | hz
              · have := HM.out x (List.mem_cons_self ..); have := sz_kind x.2.2 HEC.out z; dsimp only; omega
              · have := HM.out z' (List.mem_cons_of_mem _ hz); omega
          · have m7 : (y == 37) = false := by simpa using n7
            have m8 : (y == 38) = false := by simpa using n8
            have m9 : (y == 39) = false := by simpa using n9
            have HF := Lib.hid (show isSch w.heap.size 61 u4 q1 from ⟨xs, hs, hl0, hl, fun z hz => by have := hm z hz; omega⟩)
            have HBF := Lib.hid hb
            have HRF := Lib.hid hr
            clear hs hl0 hl hm hb hr
            go_wp2_with fail
            go_ret
            exact ⟨_, rfl, HF.out, HBF.out, HRF.out⟩
end Go.Proofs.Ytjlolfikaahobaa
