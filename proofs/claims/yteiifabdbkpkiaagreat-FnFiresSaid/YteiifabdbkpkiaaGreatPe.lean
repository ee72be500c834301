/-
  Several texts in one: what the proof leans on, part 5.
-/
import Derived.Test.YteiifabdbkpkiaaGreatPd
import Derived.Test.YteiifabdbkpkiaaGreatPc
import Derived.Test.YteiifabdbkpkiaaGreatPa
import Derived.Test.YteiifabdbkpkiaaGreatPb
import Derived.Deep.CutRange
import Derived.Deep.RegionHeld3
import Derived.Deep.QuietTactic
import Derived.BigQuiet
import Derived.Maps.AppendAt
import Derived.Laws.IdiomStrings
import Derived.Laws.OwnMore
import Derived.Deep.RegionLaw
set_option linter.unusedVariables false
set_option linter.unusedSimpArgs false
namespace Go.Proofs.YteiifabdbkpkiaaGreat
open Go.RowKit
def isFit (n base : Nat) (v : Value) (w : World) : Prop := ∃ xs : List Vl, OwnW w base v xs ∧ xs.length = n ∧ ∀ x ∈ xs, okV x.k x.n x.s
def FB (w wx : World) (R : Nat) (a : Option Addr) (len cap : Nat) (zs : List Int) (S1 : Value) (bx : Nat) (v : Value) (xs : List Vl) : Prop := (∃ k n s, Blk wx bx k n s ∧ okV k n s) ∧ OwnW wx (w.heap.size + 1) v xs ∧ But R w wx ∧ Rdr wx R a len cap zs ∧ wx.cell? ⟨w.heap.size, 1, none⟩ = some S1
theorem FB.but {w wx wy : World} {R : Nat} {a : Option Addr} {len cap : Nat} {zs : List Int} {S1 : Value} {bx : Nat} {v : Value} {xs : List Vl} (h : FB w wx R a len cap zs S1 bx v xs) (hb : But R wx wy) (hr : Rdr wy R a len cap zs) (hR : R < w.heap.size) (hx : bx ≠ R) : FB w wy R a len cap zs S1 bx v xs := by
 obtain ⟨⟨k, n, s, h1, h2⟩, h3, h4, h5, h6⟩ := h
 exact ⟨⟨k, n, s, h1.but hb hx, h2⟩, OwnG.but h3 hb (by omega), h4.trans hb, hr, (hb.cell (cell_lt h6) (by show w.heap.size ≠ R; omega)).trans h6⟩
theorem FB.rdr {w wx : World} {R : Nat} {a : Option Addr} {len cap : Nat} {zs : List Int} {S1 : Value} {bx : Nat} {v : Value} {xs : List Vl} (h : FB w wx R a len cap zs S1 bx v xs) : Rdr wx R a len cap zs := h.2.2.2.1
theorem Blk.put {w : World} {b : Nat} {k n : Int} {s : ByteArray} (h : Blk w b k n s) (k' n' : Int) (s' : ByteArray) : Blk (((w.setCell ⟨b, 0, none⟩ (.int .i64 k')).setCell ⟨b, 1, none⟩ (.int .i64 n')).setCell ⟨b, 2, none⟩ (.string s')) b k' n' s' := by
 unfold Blk at h ⊢
 simp [World.setCell, Array.getElem?_modify, h]
theorem OwnW.setBlk {w : World} {base b : Nat} {v : Value} {xs : List Vl} (h : OwnW w base v xs) (hb : ∀ g, v.ownBlock = some g → g ≠ b) (i : Nat) (u : Value) : OwnW (w.setCell ⟨b, i, none⟩ u) base v xs := by
 refine ⟨h.1, ?_⟩
 rcases h.2 with h | ⟨g, cap, cur, rfl, h1, h2, h3⟩
 ·exact .inl h
 ·exact .inr ⟨g, cap, cur, rfl, h1, (Below.heap_setCell _ _ _ _ (hb g rfl)).trans h2, h3⟩
theorem cell_off {w : World} {p q : Addr} {v u : Value} (h : w.cell? q = some u) (hne : q.block ≠ p.block) : (w.setCell p v).cell? q = some u := (World.cell?_setCell_other _ _ _ _ (fun e => hne (by rw [e]))).trans h
theorem FB.store {w wx : World} {R : Nat} {a : Option Addr} {len cap : Nat} {zs : List Int} {S1 : Value} {bx : Nat} {v : Value} {xs : List Vl} (h : FB w wx R a len cap zs S1 bx v xs) (h0 : Rdr w R a len cap zs) (hx : w.heap.size < bx) (hn : ∀ g, v.ownBlock = some g → g ≠ bx) {k n : Int} {s : ByteArray} (hk : okV k n s) :
  FB w (((wx.setCell ⟨bx, 0, none⟩ (.int .i64 k)).setCell ⟨bx, 1, none⟩ (.int .i64 n)).setCell ⟨bx, 2, none⟩ (.string s)) R a len cap zs S1 bx v xs := by
 obtain ⟨⟨k0, n0, s0, h1, h2⟩, h3, h4, h5, h6⟩ := h
 have hx' : w.heap.size ≤ bx := Nat.le_of_lt hx
 have hne : w.heap.size ≠ bx := Nat.ne_of_lt hx
 exact ⟨⟨k, n, s, h1.put k n s, hk⟩, ((h3.setBlk hn 0 _).setBlk hn 1 _).setBlk hn 2 _, ((h4.setNew (p := ⟨bx, 0, none⟩) hx' _).setNew (p := ⟨bx, 1, none⟩) hx' _).setNew (p := ⟨bx, 2, none⟩) hx' _,
  h0.setNew (h0.setNew (h0.setNew h5 (p := ⟨bx, 0, none⟩) hx' _) (p := ⟨bx, 1, none⟩) hx' _) (p := ⟨bx, 2, none⟩) hx' _, cell_off (cell_off (cell_off h6 hne) hne) hne⟩
theorem FB.cells {w wx : World} {R : Nat} {a : Option Addr} {len cap : Nat} {zs : List Int} {S1 : Value} {bx : Nat} {v : Value} {xs : List Vl} (h : FB w wx R a len cap zs S1 bx v xs) : ∃ k n s, okV k n s ∧ (wx.cell? ⟨bx, 0, none⟩ = some (.int .i64 k) ∧ wx.cell? ⟨bx, 1, none⟩ = some (.int .i64 n) ∧ wx.cell? ⟨bx, 2, none⟩ = some (.string s)) ∧ (wx.frozen? ⟨bx, 0, none⟩ = false ∧ wx.frozen? ⟨bx, 1, none⟩ = false ∧ wx.frozen? ⟨bx, 2, none⟩ = false) := by
 obtain ⟨⟨k, n, s, h1, h2⟩, -⟩ := h
 exact ⟨k, n, s, h2, h1.cells, h1.free⟩
theorem okV_int {n : Int} (h0 : -1000000000 ≤ n) (h1 : n ≤ 1000000000) : okV 1 n ⟨#[]⟩ := .inr (.inl ⟨rfl, h0, h1, rfl⟩)
theorem okV_str {s : ByteArray} (h : s.size ≤ 12) : okV 2 0 s := .inr (.inr ⟨rfl, rfl, h⟩)
theorem okV_null : okV 0 0 ⟨#[]⟩ := .inl ⟨rfl, rfl, rfl⟩
theorem Sl.butY {α : Type} {R : Rd α} (hR : Stays R) {sz : Nat} {ok : Nat → Prop} {w w' : World} {A : Option Addr} {n : Nat} {ds : List α} (h : Sl R sz ok w A n ds) {r : Nat} (hb : But r w w') (hok : ∀ b, ok b → b ≠ r) : Sl R sz ok w' A n ds :=
 h.stays hR (fun _ h => h) fun p v hp hc => (hb.cell (cell_lt hc) (hok _ hp)).trans hc
set_option maxRecDepth 100000 in
set_option maxHeartbeats 4000000 in
theorem rdFit (v0 v2 v3 v4 v5 : Value) (B1 : Option Addr) (m1 d1 : Nat) (cols : List Cl) (ok : Nat → Prop) (w : World) (R : Nat) (a : Option Addr) (len cap : Nat) (zs : List Int) (h : Rdr w R a len cap zs) (h1 : Sl ClR 6 ok w B1 m1 cols) (hok : ∀ b, ok b → b ≠ R) (hl : cols.length ≤ 1000) :
  Calls Tryz.prog 15 #[.pointer (some ⟨R, 0, none⟩), .agg #[v0, .slice B1 m1 d1, v2, v3, v4, v5]] w (Drew R a len cap zs (isFit cols.length w.heap.size) w) := by
 have hR : R < w.heap.size := cell_lt h.code
 obtain rfl : cols.length = m1 := h1.1
 obtain ⟨i0, hi', hz0, hz1, hz2⟩ := info_parts infoValD
 have H1 := Lib.hid hi'
 have H2 := Lib.hid hz0
 have H3 := Lib.hid hz1
 have H4 := Lib.hid hz2
 clear hi' hz0 hz1 hz2
 have hb0 := ((But.refl R w).alloc (.cells #[v0, .slice B1 cols.length d1, v2, v3, v4, v5] 42)).alloc (.cells #[] 66)
 have hr0 := (h.alloc (.cells #[v0, .slice B1 cols.length d1, v2, v3, v4, v5] 42)).alloc (.cells #[] 66)
 have hsz1 : (w.alloc (.cells #[v0, .slice B1 cols.length d1, v2, v3, v4, v5] 42)).heap.size = w.heap.size + 1 := by simp
 have HO0 := OwnG.lit (T := 66) (sz := 3) (f := Vl.cells) (w.alloc (.cells #[v0, .slice B1 cols.length d1, v2, v3, v4, v5] 42)) (base := w.heap.size + 1) (Nat.le_of_eq hsz1.symm)
 rw [hsz1] at HO0
 have hc0 : ((w.alloc (.cells #[v0, .slice B1 cols.length d1, v2, v3, v4, v5] 42)).alloc (.cells #[] 66)).cell? ⟨w.heap.size, 1, none⟩ = some (.slice B1 cols.length d1) := by
  rw [World.cell?_of_block (w := w.alloc (.cells #[v0, .slice B1 cols.length d1, v2, v3, v4, v5] 42)) (Below.heap_alloc _ _ _ (by simp)), World.cell?_alloc_new]
  rfl
 have HOO := Lib.hid (show OwnW ((w.alloc (.cells #[v0, .slice B1 cols.length d1, v2, v3, v4, v5] 42)).alloc (.cells #[] 66)) (w.heap.size + 1) (.slice (some ⟨w.heap.size + 1, 0, none⟩) 0 0) [] from HO0)
 clear HO0 hsz1
 have H0 := Lib.hid h
 have HS1 := Lib.hid h1
 have HBB := Lib.hid hb0
 have HRR := Lib.hid hr0
 clear h h1 hb0 hr0
 go_enter Tryz.func15, Tryz.ntmps15
 go_wp2_with fail
 generalize (w.alloc (.cells #[v0, .slice B1 cols.length d1, v2, v3, v4, v5] 42)).alloc (.cells #[] 66) = z0 at *
 go_loopw [5, 6] (fun v i wr => ∃ (k : Nat) (xs : List Vl), i = .int .i64 k ∧ Hid (k ≤ cols.length ∧ xs.length = k ∧ ∀ x ∈ xs, okV x.k x.n x.s) ∧ Hid (OwnW wr (w.heap.size + 1) v xs) ∧ Hid (But R w wr) ∧ Hid (Rdr wr R a len cap zs) ∧ wr.cell? ⟨w.heap.size, 1, none⟩ = some (.slice B1 cols.length d1)) (fun _ i _ => cols.length - (intOf i).toNat)
 case atStart => exact ⟨0, [], rfl, Lib.hid ⟨by omega, rfl, fun x hx => by cases hx⟩, HOO, HBB, HRR, hc0⟩
 case round =>
  clear hc0 HOO HBB HRR
  obtain ⟨k, xs, rfl, hk, hown, hb, hr, hc⟩ := hrel
  by_cases hlt : k < cols.length
  ·go_wp2_with fail
   refine (rdBelow 5 _ R a len cap zs hr.out).mono ?_
   rintro e w1 ⟨v1, rfl, ⟨y, rfl, y0, y1⟩, hb1, hr1⟩
   go_wp2_with fail
   refine (specInt y _).mono ?_
   rintro e w2 ⟨rfl, o, rfl⟩
   have hq1 := (hb1.alloc o).alloc (.cells #[.int .i64 1, .int .i64 y, .string ⟨#[]⟩] 66)
   have HF := Lib.hid (show FB w ((w1.alloc o).alloc (.cells #[.int .i64 1, .int .i64 y, .string ⟨#[]⟩] 66)) R a len cap zs (.slice B1 cols.length d1) (w1.alloc o).heap.size _ xs from
    ⟨⟨1, y, ⟨#[]⟩, Blk.new (w1.alloc o) 1 y ⟨#[]⟩, okV_int (by omega) (by omega)⟩, OwnG.but hown.out hq1 (by omega), hb.out.trans hq1, (hr1.alloc _).alloc _, (hq1.cell (cell_lt hc) (by show w.heap.size ≠ R; omega)).trans hc⟩)
   have hbx : w.heap.size < (w1.alloc o).heap.size := Nat.lt_of_lt_of_le (cell_lt hc) (Nat.le_trans hb1.size (by simp))
   have hnb : ∀ g, Value.ownBlock _ = some g → g ≠ (w1.alloc o).heap.size := fun g hg => by have h2 := (OwnG.block_lt hown.out g hg).2; have h3 : wr.heap.size ≤ (w1.alloc o).heap.size := Nat.le_trans hb1.size (by simp); omega
   have HNB := Lib.hid hnb
   have hbxR : (w1.alloc o).heap.size ≠ R := by omega
   have hc1 := HF.out.2.2.2.2
   have HC := Lib.hid ((HS1.out.butY ClR.stays hb.out hok).butY ClR.stays hq1 hok)
   obtain ⟨b, off, -, rfl, -, q1, -, -, -, -⟩ := ClR.at_ HC.out hlt
   have i0' : (0 : Int) ≤ k := by omega
   have i1' : (k : Int) < cols.length := by omega
   have HBX := Lib.hid hbx
   rw [show (w1.alloc o).heap.size = w1.heap.size + 1 by simp] at HF HNB HBX hbxR
   have hbx := HBX.out
   clear hb1 hr1 hq1 hc hnb HC HBX
   obtain ⟨bx, ebx⟩ : ∃ bx, w1.heap.size + 1 = bx := ⟨_, rfl⟩
   rw [ebx] at HF HNB hbxR hbx
   go_upto_if 25 with (fail)
   clear ebx
   generalize (w1.alloc o).alloc (.cells #[.int .i64 1, .int .i64 y, .string ⟨#[]⟩] 66) = w3 at *
   generalize (cols[k].kind == 2) = bk
   go_cut [] from 26 to 42 (fun wx => FB w wx R a len cap zs (.slice (some ⟨b, off, none⟩) cols.length d1) bx u5 xs)
   case first =>
    cases bk
    ·go_wp2_with fail
     go_meet
     case rel => exact HF.out
    ·have hsz3 : bx < w3.heap.size := HF.out.1.choose_spec.choose_spec.choose_spec.1.lt
     go_wp2_with fail
     refine (rdBelow 3 _ R a len cap zs (HF.out.rdr.alloc (.cells #[.string ⟨#[]⟩, .string ⟨#[97]⟩, .string ⟨#[98]⟩] 9))).mono ?_
     rintro e w4 ⟨v4, rfl, ⟨y4, rfl, q0, q1'⟩, hb4, hr4⟩
     obtain ⟨j, rfl, j6, t, j0, j1, ht, hjc⟩ : ∃ j : Nat, y4 = j ∧ j < 3 ∧ ∃ t : ByteArray, (0 : Int) ≤ j ∧ (j : Int) < 3 ∧ t.size ≤ 12 ∧ (#[.string ⟨#[]⟩, .string ⟨#[97]⟩, .string ⟨#[98]⟩] : Array Value)[j]? = some (.string t) := by
      have : y4 = 0 ∨ y4 = 1 ∨ y4 = 2 := by omega
      rcases this with rfl | rfl | rfl
      ·exact ⟨0, rfl, by omega, _, by omega, by omega, by decide, rfl⟩
      ·exact ⟨1, rfl, by omega, _, by omega, by omega, by decide, rfl⟩
      ·exact ⟨2, rfl, by omega, _, by omega, by omega, by decide, rfl⟩
     have c0 := (new_cell hb4 (Nat.lt_of_lt_of_le hR (Nat.le_trans HF.out.2.2.1.size (Nat.le_refl _))) j (by simpa using j6)).trans (row_at hjc)
     have HF4 := Lib.hid (HF.out.but (((But.refl R w3).alloc _).trans hb4) hr4 hR hbxR)
     clear hb4 hr4 hjc
     go_wp2_with fail
     refine (specStr t _).mono ?_
     rintro e w5 ⟨rfl, o5, rfl⟩
     have HF5 := Lib.hid (HF4.out.but ((But.refl R w4).alloc o5) (HF4.out.rdr.alloc o5) hR hbxR)
     obtain ⟨k5, n5, s5, hv5, ⟨r0, r1, r2⟩, ⟨f0, f1, f2⟩⟩ := HF5.out.cells
     clear hv5 HF4 c0
     go_wp2_with fail
     go_meet
     case rel => exact HF5.out.store H0.out hbx HNB.out (okV_str ht)
   case rest =>
    have HF2 := Lib.hid hcut
    clear hcut HF q1
    go_wp2_with fail
    refine (rdOnce 8 _ R a len cap zs HF2.out.rdr).mono ?_
    rintro e y1 ⟨v, rfl, ⟨b8, rfl⟩, hb1, hr1⟩
    have HF3 := Lib.hid (HF2.out.but hb1 hr1 hR hbxR)
    clear HF2 hb1 hr1
    go_upto_if 33 with (fail)
    go_cut [] from 34 to 42 (fun wx => FB w wx R a len cap zs (.slice (some ⟨b, off, none⟩) cols.length d1) bx u5 xs)
    case first =>
     cases b8
     ·go_wp2_with fail
      go_meet
      case rel => exact HF3.out
     ·obtain ⟨k5, n5, s5, hv5, ⟨r0, r1, r2⟩, ⟨f0, f1, f2⟩⟩ := HF3.out.cells
      clear hv5
      go_wp2_with fail
      go_meet
      case rel => exact HF3.out.store H0.out hbx HNB.out okV_null
    case rest =>
     have HF4 := Lib.hid hcut
     clear hcut HF3
     go_wp2_with fail
     refine (rdOnce 60 _ R a len cap zs HF4.out.rdr).mono ?_
     rintro e y2 ⟨v, rfl, ⟨b9, rfl⟩, hb1, hr1⟩
     have HF5 := Lib.hid (HF4.out.but hb1 hr1 hR hbxR)
     clear HF4 hb1 hr1
     go_upto_if 36 with (fail)
     go_cut [] from 37 to 42 (fun wx => FB w wx R a len cap zs (.slice (some ⟨b, off, none⟩) cols.length d1) bx u5 xs)
     case first =>
      cases b9
      ·go_wp2_with fail
       go_meet
       case rel => exact HF5.out
      ·go_wp2_with fail
       refine (rdVal _ R a len cap zs HF5.out.rdr).mono ?_
       rintro e y3 ⟨v, rfl, ⟨vk, vn, vs, rfl, hv⟩, hb1, hr1⟩
       have HF6 := Lib.hid (HF5.out.but hb1 hr1 hR hbxR)
       clear HF5 hb1 hr1
       obtain ⟨k5, n5, s5, hv5, ⟨r0, r1, r2⟩, ⟨f0, f1, f2⟩⟩ := HF6.out.cells
       clear hv5
       go_wp2_with fail
       go_meet
       case rel => exact HF6.out.store H0.out hbx HNB.out hv
     case rest =>
      have HF6 := Lib.hid hcut
      clear hcut HF5
      obtain ⟨vk, vn, vs, hv, ⟨r0, r1, r2⟩, -⟩ := HF6.out.cells
      have HOZ := Lib.hid HF6.out.2.1
      have HBZ := Lib.hid HF6.out.2.2.1
      have HRZ := Lib.hid HF6.out.rdr
      have HCZ := Lib.hid HF6.out.2.2.2.2
      have HKN := Lib.hid (show k + 1 ≤ cols.length ∧ (xs ++ [(⟨vk, vn, vs⟩ : Vl)]).length = k + 1 ∧ ∀ x ∈ xs ++ [(⟨vk, vn, vs⟩ : Vl)], okV x.k x.n x.s from
       ⟨by omega, by rw [List.length_append, hk.out.2.1]; rfl, fun x hx => by
        rcases List.mem_append.1 hx with hx | hx
        ·exact hk.out.2.2 x hx
        ·rw [List.mem_singleton.1 hx]; exact hv⟩)
      have HXL := Lib.hid (show xs.length ≤ 1000 by have := hk.out; omega)
      have HSZ := Lib.hid (show w.heap.size + 1 ≤ wc.heap.size from cell_lt HCZ.out)
      clear hv HF6
      go_wp2_with (at_builtin; refine wpList_append_own _ rfl _ _ 26 rfl (w.heap.size + 1) 66 i0 (.agg #[.int .i64 0, .int .i64 0, .string ⟨#[]⟩]) 3 32 Tryz.underlying26 H1.out H2.out H3.out H4.out rfl (by decide) _ _ _ rfl (World.ownsRow.alloc HOZ.out _) ⟨_, 0, none⟩ 1 1 (Vl.cells ⟨vk, vn, vs⟩) rfl rfl ?c1 ?c2 ?c3 ?c4 ?c5 ?_)
      case c1 => exact cells_newAt _ (Vl.cells _) _ (by simp)
      case c2 => intro u hu; simp [Vl.cells] at hu; rcases hu with rfl | rfl | rfl <;> rfl
      case c3 => have := HXL.out; unfold maxLen; omega
      case c4 => have := HXL.out; omega
      case c5 => have := HSZ.out; simp; omega
      intro v9 w9 hown9 hgrow9 _
      have hq : ∀ g, Value.ownBlock _ = some g → w.heap.size ≤ g := fun g hg => by have := (OwnG.block_lt HOZ.out g hg).1; omega
      have hqn : some w.heap.size ≠ Value.ownBlock _ := fun e => by have := (OwnG.block_lt HOZ.out w.heap.size e.symm).1; omega
      have R9 := Lib.hid (OwnG.app HOZ.out HSZ.out hown9 hgrow9)
      have R9W := Lib.hid (show OwnW w9 (w.heap.size + 1) v9 (xs ++ [(⟨vk, vn, vs⟩ : Vl)]) from R9.out.1)
      have HB9 := Lib.hid ((HBZ.out.alloc _).grown hgrow9 hq)
      have HR9 := Lib.hid (H0.out.grown (HRZ.out.alloc _) (HBZ.out.alloc _) hgrow9 hq)
      have hc9 := (hgrow9.cell ((World.cell?_of_block (w := wc) (Below.heap_alloc _ _ _ (cell_lt HCZ.out))).trans HCZ.out) hqn)
      clear hown9 hgrow9 hq hqn HOZ
      go_wp2_with fail
      go_roundw
      case rel => exact ⟨k + 1, xs ++ [(⟨vk, vn, vs⟩ : Vl)], by go_num, HKN, R9W, HB9, HR9, hc9⟩
      case measure => simp [intOf]; omega
  ·go_wp2_with fail
   go_ret
   have hkl : k = cols.length := by have := hk.out.1; omega
   exact ⟨_, rfl, ⟨xs, OwnG.mono hown.out (by omega), by have := hk.out.2.1; omega, hk.out.2.2⟩, hb.out, hr.out⟩
theorem ownsRow_but {R base : Nat} {w w' : World} {T : TypeId} {sz : Nat} {v : Value} {n : Nat} {xs : List Value} (h : w.ownsRow base T sz v n xs) (hb : But R w w') (hR : R < base) : w'.ownsRow base T sz v n xs := by
 refine ⟨h.1, ?_⟩
 rcases h.2 with h | ⟨g, cap, cur, rfl, h1, h2, h3⟩
 ·exact .inl h
 ·exact .inr ⟨g, cap, cur, rfl, h1, (hb.block g (lt_of_block h2) (by omega)).trans h2, h3⟩
theorem Blo.but {w w' : World} {R g : Nat} {xs : List Value} {T : TypeId} (h : Blo w g xs T) (hb : But R w w') (hg : g ≠ R) : Blo w' g xs T := (hb.block g h.lt hg).trans h
theorem Blo.alloc {w : World} {g : Nat} {xs : List Value} {T : TypeId} (h : Blo w g xs T) (o : Obj) : Blo (w.alloc o) g xs T := (Below.heap_alloc _ _ _ h.lt).trans h
def schOk (ts : List Tb) : Prop := 1 ≤ ts.length ∧ ts.length ≤ 3 ∧ ∀ t ∈ ts, t.sz ≤ 61 ∧ 2 ≤ t.cols.length
theorem TabY.cols2 {base : Nat} {w : World} {gc : Nat} {cs : List Value} {t : Tb} (h : TabY base w gc cs t) : 2 ≤ t.cols.length := by
 obtain ⟨n1, _, _, _, _, _, _, _, _, _, _, _, _, _, _, _, hn, hp, _⟩ := h
 omega
theorem isSch.full {base : Nat} {v : Value} {w : World} (h : isSch base 61 v w) : ∃ (A : Option Addr) (c : Nat) (ts : List Tb), v = .slice A ts.length c ∧ ts.length ≤ c ∧ Sl TbR 6 (okF base w) w A ts.length ts ∧ schOk ts := by
 obtain ⟨xs, hs, h0, h1, h2⟩ := h
 obtain ⟨A, c, rfl, hc, -, hsl⟩ := hs.sl
 refine ⟨A, c, xs.map (·.2.2), by rw [List.length_map], by rw [List.length_map]; exact hc, by rw [List.length_map]; exact hsl, by rw [List.length_map]; omega, by rw [List.length_map]; omega, fun t ht => ?_⟩
 obtain ⟨x, hx, rfl⟩ := List.mem_map.1 ht
 exact ⟨h2 x hx, (hs.2.2 x hx).cols2⟩
theorem schOk.sz {ts : List Tb} (h : schOk ts) : szL Tb.sz ts ≤ 1000 := by
 have := szL_le Tb.sz 61 ts fun t ht => (h.2.2 t ht).1
 have h2 := Nat.mul_le_mul_right 61 h.2.1
 have := h.2.1
 omega
theorem cols_le (t : Tb) : t.cols.length ≤ t.sz := by
 have h2 : t.cols.length ≤ szL Cl.sz t.cols := by unfold szL; omega
 unfold Tb.sz; omega
theorem okF.weak {α : Type} {Rr : Rd α} (hR : Stays Rr) {sz base base' : Nat} {w w' : World} {A : Option Addr} {n : Nat} {ds : List α} (h : Sl Rr sz (okF base' w) w' A n ds) (hb : base ≤ base') : Sl Rr sz (fun b => base ≤ b) w' A n ds :=
 h.stays hR (fun b hb' => Nat.le_trans hb hb'.1) fun _ _ _ h => h
end Go.Proofs.YteiifabdbkpkiaaGreat
namespace Go.Proofs.YteiifabdbkpkiaaGreat
open Go.RowKit
def okL (base : Nat) (w : World) (v : Value) : Nat → Prop := fun b => base ≤ b ∧ b < w.heap.size ∧ v.ownBlock ≠ some b
structure LV {α : Type} (Rr : Rd α) (T : TypeId) (sz : Nat) (w : World) (base : Nat) (v : Value) (xs : List α) (vs : List (List Value)) : Prop where
 len : vs.length = xs.length
 all : ∀ c ∈ vs, c.length = sz
 row : w.ownsRow base T sz v xs.length vs.flatten
 els : ∀ j (h : j < xs.length) (h' : j < vs.length), Rr (okL base w v) w vs[j] xs[j]
def LG {α : Type} (Rr : Rd α) (T : TypeId) (sz : Nat) (w : World) (base : Nat) (v : Value) (xs : List α) : Prop := ∃ vs, LV Rr T sz w base v xs vs
section
variable {α : Type} {Rr : Rd α} {T : TypeId} {sz : Nat}
theorem LG.empty (w : World) (base : Nat) : LG Rr T sz w base (.slice none 0 0) ([] : List α) := ⟨[], rfl, fun c hc => (by cases hc), ⟨by simp, .inl ⟨rfl, rfl⟩⟩, fun j h => by simp at h⟩
theorem LG.lit (w : World) {base : Nat} (hb : base ≤ w.heap.size) : LG Rr T sz (w.alloc (.cells #[] T)) base (.slice (some ⟨w.heap.size, 0, none⟩) 0 0) ([] : List α) :=
 ⟨[], rfl, fun c hc => (by cases hc), ⟨by simp, .inr ⟨w.heap.size, 0, #[], rfl, hb, Go.heap_alloc_last w _, Nat.le_refl _, by simp [maxLen], by simp, by simp⟩⟩, fun j h => by simp at h⟩
theorem LV.but (hR : Stays Rr) {w w' : World} {base R : Nat} {v : Value} {xs : List α} {vs : List (List Value)} (h : LV Rr T sz w base v xs vs) (hb : But R w w') (hr : R < base) : LV Rr T sz w' base v xs vs :=
 ⟨h.len, h.all, ownsRow_but h.row hb hr, fun j h1 h2 => hR _ _ _ _ _ _ (h.els j h1 h2) (fun b ⟨a1, a2, a3⟩ => ⟨a1, Nat.lt_of_lt_of_le a2 hb.size, a3⟩) fun p u ⟨a1, a2, a3⟩ hc => (hb.cell a2 (by omega)).trans hc⟩
theorem LG.but (hR : Stays Rr) {w w' : World} {base R : Nat} {v : Value} {xs : List α} (h : LG Rr T sz w base v xs) (hb : But R w w') (hr : R < base) : LG Rr T sz w' base v xs := by
 obtain ⟨vs, h⟩ := h
 exact ⟨vs, h.but hR hb hr⟩
theorem LV.app (hR : Stays Rr) {w w' : World} {base : Nat} {v v' : Value} {xs : List α} {x : α} {vs : List (List Value)} {cs : List Value} (h : LV Rr T sz w base v xs vs) (hcs : cs.length = sz) (hx : Rr (okL base w v) w cs x)
  (hown : w'.ownsRow base T sz v' (xs.length + 1) (vs.flatten ++ cs)) (hg : w.grownBy w' v.ownBlock) (hv : v'.ownBlock = v.ownBlock ∨ v'.ownBlock = some w.heap.size) : LV Rr T sz w' base v' (xs ++ [x]) (vs ++ [cs]) := by
 have ho : ∀ b, okL base w v b → okL base w' v' b := fun b ⟨a1, a2, a3⟩ => ⟨a1, Nat.lt_of_lt_of_le a2 hg.size, by
  rcases hv with e | e
  ·rw [e]; exact a3
  ·rw [e]; intro e2; injection e2 with e2; omega⟩
 have hk : ∀ p u, okL base w v p.block → w.cell? p = some u → w'.cell? p = some u := fun p u ⟨a1, a2, a3⟩ hc => (World.cell?_of_block (w := w) (hg.block p.block a2 (fun e => a3 e.symm))).trans hc
 refine ⟨by rw [List.length_append, List.length_append, h.len]; rfl, fun c hc => ?_, ?_, fun j h1 h2 => ?_⟩
 ·rcases List.mem_append.1 hc with hc | hc
  ·exact h.all c hc
  ·rw [List.mem_singleton.1 hc]; exact hcs
 ·rw [List.flatten_append, List.length_append]
  simpa using hown
 ·have hl := h.len
  by_cases hj : j < xs.length
  ·have e1 : (xs ++ [x])[j] = xs[j] := List.getElem_append_left hj
   have e2 : (vs ++ [cs])[j] = vs[j]'(by omega) := List.getElem_append_left (by omega)
   rw [e1, e2]
   exact hR _ _ _ _ _ _ (h.els j hj (by omega)) ho hk
  ·have hj2 : j = xs.length := by rw [List.length_append] at h1; simp at h1; omega
   subst hj2
   have e1 : (xs ++ [x])[xs.length] = x := by simp
   have e2 : (vs ++ [cs])[xs.length] = cs := by rw [List.getElem_append_right (by omega)]; simp [hl]
   rw [e1, e2]
   exact hR _ _ _ _ _ _ hx ho hk
theorem LG.sl (hR : Stays Rr) {w : World} {base : Nat} {v : Value} {xs : List α} (h : LG Rr T sz w base v xs) : ∃ A c, v = .slice A xs.length c ∧ xs.length ≤ c ∧ c ≤ maxLen ∧ Sl Rr sz (fun b => base ≤ b ∧ b < w.heap.size) w A xs.length xs := by
 obtain ⟨vs, h⟩ := h
 rcases h.row.2 with ⟨rfl, h0⟩ | ⟨g, cap, cur, rfl, k1, k2, k3, k4, k5, k6⟩
 ·exact ⟨_, 0, by rw [h0], by omega, by simp [maxLen], rfl, fun hn => by omega⟩
 ·refine ⟨_, cap, rfl, k3, k4, rfl, fun hn => ⟨g, 0, rfl, ⟨k1, lt_of_block k2⟩, fun i hi => ?_⟩⟩
  have hi' : i < vs.length := by rw [h.len]; exact hi
  refine ⟨vs[i], h.all _ (List.getElem_mem hi'), hR _ _ _ _ _ _ (h.els i hi hi') (fun b ⟨a1, a2, _⟩ => ⟨a1, a2⟩) (fun _ _ _ hc => hc), fun j u hj => ?_⟩
  have hjs : j < sz := by rw [← h.all _ (List.getElem_mem hi')]; exact (List.getElem?_eq_some_iff.1 hj).1
  have e := flat_get (sz := sz) vs i j hi' hjs h.all
  rw [hj] at e
  rw [Nat.zero_add]
  simp only [World.cell?, k2]
  rw [← Array.getElem?_toList]
  rw [← k6, List.getElem?_take, if_pos (by have := Nat.mul_le_mul_right sz (show i + 1 ≤ xs.length from hi); rw [Nat.succ_mul] at this; omega)] at e
  simpa using e
end
end Go.Proofs.YteiifabdbkpkiaaGreat
namespace Go.Proofs.YteiifabdbkpkiaaGreat
open Go.RowKit
theorem below_dN {B : Nat} {w w' : World} (h : Below B w w') (m : Nat) : Below B w (w'.drewN m) := ⟨h.os, h.tape, h.output, h.size, h.block⟩
end Go.Proofs.YteiifabdbkpkiaaGreat
namespace Go.Proofs.YteiifabdbkpkiaaGreat
open Go.RowKit Go.Maps
set_option maxRecDepth 100000 in
set_option maxHeartbeats 2000000 in
theorem implSchemaOk (AS : Option Addr) (nS cS : Nat) (s : List Tb) (ok : Nat → Prop) (w : World) (hs : Sl TbR 6 ok w AS nS s) (hsz : szL Tb.sz s ≤ 1048576) :
  Calls Tryz.prog 35 #[.slice AS nS cS] w fun e w' => e = .returned (.bool (schemaB s)) ∧ Below w.heap.size w w' := by
 obtain rfl : s.length = nS := hs.1
 have hn : s.length ≤ 1048576 := by unfold szL at hsz; omega
 have HSZ := Lib.hid hsz
 have HT := Lib.hid (fun k (hlt : k < s.length) => show s[k].sz ≤ 1048576 by have := HSZ.out; have := sum_mem_le Tb.sz s k hlt; unfold szL at *; omega)
 clear hsz
 by_cases h5 : 5 < (s.length : Int)
 ·have HF := Lib.hid (show schemaB s = false by unfold schemaB; rw [decide_eq_false (by omega)]; rfl)
  go_enter Tryz.func35, Tryz.ntmps35
  go_wp2
  go_ret
  exact ⟨retB HF.out.symm, Below.refl _ _⟩
 have h5' : decide (5 < (s.length : Int)) = false := by simpa using h5
 have H5 := Lib.hid (show decide (s.length ≤ 5) = true from decide_eq_true (by omega))
 go_enter Tryz.func35, Tryz.ntmps35
 go_wp2_with fail
 go_loopw [13] (fun i wr => ∃ k : Nat, k ≤ s.length ∧ i = .int .i64 k ∧ Hid ((s.take k).all tableB = true) ∧ Below w.heap.size w wr) (fun i _ => s.length - (intOf i).toNat)
 case atStart => exact ⟨0, by omega, rfl, Lib.hid (by simp), Below.refl _ _⟩
 case round =>
  obtain ⟨k, hk, rfl, hall, hb⟩ := hrel
  by_cases hlt : k < s.length
  ·obtain ⟨b, off, A1, n1, c1, A2, n2, c2, A3, n3, c3, A4, n4, c4, A5, n5, c5, -, rfl, q0, q1, q2, q3, q4, q5, s1, s2, s3, s4, s5, -⟩ := TbR.at_ (hs.below TbR.stays hb) hlt
   have hsn := all_take tableB s k hlt
   rw [hall.out, Bool.true_and] at hsn
   have hno := fun hf => all_no tableB s k hlt hf
   have HX := Lib.hid (HT.out k hlt)
   have hbx := (Below.refl wr.heap.size wr).alloc (Nat.le_refl _) (.cells #[.string s[k].name, .slice A1 n1 c1, .slice A2 n2 c2, .slice A3 n3 c3, .slice A4 n4 c4, .slice A5 n5 c5] 42)
   have hba := hb.trans (hbx.mono hb.size)
   have r0 := Row.new wr 42 #[.string s[k].name, .slice A1 n1 c1, .slice A2 n2 c2, .slice A3 n3 c3, .slice A4 n4 c4, .slice A5 n5 c5]
   obtain ⟨⟨f0, f1, f2, f3, f4, f5⟩, -⟩ := r0.all6
   have HC := Lib.hid (implTableOk s[k] A1 n1 c1 A2 n2 c2 A3 n3 c3 A4 n4 c4 A5 n5 c5 ok _ (s1.below ClR.stays hbx) (s2.below IntR.stays hbx) (s3.below UqR.stays hbx) (s4.below CkR.stays hbx) (s5.below FkR.stays hbx) HX.out)
   cases hc : tableB s[k]
   ·have HCC := Lib.hid hc
    have HF := Lib.hid (show schemaB s = false by unfold schemaB; rw [hno hc]; simp)
    clear hsn hno hall hc
    go_wp2_with fail
    refine HC.out.mono ?_
    rintro e w1 ⟨rfl, hb1⟩
    rw [HCC.out]
    clear HC
    go_wp2_with fail
    go_ret
    exact ⟨retB HF.out.symm, hba.trans (hb1.mono hba.size)⟩
   ·have HCC := Lib.hid hc
    have HA := Lib.hid (hsn.trans hc)
    clear hsn hno hall hc
    go_wp2_with fail
    refine HC.out.mono ?_
    rintro e w1 ⟨rfl, hb1⟩
    rw [HCC.out]
    clear HC
    go_wp2_with fail
    go_roundw
    case rel => exact ⟨k + 1, by omega, by go_num, Lib.hid HA.out, hba.trans (hb1.mono hba.size)⟩
    case measure => simp [intOf]; omega
  ·have e : s.take k = s := List.take_of_length_le (by omega)
   have g1 := hall.out
   rw [e] at g1
   have HALL := Lib.hid g1
   have HU := Lib.hid (cntGo_uniq (s.map Tb.name) [])
   clear e g1 hall
   go_wp2_with fail
   refine (implTablePlaces AS s.length cS s ok _ (hs.below TbR.stays hb) HSZ.out).mono ?_
   rintro e w1 ⟨bm, rfl, hp, hbb, hb1⟩
   have hbz := hb.trans (hb1.mono hb.size)
   obtain ⟨D, p1, p2, p3, p4, p5⟩ := id hp
   clear p2 p3 p4
   have hu := HU.out
   rw [← p5, List.length_map] at hu
   clear p5
   cases huq : uniqGo [] (s.map Tb.name)
   ·have hne : ¬ ((Maps.size D : Int) = s.length) := by
     rw [huq] at hu; have := beq_eq_false_iff_ne.1 hu; omega
    have HF := Lib.hid (show schemaB s = false by unfold schemaB; rw [huq]; simp)
    clear hu huq
    go_wp2_with (first | (at_len; refine wpList_len_own _ rfl _ 98 rfl 9 2 Tryz.underlying98 _ bm _ D rfl p1 ?_))
    go_ret
    exact ⟨retB HF.out.symm, hbz⟩
   have heq : (Maps.size D : Int) = s.length := by rw [huq] at hu; have : Maps.size D = s.length := by simpa using hu
                                                   omega
   have HUQ := Lib.hid huq
   clear hu huq hk hlt
   go_wp2_with (first | (at_len; refine wpList_len_own _ rfl _ 98 rfl 9 2 Tryz.underlying98 _ bm _ D rfl p1 ?_))
   clear heq p1
   go_loopw [30] (fun i wr => ∃ k : Nat, k ≤ s.length ∧ i = .int .i64 k ∧ Hid ((s.take k).all (leadsB s) = true) ∧ PlacesIn wr bm (s.map Tb.name) ∧ Below w.heap.size w wr) (fun i _ => s.length - (intOf i).toNat)
   case atStart => exact ⟨0, by omega, rfl, Lib.hid (by simp), hp, hbz⟩
   case round =>
    clear hp hbz hb1 hb
    obtain ⟨k, hk, rfl, hall, hp, hb⟩ := hrel
    by_cases hlt : k < s.length
    ·obtain ⟨b, off, A1, n1, c1, A2, n2, c2, A3, n3, c3, A4, n4, c4, A5, n5, c5, -, ea, q0, q1, q2, q3, q4, q5, s1, s2, s3, s4, s5, -⟩ := TbR.at_ (hs.below TbR.stays hb) hlt
     subst ea
     have hsn := all_take (leadsB s) s k hlt
     rw [hall.out, Bool.true_and] at hsn
     have hno := fun hf => all_no (leadsB s) s k hlt hf
     have HX := Lib.hid (HT.out k hlt)
     have HTB := Lib.hid (show tableB s[k] = true from List.all_eq_true.1 HALL.out _ (List.getElem_mem hlt))
     have hbx := (Below.refl wr.heap.size wr).alloc (Nat.le_refl _) (.cells #[.string s[k].name, .slice A1 n1 c1, .slice A2 n2 c2, .slice A3 n3 c3, .slice A4 n4 c4, .slice A5 n5 c5] 42)
     have hba := hb.trans (hbx.mono hb.size)
     have hp1 := hp.below hbx
     have r0 := Row.new wr 42 #[.string s[k].name, .slice A1 n1 c1, .slice A2 n2 c2, .slice A3 n3 c3, .slice A4 n4 c4, .slice A5 n5 c5]
     obtain ⟨⟨f0, f1, f2, f3, f4, f5⟩, -⟩ := r0.all6
     have HC := Lib.hid (implFksLead s s[k] _ s.length cS bm A1 n1 c1 A2 n2 c2 A3 n3 c3 A4 n4 c4 A5 n5 c5 ok _ (hs.below TbR.stays hba) hp1 (s1.below ClR.stays hbx) (s5.below FkR.stays hbx) HTB.out HALL.out HSZ.out HX.out)
     cases hc : leadsB s s[k]
     ·have HCC := Lib.hid hc
      have HF := Lib.hid (show schemaB s = false by unfold schemaB; rw [hno hc]; simp)
      clear hsn hno hall hc
      go_wp2_with fail
      refine HC.out.mono ?_
      rintro e w1 ⟨rfl, hb1⟩
      rw [HCC.out]
      clear HC
      go_wp2_with fail
      go_ret
      exact ⟨retB HF.out.symm, hba.trans (hb1.mono hba.size)⟩
     ·have HCC := Lib.hid hc
      have HA := Lib.hid (hsn.trans hc)
      clear hsn hno hall hc
      go_wp2_with fail
      refine HC.out.mono ?_
      rintro e w1 ⟨rfl, hb1⟩
      rw [HCC.out]
      clear HC
      go_wp2_with fail
      go_roundw
      case rel => exact ⟨k + 1, by omega, by go_num, Lib.hid HA.out, hp1.below hb1, hba.trans (hb1.mono hba.size)⟩
      case measure => simp [intOf]; omega
    ·have e : s.take k = s := List.take_of_length_le (by omega)
     have g1 := hall.out
     rw [e] at g1
     have HF := Lib.hid (show schemaB s = true by unfold schemaB; rw [H5.out, HALL.out, HUQ.out, g1]; rfl)
     clear e g1 hall
     go_wp2_with fail
     go_ret
     exact ⟨retB HF.out.symm, hb⟩
def termE (c : Int) (y : Te) : Bool := exprB y.expr c
def termsB (c : Int) (l : List Te) : Bool := l.all (termE c)
theorem termsB_take {c : Int} {l : List Te} {k : Nat} (h : k < l.length) : termsB c (l.take (k + 1)) = (termsB c (l.take k) && exprB l[k].expr c) := by
 unfold termsB
 rw [List.take_succ_eq_append_getElem h, List.all_append]; simp [termE]
theorem termsB_no {c : Int} {l : List Te} {k : Nat} (h : k < l.length) (hf : exprB l[k].expr c = false) : termsB c l = false := by
 unfold termsB
 rw [List.all_eq_false]
 exact ⟨l[k], List.getElem_mem h, by simp [termE, hf]⟩
set_option maxRecDepth 100000 in
set_option maxHeartbeats 1000000 in
theorem implTermsOk (A : Option Addr) (n c : Nat) (l : List Te) (cols : Int) (ok : Nat → Prop) (w : World) (h : Sl TeR 1 ok w A n l) (hn : n ≤ 1048576) (hen : ∀ y ∈ l, y.expr.length ≤ maxLen) :
  Calls Tryz.prog 55 #[.slice A n c, .int .i64 cols] w fun e w' => e = .returned (.bool (termsB cols l)) ∧ Below w.heap.size w w' := by
 obtain rfl : l.length = n := h.1
 have HEN := Lib.hid hen
 clear hen
 go_enter Tryz.func55, Tryz.ntmps55
 go_wp2_with fail
 go_loopw [9] (fun iv wr => ∃ k : Nat, k ≤ l.length ∧ iv = .int .i64 k ∧ Hid (termsB cols (l.take k) = true) ∧ Below w.heap.size w wr) (fun iv _ => l.length - (intOf iv).toNat)
 case atStart => exact ⟨0, by omega, rfl, Lib.hid (by simp [termsB]), Below.refl _ _⟩
 case round =>
  obtain ⟨k, hk, rfl, hall, hb⟩ := hrel
  by_cases hlt : k < l.length
  ·obtain ⟨bt, ot, AE, nE, cE, -, rfl, u0, hx, -⟩ := TeR.at_ (h.below TeR.stays hb) hlt
   obtain rfl : l[k].expr.length = nE := hx.1
   have a0 : (0 : Int) ≤ k := by omega
   have a1 : (k : Int) < l.length := by omega
   have hbx := (Below.refl wr.heap.size wr).alloc (Nat.le_refl _) (.cells #[.slice AE l[k].expr.length cE] 82)
   have hba := hb.trans (hbx.mono hb.size)
   have rx := Row.new wr 82 #[.slice AE l[k].expr.length cE]
   have v0 : (wr.alloc (.cells #[.slice AE l[k].expr.length cE] 82)).cell? ⟨wr.heap.size, 0, none⟩ = some (.slice AE l[k].expr.length cE) := by rw [rx.cell]; rfl
   have HXE := Lib.hid (implExprOk AE l[k].expr.length cE l[k].expr cols (wr.alloc (.cells #[.slice AE l[k].expr.length cE] 82)) (Sl.cellz (fun _ => rfl) (hx.below TkR.stays hbx)) (HEN.out _ (List.getElem_mem hlt)))
   have HST := Lib.hid (termsB_take (c := cols) hlt)
   have HNO := Lib.hid (show exprB l[k].expr cols = false → termsB cols l = false from fun hf => termsB_no hlt hf)
   clear hx rx
   go_wp2_with fail
   refine HXE.out.mono ?_
   rintro e w3 ⟨rfl, hq3⟩
   cases he : exprB l[k].expr cols
   ·have HF := Lib.hid (HNO.out he)
    clear he
    go_wp2_with fail
    go_ret
    exact ⟨retB HF.out.symm, hba.trans (hq3.mono hba.size)⟩
   ·have HA := Lib.hid (show termsB cols (l.take (k + 1)) = true by rw [HST.out, hall.out, he]; rfl)
    clear he
    go_wp2_with fail
    go_roundw
    case rel => exact ⟨k + 1, by omega, by go_num, HA, hba.trans (hq3.mono hba.size)⟩
    case measure => simp [intOf]; omega
  ·obtain rfl : k = l.length := by omega
   have h1 := hall.out
   rw [List.take_of_length_le (Nat.le_refl _)] at h1
   have HF := Lib.hid h1
   clear hall h1
   go_wp2_with fail
   go_ret
   exact ⟨retB HF.out.symm, hb⟩
def Te.szN (x : Te) : Nat := szL (fun _ : Tk => 0) x.expr
def Tg.szN (x : Tg) : Nat := x.table.size + szL (fun _ : Tk => 0) x.wher + x.into.size + szL Te.szN x.terms
def eventB (e : Int) : Bool := decide (1 ≤ e) && decide (e ≤ 3)
def widthAt (s : List Tb) (nm : ByteArray) : Nat := ((s[(atN (s.map Tb.name) nm).toNat]?).map (fun t => t.cols.length)).getD 0
def trigE (s : List Tb) (t : Tg) (ts : List Tk) : Bool := exprB ts ((2 * widthAt s t.table : Nat) : Int)
def trigB (s : List Tb) (t : Tg) : Bool := (!decide (atN (s.map Tb.name) t.table = -1) && !decide (atN (s.map Tb.name) t.into = -1)) && (eventB t.event && (decide (t.terms.length = widthAt s t.into) && ((decide (t.wher.length = 0) || trigE s t t.wher) && t.terms.all (fun y => trigE s t y.expr))))
def triggersB (s : List Tb) (l : List Tg) : Bool := schemaB s && (decide (l.length ≤ 6) && l.all (trigB s))
theorem share {P G : World → Prop} {T : Prop} (main : (∀ y, P y → G y) → T) (key : ∀ y, P y → G y) : T := main key
theorem widthAt_of {s : List Tb} {nm : ByteArray} {m : Nat} (h : atN (s.map Tb.name) nm = m) (hm : m < s.length) : widthAt s nm = s[m].cols.length := by
 unfold widthAt
 rw [h, Int.toNat_natCast, List.getElem?_eq_getElem hm]; rfl
theorem implIsEvent (n : Int) (w : World) :
  Calls Tryz.prog 53 #[.int .i64 n] w fun e w' => e = .returned (.bool (eventB n)) ∧ w = w' := by
 by_cases h1 : n = 1
 ·subst h1
  go_enter Tryz.func53, Tryz.ntmps53
  go_wp2
  go_ret
  exact ⟨rfl, rfl⟩
 by_cases h2 : n = 2
 ·subst h2
  go_enter Tryz.func53, Tryz.ntmps53
  go_wp2
  go_ret
  exact ⟨rfl, rfl⟩
 by_cases h3 : n = 3
 ·subst h3
  go_enter Tryz.func53, Tryz.ntmps53
  go_wp2
  go_ret
  exact ⟨rfl, rfl⟩
 have e1 : (n == 1) = false := beq_eq_false_iff_ne.2 h1
 have e2 : (n == 2) = false := beq_eq_false_iff_ne.2 h2
 have e3 : (n == 3) = false := beq_eq_false_iff_ne.2 h3
 have hF : eventB n = false := by
  unfold eventB
  by_cases a : 1 ≤ n
  ·rw [decide_eq_false (show ¬ n ≤ 3 by omega)]; simp
  ·rw [decide_eq_false a]; rfl
 have HF := Lib.hid hF
 clear hF h1 h2 h3
 go_enter Tryz.func53, Tryz.ntmps53
 go_wp2
 go_ret
 exact ⟨retB HF.out.symm, rfl⟩
theorem keepS2 {w w' : World} {p q : Addr} {u v : Value} (h : w.cell? p = some u ∧ w.cell? q = some v) (hb : Below w.heap.size w w') : w'.cell? p = some u ∧ w'.cell? q = some v :=
 ⟨below_keep hb _ _ h.1, below_keep hb _ _ h.2⟩
set_option maxRecDepth 100000 in
set_option maxHeartbeats 4000000 in
theorem implTriggerOk (AS : Option Addr) (nS cS : Nat) (s : List Tb) (b o : Nat) (A2 : Option Addr) (n2 c2 : Nat) (A4 : Option Addr) (n4 c4 : Nat) (t : Tg) (ok okt : Nat → Prop) (w : World)
  (hs : Sl TbR 6 ok w AS nS s) (hsz : szL Tb.sz s ≤ 1048576) (ht : t.szN ≤ 1048576)
  (y0 : w.cell? ⟨b, o, none⟩ = some (.string t.table)) (y1 : w.cell? ⟨b, o + 1, none⟩ = some (.int .i64 t.event)) (y2 : w.cell? ⟨b, o + 2, none⟩ = some (.slice A2 n2 c2)) (y3 : w.cell? ⟨b, o + 3, none⟩ = some (.string t.into)) (y4 : w.cell? ⟨b, o + 4, none⟩ = some (.slice A4 n4 c4))
  (h2 : Sl TkR 5 okt w A2 n2 t.wher) (h4 : Sl TeR 1 okt w A4 n4 t.terms) :
  Calls Tryz.prog 36 #[.slice AS nS cS, .pointer (some ⟨b, o, none⟩)] w fun e w' => e = .returned (.bool (trigB s t)) ∧ Below w.heap.size w w' := by
 obtain rfl : s.length = nS := hs.1
 obtain rfl : t.wher.length = n2 := h2.1
 obtain rfl : t.terms.length = n4 := h4.1
 have hn : s.length ≤ 1048576 := by unfold szL at hsz; omega
 have hnw : t.wher.length ≤ 1048576 := by unfold Tg.szN szL at ht; omega
 have hnt : t.terms.length ≤ 1048576 := by unfold Tg.szN szL at ht; omega
 have HN0 := Lib.hid (show t.table.size ≤ maxLen by unfold maxLen; unfold Tg.szN at ht; omega)
 have HN1 := Lib.hid (show t.into.size ≤ maxLen by unfold maxLen; unfold Tg.szN at ht; omega)
 have HTE := Lib.hid (fun (k : Nat) (hk : k < t.terms.length) => show (t.terms[k]).expr.length ≤ maxLen by
  have e : szL (fun _ : Tk => 0) (t.terms[k]).expr ≤ szL Te.szN t.terms := szL_mem Te.szN t.terms t.terms[k] (List.getElem_mem hk)
  have e2 : (t.terms[k]).expr.length ≤ szL (fun _ : Tk => 0) (t.terms[k]).expr := by unfold szL; omega
  unfold Tg.szN at ht
  unfold maxLen
  omega)
 have HTM := Lib.hid (show ∀ y ∈ t.terms, y.expr.length ≤ maxLen from fun y hy => by obtain ⟨k, hk, rfl⟩ := List.mem_iff_getElem.1 hy; exact HTE.out k hk)
 have HSZ := Lib.hid hsz
 have HCL := Lib.hid (fun k (hlt : k < s.length) => show s[k].cols.length ≤ 1048576 by
  have := HSZ.out; have := sum_mem_le Tb.sz s k hlt; have e : s[k].cols.length ≤ s[k].sz := (by unfold Tb.sz szL; omega); unfold szL at *; omega)
 have HH4 := Lib.hid h4
 clear hsz ht
 go_enter Tryz.func36, Tryz.ntmps36
 go_wp2_with fail
 apply share (P := fun y => Below w.heap.size w y)
 case main =>
  intro key
  go_region_held3 (fun w' => w'.cell? ⟨b, o, none⟩ = some (.string t.table) ∧ w'.cell? ⟨b, o + 3, none⟩ = some (.string t.into))
   (first | go_keep | exact keepS2 (by assumption) hqc)
   (first | (go_at_call 52; refine (implTableAt AS s.length cS s _ _ _ (by first | exact hs.drew TbR.stays | exact (hs.drew TbR.stays).below TbR.stays (by assumption)) HSZ.out (by first | exact HN0.out | exact HN1.out)).mono ?_; rintro e wc ⟨rfl, hqc⟩; first | have hcum2 := hcum1.trans (hqc.mono hcum1.size) | have hcum1 := (Below.refl w.heap.size w).drew.trans (hqc.mono (Nat.le_refl _))))
  all_goals exact key _ hcum2
 case key =>
  intro w1 hb1
  have z1 := below_keep hb1 _ _ y1
  have z2 := below_keep hb1 _ _ y2
  have z4 := below_keep hb1 _ _ y4
  clear y0 y1 y2 y3 y4
  have hs1 := hs.below TbR.stays hb1
  have g2 := h2.below TkR.stays hb1
  clear hs h2 h4
  by_cases e0 : atN (s.map Tb.name) t.table = -1
  ·have HF := Lib.hid (show trigB s t = false by unfold trigB; rw [e0]; rfl)
   rw [e0]
   clear e0
   go_wp2_with fail
   go_ret
   exact ⟨retB HF.out.symm, hb1⟩
  obtain ⟨m, hm, hml⟩ : ∃ m : Nat, atN (s.map Tb.name) t.table = m ∧ m < s.length := by
   rcases atN_rng (s.map Tb.name) t.table with h | h
   ·exact absurd h e0
   ·rw [List.length_map] at h
    exact ⟨(atN (s.map Tb.name) t.table).toNat, by omega, by omega⟩
  have zm : ((m : Int) == -1) = false := beq_eq_false_iff_ne.2 (by omega)
  by_cases e1 : atN (s.map Tb.name) t.into = -1
  ·have HF := Lib.hid (show trigB s t = false by unfold trigB; rw [e1]; simp)
   rw [e1, hm]
   clear e0 e1 hm
   go_wp2_with fail
   go_ret
   exact ⟨retB HF.out.symm, hb1⟩
  obtain ⟨q, hq, hql⟩ : ∃ q : Nat, atN (s.map Tb.name) t.into = q ∧ q < s.length := by
   rcases atN_rng (s.map Tb.name) t.into with h | h
   ·exact absurd h e1
   ·rw [List.length_map] at h
    exact ⟨(atN (s.map Tb.name) t.into).toNat, by omega, by omega⟩
  have zq : ((q : Int) == -1) = false := beq_eq_false_iff_ne.2 (by omega)
  clear e0 e1
  rw [hm, hq]
  cases hev : eventB t.event
  ·have HF := Lib.hid (show trigB s t = false by unfold trigB; rw [hev]; simp)
   have HE := Lib.hid hev
   clear hev hm hq
   go_wp2_with fail
   refine (implIsEvent _ _).mono ?_
   rintro e w2 ⟨rfl, rfl⟩
   rw [HE.out]
   go_wp2_with fail
   go_ret
   exact ⟨retB HF.out.symm, hb1⟩
  have HE := Lib.hid hev
  have HB := Lib.hid (show trigB s t = (decide (t.terms.length = s[q].cols.length) && ((decide (t.wher.length = 0) || exprB t.wher (2 * (s[m].cols.length : Int))) && t.terms.all (fun y => exprB y.expr (2 * (s[m].cols.length : Int))))) by
   unfold trigB trigE
   rw [hm, hq, hev, widthAt_of hm hml, widthAt_of hq hql, decide_eq_false (show ¬ (m : Int) = -1 by omega), decide_eq_false (show ¬ (q : Int) = -1 by omega), Int.natCast_mul]; rfl)
  clear hev hm hq
  obtain ⟨gb, go, D1, m1, d1, D2, m2, d2, D3, m3, d3, D4, m4, d4, D5, m5, d5, -, ea, q0, q1, q2, q3, q4, q5, s1, -, -, -, -, -⟩ := TbR.at_ hs1 hml
  subst ea
  obtain ⟨gb', go', E1, f1, k1, E2, f2, k2, E3, f3, k3, E4, f4, k4, E5, f5, k5, -, ea', r0, r1, r2, r3, r4, r5, p1, -, -, -, -, -⟩ := TbR.at_ hs1 hql
  obtain ⟨rfl, rfl⟩ : gb = gb' ∧ go = go' := by simpa using ea'
  obtain rfl : s[m].cols.length = m1 := s1.1
  obtain rfl : s[q].cols.length = f1 := p1.1
  clear ea' q0 q2 q3 q4 q5 r0 r2 r3 r4 r5 s1 p1 hs1
  have i0 : (0 : Int) ≤ m := by omega
  have i1 : (m : Int) < s.length := by omega
  have j0 : (0 : Int) ≤ q := by omega
  have j1 : (q : Int) < s.length := by omega
  have hc0 := HCL.out m hml
  have hc1 := HCL.out q hql
  have HX := Lib.hid (implExprOk A2 t.wher.length c2 t.wher (2 * (s[m].cols.length : Int)) w1 (Sl.cellz (fun _ => rfl) g2) (by unfold maxLen; omega))
  clear g2
  by_cases hwl : t.wher.length = 0
  case pos =>
   have zw : decide ((0 : Int) < t.wher.length) = false := by rw [hwl]; rfl
   by_cases hl : t.terms.length = s[q].cols.length
   case neg =>
    have HF := Lib.hid (show trigB s t = false by rw [HB.out, decide_eq_false hl]; rfl)
    have zl : ((t.terms.length : Int) == s[q].cols.length) = false := beq_eq_false_iff_ne.2 (by omega)
    clear hl
    go_wp2_with fail
    refine (implIsEvent _ _).mono ?_
    rintro e w2 ⟨rfl, rfl⟩
    rw [HE.out]
    go_wp2_with fail
    go_quiet (fail)
    go_wp2_with fail
    go_ret
    first | exact ⟨retB HF.out.symm, below_dN hb1 _⟩ | exact ⟨retB HF.out.symm, hb1⟩
   case pos =>
    have zl2 : ((t.terms.length : Int) != s[q].cols.length) = false := by rw [hl]; simp
    have zl : ((t.terms.length : Int) == s[q].cols.length) = true := by rw [hl]; exact beq_self_eq_true _
    have HB2 := Lib.hid (show trigB s t = termsB (2 * (s[m].cols.length : Int)) t.terms by rw [HB.out, decide_eq_true hl, decide_eq_true hwl]; rfl)
    clear hl
    go_wp2_with fail
    refine (implIsEvent _ _).mono ?_
    rintro e w2 ⟨rfl, rfl⟩
    rw [HE.out]
    go_wp2_with fail
    go_region_held3 (fun w' => w'.cell? ⟨b, o + 4, none⟩ = some (.slice A4 t.terms.length c4) ∧ w'.cell? ⟨gb, go + q * 6 + 1, none⟩ = some (.slice E1 s[q].cols.length k1))
     (first | go_keep | exact keepS2 (by assumption) hq3)
     (first | (go_at_call 55; refine (implTermsOk A4 t.terms.length c4 t.terms (2 * (s[m].cols.length : Int)) _ _ (HH4.out.below TeR.stays hb1.drew) hnt HTM.out).mono ?_; rintro e w3 ⟨rfl, hq3⟩))
    go_wp2_with fail
    go_ret
    exact ⟨retB HB2.out.symm, hb1.drew.trans (hq3.mono hb1.drew.size)⟩
  case neg =>
   have zw : decide ((0 : Int) < t.wher.length) = true := by simpa using Nat.pos_of_ne_zero hwl
   cases hw : exprB t.wher (2 * (s[m].cols.length : Int))
   ·have HF := Lib.hid (show trigB s t = false by rw [HB.out, decide_eq_false hwl, hw]; simp)
    have HW := Lib.hid hw
    clear hw
    go_wp2_with fail
    refine (implIsEvent _ _).mono ?_
    rintro e w2 ⟨rfl, rfl⟩
    rw [HE.out]
    go_wp2_with fail
    refine HX.out.mono ?_
    rintro e w2 ⟨rfl, hq2⟩
    rw [HW.out]
    go_wp2_with fail
    go_ret
    exact ⟨retB HF.out.symm, hb1.trans (hq2.mono hb1.size)⟩
   have HW := Lib.hid hw
   clear hw
   by_cases hl : t.terms.length = s[q].cols.length
   case neg =>
    have HF := Lib.hid (show trigB s t = false by rw [HB.out, decide_eq_false hl]; rfl)
    have zl : ((t.terms.length : Int) == s[q].cols.length) = false := beq_eq_false_iff_ne.2 (by omega)
    clear hl
    go_wp2_with fail
    refine (implIsEvent _ _).mono ?_
    rintro e w2 ⟨rfl, rfl⟩
    rw [HE.out]
    go_wp2_with fail
    refine HX.out.mono ?_
    rintro e w2 ⟨rfl, hq2⟩
    rw [HW.out]
    have hb2 := hb1.trans (hq2.mono hb1.size)
    have x4 := below_keep hq2 _ _ z4
    have x1 := below_keep hq2 _ _ r1
    clear z4 r1
    go_wp2_with fail
    go_quiet (fail)
    go_wp2_with fail
    go_ret
    first | exact ⟨retB HF.out.symm, below_dN hb2 _⟩ | exact ⟨retB HF.out.symm, hb2⟩
   case pos =>
    have zl2 : ((t.terms.length : Int) != s[q].cols.length) = false := by rw [hl]; simp
    have zl : ((t.terms.length : Int) == s[q].cols.length) = true := by rw [hl]; exact beq_self_eq_true _
    have HB2 := Lib.hid (show trigB s t = termsB (2 * (s[m].cols.length : Int)) t.terms by rw [HB.out, decide_eq_true hl, decide_eq_false hwl, HW.out]; rfl)
    clear hl
    go_wp2_with fail
    refine (implIsEvent _ _).mono ?_
    rintro e w2 ⟨rfl, rfl⟩
    rw [HE.out]
    go_wp2_with fail
    refine HX.out.mono ?_
    rintro e w2 ⟨rfl, hq2⟩
    rw [HW.out]
    have hb2 := hb1.trans (hq2.mono hb1.size)
    have x4 := below_keep hq2 _ _ z4
    have x1 := below_keep hq2 _ _ r1
    clear z4 r1
    go_wp2_with fail
    go_region_held3 (fun w' => w'.cell? ⟨b, o + 4, none⟩ = some (.slice A4 t.terms.length c4) ∧ w'.cell? ⟨gb, go + q * 6 + 1, none⟩ = some (.slice E1 s[q].cols.length k1))
     (first | go_keep | exact keepS2 (by assumption) hq3)
     (first | (go_at_call 55; refine (implTermsOk A4 t.terms.length c4 t.terms (2 * (s[m].cols.length : Int)) _ _ (HH4.out.below TeR.stays hb2.drew) hnt HTM.out).mono ?_; rintro e w3 ⟨rfl, hq3⟩))
    go_wp2_with fail
    go_ret
    exact ⟨retB HB2.out.symm, hb2.drew.trans (hq3.mono hb2.drew.size)⟩
end Go.Proofs.YteiifabdbkpkiaaGreat
namespace Go.Proofs.YteiifabdbkpkiaaGreat
open Go.RowKit
theorem infoTermG : (Tryz.prog.info? 82).map (fun i => (i.zero, i.size, i.bytes)) = some (some (.agg #[.slice none 0 0]), 1, 24) := by kernel_rfl
theorem infoTrigG : (Tryz.prog.info? 36).map (fun i => (i.zero, i.size, i.bytes)) = some (some (.agg #[.string ⟨#[]⟩, .int .i64 0, .slice none 0 0, .string ⟨#[]⟩, .slice none 0 0]), 5, 88) := by kernel_rfl
abbrev OwnE (w : World) (base : Nat) (v : Value) (es : List Te) : Prop := LG TeR 82 1 w base v es
abbrev OwnTg (w : World) (base : Nat) (v : Value) (l : List Tg) : Prop := LG TgR 36 5 w base v l
def isTrigs (base : Nat) (v : Value) (w : World) : Prop := ∃ l : List Tg, OwnTg w base v l ∧ l.length ≤ 3 ∧ ∀ t ∈ l, t.szN ≤ 1000
theorem toks_blo {w : World} {g : Nat} {ts : List Tk} {ok : Nat → Prop} (h : Blo w g ((ts.map Tk.cells).flatten) 73) (hok : ok g) : Sl TkR 5 ok w (some ⟨g, 0, none⟩) ts.length ts := by
 refine ⟨rfl, fun _ => ⟨g, 0, rfl, hok, fun i hi => ⟨Tk.cells ts[i], rfl, rfl, fun j u hj => ?_⟩⟩⟩
 have hj5 : j < 5 := (List.getElem?_eq_some_iff.1 hj).1
 have e := flat_get (sz := 5) (ts.map Tk.cells) i j (by simpa using hi) hj5 (fun c hc => by obtain ⟨t, -, rfl⟩ := List.mem_map.1 hc; rfl)
 rw [List.getElem_map, hj] at e
 rw [Nat.zero_add]
 exact h.cell _ _ e
theorem te_laid {w : World} {base g : Nat} {v : Value} {ts : List Tk} (h : Blo w g ((ts.map Tk.cells).flatten) 73) (hg : base ≤ g) (hv : v.ownBlock ≠ some g) : TeR (okL base w v) w [.slice (some ⟨g, 0, none⟩) ts.length ts.length] ⟨ts⟩ :=
 ⟨_, _, _, rfl, toks_blo h ⟨hg, h.lt, hv⟩, Nat.le_refl _⟩
theorem tg_laid {w : World} {base base0 : Nat} {v v4 v2 : Value} {nm into : ByteArray} {ev : Int} {es : List Te} {ts : List Tk} (h4 : OwnE w base0 v4 es) (h2 : OwnT w base0 v2 ts ∨ (v2 = .slice none 0 0 ∧ ts = [])) (hb : base ≤ base0) (hv : ∀ g, v.ownBlock = some g → g < base0) :
  TgR (okL base w v) w [.string nm, .int .i64 ev, v2, .string into, v4] ⟨nm, ev, ts, into, es⟩ := by
 obtain ⟨A4, c4, rfl, hc4, -, hs4⟩ := h4.sl TeR.stays
 have hs4' : Sl TeR 1 (okL base w v) w A4 es.length es := hs4.stays TeR.stays (fun b ⟨a1, a2⟩ => ⟨by omega, a2, fun e => by have := hv _ e; omega⟩) (fun _ _ _ h => h)
 rcases h2 with h2 | ⟨rfl, rfl⟩
 ·obtain ⟨A2, c2, rfl, hc2, -, hs2⟩ := OwnG.sl (f := Tk.cells) (sz := 5) (fun _ => rfl) h2
  exact ⟨A2, ts.length, c2, A4, es.length, c4, rfl, hs2.stays TkR.stays (fun b ⟨a1, a2, _⟩ => ⟨by omega, a2, fun e => by have := hv _ e; omega⟩) (fun _ _ _ h => h), hs4', hc2, hc4⟩
 ·exact ⟨none, 0, 0, A4, es.length, c4, rfl, ⟨rfl, fun h => by omega⟩, hs4', Nat.le_refl _, hc4⟩
theorem OwnTg.first {w : World} {base : Nat} {v : Value} {t : Tg} {l : List Tg} (h : OwnTg w base v (t :: l)) : ∃ g c, v = .slice (some ⟨g, 0, none⟩) (l.length + 1) c ∧ base ≤ g ∧ (∃ u, w.cell? ⟨g, 3, none⟩ = some u) ∧ w.frozen? ⟨g, 3, none⟩ = false ∧
  ∀ s, OwnTg (w.setCell ⟨g, 3, none⟩ (.string s)) base v ({ t with into := s } :: l) := by
 obtain ⟨vs, h⟩ := h
 obtain ⟨c0, cs, rfl⟩ : ∃ c0 cs, vs = c0 :: cs := by
  cases vs with
  | nil => have := h.len; simp at this
  | cons u us => exact ⟨u, us, rfl⟩
 have h0 := h.els 0 (by simp) (by simp)
 obtain ⟨A2, n2, c2, A4, n4, c4, e0, k2, k4, hcp⟩ := h0
 have e0' : c0 = [.string t.table, .int .i64 t.event, .slice A2 n2 c2, .string t.into, .slice A4 n4 c4] := e0
 subst e0'
 have hrow := h.row
 rcases hrow.2 with ⟨-, hn⟩ | ⟨g, cap, cur, rfl, j1, j2, j3, j4, j5, j6⟩
 ·simp at hn
 have hcell : w.cell? ⟨g, 3, none⟩ = some (.string t.into) := by
  have e := congrArg (fun x => x[3]?) j6
  simp only [List.flatten_cons] at e
  rw [List.getElem?_take, if_pos (by simp; omega)] at e
  simp only [World.cell?, j2]
  rw [← Array.getElem?_toList]
  simpa using e
 refine ⟨g, cap, rfl, j1, ⟨_, hcell⟩, by simp [World.frozen?, j2], fun s => ⟨[.string t.table, .int .i64 t.event, .slice A2 n2 c2, .string s, .slice A4 n4 c4] :: cs, by have := h.len; simpa using this, ?_, ?_, ?_⟩⟩
 ·intro c hc
  rcases List.mem_cons.1 hc with rfl | hc
  ·rfl
  ·exact h.all c (List.mem_cons_of_mem _ hc)
 ·have := (World.ownsRow.stored hrow 3 (.string s)).1
  simpa using this
 ·have hk : ∀ p u, okL base w (.slice (some ⟨g, 0, none⟩) (t :: l).length cap) p.block → w.cell? p = some u → (w.setCell ⟨g, 3, none⟩ (.string s)).cell? p = some u := fun p u ⟨_, _, a3⟩ hc => (World.cell?_setCell_other _ _ _ _ (fun e => a3 (by subst e; rfl))).trans hc
  have ho : ∀ b, okL base w (.slice (some ⟨g, 0, none⟩) (t :: l).length cap) b → okL base (w.setCell ⟨g, 3, none⟩ (.string s)) (.slice (some ⟨g, 0, none⟩) (t :: l).length cap) b := fun b ⟨a1, a2, a3⟩ => ⟨a1, by simpa using a2, a3⟩
  intro j hj hj'
  cases j with
  | zero => exact ⟨A2, n2, c2, A4, n4, c4, rfl, k2.stays TkR.stays ho hk, k4.stays TeR.stays ho hk, hcp⟩
  | succ j => exact TgR.stays _ _ _ _ _ _ (h.els (j + 1) (by simpa using hj) (by simpa using hj')) ho hk
structure TrS (wo w : World) (R : Nat) (a : Option Addr) (len cap : Nat) (zs : List Int) (ga gb gt : Nat) (X Y Z : List Value) : Prop where
 hb : But R wo w
 rd : Rdr w R a len cap zs
 xa : Blo w ga X 42
 xb : Blo w gb Y 42
 xt : Blo w gt Z 36
 pR : R < wo.heap.size
 pa : wo.heap.size ≤ ga
 pb : wo.heap.size ≤ gb
 pt : wo.heap.size ≤ gt
 na : ga < gt
 nb : gb < gt
section
variable {wo w w' : World} {R : Nat} {a : Option Addr} {len cap : Nat} {zs : List Int} {ga gb gt : Nat} {X Y Z : List Value}
theorem TrS.step (h : TrS wo w R a len cap zs ga gb gt X Y Z) (hb : But R w w') (hr : Rdr w' R a len cap zs) : TrS wo w' R a len cap zs ga gb gt X Y Z :=
 ⟨h.hb.trans hb, hr, h.xa.but hb (by have := h.pa; have := h.pR; omega), h.xb.but hb (by have := h.pb; have := h.pR; omega), h.xt.but hb (by have := h.pt; have := h.pR; omega), h.pR, h.pa, h.pb, h.pt, h.na, h.nb⟩
theorem TrS.below (h : TrS wo w R a len cap zs ga gb gt X Y Z) (hb : Below w.heap.size w w') : TrS wo w' R a len cap zs ga gb gt X Y Z := h.step (below_but hb R) (rdr_below h.rd hb)
theorem TrS.alloc (h : TrS wo w R a len cap zs ga gb gt X Y Z) (o : Obj) : TrS wo (w.alloc o) R a len cap zs ga gb gt X Y Z := h.step ((But.refl R w).alloc o) (h.rd.alloc o)
theorem TrS.put (h : TrS wo w R a len cap zs ga gb gt X Y Z) (h0 : Rdr wo R a len cap zs) (k : Nat) (v : Value) : TrS wo (w.setCell ⟨gt, k, none⟩ v) R a len cap zs ga gb gt X Y (Z.set k v) :=
 ⟨h.hb.setNew (p := ⟨gt, k, none⟩) h.pt v, h0.setNew h.rd (p := ⟨gt, k, none⟩) h.pt v, h.xa.set ⟨gt, k, none⟩ (show gt ≠ ga from by have := h.na; omega) v, h.xb.set ⟨gt, k, none⟩ (show gt ≠ gb from by have := h.nb; omega) v, h.xt.put k v, h.pR, h.pa, h.pb, h.pt, h.na, h.nb⟩
theorem TrS.grown (h : TrS wo w R a len cap zs ga gb gt X Y Z) (h0 : Rdr wo R a len cap zs) {q : Option Nat} (hg : w.grownBy w' q) (hq' : ∀ k, q = some k → gt < k) : TrS wo w' R a len cap zs ga gb gt X Y Z := by
 have hq : ∀ k, q = some k → wo.heap.size ≤ k ∧ k ≠ ga ∧ k ≠ gb ∧ k ≠ gt := fun k e => by have := hq' k e; have := h.na; have := h.nb; have := h.pt; omega
 have hx : ∀ k, k < w.heap.size → (∀ j, q = some j → k ≠ j) → w'.heap[k]? = w.heap[k]? := fun k hk hn => hg.block k hk (fun e => hn k e.symm rfl)
 have hsz := h.hb.size
 have hR := h.pR
 have hb : But R wo w' := ⟨hg.os.trans h.hb.os, hg.tape.trans h.hb.tape, hg.output.trans h.hb.output, Nat.le_trans hsz hg.size, fun k hk hn => (hx k (by omega) (fun j e => by have := (hq j e).1; omega)).trans (h.hb.block k hk hn)⟩
 refine ⟨hb, ?_, (hx ga h.xa.lt (fun j e => (hq j e).2.1.symm)).trans h.xa, (hx gb h.xb.lt (fun j e => (hq j e).2.2.1.symm)).trans h.xb, (hx gt h.xt.lt (fun j e => (hq j e).2.2.2.symm)).trans h.xt, h.pR, h.pa, h.pb, h.pt, h.na, h.nb⟩
 exact Rdr.grown h0 h.rd h.hb hg (fun k e => (hq k e).1)
end
theorem Blo.five {w : World} {g : Nat} {x0 x1 x2 x3 x4 : Value} {T : TypeId} (h : Blo w g [x0, x1, x2, x3, x4] T) : (w.cell? ⟨g, 0, none⟩ = some x0 ∧ w.cell? ⟨g, 1, none⟩ = some x1 ∧ w.cell? ⟨g, 2, none⟩ = some x2 ∧ w.cell? ⟨g, 3, none⟩ = some x3 ∧ w.cell? ⟨g, 4, none⟩ = some x4) ∧
  (w.frozen? ⟨g, 0, none⟩ = false ∧ w.frozen? ⟨g, 1, none⟩ = false ∧ w.frozen? ⟨g, 2, none⟩ = false ∧ w.frozen? ⟨g, 3, none⟩ = false ∧ w.frozen? ⟨g, 4, none⟩ = false) :=
 ⟨⟨h.cell 0 _ rfl, h.cell 1 _ rfl, h.cell 2 _ rfl, h.cell 3 _ rfl, h.cell 4 _ rfl⟩, h.free 0, h.free 1, h.free 2, h.free 3, h.free 4⟩
theorem but_set (w : World) (g k : Nat) (v : Value) : But g w (w.setCell ⟨g, k, none⟩ v) := (But.refl g w).setCell (p := ⟨g, k, none⟩) rfl v
theorem te_szN {ts : List Tk} (h : ts.length ≤ 3) : Te.szN ⟨ts⟩ ≤ 3 := by
 show ts.length + (ts.map fun _ : Tk => 0).sum ≤ 3
 have : (ts.map fun _ : Tk => 0).sum = 0 := by induction ts with
  | nil => rfl
  | cons x l ih => simp only [List.map_cons, List.sum_cons]; exact (by simpa using ih (by simp at h; omega))
 omega
theorem tg_szN {nm into : ByteArray} {ev : Int} {es : List Te} {ts : List Tk} (h1 : nm.size ≤ 61) (h2 : into.size ≤ 61) (h3 : ts.length ≤ 15) (h4 : es.length ≤ 61) (h5 : ∀ y ∈ es, y.szN ≤ 3) : (⟨nm, ev, ts, into, es⟩ : Tg).szN ≤ 900 := by
 have a1 : szL (fun _ : Tk => 0) ts ≤ ts.length + ts.length * 0 := szL_le _ 0 ts (fun _ _ => Nat.le_refl _)
 have a2 := szL_le Te.szN 3 es h5
 unfold Tg.szN
 show nm.size + szL (fun _ : Tk => 0) ts + into.size + szL Te.szN es ≤ 900
 omega
theorem mem_app1 {α : Type} {p : α → Prop} {l : List α} {x : α} (h : ∀ y ∈ l, p y) (hx : p x) : ∀ y ∈ l ++ [x], p y := fun y hy => by
 rcases List.mem_append.1 hy with hy | hy
 ·exact h y hy
 ·rw [List.mem_singleton.1 hy]; exact hx
end Go.Proofs.YteiifabdbkpkiaaGreat
namespace Go.Proofs.YteiifabdbkpkiaaGreat
open Go.RowKit
def CT (w : World) (g : Nat) (y : Int) : Prop := w.cell? ⟨g, 0, none⟩ = some (.int .i64 2) ∧ w.cell? ⟨g, 1, none⟩ = some (.int .i64 0) ∧ w.cell? ⟨g, 2, none⟩ = some (.int .i64 1) ∧ w.cell? ⟨g, 3, none⟩ = some (.int .i64 y) ∧ w.cell? ⟨g, 4, none⟩ = some (.string ⟨#[]⟩)
theorem CT.keep {w w' : World} {g : Nat} {y : Int} (h : CT w g y) (hk : ∀ j, j < 5 → ∀ v, w.cell? ⟨g, j, none⟩ = some v → w'.cell? ⟨g, j, none⟩ = some v) : CT w' g y :=
 ⟨hk 0 (by omega) _ h.1, hk 1 (by omega) _ h.2.1, hk 2 (by omega) _ h.2.2.1, hk 3 (by omega) _ h.2.2.2.1, hk 4 (by omega) _ h.2.2.2.2⟩
theorem CT.but {w w' : World} {g : Nat} {y : Int} (h : CT w g y) {R : Nat} (hb : But R w w') (hR : g ≠ R) : CT w' g y := h.keep fun j _ v hv => (hb.cell (cell_lt hv) hR).trans hv
theorem CT.new (w : World) (y : Int) (T : TypeId) : CT (w.alloc (.cells #[.int .i64 2, .int .i64 0, .int .i64 1, .int .i64 y, .string ⟨#[]⟩] T)) w.heap.size y := by
 refine ⟨?_, ?_, ?_, ?_, ?_⟩ <;> (rw [World.cell?_alloc_new]; rfl)
theorem toks_post {R : Nat} {w w3 w4 : World} {a : Option Addr} {len cap : Nat} {zs : List Int} (hb : But R w w3) (hr : Rdr w3 R a len cap zs) (hb4 : Below w3.heap.size w3 w4) (ts : List Tk) {B : Nat} (hB : ts.length ≤ B) (h1 : 1 ≤ ts.length) (cs : Array Value) (hc : (ts.map Tk.cells).flatten.toArray = cs) (n : Nat) (hn : n = ts.length) (hm : n ≤ 1000) :
  Drew R a len cap zs (isToks w.heap.size B) w (.returned (.slice (some ⟨w4.heap.size, 0, none⟩) n n)) (w4.alloc (.cells cs 73)) := by
 subst hc hn
 refine ⟨_, rfl, ⟨ts, ⟨?_, .inr ⟨w4.heap.size, ts.length, (ts.map Tk.cells).flatten.toArray, rfl, Nat.le_trans hb.size hb4.size, Go.heap_alloc_last w4 _, Nat.le_refl _, by unfold maxLen; omega, ?_, ?_⟩⟩, hB, h1⟩, (hb.trans (But.ofBelow hb4)).alloc _, (hr.below hb4).alloc _⟩
 ·rw [flat_len (sz := 5) (ts.map Tk.cells) (by intro c hc; obtain ⟨t, -, rfl⟩ := List.mem_map.1 hc; rfl), List.length_map]
 ·rw [List.size_toArray, flat_len (sz := 5) (ts.map Tk.cells) (by intro c hc; obtain ⟨t, -, rfl⟩ := List.mem_map.1 hc; rfl), List.length_map]
 ·rw [List.take_of_length_le]
  rw [flat_len (sz := 5) (ts.map Tk.cells) (by intro c hc; obtain ⟨t, -, rfl⟩ := List.mem_map.1 hc; rfl), List.length_map]
  exact Nat.le_refl _
set_option maxRecDepth 100000 in
set_option maxHeartbeats 2000000 in
theorem rdCond (c : Int) (hc0 : 0 ≤ c) (hc1 : c ≤ 1000) (w : World) (R : Nat) (a : Option Addr) (len cap : Nat) (zs : List Int) (h : Rdr w R a len cap zs) :
  Calls Tryz.prog 31 #[.pointer (some ⟨R, 0, none⟩), .int .i64 c] w (Drew R a len cap zs (isToks w.heap.size (eb 2)) w) := by
 have hR : R < w.heap.size := cell_lt h.code
 go_enter Tryz.func31, Tryz.ntmps31
 go_wp2_with fail
 refine (rdBelow c _ R a len cap zs h).mono ?_
 rintro e w1 ⟨v, rfl, ⟨x, rfl, x0, x1⟩, hb1, hr1⟩
 go_wp2_with fail
 refine (rdBelow 4 _ R a len cap zs hr1).mono ?_
 rintro e w2 ⟨v, rfl, ⟨y, rfl, y0, y1⟩, hb2, hr2⟩
 go_wp2_with fail
 refine (specInt y _).mono ?_
 rintro e w3 ⟨rfl, o3, rfl⟩
 go_wp2_with fail
 refine (specL2Const 1 y ⟨#[]⟩ _).mono ?_
 rintro e w4 ⟨rfl, hb4⟩
 have hb5 := (((hb1.trans hb2).alloc o3).trans (below_but hb4 R)).alloc (.cells #[.int .i64 2, .int .i64 0, .int .i64 1, .int .i64 y, .string ⟨#[]⟩] 73)
 have hr5 := (rdr_below (hr2.alloc o3) hb4).alloc (.cells #[.int .i64 2, .int .i64 0, .int .i64 1, .int .i64 y, .string ⟨#[]⟩] 73)
 have hc5 := CT.new w4 y 73
 have hx5 : w4.heap.size ≠ R := by have := (((hb1.trans hb2).alloc o3).trans (below_but hb4 R)).size; omega
 clear hb1 hr1 hb2 hr2 hb4
 go_wp2_with fail
 generalize w4.alloc (.cells #[.int .i64 2, .int .i64 0, .int .i64 1, .int .i64 y, .string ⟨#[]⟩] 73) = w5 at *
 generalize w4.heap.size = gx at *
 refine (rdBelow 5 _ R a len cap zs hr5).mono ?_
 rintro e w6 ⟨v, rfl, ⟨z, rfl, z0, z1⟩, hb6, hr6⟩
 have HB := Lib.hid (hb5.trans hb6)
 have HR := Lib.hid hr6
 have HC := Lib.hid (hc5.but hb6 hx5)
 have hxR := hx5
 clear hb5 hr5 hc5 hb6 hr6 hx5
 rcases (show z = 0 ∨ z = 1 ∨ z = 2 ∨ z = 3 ∨ (z ≠ 0 ∧ z ≠ 1 ∧ z ≠ 2 ∧ z ≠ 3) by omega) with rfl | rfl | rfl | rfl | ⟨g1, g2, g3, g4⟩
 ·go_wp2_with fail
  refine (specInt 1 _).mono ?_
  rintro e w7 ⟨rfl, o7, rfl⟩
  go_wp2_with fail
  refine (specL2Const 1 1 ⟨#[]⟩ _).mono ?_
  rintro e w8 ⟨rfl, hb8⟩
  go_wp2_with fail
  go_ret
  exact toks_post (HB.out.alloc o7) (HR.out.alloc o7) hb8 [⟨2, 0, 1, 1, ⟨#[]⟩⟩] (by decide) (by decide) _ rfl 1 rfl (by omega)
 ·go_upto_region 7 with fail
  refine wp_region_noPanic ?_
  refine wp_region_held_drew (S := (fun w' => w'.cell? ⟨gx, 0, none⟩ = some (.int .i64 2) ∧ w'.cell? ⟨gx, 1, none⟩ = some (.int .i64 0) ∧ w'.cell? ⟨gx, 2, none⟩ = some (.int .i64 1) ∧ w'.cell? ⟨gx, 3, none⟩ = some (.int .i64 y) ∧ w'.cell? ⟨gx, 4, none⟩ = some (.string ⟨#[]⟩))) (by kernel_rfl) (HC.out) (fun hHeld => ?_)
  refine tk 0 ?_
  refine tk 2 ?_
  refine tk 3 ?_
  refine wpAnyH_ready (rs := [1]) (by kernel_rfl) (by simp) ?_
  refine AllReadyH.cons rfl (fun K hK => ?_) AllReadyH.nil
  go_simp
  go_at_call 27
  refine (specL2Col x _).mono ?_
  rintro e w9 ⟨rfl, hb9⟩
  have HC9 := Lib.hid ((show CT w6.drew gx y from HC.out).but (below_but hb9 R) hxR)
  refine hK.out _ _ HC9.out (fun hHeld => ?_)
  clear hK K
  (try simp only [Act.put, pz0, pz1, pz2, pz3, pz4, pz5])
  refine wpAnyH_ready (rs := [4]) (by kernel_rfl) (by simp) ?_
  refine AllReadyH.cons rfl (fun K hK => ?_) AllReadyH.nil
  go_simp
  refine hK.out _ _ (CT.but HC9.out ((But.refl R w9).alloc _) hxR) (fun hHeld => ?_)
  clear hK K
  (try simp only [Act.put, pz0, pz1, pz2, pz3, pz4, pz5])
  refine tk 5 ?_
  refine wpAnyH_done (by kernel_rfl) ?_ _
  refine NoPanic.normal ?_
  clear hHeld
  go_wp2_with fail
  go_ret
  exact toks_post (HB.out.drew) (rdr_drewY HR.out) hb9 [⟨1, x, 0, 0, ⟨#[]⟩⟩, ⟨2, 0, 1, y, ⟨#[]⟩⟩, ⟨3, 0, 0, 0, ⟨#[]⟩⟩] (show 3 ≤ eb 2 by decide) (show 1 ≤ 3 by omega) _ rfl 3 rfl (by omega)
 ·go_wp2_with fail
  refine (specL2Col x _).mono ?_
  rintro e w8 ⟨rfl, hb8⟩
  go_wp2_with fail
  go_ret
  exact toks_post HB.out HR.out hb8 [⟨1, x, 0, 0, ⟨#[]⟩⟩, ⟨8, 0, 0, 0, ⟨#[]⟩⟩, ⟨7, 0, 0, 0, ⟨#[]⟩⟩] (show 3 ≤ eb 2 by decide) (show 1 ≤ 3 by omega) _ rfl 3 rfl (by omega)
 ·go_wp2_with fail
  refine (rdExpr c hc0 hc1 2 (by omega) 2 rfl _ R a len cap zs HR.out).mono ?_
  rintro e w8 ⟨v, rfl, ⟨ts, hts, hl, h1⟩, hb8, hr8⟩
  go_wp2_with fail
  go_ret
  exact ⟨_, rfl, ⟨ts, OwnG.mono hts HB.out.size, hl, h1⟩, HB.out.trans hb8, hr8⟩
 ·go_upto_region 12 with fail
  refine wp_region_noPanic ?_
  refine wp_region_held_drew (S := (fun w' => w'.cell? ⟨gx, 0, none⟩ = some (.int .i64 2) ∧ w'.cell? ⟨gx, 1, none⟩ = some (.int .i64 0) ∧ w'.cell? ⟨gx, 2, none⟩ = some (.int .i64 1) ∧ w'.cell? ⟨gx, 3, none⟩ = some (.int .i64 y) ∧ w'.cell? ⟨gx, 4, none⟩ = some (.string ⟨#[]⟩))) (by kernel_rfl) (HC.out) (fun hHeld => ?_)
  refine tk 0 ?_
  refine tk 1 ?_
  refine tk 3 ?_
  refine wpAnyH_ready (rs := [2]) (by kernel_rfl) (by simp) ?_
  refine AllReadyH.cons rfl (fun K hK => ?_) AllReadyH.nil
  go_simp
  go_at_call 27
  refine (specL2Col x _).mono ?_
  rintro e w9 ⟨rfl, hb9⟩
  have HC9 := Lib.hid ((show CT w6.drew gx y from HC.out).but (below_but hb9 R) hxR)
  refine hK.out _ _ HC9.out (fun hHeld => ?_)
  clear hK K
  (try simp only [Act.put, pz0, pz1, pz2, pz3, pz4, pz5])
  refine wpAnyH_ready (rs := [4]) (by kernel_rfl) (by simp) ?_
  refine AllReadyH.cons rfl (fun K hK => ?_) AllReadyH.nil
  go_simp
  refine hK.out _ _ (CT.but HC9.out ((But.refl R w9).alloc _) hxR) (fun hHeld => ?_)
  clear hK K
  (try simp only [Act.put, pz0, pz1, pz2, pz3, pz4, pz5])
  refine tk 5 ?_
  refine wpAnyH_done (by kernel_rfl) ?_ _
  refine NoPanic.normal ?_
  clear hHeld
  go_wp2_with fail
  go_ret
  exact toks_post (HB.out.drew) (rdr_drewY HR.out) hb9 [⟨2, 0, 1, y, ⟨#[]⟩⟩, ⟨1, x, 0, 0, ⟨#[]⟩⟩, ⟨4, 0, 0, 0, ⟨#[]⟩⟩] (show 3 ≤ eb 2 by decide) (show 1 ≤ 3 by omega) _ rfl 3 rfl (by omega)
set_option maxRecDepth 100000 in
set_option maxHeartbeats 8000000 in
theorem rdTriggers (A1 : Option Addr) (c1 : Nat) (ts : List Tb) (ok : Nat → Prop) (w : World) (R : Nat) (a : Option Addr) (len cap : Nat) (zs : List Int) (h : Rdr w R a len cap zs) (hS : Sl TbR 6 ok w A1 ts.length ts) (hok : ∀ b, ok b → b ≠ R) (hsk : schOk ts) :
  Calls Tryz.prog 13 #[.pointer (some ⟨R, 0, none⟩), .slice A1 ts.length c1] w (Drew R a len cap zs (isTrigs w.heap.size) w) := by
 have hR : R < w.heap.size := cell_lt h.code
 obtain ⟨i0, hi0, hz0, hz1, hz2⟩ := info_parts infoTermG
 have H1 := Lib.hid hi0
 have H2 := Lib.hid hz0
 have H3 := Lib.hid hz1
 have H4 := Lib.hid hz2
 clear hi0 hz0 hz1 hz2
 obtain ⟨j0, hj0, hy0, hy1, hy2⟩ := info_parts infoTrigG
 have J1 := Lib.hid hj0
 have J2 := Lib.hid hy0
 have J3 := Lib.hid hy1
 have J4 := Lib.hid hy2
 clear hj0 hy0 hy1 hy2
 have hl0 : OwnTg (w.alloc (.cells #[] 36)) w.heap.size (.slice (some ⟨w.heap.size, 0, none⟩) 0 0) [] := LG.lit w (Nat.le_refl _)
 have hb0 := (But.refl R w).alloc (.cells #[] 36)
 have hr0 := h.alloc (.cells #[] 36)
 have HS := Lib.hid hS
 have HOK := Lib.hid hok
 have HK := Lib.hid hsk
 have h1l := hsk.1
 clear hS hok hsk
 go_enter Tryz.func13, Tryz.ntmps13
 go_wp2_with fail
 generalize w.alloc (.cells #[] 36) = x0 at *
 refine (rdBelow 4 _ R a len cap zs hr0).mono ?_
 rintro e w1 ⟨v, rfl, ⟨mi, rfl, y0, y1⟩, hb1, hr1⟩
 obtain ⟨mn, rfl⟩ : ∃ n : Nat, mi = n := ⟨mi.toNat, by omega⟩
 have HL1 := Lib.hid (LG.but TgR.stays hl0 hb1 hR)
 have HB1 := Lib.hid (hb0.trans hb1)
 have HR1 := Lib.hid hr1
 clear hl0 hb0 hr0 hb1 hr1
 go_wp2_with fail
 go_loopw [5, 6] (fun v iv wr => ∃ (A : Option Addr) (n c m : Nat) (l : List Tg), v = .slice A n c ∧ iv = .int .i64 m ∧ l.length + m ≤ 3 ∧ Hid (OwnTg wr w.heap.size (.slice A n c) l ∧ ∀ t ∈ l, t.szN ≤ 900) ∧ Hid (But R w wr) ∧ Hid (Rdr wr R a len cap zs)) (fun _ iv _ => (intOf iv).toNat)
 case atStart => exact ⟨_, _, _, mn, [], rfl, rfl, by simp; omega, Lib.hid ⟨HL1.out, fun t ht => by cases ht⟩, HB1, HR1⟩
 case round =>
  clear HL1 HB1 HR1
  obtain ⟨A, n, c, m, l, rfl, rfl, hlm, hl, hb, hr⟩ := hrel
  obtain ⟨A', c', e9, -, -, -⟩ := hl.out.1.sl TgR.stays
  cases e9
  by_cases hm : 0 < m
  case neg =>
   obtain rfl : m = 0 := by omega
   go_wp2_with fail
   refine (rdOnce 30 _ R a len cap zs hr.out).mono ?_
   rintro e w5 ⟨u, rfl, ⟨b5, rfl⟩, hb5, hr5⟩
   have HL5 := Lib.hid (LG.but TgR.stays hl.out.1 hb5 hR)
   have HB5 := Lib.hid (hb.out.trans hb5)
   have HR5 := Lib.hid hr5
   have HZ := Lib.hid hl.out.2
   clear hl hb hr hb5 hr5
   cases b5
   ·go_wp2_with fail
    go_ret
    exact ⟨_, rfl, ⟨l, HL5.out, by omega, fun t ht => Nat.le_trans (HZ.out t ht) (by omega)⟩, HB5.out, HR5.out⟩
   cases l with
   | nil =>
    go_wp2_with fail
    go_ret
    exact ⟨_, rfl, ⟨[], HL5.out, by simp, fun t ht => by cases ht⟩, HB5.out, HR5.out⟩
   | cons t l =>
    obtain ⟨g, c1', e, hg, ⟨u, hu⟩, hf, hput⟩ := OwnTg.first HL5.out
    cases e
    have hlp : (0 : Int) < ((l.length + 1 : Nat) : Int) := by omega
    have HP := Lib.hid (hput ⟨#[120]⟩)
    clear hput
    go_wp2_with fail
    go_ret
    refine ⟨_, rfl, ⟨_, HP.out, by simpa using hlm, fun y hy => ?_⟩, HB5.out.setNew (p := ⟨g, 3, none⟩) hg _, h.setNew HR5.out (p := ⟨g, 3, none⟩) hg _⟩
    rcases List.mem_cons.1 hy with rfl | hy
    ·have := HZ.out t (by simp)
     unfold Tg.szN at this ⊢
     show t.table.size + szL (fun _ : Tk => 0) t.wher + 1 + szL Te.szN t.terms ≤ 1000
     omega
    ·exact Nat.le_trans (HZ.out y (by simp [hy])) (by omega)
  have hm0 : (0 : Int) < m := by omega
  obtain ⟨wo, hwo⟩ : ∃ wo, wo = wr := ⟨_, rfl⟩
  subst hwo
  go_wp2_with fail
  refine (rdBelow _ _ R a len cap zs hr.out).mono ?_
  rintro e w2 ⟨z, rfl, ⟨x, rfl, x0', x1'⟩, hb2, hr2⟩
  obtain ⟨i, rfl⟩ : ∃ i : Nat, x = (i : Int) := ⟨x.toNat, by omega⟩
  have hi : i < ts.length := by omega
  have ii0 : (0 : Int) ≤ i := by omega
  have ii1 : (i : Int) < ts.length := by omega
  obtain ⟨bt, ot, B1, mB1, dB1, B2, mB2, dB2, B3, mB3, dB3, B4, mB4, dB4, B5, mB5, dB5, -, eT, t0, t1, t2, t3, t4, t5, s1, -⟩ := TbR.at_ (HS.out.butY TbR.stays (hb.out.trans hb2) HOK.out) hi
  obtain rfl : ts[i].cols.length = mB1 := s1.1
  subst eT
  have hgR : w2.heap.size ≠ R := by have := hb2.size; have := hb.out.size; omega
  have BA := Blo.new w2 [.string ts[i].name, .slice B1 ts[i].cols.length dB1, .slice B2 mB2 dB2, .slice B3 mB3 dB3, .slice B4 mB4 dB4, .slice B5 mB5 dB5] 42
  have hb3 := hb2.alloc (.cells #[.string ts[i].name, .slice B1 ts[i].cols.length dB1, .slice B2 mB2 dB2, .slice B3 mB3 dB3, .slice B4 mB4 dB4, .slice B5 mB5 dB5] 42)
  have hr3 := hr2.alloc (.cells #[.string ts[i].name, .slice B1 ts[i].cols.length dB1, .slice B2 mB2 dB2, .slice B3 mB3 dB3, .slice B4 mB4 dB4, .slice B5 mB5 dB5] 42)
  have hs2 := hb2.size
  have hwo : R < wo.heap.size := by have := hb.out.size; omega
  go_wp2_with fail
  clear t0 t1 t2 t3 t4 t5 s1
  generalize w2.alloc (.cells #[.string ts[i].name, .slice B1 ts[i].cols.length dB1, .slice B2 mB2 dB2, .slice B3 mB3 dB3, .slice B4 mB4 dB4, .slice B5 mB5 dB5] 42) = w3 at *
  generalize w2.heap.size = ga at *
  refine (rdBelow _ _ R a len cap zs hr3).mono ?_
  rintro e w4 ⟨z, rfl, ⟨x, rfl, x0'', x1''⟩, hb4, hr4⟩
  obtain ⟨j, rfl⟩ : ∃ i : Nat, x = (i : Int) := ⟨x.toNat, by omega⟩
  have hj : j < ts.length := by omega
  have jj0 : (0 : Int) ≤ j := by omega
  have jj1 : (j : Int) < ts.length := by omega
  obtain ⟨bt', ot', C1, mC1, dC1, C2, mC2, dC2, C3, mC3, dC3, C4, mC4, dC4, C5, mC5, dC5, hob, eT', t0, t1, t2, t3, t4, t5, s1, -⟩ := TbR.at_ HS.out hj
  obtain rfl : ts[j].cols.length = mC1 := s1.1
  have hbw4 : But R w w4 := hb.out.trans (hb3.trans hb4)
  have t0 := (hbw4.cell (cell_lt t0) (HOK.out _ hob)).trans t0
  have t1 := (hbw4.cell (cell_lt t1) (HOK.out _ hob)).trans t1
  have t2 := (hbw4.cell (cell_lt t2) (HOK.out _ hob)).trans t2
  have t3 := (hbw4.cell (cell_lt t3) (HOK.out _ hob)).trans t3
  have t4 := (hbw4.cell (cell_lt t4) (HOK.out _ hob)).trans t4
  have t5 := (hbw4.cell (cell_lt t5) (HOK.out _ hob)).trans t5
  have SCJ := Lib.hid s1
  clear hbw4 hob
  cases eT'
  have BA4 := BA.but hb4 hgR
  have hlt4 : ga < w4.heap.size := BA4.lt
  have BA5 := BA4.alloc (.cells #[.string ts[j].name, .slice C1 ts[j].cols.length dC1, .slice C2 mC2 dC2, .slice C3 mC3 dC3, .slice C4 mC4 dC4, .slice C5 mC5 dC5] 42)
  have BB5 := Blo.new w4 [.string ts[j].name, .slice C1 ts[j].cols.length dC1, .slice C2 mC2 dC2, .slice C3 mC3 dC3, .slice C4 mC4 dC4, .slice C5 mC5 dC5] 42
  have hb5 := (hb3.trans hb4).alloc (.cells #[.string ts[j].name, .slice C1 ts[j].cols.length dC1, .slice C2 mC2 dC2, .slice C3 mC3 dC3, .slice C4 mC4 dC4, .slice C5 mC5 dC5] 42)
  have hr5 := hr4.alloc (.cells #[.string ts[j].name, .slice C1 ts[j].cols.length dC1, .slice C2 mC2 dC2, .slice C3 mC3 dC3, .slice C4 mC4 dC4, .slice C5 mC5 dC5] 42)
  have hs4 := (hb3.trans hb4).size
  go_wp2_with fail
  clear t0 t1 t2 t3 t4 t5 s1 hb3 hb4 hr3 hr4 BA BA4 hb2 hr2
  generalize w4.alloc (.cells #[.string ts[j].name, .slice C1 ts[j].cols.length dC1, .slice C2 mC2 dC2, .slice C3 mC3 dC3, .slice C4 mC4 dC4, .slice C5 mC5 dC5] 42) = w5 at *
  generalize hgb : w4.heap.size = gb at *
  have HA := Lib.hid BA5
  have HBb := Lib.hid BB5
  have HB5 := Lib.hid hb5
  have HR5 := Lib.hid hr5
  clear BA5 BB5 hb5 hr5
  have x0 := HA.out.cell 0 _ rfl
  have y0' := HBb.out.cell 0 _ rfl
  go_upto_region 7 with fail
  go_cut [9] from 34 to 41 (fun s9 wx => ∃ (gt : Nat) (ev : Int), s9 = .pointer (some ⟨gt, 0, none⟩) ∧ TrS wo wx R a len cap zs ga gb gt [.string ts[i].name, .slice B1 ts[i].cols.length dB1, .slice B2 mB2 dB2, .slice B3 mB3 dB3, .slice B4 mB4 dB4, .slice B5 mB5 dB5] [.string ts[j].name, .slice C1 ts[j].cols.length dC1, .slice C2 mC2 dC2, .slice C3 mC3 dC3, .slice C4 mC4 dC4, .slice C5 mC5 dC5] [.string ts[i].name, .int .i64 ev, .slice none 0 0, .string ts[j].name, .slice none 0 0])
  case first =>
   refine wp_region_noPanic ?_
   refine wp_region_held_drew (S := (fun w' => w'.cell? ⟨ga, 0, none⟩ = some (.string ts[i].name) ∧ w'.cell? ⟨gb, 0, none⟩ = some (.string ts[j].name))) (by kernel_rfl) ⟨x0, y0'⟩ (fun hHeld => ?_)
   have hd0 := HB5.out.drew
   have he0 := rdr_drewY HR5.out
   have ka0 : Blo w5.drew ga [.string ts[i].name, .slice B1 ts[i].cols.length dB1, .slice B2 mB2 dB2, .slice B3 mB3 dB3, .slice B4 mB4 dB4, .slice B5 mB5 dB5] 42 := HA.out
   have kb0 : Blo w5.drew gb [.string ts[j].name, .slice C1 ts[j].cols.length dC1, .slice C2 mC2 dC2, .slice C3 mC3 dC3, .slice C4 mC4 dC4, .slice C5 mC5 dC5] 42 := HBb.out
   have hsa : wo.heap.size ≤ ga := hs2
   have hsb : wo.heap.size ≤ gb := hs4
   generalize w5.drew = q0 at *
   refine tk 0 ?_
   refine tk 1 ?_
   refine tk 2 ?_
   refine tk 5 ?_
   refine tk 6 ?_
   refine wpAnyH_ready (rs := [3, 8]) (by kernel_rfl) (by simp) ?_
   refine AllReadyH.cons rfl (fun K hK => ?_) ?_
   ·go_simp
    go_at_call 14
    refine (rdBelow 3 _ R a len cap zs he0).mono ?_
    rintro e q1 ⟨z, rfl, ⟨ev, rfl, ev0, ev1⟩, hbx, hrx⟩
    have hd1 := hd0.trans hbx
    have he1 := hrx
    have ka1 := ka0.but hbx (by omega)
    have kb1 := kb0.but hbx (by omega)
    refine hK.out _ _ ⟨(show Blo q1 ga [.string ts[i].name, .slice B1 ts[i].cols.length dB1, .slice B2 mB2 dB2, .slice B3 mB3 dB3, .slice B4 mB4 dB4, .slice B5 mB5 dB5] 42 from ka1).cell 0 _ rfl, (show Blo q1 gb [.string ts[j].name, .slice C1 ts[j].cols.length dC1, .slice C2 mC2 dC2, .slice C3 mC3 dC3, .slice C4 mC4 dC4, .slice C5 mC5 dC5] 42 from kb1).cell 0 _ rfl⟩ (fun hHeld => ?_)
    clear hK K
    (try simp only [Act.put, pz0, pz1, pz2, pz3, pz4, pz5])
    refine tk 4 ?_
    refine tk 7 ?_
    refine wpAnyH_ready (rs := [8]) (by kernel_rfl) (by simp) ?_
    refine AllReadyH.cons rfl (fun K hK => ?_) AllReadyH.nil
    go_simp
    have hd2 := hd1.alloc (.cells #[.string ⟨#[]⟩, .int .i64 0, .slice none 0 0, .string ⟨#[]⟩, .slice none 0 0] 36)
    have he2 := he1.alloc (.cells #[.string ⟨#[]⟩, .int .i64 0, .slice none 0 0, .string ⟨#[]⟩, .slice none 0 0] 36)
    have ka2 := ka1.alloc (.cells #[.string ⟨#[]⟩, .int .i64 0, .slice none 0 0, .string ⟨#[]⟩, .slice none 0 0] 36)
    have kb2 := kb1.alloc (.cells #[.string ⟨#[]⟩, .int .i64 0, .slice none 0 0, .string ⟨#[]⟩, .slice none 0 0] 36)
    have kt := Blo.new q1 [.string ⟨#[]⟩, .int .i64 0, .slice none 0 0, .string ⟨#[]⟩, .slice none 0 0] 36
    have hga' : ga < q1.heap.size := ka1.lt
    have hgb' : gb < q1.heap.size := kb1.lt
    have hgt : wo.heap.size ≤ q1.heap.size := hd1.size
    generalize q1.alloc (.cells #[.string ⟨#[]⟩, .int .i64 0, .slice none 0 0, .string ⟨#[]⟩, .slice none 0 0] 36) = q2 at *
    generalize q1.heap.size = gt at *
    obtain ⟨⟨z0, z1, z2, z3, z4⟩, ⟨p0, p1, p2, p3, p4⟩⟩ := (show Blo q2 gt [.string ⟨#[]⟩, .int .i64 0, .slice none 0 0, .string ⟨#[]⟩, .slice none 0 0] 36 from kt).five
    have hw : IntKind.i64.wrap (1 + ev) = 1 + ev := IntWalk.i64_in _ (by omega)
    refine hK.out _ _ ⟨(show Blo q2 ga [.string ts[i].name, .slice B1 ts[i].cols.length dB1, .slice B2 mB2 dB2, .slice B3 mB3 dB3, .slice B4 mB4 dB4, .slice B5 mB5 dB5] 42 from ka2).cell 0 _ rfl, (show Blo q2 gb [.string ts[j].name, .slice C1 ts[j].cols.length dC1, .slice C2 mC2 dC2, .slice C3 mC3 dC3, .slice C4 mC4 dC4, .slice C5 mC5 dC5] 42 from kb2).cell 0 _ rfl⟩ (fun hHeld => ?_)
    clear hK K
    (try simp only [Act.put, pz0, pz1, pz2, pz3, pz4, pz5])
    refine wpAnyH_ready (rs := [9]) (by kernel_rfl) (by simp) ?_
    refine AllReadyH.cons rfl (fun K hK => ?_) AllReadyH.nil
    go_simp
    refine hK.out _ _ ⟨cell_off (cell_off (cell_off (cell_off (cell_off (ka2.cell 0 _ rfl) (show ga ≠ gt from by omega)) (show ga ≠ gt from by omega)) (show ga ≠ gt from by omega)) (show ga ≠ gt from by omega)) (show ga ≠ gt from by omega), cell_off (cell_off (cell_off (cell_off (cell_off (kb2.cell 0 _ rfl) (show gb ≠ gt from by omega)) (show gb ≠ gt from by omega)) (show gb ≠ gt from by omega)) (show gb ≠ gt from by omega)) (show gb ≠ gt from by omega)⟩ (fun hHeld => ?_)
    clear hK K
    (try simp only [Act.put, pz0, pz1, pz2, pz3, pz4, pz5])
    refine wpAnyH_done (by kernel_rfl) ?_ _
    refine NoPanic.normal ?_
    clear hHeld
    go_wp2_with fail
    go_meet
    case rel => exact ⟨gt, 1 + ev, rfl, ((((TrS.mk hd2 he2 ka2 kb2 kt hwo hsa hsb hgt hga' hgb').put hr.out 0 _).put hr.out 1 _).put hr.out 2 _).put hr.out 3 _ |>.put hr.out 4 _⟩
   refine AllReadyH.cons rfl (fun K hK => ?_) AllReadyH.nil
   go_simp
   have hd1 := hd0.alloc (.cells #[.string ⟨#[]⟩, .int .i64 0, .slice none 0 0, .string ⟨#[]⟩, .slice none 0 0] 36)
   have he1 := he0.alloc (.cells #[.string ⟨#[]⟩, .int .i64 0, .slice none 0 0, .string ⟨#[]⟩, .slice none 0 0] 36)
   have ka1 := ka0.alloc (.cells #[.string ⟨#[]⟩, .int .i64 0, .slice none 0 0, .string ⟨#[]⟩, .slice none 0 0] 36)
   have kb1 := kb0.alloc (.cells #[.string ⟨#[]⟩, .int .i64 0, .slice none 0 0, .string ⟨#[]⟩, .slice none 0 0] 36)
   have kt := Blo.new q0 [.string ⟨#[]⟩, .int .i64 0, .slice none 0 0, .string ⟨#[]⟩, .slice none 0 0] 36
   have hga' : ga < q0.heap.size := ka0.lt
   have hgb' : gb < q0.heap.size := kb0.lt
   have hgt : wo.heap.size ≤ q0.heap.size := hd0.size
   generalize q0.alloc (.cells #[.string ⟨#[]⟩, .int .i64 0, .slice none 0 0, .string ⟨#[]⟩, .slice none 0 0] 36) = q1 at *
   generalize q0.heap.size = gt at *
   refine hK.out _ _ ⟨(show Blo q1 ga [.string ts[i].name, .slice B1 ts[i].cols.length dB1, .slice B2 mB2 dB2, .slice B3 mB3 dB3, .slice B4 mB4 dB4, .slice B5 mB5 dB5] 42 from ka1).cell 0 _ rfl, (show Blo q1 gb [.string ts[j].name, .slice C1 ts[j].cols.length dC1, .slice C2 mC2 dC2, .slice C3 mC3 dC3, .slice C4 mC4 dC4, .slice C5 mC5 dC5] 42 from kb1).cell 0 _ rfl⟩ (fun hHeld => ?_)
   clear hK K
   (try simp only [Act.put, pz0, pz1, pz2, pz3, pz4, pz5])
   refine wpAnyH_ready (rs := [3]) (by kernel_rfl) (by simp) ?_
   refine AllReadyH.cons rfl (fun K hK => ?_) AllReadyH.nil
   go_simp
   go_at_call 14
   refine (rdBelow 3 _ R a len cap zs he1).mono ?_
   rintro e q2 ⟨z, rfl, ⟨ev, rfl, ev0, ev1⟩, hbx, hrx⟩
   have hd2 := hd1.trans hbx
   have he2 := hrx
   have ka2 := ka1.but hbx (by omega)
   have kb2 := kb1.but hbx (by omega)
   have kt := kt.but hbx (by omega)
   obtain ⟨⟨z0, z1, z2, z3, z4⟩, ⟨p0, p1, p2, p3, p4⟩⟩ := (show Blo q2 gt [.string ⟨#[]⟩, .int .i64 0, .slice none 0 0, .string ⟨#[]⟩, .slice none 0 0] 36 from kt).five
   have hw : IntKind.i64.wrap (1 + ev) = 1 + ev := IntWalk.i64_in _ (by omega)
   refine hK.out _ _ ⟨(show Blo q2 ga [.string ts[i].name, .slice B1 ts[i].cols.length dB1, .slice B2 mB2 dB2, .slice B3 mB3 dB3, .slice B4 mB4 dB4, .slice B5 mB5 dB5] 42 from ka2).cell 0 _ rfl, (show Blo q2 gb [.string ts[j].name, .slice C1 ts[j].cols.length dC1, .slice C2 mC2 dC2, .slice C3 mC3 dC3, .slice C4 mC4 dC4, .slice C5 mC5 dC5] 42 from kb2).cell 0 _ rfl⟩ (fun hHeld => ?_)
   clear hK K
   (try simp only [Act.put, pz0, pz1, pz2, pz3, pz4, pz5])
   refine tk 4 ?_
   refine tk 7 ?_
   refine wpAnyH_ready (rs := [9]) (by kernel_rfl) (by simp) ?_
   refine AllReadyH.cons rfl (fun K hK => ?_) AllReadyH.nil
   go_simp
   refine hK.out _ _ ⟨cell_off (cell_off (cell_off (cell_off (cell_off (ka2.cell 0 _ rfl) (show ga ≠ gt from by omega)) (show ga ≠ gt from by omega)) (show ga ≠ gt from by omega)) (show ga ≠ gt from by omega)) (show ga ≠ gt from by omega), cell_off (cell_off (cell_off (cell_off (cell_off (kb2.cell 0 _ rfl) (show gb ≠ gt from by omega)) (show gb ≠ gt from by omega)) (show gb ≠ gt from by omega)) (show gb ≠ gt from by omega)) (show gb ≠ gt from by omega)⟩ (fun hHeld => ?_)
   clear hK K
   (try simp only [Act.put, pz0, pz1, pz2, pz3, pz4, pz5])
   refine wpAnyH_done (by kernel_rfl) ?_ _
   refine NoPanic.normal ?_
   clear hHeld
   go_wp2_with fail
   go_meet
   case rel => exact ⟨gt, 1 + ev, rfl, ((((TrS.mk hd2 he2 ka2 kb2 kt hwo hsa hsb hgt hga' hgb').put hr.out 0 _).put hr.out 1 _).put hr.out 2 _).put hr.out 3 _ |>.put hr.out 4 _⟩
  case rest =>
   obtain ⟨gt, ev, rfl, hT⟩ := hcut
   clear HA HBb HB5 HR5 x0 y0'
   have HO := Lib.hid hr.out
   have HL := Lib.hid hl.out
   have HBO := Lib.hid hb.out
   clear hl hb hr
   have x1 := hT.xa.cell 1 _ rfl
   have hcj : ts[j].cols.length ≤ 61 := by have h1 := (HK.out.2.2 _ (List.getElem_mem hj)).1; have h2 := cols_le ts[j]; omega
   have hci : ts[i].cols.length ≤ 61 := by have h1 := (HK.out.2.2 _ (List.getElem_mem hi)).1; have h2 := cols_le ts[i]; omega
   have hsc := HBO.out.size
   have hgt0 := hT.pt
   have hTT := Lib.hid hT
   clear hT
   go_wp2_with fail
   clear x1
   go_loopw [11] (fun kv wr => ∃ (k : Nat) (es : List Te) (v4 : Value), kv = .int .i64 k ∧ k ≤ ts[j].cols.length ∧ es.length = k ∧ Hid (OwnE wr (gt + 1) v4 es ∧ (∀ y ∈ es, y.szN ≤ 3)) ∧ Hid (TrS wo wr R a len cap zs ga gb gt [.string ts[i].name, .slice B1 ts[i].cols.length dB1, .slice B2 mB2 dB2, .slice B3 mB3 dB3, .slice B4 mB4 dB4, .slice B5 mB5 dB5] [.string ts[j].name, .slice C1 ts[j].cols.length dC1, .slice C2 mC2 dC2, .slice C3 mC3 dC3, .slice C4 mC4 dC4, .slice C5 mC5 dC5] [.string ts[i].name, .int .i64 ev, .slice none 0 0, .string ts[j].name, v4])) (fun kv _ => ts[j].cols.length - (intOf kv).toNat)
   case atStart => exact ⟨0, [], .slice none 0 0, rfl, Nat.zero_le _, rfl, Lib.hid ⟨LG.empty _ _, fun y hy => (by cases hy)⟩, hTT⟩
   case round =>
    clear hTT
    obtain ⟨k, es, v4, rfl, hk, hek, hes, hT⟩ := hrel
    have HEK := Lib.hid hek
    clear hek
    have y1' := hT.out.xb.cell 1 _ rfl
    by_cases hkt : k < ts[j].cols.length
    case neg =>
     have l1 : ¬ (k : Int) < ts[j].cols.length := by omega
     go_wp2_with fail
     refine (rdOnce 2 _ R a len cap zs hT.out.rd).mono ?_
     rintro e w6 ⟨u, rfl, ⟨b6, rfl⟩, hb6, hr6⟩
     have hpR := hT.out.pR
     have HT6 := Lib.hid (hT.out.step hb6 hr6)
     have HE6 := Lib.hid (LG.but TeR.stays hes.out.1 hb6 (show R < gt + 1 by omega))
     have HZE := Lib.hid hes.out.2
     clear hb6 hr6 hT y1' hes
     cases b6
     ·have HT8 := HT6
      have HE8 := HE6
      obtain ⟨A4, c4, rfl, hc4, -, -⟩ := HE8.out.sl TeR.stays
      have hLw : OwnTg w6 w.heap.size (.slice A l.length c) l := LG.but TgR.stays HL.out.1 HT8.out.hb hR
      have hlt8 : ∀ g, (Value.slice A l.length c).ownBlock = some g → g < wo.heap.size := fun g e => by obtain ⟨vs, hv⟩ := HL.out.1; exact (World.ownsRow.lt hv.row g e).2
      have hx8 := tg_laid (base := w.heap.size) (v := .slice A l.length c) (nm := ts[i].name) (into := ts[j].name) (ev := ev) HE8.out (.inr ⟨rfl, rfl⟩) (by omega) (fun g e => by have := hlt8 g e; omega)
      have hal8 := (Below.refl w6.heap.size w6).alloc (Nat.le_refl _) (.cells #[.string ts[i].name, .int .i64 ev, .slice none 0 0, .string ts[j].name, .slice A4 es.length c4] 36)
      obtain ⟨vs, hv8⟩ := hLw
      have HV8 := Lib.hid (hv8.but (R := R) TgR.stays (below_but hal8 R) hR)
      have HX8 := Lib.hid (show TgR (okL w.heap.size (w6.alloc (.cells #[.string ts[i].name, .int .i64 ev, .slice none 0 0, .string ts[j].name, .slice A4 es.length c4] 36)) (.slice A l.length c)) (w6.alloc (.cells #[.string ts[i].name, .int .i64 ev, .slice none 0 0, .string ts[j].name, .slice A4 es.length c4] 36)) [.string ts[i].name, .int .i64 ev, .slice none 0 0, .string ts[j].name, .slice A4 es.length c4] ⟨ts[i].name, ev, [], ts[j].name, es⟩ from TgR.stays _ _ _ _ _ _ hx8 (fun b ⟨a1, a2, a3⟩ => ⟨a1, Nat.lt_of_lt_of_le a2 hal8.size, a3⟩) (fun p u ⟨_, a2, _⟩ hc => (hal8.cell a2).trans hc))
      have HT9 := Lib.hid (HT8.out.alloc (.cells #[.string ts[i].name, .int .i64 ev, .slice none 0 0, .string ts[j].name, .slice A4 es.length c4] 36))
      obtain ⟨⟨z0, z1, z2, z3, z4⟩, -⟩ := (show Blo w6 gt [.string ts[i].name, .int .i64 ev, .slice none 0 0, .string ts[j].name, .slice A4 es.length c4] _ from HT8.out.xt).five
      clear hv8 hx8 hal8
      have hll := HV8.out.len
      go_wp2_with (at_builtin; refine wpList_append_own_at _ rfl _ _ 25 rfl w.heap.size 36 j0 (.agg #[.string ⟨#[]⟩, .int .i64 0, .slice none 0 0, .string ⟨#[]⟩, .slice none 0 0]) 5 88 Tryz.underlying25 J1.out J2.out J3.out J4.out rfl (by decide) _ _ _ rfl HV8.out.row ⟨_, 0, none⟩ 1 1 [.string ts[i].name, .int .i64 ev, .slice none 0 0, .string ts[j].name, .slice A4 es.length c4] rfl rfl ?c1 ?c2 ?c3 ?c4 ?c5 ?_)
      case c1 => exact fun j' u hj => by rw [addr_add, Nat.zero_add]; exact (show Blo _ _ [.string ts[i].name, .int .i64 ev, .slice none 0 0, .string ts[j].name, .slice A4 es.length c4] 36 from Blo.new _ _ _).cell _ _ hj
      case c2 => intro u hu; simp at hu; rcases hu with rfl | rfl | rfl | rfl | rfl <;> rfl
      case c3 => have := HEK.out; unfold maxLen; omega
      case c4 => have := HEK.out; omega
      case c5 => have h1 := HT9.out.hb.size; omega
      intro v9 w9 hown9 hg9 _ hv9
      have hL9 := HV8.out.app TgR.stays rfl HX8.out hown9 hg9 (by simpa using hv9)
      obtain ⟨g9, c9, rfl⟩ := Joins.ownsRow_form hown9 (by omega)
      have hrow9 : ∀ k, (Value.slice A l.length c).ownBlock = some k → w.heap.size ≤ k := fun k e => (World.ownsRow.lt HV8.out.row k e).1
      have HB9 := Lib.hid (But.grown (HBO.out.trans HT9.out.hb) hg9 hrow9)
      have HR9 := Lib.hid (Rdr.grown h HT9.out.rd (HBO.out.trans HT9.out.hb) hg9 hrow9)
      have HL9 := Lib.hid (show OwnTg w9 w.heap.size (.slice (some ⟨g9, 0, none⟩) (l.length + 1) c9) _ from ⟨_, hL9⟩)
      clear hL9 hown9 hg9 hv9 z0 z1 z2 z3 z4 hrow9
      go_wp2_with fail
      go_roundw
      case rel => exact ⟨_, _, _, m - 1, _, rfl, by go_num, by simp; omega, Lib.hid ⟨HL9.out, mem_app1 HL.out.2 (tg_szN (by have := (HK.out.2.2 _ (List.getElem_mem hi)).1; unfold Tb.sz at this; omega) (by have := (HK.out.2.2 _ (List.getElem_mem hj)).1; unfold Tb.sz at this; omega) (show ([] : List Tk).length ≤ 15 by simp) (by have := HEK.out; omega) HZE.out)⟩, HB9, HR9⟩
      case measure => simp [intOf]; omega
     ·go_wp2_with fail
      refine (rdCond (ts[i].cols.length : Int) (by omega) (by omega) _ R a len cap zs HT6.out.rd).mono ?_
      rintro e w7 ⟨v2, rfl, ⟨tk, htk, htl, ht1⟩, hb7, hr7⟩
      have hT7 := HT6.out.step hb7 hr7
      have hgt6 : gt < w6.heap.size := HT6.out.xt.lt
      obtain ⟨A2, c2', ev2, -, -, -⟩ := OwnG.sl (f := Tk.cells) (sz := 5) (fun _ => rfl) htk
      subst ev2
      obtain ⟨⟨z0, z1, z2, z3, z4⟩, ⟨p0, p1, p2, p3, p4⟩⟩ := hT7.xt.five
      have HT8 := Lib.hid (hT7.put HO.out 2 (.slice A2 tk.length c2'))
      have HE8 := Lib.hid (LG.but TeR.stays (LG.but TeR.stays HE6.out hb7 (show R < gt + 1 by omega)) (but_set w7 gt 2 (.slice A2 tk.length c2')) (show gt < gt + 1 by omega))
      have HK8 := Lib.hid (OwnG.mono (OwnG.but htk (but_set w7 gt 2 (.slice A2 tk.length c2')) (show gt < w6.heap.size by omega)) (show gt + 1 ≤ w6.heap.size by omega))
      clear hT7 hb7 hr7 htk
      go_upto_region 18 with fail
      clear z0 z1 z2 z3 z4 p0 p1 p2 p3 p4
      generalize w7.setCell ⟨gt, 2, none⟩ (.slice A2 tk.length c2') = w8 at *
      obtain ⟨A4, c4, rfl, hc4, -, -⟩ := HE8.out.sl TeR.stays
      have hLw : OwnTg w8 w.heap.size (.slice A l.length c) l := LG.but TgR.stays HL.out.1 HT8.out.hb hR
      have hlt8 : ∀ g, (Value.slice A l.length c).ownBlock = some g → g < wo.heap.size := fun g e => by obtain ⟨vs, hv⟩ := HL.out.1; exact (World.ownsRow.lt hv.row g e).2
      have hx8 := tg_laid (base := w.heap.size) (v := .slice A l.length c) (nm := ts[i].name) (into := ts[j].name) (ev := ev) HE8.out (.inl HK8.out) (by omega) (fun g e => by have := hlt8 g e; omega)
      have hal8 := (Below.refl w8.heap.size w8).alloc (Nat.le_refl _) (.cells #[.string ts[i].name, .int .i64 ev, .slice A2 tk.length c2', .string ts[j].name, .slice A4 es.length c4] 36)
      obtain ⟨vs, hv8⟩ := hLw
      have HV8 := Lib.hid (hv8.but (R := R) TgR.stays (below_but hal8 R) hR)
      have HX8 := Lib.hid (show TgR (okL w.heap.size (w8.alloc (.cells #[.string ts[i].name, .int .i64 ev, .slice A2 tk.length c2', .string ts[j].name, .slice A4 es.length c4] 36)) (.slice A l.length c)) (w8.alloc (.cells #[.string ts[i].name, .int .i64 ev, .slice A2 tk.length c2', .string ts[j].name, .slice A4 es.length c4] 36)) [.string ts[i].name, .int .i64 ev, .slice A2 tk.length c2', .string ts[j].name, .slice A4 es.length c4] ⟨ts[i].name, ev, tk, ts[j].name, es⟩ from TgR.stays _ _ _ _ _ _ hx8 (fun b ⟨a1, a2, a3⟩ => ⟨a1, Nat.lt_of_lt_of_le a2 hal8.size, a3⟩) (fun p u ⟨_, a2, _⟩ hc => (hal8.cell a2).trans hc))
      have HT9 := Lib.hid (HT8.out.alloc (.cells #[.string ts[i].name, .int .i64 ev, .slice A2 tk.length c2', .string ts[j].name, .slice A4 es.length c4] 36))
      obtain ⟨⟨z0, z1, z2, z3, z4⟩, -⟩ := (show Blo w8 gt [.string ts[i].name, .int .i64 ev, .slice A2 tk.length c2', .string ts[j].name, .slice A4 es.length c4] _ from HT8.out.xt).five
      clear hv8 hx8 hal8
      have hll := HV8.out.len
      go_wp2_with (at_builtin; refine wpList_append_own_at _ rfl _ _ 25 rfl w.heap.size 36 j0 (.agg #[.string ⟨#[]⟩, .int .i64 0, .slice none 0 0, .string ⟨#[]⟩, .slice none 0 0]) 5 88 Tryz.underlying25 J1.out J2.out J3.out J4.out rfl (by decide) _ _ _ rfl HV8.out.row ⟨_, 0, none⟩ 1 1 [.string ts[i].name, .int .i64 ev, .slice A2 tk.length c2', .string ts[j].name, .slice A4 es.length c4] rfl rfl ?c1 ?c2 ?c3 ?c4 ?c5 ?_)
      case c1 => exact fun j' u hj => by rw [addr_add, Nat.zero_add]; exact (show Blo _ _ [.string ts[i].name, .int .i64 ev, .slice A2 tk.length c2', .string ts[j].name, .slice A4 es.length c4] 36 from Blo.new _ _ _).cell _ _ hj
      case c2 => intro u hu; simp at hu; rcases hu with rfl | rfl | rfl | rfl | rfl <;> rfl
      case c3 => have := HEK.out; unfold maxLen; omega
      case c4 => have := HEK.out; omega
      case c5 => have h1 := HT9.out.hb.size; omega
      intro v9 w9 hown9 hg9 _ hv9
      have hL9 := HV8.out.app TgR.stays rfl HX8.out hown9 hg9 (by simpa using hv9)
      obtain ⟨g9, c9, rfl⟩ := Joins.ownsRow_form hown9 (by omega)
      have hrow9 : ∀ k, (Value.slice A l.length c).ownBlock = some k → w.heap.size ≤ k := fun k e => (World.ownsRow.lt HV8.out.row k e).1
      have HB9 := Lib.hid (But.grown (HBO.out.trans HT9.out.hb) hg9 hrow9)
      have HR9 := Lib.hid (Rdr.grown h HT9.out.rd (HBO.out.trans HT9.out.hb) hg9 hrow9)
      have HL9 := Lib.hid (show OwnTg w9 w.heap.size (.slice (some ⟨g9, 0, none⟩) (l.length + 1) c9) _ from ⟨_, hL9⟩)
      clear hL9 hown9 hg9 hv9 z0 z1 z2 z3 z4 hrow9
      go_wp2_with fail
      go_roundw
      case rel => exact ⟨_, _, _, m - 1, _, rfl, by go_num, by simp; omega, Lib.hid ⟨HL9.out, mem_app1 HL.out.2 (tg_szN (by have := (HK.out.2.2 _ (List.getElem_mem hi)).1; unfold Tb.sz at this; omega) (by have := (HK.out.2.2 _ (List.getElem_mem hj)).1; unfold Tb.sz at this; omega) (show tk.length ≤ 15 from Nat.le_trans htl (by decide)) (by have := HEK.out; omega) HZE.out)⟩, HB9, HR9⟩
      case measure => simp [intOf]; omega
    have k0 : (0 : Int) ≤ k := by omega
    have k1 : (k : Int) < ts[j].cols.length := by omega
    have hpR := hT.out.pR
    have hgtl : gt < wr.heap.size := hT.out.xt.lt
    go_wp2_with fail
    refine (specL2Const 0 0 ⟨#[]⟩ _).mono ?_
    rintro e w6 ⟨rfl, hb6⟩
    have hT6 := hT.out.below hb6
    have hE6 := LG.but TeR.stays hes.out.1 (below_but hb6 R) (show R < gt + 1 by omega)
    have HZE := Lib.hid hes.out.2
    clear hT y1' hes hb6
    have HLT := Lib.hid (show ∀ q, v4.ownBlock = some q → q < w6.heap.size from fun q e => by obtain ⟨vs, hv⟩ := hE6; exact (World.ownsRow.lt hv.row q e).2)
    have HT8 := Lib.hid (hT6.alloc (.cells #[.int .i64 2, .int .i64 0, .int .i64 0, .int .i64 0, .string ⟨#[]⟩] 73))
    have HE8 := Lib.hid (LG.but TeR.stays hE6 ((But.refl R w6).alloc (.cells #[.int .i64 2, .int .i64 0, .int .i64 0, .int .i64 0, .string ⟨#[]⟩] 73)) (show R < gt + 1 by omega))
    have BE := Lib.hid (Blo.new w6 [.int .i64 2, .int .i64 0, .int .i64 0, .int .i64 0, .string ⟨#[]⟩] 73)
    have hge : gt < w6.heap.size := hT6.xt.lt
    have hbj := ((HBO.out.trans hT6.hb).alloc (.cells #[.int .i64 2, .int .i64 0, .int .i64 0, .int .i64 0, .string ⟨#[]⟩] 73))
    obtain ⟨bc, oc, -, eC, -, yk, -⟩ := ClR.at_ (SCJ.out.butY ClR.stays hbj HOK.out) hkt
    have y1' := HT8.out.xb.cell 1 _ rfl
    rw [eC] at y1'
    clear hbj eC
    obtain ⟨kd, hkd⟩ : ∃ n, ts[j].cols[k].kind = n := ⟨_, rfl⟩
    rw [hkd] at yk
    clear hkd
    by_cases hk1 : kd = 1
    case neg =>
     have q1 : (kd == 1) = false := by simpa using hk1
     go_upto_region 15 with fail
     clear y1' yk hT6 hE6
     generalize w6.alloc (.cells #[.int .i64 2, .int .i64 0, .int .i64 0, .int .i64 0, .string ⟨#[]⟩] 73) = w8 at *
     generalize w6.heap.size = ge at *
     obtain ⟨vs, hv8⟩ := HE8.out
     have hlt8 : ∀ q, v4.ownBlock = some q → gt < q ∧ q < ge := fun q e => ⟨(World.ownsRow.lt hv8.row q e).1, HLT.out q e⟩
     have hal8 := (Below.refl w8.heap.size w8).alloc (Nat.le_refl _) (.cells #[.slice (some ⟨ge, 0, none⟩) 1 1] 82)
     have HV8 := Lib.hid (hv8.but (R := R) TeR.stays (below_but hal8 R) (show R < gt + 1 by omega))
     have HX8 := Lib.hid (te_laid (base := gt + 1) (v := v4) (ts := [⟨2, 0, 0, 0, ⟨#[]⟩⟩]) (show Blo (w8.alloc (.cells #[.slice (some ⟨ge, 0, none⟩) 1 1] 82)) ge _ _ from BE.out.alloc _) (by omega) (fun e => by have := (hlt8 ge e).2; omega))
     have HT9 := Lib.hid (HT8.out.alloc (.cells #[.slice (some ⟨ge, 0, none⟩) 1 1] 82))
     obtain ⟨⟨-, -, -, -, z4⟩, -⟩ := (show Blo (w8.alloc (.cells #[.slice (some ⟨ge, 0, none⟩) 1 1] 82)) gt [.string ts[i].name, .int .i64 ev, .slice none 0 0, .string ts[j].name, v4] _ from HT9.out.xt).five
     obtain ⟨⟨-, -, -, -, z4'⟩, -⟩ := (show Blo w8 gt [.string ts[i].name, .int .i64 ev, .slice none 0 0, .string ts[j].name, v4] _ from HT8.out.xt).five
     clear hal8 hv8
     obtain ⟨A4, c4, ev4, -, -, -⟩ := LG.sl TeR.stays HE8.out
     subst ev4
     have HL8 := Lib.hid hlt8
     clear hlt8
     go_wp2_with (at_builtin; refine wpList_append_own_at _ rfl _ _ 34 rfl (gt + 1) 82 i0 (.agg #[.slice none 0 0]) 1 24 Tryz.underlying34 H1.out H2.out H3.out H4.out rfl (by decide) _ _ _ rfl HV8.out.row ⟨_, 0, none⟩ 1 1 [.slice (some ⟨ge, 0, none⟩) 1 1] rfl rfl ?c1 ?c2 ?c3 ?c4 ?c5 ?_)
     case c1 => exact fun j' u hj => by rw [addr_add, Nat.zero_add]; exact (show Blo _ _ [.slice (some ⟨ge, 0, none⟩) 1 1] 82 from Blo.new _ _ _).cell _ _ hj
     case c2 => intro u hu; simp at hu; rcases hu with rfl; rfl
     case c3 => have := HEK.out; unfold maxLen; omega
     case c4 => have := HEK.out; omega
     case c5 => have h1 := HT9.out.xt.lt; omega
     intro v9 w9 hown9 hg9 _ hv9
     have hL9 := HV8.out.app TeR.stays rfl HX8.out hown9 hg9 (by simpa using hv9)
     obtain ⟨g9, c9, rfl⟩ := Joins.ownsRow_form hown9 (by omega)
     have hT9 := HT9.out.grown HO.out hg9 (fun q e => (HL8.out q e).1)
     obtain ⟨⟨-, -, -, -, z4⟩, ⟨-, -, -, -, p4⟩⟩ := (show Blo w9 gt [.string ts[i].name, .int .i64 ev, .slice none 0 0, .string ts[j].name, (.slice A4 es.length c4)] _ from hT9.xt).five
     have HT10 := Lib.hid (hT9.put HO.out 4 (.slice (some ⟨g9, 0, none⟩) (es.length + 1) c9))
     have HE10 := Lib.hid (LG.but TeR.stays (⟨_, hL9⟩ : OwnE w9 (gt + 1) _ _) (but_set w9 gt 4 (.slice (some ⟨g9, 0, none⟩) (es.length + 1) c9)) (show gt < gt + 1 by omega))
     clear hL9 hown9 hg9 hv9 hT9
     go_wp2_with fail
     go_roundw
     case rel => exact ⟨k + 1, es ++ [⟨[⟨2, 0, 0, 0, ⟨#[]⟩⟩]⟩], _, by go_num, by omega, by rw [List.length_append, HEK.out]; rfl, Lib.hid ⟨HE10.out, mem_app1 HZE.out (te_szN (by simp))⟩, HT10⟩
     case measure => simp [intOf]; omega
    have q1 : (kd == 1) = true := by simpa using hk1
    go_wp2_with fail
    clear y1' yk hT6 hE6 BE HLT hge
    generalize w6.alloc (.cells #[.int .i64 2, .int .i64 0, .int .i64 0, .int .i64 0, .string ⟨#[]⟩] 73) = w8 at *
    refine (rdBelow 2 _ R a len cap zs HT8.out.rd).mono ?_
    rintro e w9 ⟨z, rfl, ⟨cx, rfl, cx0, cx1⟩, hb9, hr9⟩
    have hT9 := HT8.out.step hb9 hr9
    have hE9 := LG.but TeR.stays HE8.out hb9 (show R < gt + 1 by omega)
    clear hb9 hr9 HT8 HE8
    have hmul : IntKind.i64.wrap (cx * (ts[i].cols.length : Int)) = cx * (ts[i].cols.length : Int) := IntWalk.i64_in _ (by rcases (show cx = 0 ∨ cx = 1 by omega) with rfl | rfl <;> omega)
    go_wp2_with fail
    refine (specL2Col _ _).mono ?_
    rintro e w10 ⟨rfl, hb10⟩
    have hT10 := hT9.below hb10
    have hE10 := LG.but TeR.stays hE9 (below_but hb10 R) (show R < gt + 1 by omega)
    clear hb10 hT9 hE9 hmul
    go_wp2_with fail
    refine (rdBelow 3 _ R a len cap zs hT10.rd).mono ?_
    rintro e w11 ⟨z, rfl, ⟨cy, rfl, cy0, cy1⟩, hb11, hr11⟩
    have hT11 := hT10.step hb11 hr11
    have hE11 := LG.but TeR.stays hE10 hb11 (show R < gt + 1 by omega)
    clear hb11 hr11 hT10 hE10
    go_wp2_with fail
    refine (specInt cy _).mono ?_
    rintro e w12 ⟨rfl, o12, rfl⟩
    have hT12 := hT11.alloc o12
    have hE12 := LG.but TeR.stays hE11 ((But.refl R w11).alloc o12) (show R < gt + 1 by omega)
    clear hT11 hE11
    generalize w11.alloc o12 = w12 at *
    go_wp2_with fail
    refine (specL2Const 1 cy ⟨#[]⟩ _).mono ?_
    rintro e w13 ⟨rfl, hb13⟩
    have hT13 := hT12.below hb13
    have hE13 := LG.but TeR.stays hE12 (below_but hb13 R) (show R < gt + 1 by omega)
    clear hb13 hT12 hE12
    obtain ⟨cn, hcn⟩ : ∃ n, cx * (ts[i].cols.length : Int) = n := ⟨_, rfl⟩
    try rw [hcn]
    clear hcn
    have HLT := Lib.hid (show ∀ q, v4.ownBlock = some q → q < w13.heap.size from fun q e => by obtain ⟨vs, hv⟩ := hE13; exact (World.ownsRow.lt hv.row q e).2)
    have HT8 := Lib.hid (hT13.alloc (.cells #[.int .i64 1, .int .i64 cn, .int .i64 0, .int .i64 0, .string ⟨#[]⟩, .int .i64 2, .int .i64 0, .int .i64 1, .int .i64 cy, .string ⟨#[]⟩, .int .i64 9, .int .i64 0, .int .i64 0, .int .i64 0, .string ⟨#[]⟩] 73))
    have HE8 := Lib.hid (LG.but TeR.stays hE13 ((But.refl R w13).alloc (.cells #[.int .i64 1, .int .i64 cn, .int .i64 0, .int .i64 0, .string ⟨#[]⟩, .int .i64 2, .int .i64 0, .int .i64 1, .int .i64 cy, .string ⟨#[]⟩, .int .i64 9, .int .i64 0, .int .i64 0, .int .i64 0, .string ⟨#[]⟩] 73)) (show R < gt + 1 by omega))
    have BE := Lib.hid (Blo.new w13 [.int .i64 1, .int .i64 cn, .int .i64 0, .int .i64 0, .string ⟨#[]⟩, .int .i64 2, .int .i64 0, .int .i64 1, .int .i64 cy, .string ⟨#[]⟩, .int .i64 9, .int .i64 0, .int .i64 0, .int .i64 0, .string ⟨#[]⟩] 73)
    have hge : gt < w13.heap.size := hT13.xt.lt
    go_upto_region 15 with fail
    clear hT13 hE13
    generalize w13.alloc (.cells #[.int .i64 1, .int .i64 cn, .int .i64 0, .int .i64 0, .string ⟨#[]⟩, .int .i64 2, .int .i64 0, .int .i64 1, .int .i64 cy, .string ⟨#[]⟩, .int .i64 9, .int .i64 0, .int .i64 0, .int .i64 0, .string ⟨#[]⟩] 73) = w14 at *
    generalize w13.heap.size = ge at *
    obtain ⟨vs, hv8⟩ := HE8.out
    have hlt8 : ∀ q, v4.ownBlock = some q → gt < q ∧ q < ge := fun q e => ⟨(World.ownsRow.lt hv8.row q e).1, HLT.out q e⟩
    have hal8 := (Below.refl w14.heap.size w14).alloc (Nat.le_refl _) (.cells #[.slice (some ⟨ge, 0, none⟩) 3 3] 82)
    have HV8 := Lib.hid (hv8.but (R := R) TeR.stays (below_but hal8 R) (show R < gt + 1 by omega))
    have HX8 := Lib.hid (te_laid (base := gt + 1) (v := v4) (ts := [⟨1, cn, 0, 0, ⟨#[]⟩⟩, ⟨2, 0, 1, cy, ⟨#[]⟩⟩, ⟨9, 0, 0, 0, ⟨#[]⟩⟩]) (show Blo (w14.alloc (.cells #[.slice (some ⟨ge, 0, none⟩) 3 3] 82)) ge _ _ from BE.out.alloc _) (by omega) (fun e => by have := (hlt8 ge e).2; omega))
    have HT9 := Lib.hid (HT8.out.alloc (.cells #[.slice (some ⟨ge, 0, none⟩) 3 3] 82))
    obtain ⟨⟨-, -, -, -, z4⟩, -⟩ := (show Blo (w14.alloc (.cells #[.slice (some ⟨ge, 0, none⟩) 3 3] 82)) gt [.string ts[i].name, .int .i64 ev, .slice none 0 0, .string ts[j].name, v4] _ from HT9.out.xt).five
    obtain ⟨⟨-, -, -, -, z4'⟩, -⟩ := (show Blo w14 gt [.string ts[i].name, .int .i64 ev, .slice none 0 0, .string ts[j].name, v4] _ from HT8.out.xt).five
    clear hal8 hv8
    obtain ⟨A4, c4, ev4, -, -, -⟩ := LG.sl TeR.stays HE8.out
    subst ev4
    have HL8 := Lib.hid hlt8
    clear hlt8
    go_wp2_with (at_builtin; refine wpList_append_own_at _ rfl _ _ 34 rfl (gt + 1) 82 i0 (.agg #[.slice none 0 0]) 1 24 Tryz.underlying34 H1.out H2.out H3.out H4.out rfl (by decide) _ _ _ rfl HV8.out.row ⟨_, 0, none⟩ 1 1 [.slice (some ⟨ge, 0, none⟩) 3 3] rfl rfl ?c1 ?c2 ?c3 ?c4 ?c5 ?_)
    case c1 => exact fun j' u hj => by rw [addr_add, Nat.zero_add]; exact (show Blo _ _ [.slice (some ⟨ge, 0, none⟩) 3 3] 82 from Blo.new _ _ _).cell _ _ hj
    case c2 => intro u hu; simp at hu; rcases hu with rfl; rfl
    case c3 => have := HEK.out; unfold maxLen; omega
    case c4 => have := HEK.out; omega
    case c5 => have h1 := HT9.out.xt.lt; omega
    intro v9 w9 hown9 hg9 _ hv9
    have hL9 := HV8.out.app TeR.stays rfl HX8.out hown9 hg9 (by simpa using hv9)
    obtain ⟨g9, c9, rfl⟩ := Joins.ownsRow_form hown9 (by omega)
    have hT9 := HT9.out.grown HO.out hg9 (fun q e => (HL8.out q e).1)
    obtain ⟨⟨-, -, -, -, z4⟩, ⟨-, -, -, -, p4⟩⟩ := (show Blo w9 gt [.string ts[i].name, .int .i64 ev, .slice none 0 0, .string ts[j].name, (.slice A4 es.length c4)] _ from hT9.xt).five
    have HT10 := Lib.hid (hT9.put HO.out 4 (.slice (some ⟨g9, 0, none⟩) (es.length + 1) c9))
    have HE10 := Lib.hid (LG.but TeR.stays (⟨_, hL9⟩ : OwnE w9 (gt + 1) _ _) (but_set w9 gt 4 (.slice (some ⟨g9, 0, none⟩) (es.length + 1) c9)) (show gt < gt + 1 by omega))
    clear hL9 hown9 hg9 hv9 hT9
    go_wp2_with fail
    go_roundw
    case rel => exact ⟨k + 1, es ++ [⟨[⟨1, cn, 0, 0, ⟨#[]⟩⟩, ⟨2, 0, 1, cy, ⟨#[]⟩⟩, ⟨9, 0, 0, 0, ⟨#[]⟩⟩]⟩], _, by go_num, by omega, by rw [List.length_append, HEK.out]; rfl, Lib.hid ⟨HE10.out, mem_app1 HZE.out (te_szN (by simp))⟩, HT10⟩
    case measure => simp [intOf]; omega
def isFireArgs (v : Value) (w : World) : Prop := ∃ (ok okl oko okn : Nat → Prop) (A1 : Option Addr) (c1 : Nat) (ts : List Tb) (AL : Option Addr) (cL : Nat) (l : List Tg) (k : Nat) (ev : Int) (AO : Option Addr) (cO : Nat) (old : List Vl) (AN : Option Addr) (cN : Nat) (now : List Vl),
 v = .tuple #[.slice A1 ts.length c1, .slice AL l.length cL, .int .i64 k, .int .i64 ev, .slice AO old.length cO, .slice AN now.length cN] ∧ ts.length ≤ c1 ∧ Sl TbR 6 ok w A1 ts.length ts ∧ Sl TgR 5 okl w AL l.length l ∧ Sl VlR 3 oko w AO old.length old ∧ Sl VlR 3 okn w AN now.length now ∧ schOk ts ∧ k < ts.length ∧ l.length ≤ 3 ∧ (∀ t ∈ l, t.szN ≤ 1000) ∧ old.length ≤ 1000 ∧ now.length ≤ 1000
set_option maxRecDepth 100000 in
set_option maxHeartbeats 4000000 in
theorem drawFires (a : Option Addr) (len cap : Nat) (zs : List Int) (w : World) (h : IsRow .u8 w a len cap zs) :
  Calls Tryz.prog 5 #[.slice a len cap] w (Drawn isFireArgs w) := by
 have h0 := Rdr.new h 64
 have b0 := (Below.refl w.heap.size w).alloc (Nat.le_refl _) (.cells #[.slice a len cap, .int .i64 0] 64)
 go_enter Tryz.func5, Tryz.ntmps5
 go_wp2_with fail
 refine (specOpen _ _ _ _).mono ?_
 rintro e w1 ⟨rfl, rfl⟩
 have hRlt : w.heap.size < (w.alloc (.cells #[.slice a len cap, .int .i64 0] 64)).heap.size := by simp
 generalize w.alloc (.cells #[.slice a len cap, .int .i64 0] 64) = u at *
 go_wp2_with fail
 refine (rdSchema _ _ a len cap zs h0).mono ?_
 rintro e w2 ⟨v, rfl, hsch, hb2, hr2⟩
 obtain ⟨A1, c1, ts, rfl, hc1, hsl, hsk⟩ := hsch.full
 have hS := okF.weak TbR.stays hsl (Nat.le_refl _)
 have hok : ∀ b, u.heap.size ≤ b → b ≠ w.heap.size := fun b hb => by omega
 have h1l := hsk.1
 clear hsl hsch
 go_wp2_with fail
 refine (rdTriggers A1 c1 ts _ _ _ a len cap zs hr2 hS hok hsk).mono ?_
 rintro e w3 ⟨v, rfl, ⟨l, hl, hll, hlz⟩, hb3, hr3⟩
 obtain ⟨AL, cL, rfl, hcL, -, -⟩ := hl.sl TgR.stays
 have hlt2 : w.heap.size < w2.heap.size := Nat.lt_of_lt_of_le hRlt hb2.size
 go_wp2_with fail
 refine (rdBelow _ _ _ a len cap zs hr3).mono ?_
 rintro e w4 ⟨z, rfl, ⟨y, rfl, y0, y1⟩, hb4, hr4⟩
 obtain ⟨k, rfl⟩ : ∃ i : Nat, y = (i : Int) := ⟨y.toNat, by omega⟩
 have hk : k < ts.length := by omega
 have k0 : (0 : Int) ≤ k := by omega
 have k1 : (k : Int) < ts.length := by omega
 have hcl : ts[k].cols.length ≤ 1000 := by have h1 := (hsk.2.2 _ (List.getElem_mem hk)).1; have h2 := cols_le ts[k]; omega
 have hb24 := hb3.trans hb4
 have hS4 := hS.butY TbR.stays hb24 hok
 have hl4 := LG.but TgR.stays hl hb4 hlt2
 clear hb3 hb4 hr3 hS hl
 obtain ⟨bt, ot, B1, m1, d1, B2, m2, d2, B3, m3, d3, B4, m4, d4, B5, m5, d5, hob, eT, t0, t1, t2, t3, t4, t5, s1, -⟩ := TbR.at_ hS4 hk
 cases eT
 go_wp2_with fail
 refine (rdFit _ _ _ _ _ B1 m1 d1 ts[k].cols _ _ _ a len cap zs hr4 s1 hok hcl).mono ?_
 rintro e w5 ⟨v, rfl, ⟨old, ho, hol, -⟩, hb5, hr5⟩
 obtain ⟨AO, cO, rfl, hcO, -, -⟩ := OwnG.sl (f := Vl.cells) (sz := 3) (fun _ => rfl) ho
 have t0 := (hb5.cell (cell_lt t0) (hok _ hob)).trans t0
 have t1 := (hb5.cell (cell_lt t1) (hok _ hob)).trans t1
 have t2 := (hb5.cell (cell_lt t2) (hok _ hob)).trans t2
 have t3 := (hb5.cell (cell_lt t3) (hok _ hob)).trans t3
 have t4 := (hb5.cell (cell_lt t4) (hok _ hob)).trans t4
 have t5 := (hb5.cell (cell_lt t5) (hok _ hob)).trans t5
 have s1 := s1.butY ClR.stays hb5 hok
 have hS5 := hS4.butY TbR.stays hb5 hok
 have hl5 := LG.but TgR.stays hl4 hb5 hlt2
 have hb25 := hb24.trans hb5
 have hsz4 := hb24.size
 clear hb24 hb5 hr4 hS4 hl4
 go_wp2_with fail
 refine (rdFit _ _ _ _ _ B1 m1 d1 ts[k].cols _ _ _ a len cap zs hr5 s1 hok hcl).mono ?_
 rintro e w6 ⟨v, rfl, ⟨now, hn, hnl, -⟩, hb6, hr6⟩
 obtain ⟨AN, cN, rfl, hcN, -, -⟩ := OwnG.sl (f := Vl.cells) (sz := 3) (fun _ => rfl) hn
 have hS6 := hS5.butY TbR.stays hb6 hok
 have hl6 := LG.but TgR.stays hl5 hb6 hlt2
 have ho6 := OwnG.but ho hb6 (show w.heap.size < w4.heap.size by omega)
 have hb26 := hb25.trans hb6
 have hsz5 := hb25.size
 clear hb25 hb6 hr5 hS5 hl5 ho t0 t1 t2 t3 t4 t5 s1
 go_wp2_with fail
 refine (rdOnce 3 _ _ a len cap zs hr6).mono ?_
 rintro e w7 ⟨b, rfl, ⟨b7, rfl⟩, hb7, hr7⟩
 have hS7 := hS6.butY TbR.stays hb7 hok
 have hl7 := LG.but TgR.stays hl6 hb7 hlt2
 have ho7 := OwnG.but ho6 hb7 (show w.heap.size < w4.heap.size by omega)
 have hn7 := OwnG.but hn hb7 (show w.heap.size < w5.heap.size by omega)
 have hb27 := hb26.trans hb7
 clear hb26 hb7 hr6 hS6 hl6 ho6 hn
 have HA := Lib.hid hS7
 have HB := Lib.hid hl7
 have HC := Lib.hid ho7
 have HD := Lib.hid hn7
 have HE := Lib.hid hb27
 have HK := Lib.hid (And.intro hsk (And.intro hll hlz))
 clear hS7 hl7 ho7 hn7 hb27 hsk hll hlz
 cases b7
 ·go_wp2_with fail
  refine (rdBelow 3 _ _ a len cap zs hr7).mono ?_
  rintro e w8 ⟨z, rfl, ⟨ev, rfl, ev0, ev1⟩, hb8, hr8⟩
  have hw : IntKind.i64.wrap (1 + ev) = 1 + ev := IntWalk.i64_in _ (by omega)
  have hS8 := HA.out.butY TbR.stays hb8 hok
  obtain ⟨A8, c8, e8, -, -, hl8⟩ := LG.sl TgR.stays (LG.but TgR.stays HB.out hb8 hlt2)
  cases e8
  obtain ⟨A9, c9, e9, -, -, hn8⟩ := OwnG.sl (f := Vl.cells) (sz := 3) (fun _ => rfl) (OwnG.but HD.out hb8 (show w.heap.size < w5.heap.size by omega))
  cases e9
  obtain ⟨A7, c7, e7, -, -, ho8⟩ := OwnG.sl (f := Vl.cells) (sz := 3) (fun _ => rfl) (OwnG.but HC.out hb8 (show w.heap.size < w4.heap.size by omega))
  cases e7
  have hbz := b0.trans (((hb2.trans HE.out).trans hb8).below (Nat.le_refl _) (Nat.le_of_lt hRlt))
  go_wp2_with fail
  refine bodyPost_ret (v := .tuple #[.slice (some ⟨bt, ot, none⟩) ts.length c1, .slice AL l.length cL, .int .i64 k, .int .i64 (1 + ev), .slice AO old.length cO, .slice AN now.length cN]) ?_ rfl ?_
  ·simp [results, Tryz.results5, go_sem, hol, hnl]
  ·exact ⟨_, rfl, ⟨_, _, _, _, _, c1, ts, AL, cL, l, k, 1 + ev, AO, cO, old, AN, cN, now, rfl, hc1, hS8, hl8, ho8, hn8, HK.out.1, hk, HK.out.2.1, HK.out.2.2, by omega, by omega⟩, hbz⟩
 ·go_wp2_with fail
  refine (rdBelow 3 _ _ a len cap zs hr7).mono ?_
  rintro e w8 ⟨z, rfl, ⟨ev, rfl, ev0, ev1⟩, hb8, hr8⟩
  have hw : IntKind.i64.wrap (1 + ev) = 1 + ev := IntWalk.i64_in _ (by omega)
  have hS8 := HA.out.butY TbR.stays hb8 hok
  obtain ⟨A8, c8, e8, -, -, hl8⟩ := LG.sl TgR.stays (LG.but TgR.stays HB.out hb8 hlt2)
  cases e8
  obtain ⟨A9, c9, e9, -, -, hn8⟩ := OwnG.sl (f := Vl.cells) (sz := 3) (fun _ => rfl) (OwnG.but HD.out hb8 (show w.heap.size < w5.heap.size by omega))
  cases e9
  have hbz := b0.trans (((hb2.trans HE.out).trans hb8).below (Nat.le_refl _) (Nat.le_of_lt hRlt))
  go_wp2_with fail
  refine bodyPost_ret (v := .tuple #[.slice (some ⟨bt, ot, none⟩) ts.length c1, .slice AL l.length cL, .int .i64 k, .int .i64 (1 + ev), .slice none 0 0, .slice AN now.length cN]) ?_ rfl ?_
  ·simp [results, Tryz.results5, go_sem, hol, hnl]
  ·exact ⟨_, rfl, ⟨_, _, (fun _ => True), _, _, c1, ts, AL, cL, l, k, 1 + ev, none, 0, [], AN, cN, now, rfl, hc1, hS8, hl8, ⟨rfl, fun h => absurd h (by simp)⟩, hn8, HK.out.1, hk, HK.out.2.1, HK.out.2.2, by simp, by omega⟩, hbz⟩
end Go.Proofs.YteiifabdbkpkiaaGreat
namespace Go.Proofs.YteiifabdbkpkiaaGreat
open Go.RowKit
section
theorem made_flat (z : Array Value) (hz : 0 < z.size) (n : Nat) : (madeCells z (n * z.size)).toList = (List.replicate n z.toList).flatten := by
 refine List.ext_getElem? fun j => ?_
 have hl : ∀ c ∈ List.replicate n z.toList, c.length = z.size := fun c hc => by rw [(List.mem_replicate.1 hc).2]; simp
 by_cases hj : j < n * z.size
 ·have hd : j / z.size < n := Nat.div_lt_of_lt_mul (by rw [Nat.mul_comm]; exact hj)
  have hm : j % z.size < z.size := Nat.mod_lt _ hz
  have := flat_get (List.replicate n z.toList) (j / z.size) (j % z.size) (by simpa using hd) hm hl
  rw [show j / z.size * z.size + j % z.size = j by rw [Nat.mul_comm]; exact Nat.div_add_mod j _] at this
  rw [this, Array.getElem?_toList]
  simp [madeCells, hj, hm]
 ·rw [List.getElem?_eq_none (by simp [size_madeCells]; omega), List.getElem?_eq_none (by rw [flat_len _ hl]; simp; omega)]
def setAll (l : List Value) (off : Nat) : List Value → List Value
 | [] => l
 | u :: us => setAll (l.set off u) (off + 1) us
theorem setAll_len : ∀ (us l : List Value) (off : Nat), (setAll l off us).length = l.length
 | [], _, _ => rfl
 | u :: us, l, off => by rw [setAll, setAll_len us]; simp
theorem setAll_get : ∀ (us l : List Value) (off j : Nat), off + us.length ≤ l.length → (setAll l off us)[j]? = if off ≤ j ∧ j < off + us.length then us[j - off]? else l[j]?
 | [], l, off, j, _ => by
  rw [setAll, if_neg]
  intro h
  simp only [List.length_nil] at h
  omega
 | u :: us, l, off, j, hl => by
  simp only [List.length_cons] at hl
  rw [setAll, setAll_get us _ _ _ (by simp; omega)]
  simp only [List.length_cons]
  by_cases e : j = off
  ·subst e
   rw [if_neg (by omega), if_pos (by omega), List.getElem?_set_self (by omega)]
   simp
  ·by_cases h1 : off + 1 ≤ j ∧ j < off + 1 + us.length
   ·rw [if_pos h1, if_pos (by omega), show j - off = (j - (off + 1)) + 1 by omega]
    simp
   ·rw [if_neg h1, if_neg (by omega), List.getElem?_set_ne (by omega)]
end
end Go.Proofs.YteiifabdbkpkiaaGreat
namespace Go.Proofs.YteiifabdbkpkiaaGreat
open Go.RowKit
def OwnK (w : World) (base : Nat) (v : Value) (xs : List Vl) : Prop := OwnG 66 3 Vl.cells w base v xs
end Go.Proofs.YteiifabdbkpkiaaGreat
namespace Go.Proofs.YteiifabdbkpkiaaGreat
open Go.RowKit
theorem infoValC : (Tryz.prog.info? 66).map (fun i => (i.zero, i.size, i.bytes)) = some (some (.agg #[.int .i64 0, .int .i64 0, .string ⟨#[]⟩]), 3, 32) := by kernel_rfl
section
variable {P : Program} {w : World}
end
theorem vl_one (xs : List Vl) : ∀ u ∈ (xs.map Vl.cells).flatten, u.oneCell' = true := fun u hu => by
 obtain ⟨l, hl, hu⟩ := List.mem_flatten.1 hu
 obtain ⟨t, -, rfl⟩ := List.mem_map.1 hl
 simp [Vl.cells] at hu
 rcases hu with rfl | rfl | rfl <;> rfl
theorem vl_flat (xs : List Vl) : ((xs.map Vl.cells).flatten).length = xs.length * 3 := by
 rw [flat_len (sz := 3) _ (fun c hc => by obtain ⟨t, -, rfl⟩ := List.mem_map.1 hc; rfl), List.length_map]
theorem OwnK.below {w w' : World} {base : Nat} {v : Value} {xs : List Vl} (h : OwnK w base v xs) (hb : Below w.heap.size w w') : OwnK w' base v xs := OwnG.below h hb
theorem OwnK.mono {w : World} {base base' : Nat} {v : Value} {xs : List Vl} (h : OwnK w base v xs) (hb : base' ≤ base) : OwnK w base' v xs := by
 refine ⟨h.1, ?_⟩
 rcases h.2 with h | ⟨g, cap, cur, rfl, h1, h2⟩
 ·exact .inl h
 ·exact .inr ⟨g, cap, cur, rfl, Nat.le_trans hb h1, h2⟩
theorem OwnK.shape {w : World} {base : Nat} {v : Value} {xs : List Vl} (h : OwnK w base v xs) : ∃ A c, v = .slice A xs.length c := by
 rcases h.2 with ⟨rfl, hn⟩ | ⟨g, cap, cur, rfl, -⟩
 ·exact ⟨none, 0, by rw [hn]⟩
 ·exact ⟨_, _, rfl⟩
end Go.Proofs.YteiifabdbkpkiaaGreat
namespace Go.Proofs.YteiifabdbkpkiaaGreat
open Go.RowKit
theorem grown_refl (w : World) (r : Option Nat) : w.grownBy w r := ⟨rfl, rfl, rfl, Nat.le_refl _, fun _ _ _ => rfl⟩
theorem setCells_owns {T : TypeId} {sz base g n cap : Nat} : ∀ (us : List Value) (off : Nat) (w : World) (xs : List Value), w.ownsRow base T sz (.slice (some ⟨g, 0, none⟩) n cap) n xs →
  (w.setCells g off us).ownsRow base T sz (.slice (some ⟨g, 0, none⟩) n cap) n (setAll xs off us) ∧ w.grownBy (w.setCells g off us) (some g)
 | [], off, w, xs, h => ⟨h, grown_refl _ _⟩
 | u :: us, off, w, xs, h => by
  obtain ⟨s1, g1⟩ := h.stored off u
  obtain ⟨s2, g2⟩ := setCells_owns us (off + 1) _ _ s1
  exact ⟨s2, g1.trans g2⟩
def nul : Vl := ⟨0, 0, ⟨#[]⟩⟩
def side (n : Nat) (v : List Vl) : List Vl := v ++ List.replicate (n - v.length) nul
def bothV (n : Nat) (old now : List Vl) : List Vl := side n old ++ side n now
theorem side_len {n : Nat} {v : List Vl} (h : v.length ≤ n) : (side n v).length = n := by unfold side; simp; omega
theorem both_len {n : Nat} {a b : List Vl} (h : a.length ≤ n) (h' : b.length ≤ n) : (bothV n a b).length = 2 * n := by unfold bothV; rw [List.length_append, side_len h, side_len h']; omega
theorem run_copyV {P : Program} (w : World) (dT sT ty elem : TypeId) (b o dLen dCap : Nat) (A : Option Addr) (n c : Nat) (vs : List Vl)
  (hu : P.underlying dT = some (.slice elem)) (hs : (P.info? elem).map (·.size) = some 3) (h : Vals w A n vs) (hn : n ≤ dLen) (hc : ∀ j, j < n * 3 → (w.cell? ⟨b, o + j, none⟩).isSome = true) (hf : ∀ j, j < n * 3 → w.frozen? ⟨b, o + j, none⟩ = false) :
  (Builtin.copy_ #[dT, sT] ty #[.slice (some ⟨b, o, none⟩) dLen dCap, .slice A n c]).run P w = .ok (goInt n) (w.setCells b o ((vs.map Vl.cells).flatten)) := by
 have hl := h.len
 have hlen : ((vs.map Vl.cells).flatten).length = n * 3 := by rw [vl_flat, hl]
 have hst := run_storeCells_cells (P := P) b o ((vs.map Vl.cells).flatten) 0 w (fun j hj => by rw [Nat.add_zero]; exact hc j (by omega)) (fun j hj => by rw [Nat.add_zero]; exact hf j (by omega)) (vl_one vs)
 simp only [Nat.add_zero] at hst
 cases hq : P.info? elem with
 | none => simp [hq] at hs
 | some i =>
  have hi : i.size = 3 := by simpa [hq] using hs
  have hk : Nat.min n dLen = n := Nat.min_eq_left hn
  rcases Nat.eq_zero_or_pos n with rfl | h0
  ·obtain rfl : vs = [] := List.eq_nil_of_length_eq_zero hl
   simp [Builtin.copy_, run_underlying hu, Builtin.lenOf, sizeOf, typeInfo, hq, hk, Builtin.firstCells, World.setCells] at hst ⊢
   cases A <;> simp [loadCells, loadCellsFrom, hst]
  ·obtain ⟨b', off, rfl, -⟩ := h.2.2 h0
   have hfc := run_firstCells_some (P := P) w i.size n ⟨b', off, none⟩ n c ((vs.map Vl.cells).flatten) (by rw [hi]; exact hlen) (Vals.news h rfl)
   simp [Builtin.copy_, run_underlying hu, Builtin.lenOf, sizeOf, typeInfo, hq, hk, hfc, hst]
theorem both_list (n : Nat) (a b : List Vl) (h : a.length ≤ n) (h' : b.length ≤ n) :
  setAll (setAll ((List.replicate (2 * n) nul).map Vl.cells).flatten 0 ((a.map Vl.cells).flatten)) (n * 3) ((b.map Vl.cells).flatten) = ((bothV n a b).map Vl.cells).flatten := by
 have l0 : (((List.replicate (2 * n) nul).map Vl.cells).flatten).length = 2 * n * 3 := by rw [vl_flat]; simp
 have la := vl_flat a
 have lb := vl_flat b
 have hsplit : ((bothV n a b).map Vl.cells).flatten = (a.map Vl.cells).flatten ++ (((List.replicate (n - a.length) nul).map Vl.cells).flatten ++ ((b.map Vl.cells).flatten ++ ((List.replicate (n - b.length) nul).map Vl.cells).flatten)) := by
  unfold bothV side
  simp only [List.map_append, List.flatten_append, List.append_assoc]
 have hrep : ∀ m j, (((List.replicate m nul).map Vl.cells).flatten)[j]? = if j < m * 3 then ([.int .i64 0, .int .i64 0, .string ⟨#[]⟩] : List Value)[j % 3]? else none := by
  intro m
  induction m with
  | zero => intro j; simp
  | succ m ih =>
   intro j
   rw [List.replicate_succ, List.map_cons, List.flatten_cons]
   have h3 : (Vl.cells nul).length = 3 := rfl
   by_cases hj : j < 3
   ·rw [List.getElem?_append_left (by rw [h3]; exact hj), if_pos (by omega), Nat.mod_eq_of_lt hj]; rfl
   ·rw [List.getElem?_append_right (by rw [h3]; omega), h3, ih]
    by_cases hj2 : j < (m + 1) * 3
    ·rw [if_pos (by omega), if_pos hj2]
     congr 1
     omega
    ·rw [if_neg (by omega), if_neg hj2]
 have l1 : ∀ m, (((List.replicate m nul).map Vl.cells).flatten).length = m * 3 := fun m => by rw [vl_flat]; simp
 refine List.ext_getElem? fun j => ?_
 rw [setAll_get _ _ _ _ (by rw [setAll_len, l0, lb]; omega), hsplit]
 by_cases h1 : n * 3 ≤ j ∧ j < n * 3 + ((b.map Vl.cells).flatten).length
 ·rw [if_pos h1, List.getElem?_append_right (by rw [la]; omega), la, List.getElem?_append_right (by rw [l1]; omega), l1, List.getElem?_append_left (by omega)]
  congr 1
  omega
 ·rw [if_neg h1, setAll_get _ _ _ _ (by rw [l0, la]; omega)]
  by_cases h2 : 0 ≤ j ∧ j < 0 + ((a.map Vl.cells).flatten).length
  ·rw [if_pos h2, List.getElem?_append_left (by omega), Nat.sub_zero]
  ·rw [if_neg h2, hrep]
   by_cases h3 : j < n * 3
   ·rw [List.getElem?_append_right (by omega), la, List.getElem?_append_left (by rw [l1]; omega), hrep, if_pos (by omega), if_pos (by omega)]
    congr 1
    omega
   ·rw [List.getElem?_append_right (by omega), la, List.getElem?_append_right (by rw [l1]; omega), l1, List.getElem?_append_right (by omega), lb, hrep]
    by_cases h4 : j < 2 * n * 3
    ·rw [if_pos h4, if_pos (by omega)]
     congr 1
     omega
    ·rw [if_neg h4, if_neg (by omega)]
theorem both_made {w W : World} {n : Nat} {a b : List Vl} (ha : a.length ≤ n) (hb : b.length ≤ n) (hn : 2 * n ≤ 1048576)
  (hW : W = w.alloc (.cells (madeCells #[.int .i64 0, .int .i64 0, .string ⟨#[]⟩] (2 * n * 3)) 66)) :
  OwnK ((W.setCells w.heap.size 0 ((a.map Vl.cells).flatten)).setCells w.heap.size (n * 3) ((b.map Vl.cells).flatten)) w.heap.size (.slice (some ⟨w.heap.size, 0, none⟩) (2 * n) (2 * n)) (bothV n a b) ∧
   Below w.heap.size w ((W.setCells w.heap.size 0 ((a.map Vl.cells).flatten)).setCells w.heap.size (n * 3) ((b.map Vl.cells).flatten)) ∧ Below w.heap.size w (W.setCells w.heap.size 0 ((a.map Vl.cells).flatten)) ∧
   (∀ j, j < 2 * n * 3 → (W.cell? ⟨w.heap.size, j, none⟩).isSome = true) ∧ (∀ j, j < 2 * n * 3 → ((W.setCells w.heap.size 0 ((a.map Vl.cells).flatten)).cell? ⟨w.heap.size, j, none⟩).isSome = true) ∧
   (∀ o, W.frozen? ⟨w.heap.size, o, none⟩ = false) ∧ (∀ o, (W.setCells w.heap.size 0 ((a.map Vl.cells).flatten)).frozen? ⟨w.heap.size, o, none⟩ = false) := by
 have hz := made_flat #[.int .i64 0, .int .i64 0, .string ⟨#[]⟩] (by simp) (2 * n)
 have hz2 : (madeCells #[.int .i64 0, .int .i64 0, .string ⟨#[]⟩] (2 * n * 3)).toList = ((List.replicate (2 * n) nul).map Vl.cells).flatten := by
  rw [List.map_replicate]; exact hz
 have hlen : (((List.replicate (2 * n) nul).map Vl.cells).flatten).length = 2 * n * 3 := by rw [vl_flat]; simp
 have h0 : W.ownsRow w.heap.size 66 3 (.slice (some ⟨w.heap.size, 0, none⟩) (2 * n) (2 * n)) (2 * n) (((List.replicate (2 * n) nul).map Vl.cells).flatten) := by
  refine ⟨hlen, .inr ⟨w.heap.size, 2 * n, _, rfl, Nat.le_refl _, by rw [hW]; exact Go.heap_alloc_last w _, Nat.le_refl _, by unfold maxLen; omega, size_madeCells _ _, ?_⟩⟩
  rw [hz2, List.take_of_length_le (by rw [hlen]; exact Nat.le_refl _)]
 have g0 : Below w.heap.size w W := by rw [hW]; exact (Below.refl w.heap.size w).alloc (Nat.le_refl _) _
 obtain ⟨s1, g1⟩ := setCells_owns ((a.map Vl.cells).flatten) 0 _ _ h0
 obtain ⟨s2, g2⟩ := setCells_owns ((b.map Vl.cells).flatten) (n * 3) _ _ s1
 have b1 := g0.grown g1 g0.size (fun q hq => by cases hq; exact Nat.le_refl _)
 have b2 := b1.grown g2 b1.size (fun q hq => by cases hq; exact Nat.le_refl _)
 refine ⟨?_, b2, b1, fun j hj => ?_, fun j hj => ?_, World.ownsRow.frozenAt h0, World.ownsRow.frozenAt s1⟩
 ·show World.ownsRow _ _ _ _ _ _ _
  rw [both_len ha hb, ← both_list n a b ha hb]
  exact s2
 ·rw [World.ownsRow.cellAt h0 j hj, List.getElem?_eq_getElem (by rw [hlen]; exact hj)]; rfl
 ·rw [World.ownsRow.cellAt s1 j hj, List.getElem?_eq_getElem (by rw [setAll_len, hlen]; exact hj)]; rfl
theorem both_madeD {w W : World} {n : Nat} {a b : List Vl} (ha : a.length ≤ n) (hb : b.length ≤ n) (hn : 2 * n ≤ 1048576)
  (hW : W = w.alloc (.cells (madeCells #[.int .i64 0, .int .i64 0, .string ⟨#[]⟩] (2 * n * 3)) 66)) :
  OwnK ((W.setCells w.heap.size 0 ((a.map Vl.cells).flatten)).drew.setCells w.heap.size (n * 3) ((b.map Vl.cells).flatten)) w.heap.size (.slice (some ⟨w.heap.size, 0, none⟩) (2 * n) (2 * n)) (bothV n a b) ∧
   Below w.heap.size w ((W.setCells w.heap.size 0 ((a.map Vl.cells).flatten)).drew.setCells w.heap.size (n * 3) ((b.map Vl.cells).flatten)) ∧ Below w.heap.size w (W.setCells w.heap.size 0 ((a.map Vl.cells).flatten)) ∧
   (∀ j, j < 2 * n * 3 → (W.cell? ⟨w.heap.size, j, none⟩).isSome = true) ∧ (∀ j, j < 2 * n * 3 → ((W.setCells w.heap.size 0 ((a.map Vl.cells).flatten)).cell? ⟨w.heap.size, j, none⟩).isSome = true) ∧
   (∀ o, W.frozen? ⟨w.heap.size, o, none⟩ = false) ∧ (∀ o, (W.setCells w.heap.size 0 ((a.map Vl.cells).flatten)).frozen? ⟨w.heap.size, o, none⟩ = false) := by
 have hz := made_flat #[.int .i64 0, .int .i64 0, .string ⟨#[]⟩] (by simp) (2 * n)
 have hz2 : (madeCells #[.int .i64 0, .int .i64 0, .string ⟨#[]⟩] (2 * n * 3)).toList = ((List.replicate (2 * n) nul).map Vl.cells).flatten := by
  rw [List.map_replicate]; exact hz
 have hlen : (((List.replicate (2 * n) nul).map Vl.cells).flatten).length = 2 * n * 3 := by rw [vl_flat]; simp
 have h0 : W.ownsRow w.heap.size 66 3 (.slice (some ⟨w.heap.size, 0, none⟩) (2 * n) (2 * n)) (2 * n) (((List.replicate (2 * n) nul).map Vl.cells).flatten) := by
  refine ⟨hlen, .inr ⟨w.heap.size, 2 * n, _, rfl, Nat.le_refl _, by rw [hW]; exact Go.heap_alloc_last w _, Nat.le_refl _, by unfold maxLen; omega, size_madeCells _ _, ?_⟩⟩
  rw [hz2, List.take_of_length_le (by rw [hlen]; exact Nat.le_refl _)]
 have g0 : Below w.heap.size w W := by rw [hW]; exact (Below.refl w.heap.size w).alloc (Nat.le_refl _) _
 obtain ⟨s1, g1⟩ := setCells_owns ((a.map Vl.cells).flatten) 0 _ _ h0
 have s1d : (W.setCells w.heap.size 0 ((a.map Vl.cells).flatten)).drew.ownsRow w.heap.size 66 3 (.slice (some ⟨w.heap.size, 0, none⟩) (2 * n) (2 * n)) (2 * n) _ := s1
 obtain ⟨s2, g2⟩ := setCells_owns ((b.map Vl.cells).flatten) (n * 3) _ _ s1d
 have b1 := g0.grown g1 g0.size (fun q hq => by cases hq; exact Nat.le_refl _)
 have b2 := b1.drew.grown g2 b1.size (fun q hq => by cases hq; exact Nat.le_refl _)
 refine ⟨?_, b2, b1, fun j hj => ?_, fun j hj => ?_, World.ownsRow.frozenAt h0, World.ownsRow.frozenAt s1⟩
 ·show World.ownsRow _ _ _ _ _ _ _
  rw [both_len ha hb, ← both_list n a b ha hb]
  exact s2
 ·rw [World.ownsRow.cellAt h0 j hj, List.getElem?_eq_getElem (by rw [hlen]; exact hj)]; rfl
 ·rw [World.ownsRow.cellAt s1 j hj, List.getElem?_eq_getElem (by rw [setAll_len, hlen]; exact hj)]; rfl
end Go.Proofs.YteiifabdbkpkiaaGreat
