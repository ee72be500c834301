/-
  Contracts of the drawing of schemas, more: DrawColAt.
-/
import Derived.Test.YtjlolfikaahobaaDrawSch2
import Derived.Deep.RegionHeld3
namespace Go.Proofs.Ytjlolfikaahobaa
open Go.RowKit
set_option linter.unusedVariables false
set_option linter.unusedSimpArgs false

/-- A small table, by value. -/
def isTbl (v : Value) (w : World) : Prop := ∃ (ok : Nat → Prop) (cs : List Value) (t : Tb), v = .agg cs.toArray ∧ TbR ok w cs t ∧ t.sz ≤ 1000
theorem Blo.but {w w' : World} {R g : Nat} {xs : List Value} {T : TypeId} (h : Blo w g xs T) (hb : But R w w') (hg : g ≠ R) : Blo w' g xs T := (hb.block g h.lt hg).trans h
theorem Blo.alloc {w : World} {g : Nat} {xs : List Value} {T : TypeId} (h : Blo w g xs T) (o : Obj) : Blo (w.alloc o) g xs T := (Below.heap_alloc _ _ _ h.lt).trans h
theorem Blo.six {w : World} {g : Nat} {x0 x1 x2 x3 x4 x5 : Value} {T : TypeId} (h : Blo w g [x0, x1, x2, x3, x4, x5] T) : (w.cell? ⟨g, 0, none⟩ = some x0 ∧ w.cell? ⟨g, 1, none⟩ = some x1 ∧ w.cell? ⟨g, 2, none⟩ = some x2 ∧ w.cell? ⟨g, 3, none⟩ = some x3 ∧ w.cell? ⟨g, 4, none⟩ = some x4 ∧ w.cell? ⟨g, 5, none⟩ = some x5) ∧
    (w.frozen? ⟨g, 0, none⟩ = false ∧ w.frozen? ⟨g, 1, none⟩ = false ∧ w.frozen? ⟨g, 2, none⟩ = false ∧ w.frozen? ⟨g, 3, none⟩ = false ∧ w.frozen? ⟨g, 4, none⟩ = false ∧ w.frozen? ⟨g, 5, none⟩ = false) :=
  ⟨⟨h.cell 0 _ rfl, h.cell 1 _ rfl, h.cell 2 _ rfl, h.cell 3 _ rfl, h.cell 4 _ rfl, h.cell 5 _ rfl⟩, h.free 0, h.free 1, h.free 2, h.free 3, h.free 4, h.free 5⟩
/-- Six cells that a world holds. -/
abbrev Six (w : World) (g : Nat) (x0 x1 x2 x3 x4 x5 : Value) : Prop := w.cell? ⟨g, 0, none⟩ = some x0 ∧ w.cell? ⟨g, 1, none⟩ = some x1 ∧ w.cell? ⟨g, 2, none⟩ = some x2 ∧ w.cell? ⟨g, 3, none⟩ = some x3 ∧ w.cell? ⟨g, 4, none⟩ = some x4 ∧ w.cell? ⟨g, 5, none⟩ = some x5
theorem Six.hold {w w' : World} {g base : Nat} {x0 x1 x2 x3 x4 x5 : Value} (h : Six w g x0 x1 x2 x3 x4 x5) (hh : Hold base w w') (hg : base ≤ g) : Six w' g x0 x1 x2 x3 x4 x5 := by
  have hl : g < w.heap.size := cell_lt h.1
  have e : ∀ k, w'.cell? ⟨g, k, none⟩ = w.cell? ⟨g, k, none⟩ := fun k => World.cell?_of_block (w := w) (hh.2 g hg hl)
  exact ⟨(e 0).trans h.1, (e 1).trans h.2.1, (e 2).trans h.2.2.1, (e 3).trans h.2.2.2.1, (e 4).trans h.2.2.2.2.1, (e 5).trans h.2.2.2.2.2⟩

theorem Six.box {w : World} {g b : Nat} {x0 x1 x2 x3 x4 x5 : Value} (h : Six w g x0 x1 x2 x3 x4 x5) (hb : b ≠ g) (y0 y1 y2 y3 y4 y5 : Value) : Six ((((((w.setCell ⟨b, 0, none⟩ y0).setCell ⟨b, 1, none⟩ y1).setCell ⟨b, 2, none⟩ y2).setCell ⟨b, 3, none⟩ y3).setCell ⟨b, 4, none⟩ y4).setCell ⟨b, 5, none⟩ y5) g x0 x1 x2 x3 x4 x5 := by
  have e : ∀ (w : World) (i k : Nat) (y : Value), (w.setCell ⟨b, i, none⟩ y).cell? ⟨g, k, none⟩ = w.cell? ⟨g, k, none⟩ := fun w i k y => World.cell?_setCell_other _ _ _ _ (fun e => hb (congrArg Addr.block e))
  simp only [Six, e]
  exact h
theorem Six.alloc {w : World} {g : Nat} {x0 x1 x2 x3 x4 x5 : Value} (h : Six w g x0 x1 x2 x3 x4 x5) (o : Obj) : Six (w.alloc o) g x0 x1 x2 x3 x4 x5 := h.hold (Hold.alloc 0 w o) (Nat.zero_le _)
theorem Hold.set {base : Nat} {w : World} {p : Addr} (hp : p.block < base) (v : Value) : Hold base w (w.setCell p v) := ⟨by simp [World.setCell], fun g hg hl => Below.heap_setCell _ _ _ _ (by omega)⟩
/-- What is there behind the stores into the answer's box. -/
theorem colEnd {w w3 u : World} {base b gc : Nat} {y0 y1 y2 y3 y4 y5 x0 x1 x2 x3 x4 x5 : Value} {T : TypeId} {cs : List Value} {t : Tb} (hB : Blo w3 b [y0, y1, y2, y3, y4, y5] T) (hT : TabY base w3 gc cs t) (h3 : Below b u w3) (h0 : Below b w u) (hb : b < base) :
    Six ((((((w3.setCell ⟨b, 0, none⟩ x0).setCell ⟨b, 1, none⟩ x1).setCell ⟨b, 2, none⟩ x2).setCell ⟨b, 3, none⟩ x3).setCell ⟨b, 4, none⟩ x4).setCell ⟨b, 5, none⟩ x5) b x0 x1 x2 x3 x4 x5 ∧ ∃ ok, TbR ok ((((((w3.setCell ⟨b, 0, none⟩ x0).setCell ⟨b, 1, none⟩ x1).setCell ⟨b, 2, none⟩ x2).setCell ⟨b, 3, none⟩ x3).setCell ⟨b, 4, none⟩ x4).setCell ⟨b, 5, none⟩ x5) cs t ∧ Below b w ((((((w3.setCell ⟨b, 0, none⟩ x0).setCell ⟨b, 1, none⟩ x1).setCell ⟨b, 2, none⟩ x2).setCell ⟨b, 3, none⟩ x3).setCell ⟨b, 4, none⟩ x4).setCell ⟨b, 5, none⟩ x5) := by
  have hS := ((((((hB.put 0 x0).put 1 x1).put 2 x2).put 3 x3).put 4 x4).put 5 x5)
  refine ⟨(show Blo _ b [x0, x1, x2, x3, x4, x5] T from hS).six.1, _, (((((((hT.hold (Hold.set hb x0)).hold (Hold.set hb x1)).hold (Hold.set hb x2)).hold (Hold.set hb x3)).hold (Hold.set hb x4)).hold (Hold.set hb x5)).reads), ?_⟩
  exact (((((((h0.trans h3).setCell (Nat.le_refl _) _).setCell (Nat.le_refl _) _).setCell (Nat.le_refl _) _).setCell (Nat.le_refl _) _).setCell (Nat.le_refl _) _).setCell (Nat.le_refl _) _)
theorem colEndA {w w' : World} {b : Nat} {x0 x1 x2 x3 x4 x5 : Value} {cs : List Value} {t : Tb} (h : Six w' b x0 x1 x2 x3 x4 x5 ∧ ∃ ok, TbR ok w' cs t ∧ Below b w w') (o : Obj) : Six (w'.alloc o) b x0 x1 x2 x3 x4 x5 ∧ ∃ ok, TbR ok (w'.alloc o) cs t ∧ Below b w (w'.alloc o) := by
  obtain ⟨h1, ok, h2, h3⟩ := h
  exact ⟨h1.alloc o, ok, TbR.stays _ _ _ _ _ _ h2 (fun _ h => h) (fun p v _ hc => (World.cell?_of_block (w := w') (Below.heap_alloc _ _ _ (cell_lt hc))).trans hc), h3.alloc (Nat.le_of_lt (cell_lt h1.1)) o⟩
set_option maxRecDepth 100000 in
set_option maxHeartbeats 4000000 in
theorem drawColAt (a : Option Addr) (len cap : Nat) (zs : List Int) (w : World) (h : IsRow .u8 w a len cap zs) :
    Calls Try.prog 8 #[.slice a len cap] w (Drawn (isPair isTbl (isTxt 4)) w) := by
  have bx := Blo.new w [.string ⟨#[]⟩, .slice none 0 0, .slice none 0 0, .slice none 0 0, .slice none 0 0, .slice none 0 0] 34
  have hx := (Below.refl w.heap.size w).alloc (Nat.le_refl _) (.cells #[.string ⟨#[]⟩, .slice none 0 0, .slice none 0 0, .slice none 0 0, .slice none 0 0, .slice none 0 0] 34)
  have hrow := h.below hx
  have h0 := Rdr.new hrow 95
  have b0 := hx.alloc hx.size (.cells #[.slice a len cap, .int .i64 0] 95)
  have bu := bx.alloc (.cells #[.slice a len cap, .int .i64 0] 95)
  go_enter Try.func8, Try.ntmps8
  go_wp2_with fail
  refine (specOpen _ _ _ _).mono ?_
  rintro e w1 ⟨rfl, rfl⟩
  have hsz : (w.alloc (.cells #[.string ⟨#[]⟩, .slice none 0 0, .slice none 0 0, .slice none 0 0, .slice none 0 0, .slice none 0 0] 34)).heap.size = w.heap.size + 1 := by simp
  have hRlt : w.heap.size + 1 < ((w.alloc (.cells #[.string ⟨#[]⟩, .slice none 0 0, .slice none 0 0, .slice none 0 0, .slice none 0 0, .slice none 0 0] 34)).alloc (.cells #[.slice a len cap, .int .i64 0] 95)).heap.size := by simp
  rw [hsz] at h0
  go_wp2_with fail
  generalize (w.alloc (.cells #[.string ⟨#[]⟩, .slice none 0 0, .slice none 0 0, .slice none 0 0, .slice none 0 0, .slice none 0 0] 34)).alloc (.cells #[.slice a len cap, .int .i64 0] 95) = u at *
  refine (rdSchema _ _ a len cap zs h0).mono ?_
  rintro e w2 ⟨v, rfl, hsch, hb, hr⟩
  have hbu : w.heap.size < u.heap.size := by omega
  have hlt2 : w.heap.size + 1 < w2.heap.size := Nat.lt_of_lt_of_le hRlt hb.size
  have hnx : w.heap.size ≠ w.heap.size + 1 := by omega
  obtain ⟨xs, hs, hl0, hl, hm⟩ := hsch
  obtain ⟨x, xs, rfl⟩ : ∃ x l, xs = x :: l := by cases xs with
    | nil => simp at hl0
    | cons x l => exact ⟨x, l, rfl⟩
  obtain ⟨g, ca, rfl, hg, hcell, -, -, -, -⟩ := hs.head
  have hT := hs.2.2 x (List.mem_cons_self ..)
  have hbg : w.heap.size ≠ g := by omega
  obtain ⟨n1, A2, n2, c2, A3, n3, c3, A4, n4, c4, A5, n5, c5, e6, -⟩ := id hT
  have S0 : Six w2 g (.string x.2.2.name) (.slice (some ⟨x.1, 0, none⟩) n1 n1) (.slice A2 n2 c2) (.slice A3 n3 c3) (.slice A4 n4 c4) (.slice A5 n5 c5) := ⟨hcell 0 (.string x.2.2.name) (by rw [e6]; rfl), hcell 1 (.slice (some ⟨x.1, 0, none⟩) n1 n1) (by rw [e6]; rfl), hcell 2 (.slice A2 n2 c2) (by rw [e6]; rfl), hcell 3 (.slice A3 n3 c3) (by rw [e6]; rfl), hcell 4 (.slice A4 n4 c4) (by rw [e6]; rfl), hcell 5 (.slice A5 n5 c5) (by rw [e6]; rfl)⟩
  have B0 := Lib.hid (bu.but hb hnx)
  have B1 := Lib.hid (B0.out.alloc (.cells #[.string ⟨#[107]⟩, .string ⟨#[116]⟩, .string ⟨#[110]⟩, .string ⟨#[120]⟩] 9))
  have S1 := S0.hold (Hold.alloc u.heap.size w2 (.cells #[.string ⟨#[107]⟩, .string ⟨#[116]⟩, .string ⟨#[110]⟩, .string ⟨#[120]⟩] 9)) hg
  have HS0 := Lib.hid S0
  have HS1 := Lib.hid S1
  have HTT := Lib.hid hT
  have HSZ := Lib.hid (hm x (List.mem_cons_self ..))
  have HB := Lib.hid hb
  have HR := Lib.hid hr
  have HA := Lib.hid (hr.alloc (.cells #[.string ⟨#[107]⟩, .string ⟨#[116]⟩, .string ⟨#[110]⟩, .string ⟨#[120]⟩] 9))
  have E6 := Lib.hid e6
  clear S0 S1
  clear hs hcell hT hm hb hr bx hx hrow bu h0 e6 hsz hl0 hl
  go_wp2_with fail
  refine wp_region_noPanic ?_
  refine wp_region_held_drew (S := fun w' => w'.cell? ⟨g, 0, none⟩ = some (.string x.2.2.name) ∧ w'.cell? ⟨g, 1, none⟩ = some (.slice (some ⟨x.1, 0, none⟩) n1 n1) ∧ w'.cell? ⟨g, 2, none⟩ = some (.slice A2 n2 c2) ∧ w'.cell? ⟨g, 3, none⟩ = some (.slice A3 n3 c3) ∧ w'.cell? ⟨g, 4, none⟩ = some (.slice A4 n4 c4) ∧ w'.cell? ⟨g, 5, none⟩ = some (.slice A5 n5 c5)) (by kernel_rfl) HS0.out (fun hHeld => ?_)
  refine wpAnyH_take (i := 0) (v := ?v1) rfl (by kernel_rfl) (by kernel_rfl) (by kernel_rfl) (fun _ _ _ h => h) (Or.inl ⟨by rfl, ?hy1⟩) hHeld ?rest1
  case hy1 => (intro w' hSw; (try dsimp only at hSw); first | (go_simp; done) | (go_simp; with_reducible rfl))
  simp only [Act.put, List.getElem_toArray, List.getElem_cons_zero, List.getElem_cons_succ, List.setIfInBounds_toArray, List.set_cons_zero, List.set_cons_succ]
  refine wpAnyH_take (i := 1) (v := ?v2) rfl (by kernel_rfl) (by kernel_rfl) (by kernel_rfl) (fun _ _ _ h => h) (Or.inl ⟨by rfl, ?hy2⟩) hHeld ?rest2
  case hy2 => (intro w' hSw; (try dsimp only at hSw); first | (go_simp; done) | (go_simp; with_reducible rfl))
  simp only [Act.put, List.getElem_toArray, List.getElem_cons_zero, List.getElem_cons_succ, List.setIfInBounds_toArray, List.set_cons_zero, List.set_cons_succ]
  refine wpAnyH_take (i := 2) (v := ?v3) rfl (by kernel_rfl) (by kernel_rfl) (by kernel_rfl) (fun _ _ _ h => h) (Or.inl ⟨by rfl, ?hy3⟩) hHeld ?rest3
  case hy3 => (intro w' hSw; (try dsimp only at hSw); first | (go_simp; done) | (go_simp; with_reducible rfl))
  simp only [Act.put, List.getElem_toArray, List.getElem_cons_zero, List.getElem_cons_succ, List.setIfInBounds_toArray, List.set_cons_zero, List.set_cons_succ]
  refine wpAnyH_take (i := 4) (v := ?v4) rfl (by kernel_rfl) (by kernel_rfl) (by kernel_rfl) (fun _ _ _ h => h) (Or.inl ⟨by rfl, ?hy4⟩) hHeld ?rest4
  case hy4 => (intro w' hSw; (try dsimp only at hSw); first | (go_simp; done) | (go_simp; with_reducible rfl))
  simp only [Act.put, List.getElem_toArray, List.getElem_cons_zero, List.getElem_cons_succ, List.setIfInBounds_toArray, List.set_cons_zero, List.set_cons_succ]
  refine wpAnyH_ready (rs := [3, 5]) (by kernel_rfl) (by simp) ?_
  refine AllReadyH.cons rfl (fun K hK => ?_) ?_
  · go_simp
    refine hK.out _ _ HS1.out (fun hHeld => ?_)
    clear hK K
    (try simp only [Act.put, List.getElem_toArray, List.getElem_cons_zero, List.getElem_cons_succ, List.setIfInBounds_toArray, List.set_cons_zero, List.set_cons_succ])
    refine wpAnyH_ready (rs := [5]) (by kernel_rfl) (by simp) ?_
    refine AllReadyH.cons rfl (fun K hK => ?_) AllReadyH.nil
    go_simp
    go_at_call 28
    refine (rdBelow _ _ _ a len cap zs (rdr_drewY HA.out)).mono ?_
    rintro e w3 ⟨z, rfl, ⟨y, rfl, y0, y1⟩, hb3', hr3⟩
    have hb3 := but_undrewY hb3'
    obtain ⟨k, rfl, k6, t, k0, k1, ht, hc⟩ := four_cell y0 y1 (a := ⟨#[107]⟩) (b := ⟨#[116]⟩) (c := ⟨#[110]⟩) (d := ⟨#[120]⟩) (by decide) (by decide) (by decide) (by decide)
    have hl4 := four_l hc
    have c0 := (new_cell hb3 hlt2 k (by simpa using k6)).trans (row_at hc)
    have HQ := Lib.hid (HS1.out.hold (Hold.but hb3 hRlt) hg)
    have B3 := Lib.hid (B1.out.but hb3 hnx)
    have HT3 := Lib.hid (HTT.out.hold ((Hold.alloc u.heap.size w2 (.cells #[.string ⟨#[107]⟩, .string ⟨#[116]⟩, .string ⟨#[110]⟩, .string ⟨#[120]⟩] 9)).trans (Hold.but hb3 hRlt)))
    have HB3 := Lib.hid ((HB.out.alloc (.cells #[.string ⟨#[107]⟩, .string ⟨#[116]⟩, .string ⟨#[110]⟩, .string ⟨#[120]⟩] 9)).trans hb3)
    clear hb3 hb3' hr3
    obtain ⟨⟨r0, r1, r2, r3, r4, r5⟩, ⟨f0, f1, f2, f3, f4, f5⟩⟩ := B3.out.six
    refine hK.out _ _ HQ.out (fun hHeld => ?_)
    clear hK K
    (try simp only [Act.put, List.getElem_toArray, List.getElem_cons_zero, List.getElem_cons_succ, List.setIfInBounds_toArray, List.set_cons_zero, List.set_cons_succ])
    refine wpAnyH_take (i := 6) (v := ?v5) rfl (by kernel_rfl) (by kernel_rfl) (by kernel_rfl) (fun _ _ _ h => h) (Or.inl ⟨by rfl, ?hy5⟩) hHeld ?rest5
    case hy5 => (intro w' hSw; (try dsimp only at hSw); first | (go_simp; done) | (go_simp; with_reducible rfl))
    simp only [Act.put, List.getElem_toArray, List.getElem_cons_zero, List.getElem_cons_succ, List.setIfInBounds_toArray, List.set_cons_zero, List.set_cons_succ]
    refine wpAnyH_ready (rs := [7, 8]) (by kernel_rfl) (by simp) ?_
    refine AllReadyH.cons rfl (fun K hK => ?_) ?_
    · go_simp
      refine hK.out _ _ HQ.out (fun hHeld => ?_)
      clear hK K
      (try simp only [Act.put, List.getElem_toArray, List.getElem_cons_zero, List.getElem_cons_succ, List.setIfInBounds_toArray, List.set_cons_zero, List.set_cons_succ])
      refine wpAnyH_ready (rs := [8]) (by kernel_rfl) (by simp) ?_
      refine AllReadyH.cons rfl (fun K hK => ?_) AllReadyH.nil
      go_simp
      refine hK.out _ _ (HQ.out.box hbg _ _ _ _ _ _) (fun hHeld => ?_)
      clear hK K
      (try simp only [Act.put, List.getElem_toArray, List.getElem_cons_zero, List.getElem_cons_succ, List.setIfInBounds_toArray, List.set_cons_zero, List.set_cons_succ])
      refine wpAnyH_take (i := 9) (v := ?v6) rfl (by kernel_rfl) (by kernel_rfl) (by kernel_rfl) (fun _ _ _ h => h) (Or.inl ⟨by rfl, ?hy6⟩) hHeld ?rest6
      case hy6 => (intro w' hSw; (try dsimp only at hSw); first | (go_simp; done) | (go_simp; with_reducible rfl))
      simp only [Act.put, List.getElem_toArray, List.getElem_cons_zero, List.getElem_cons_succ, List.setIfInBounds_toArray, List.set_cons_zero, List.set_cons_succ]
      refine wpAnyH_done (by kernel_rfl) ?_ _
      refine NoPanic.normal ?_
      clear hHeld
      obtain ⟨⟨z0, z1, z2, z3, z4, z5⟩, ok, hTb, hBw⟩ := colEnd B3.out HT3.out (HB3.out.below (Nat.le_succ _) (by omega)) b0 hbu
      rw [E6.out] at hTb
      have HF := Lib.hid (show Drawn (isPair isTbl (isTxt 4)) w (.returned (.tuple #[.agg #[.string x.2.2.name, .slice (some ⟨x.1, 0, none⟩) n1 n1, .slice A2 n2 c2, .slice A3 n3 c3, .slice A4 n4 c4, .slice A5 n5 c5], .string t])) _ from ⟨_, rfl, ⟨_, _, rfl, ⟨ok, _, _, rfl, hTb, by have := HSZ.out; omega⟩, ⟨_, rfl, ht⟩⟩, hBw⟩)
      clear hTb hBw
      go_wp2_with fail
      refine bodyPost_ret (v := .tuple #[.agg #[.string x.2.2.name, .slice (some ⟨x.1, 0, none⟩) n1 n1, .slice A2 n2 c2, .slice A3 n3 c3, .slice A4 n4 c4, .slice A5 n5 c5], .string t]) ?_ rfl HF.out
      simp [results, Try.results8, go_sem, z0, z1, z2, z3, z4, z5]
    refine AllReadyH.cons rfl (fun K hK => ?_) AllReadyH.nil
    go_simp
    refine hK.out _ _ (HQ.out.box hbg _ _ _ _ _ _) (fun hHeld => ?_)
    clear hK K
    (try simp only [Act.put, List.getElem_toArray, List.getElem_cons_zero, List.getElem_cons_succ, List.setIfInBounds_toArray, List.set_cons_zero, List.set_cons_succ])
    refine wpAnyH_ready (rs := [7]) (by kernel_rfl) (by simp) ?_
    refine AllReadyH.cons rfl (fun K hK => ?_) AllReadyH.nil
    go_simp
    refine hK.out _ _ (HQ.out.box hbg _ _ _ _ _ _) (fun hHeld => ?_)
    clear hK K
    (try simp only [Act.put, List.getElem_toArray, List.getElem_cons_zero, List.getElem_cons_succ, List.setIfInBounds_toArray, List.set_cons_zero, List.set_cons_succ])
    refine wpAnyH_take (i := 9) (v := ?v7) rfl (by kernel_rfl) (by kernel_rfl) (by kernel_rfl) (fun _ _ _ h => h) (Or.inl ⟨by rfl, ?hy7⟩) hHeld ?rest7
    case hy7 => (intro w' hSw; (try dsimp only at hSw); first | (go_simp; done) | (go_simp; with_reducible rfl))
    simp only [Act.put, List.getElem_toArray, List.getElem_cons_zero, List.getElem_cons_succ, List.setIfInBounds_toArray, List.set_cons_zero, List.set_cons_succ]
    refine wpAnyH_done (by kernel_rfl) ?_ _
    refine NoPanic.normal ?_
    clear hHeld
    obtain ⟨⟨z0, z1, z2, z3, z4, z5⟩, ok, hTb, hBw⟩ := colEnd B3.out HT3.out (HB3.out.below (Nat.le_succ _) (by omega)) b0 hbu
    rw [E6.out] at hTb
    have HF := Lib.hid (show Drawn (isPair isTbl (isTxt 4)) w (.returned (.tuple #[.agg #[.string x.2.2.name, .slice (some ⟨x.1, 0, none⟩) n1 n1, .slice A2 n2 c2, .slice A3 n3 c3, .slice A4 n4 c4, .slice A5 n5 c5], .string t])) _ from ⟨_, rfl, ⟨_, _, rfl, ⟨ok, _, _, rfl, hTb, by have := HSZ.out; omega⟩, ⟨_, rfl, ht⟩⟩, hBw⟩)
    clear hTb hBw
    go_wp2_with fail
    refine bodyPost_ret (v := .tuple #[.agg #[.string x.2.2.name, .slice (some ⟨x.1, 0, none⟩) n1 n1, .slice A2 n2 c2, .slice A3 n3 c3, .slice A4 n4 c4, .slice A5 n5 c5], .string t]) ?_ rfl HF.out
    simp [results, Try.results8, go_sem, z0, z1, z2, z3, z4, z5]
  refine AllReadyH.cons rfl (fun K hK => ?_) AllReadyH.nil
  go_simp
  go_at_call 28
  refine (rdBelow _ _ _ a len cap zs (rdr_drewY HR.out)).mono ?_
  rintro e w3 ⟨z, rfl, ⟨y, rfl, y0, y1⟩, hb3', hr3⟩
  have hb3 := but_undrewY hb3'
  obtain ⟨k, rfl, k6, t, k0, k1, ht, hc⟩ := four_cell y0 y1 (a := ⟨#[107]⟩) (b := ⟨#[116]⟩) (c := ⟨#[110]⟩) (d := ⟨#[120]⟩) (by decide) (by decide) (by decide) (by decide)
  have hl4 := four_l hc
  have hlt3 : w.heap.size + 1 < w3.heap.size := Nat.lt_of_lt_of_le hlt2 hb3.size
  have HQ := Lib.hid (HS0.out.hold (Hold.but hb3 hRlt) hg)
  have B3 := Lib.hid (B0.out.but hb3 hnx)
  have HT3 := Lib.hid (HTT.out.hold (Hold.but hb3 hRlt))
  have HB3 := Lib.hid (HB.out.trans hb3)
  clear hb3 hb3' hr3
  obtain ⟨⟨r0, r1, r2, r3, r4, r5⟩, ⟨f0, f1, f2, f3, f4, f5⟩⟩ := B3.out.six
  refine hK.out _ _ HQ.out (fun hHeld => ?_)
  clear hK K
  (try simp only [Act.put, List.getElem_toArray, List.getElem_cons_zero, List.getElem_cons_succ, List.setIfInBounds_toArray, List.set_cons_zero, List.set_cons_succ])
  refine wpAnyH_ready (rs := [3, 8]) (by kernel_rfl) (by simp) ?_
  refine AllReadyH.cons rfl (fun K hK => ?_) ?_
  · go_simp
    replace HQ := Lib.hid (HQ.out.alloc (.cells #[.string ⟨#[107]⟩, .string ⟨#[116]⟩, .string ⟨#[110]⟩, .string ⟨#[120]⟩] 9))
    replace B3 := Lib.hid (B3.out.alloc (.cells #[.string ⟨#[107]⟩, .string ⟨#[116]⟩, .string ⟨#[110]⟩, .string ⟨#[120]⟩] 9))
    replace HT3 := Lib.hid (HT3.out.hold (Hold.alloc u.heap.size w3 (.cells #[.string ⟨#[107]⟩, .string ⟨#[116]⟩, .string ⟨#[110]⟩, .string ⟨#[120]⟩] 9)))
    replace HB3 := Lib.hid (HB3.out.alloc (.cells #[.string ⟨#[107]⟩, .string ⟨#[116]⟩, .string ⟨#[110]⟩, .string ⟨#[120]⟩] 9))
    clear r0 r1 r2 r3 r4 r5 f0 f1 f2 f3 f4 f5
    obtain ⟨⟨r0, r1, r2, r3, r4, r5⟩, ⟨f0, f1, f2, f3, f4, f5⟩⟩ := B3.out.six
    refine hK.out _ _ HQ.out (fun hHeld => ?_)
    clear hK K
    (try simp only [Act.put, List.getElem_toArray, List.getElem_cons_zero, List.getElem_cons_succ, List.setIfInBounds_toArray, List.set_cons_zero, List.set_cons_succ])
    refine wpAnyH_take (i := 6) (v := ?v8) rfl (by kernel_rfl) (by kernel_rfl) (by kernel_rfl) (fun _ _ _ h => h) (Or.inl ⟨by rfl, ?hy8⟩) hHeld ?rest8
    case hy8 => (intro w' hSw; (try dsimp only at hSw); first | (go_simp; done) | (go_simp; with_reducible rfl))
    simp only [Act.put, List.getElem_toArray, List.getElem_cons_zero, List.getElem_cons_succ, List.setIfInBounds_toArray, List.set_cons_zero, List.set_cons_succ]
    refine wpAnyH_ready (rs := [7, 8]) (by kernel_rfl) (by simp) ?_
    refine AllReadyH.cons rfl (fun K hK => ?_) ?_
    · go_simp
      refine hK.out _ _ HQ.out (fun hHeld => ?_)
      clear hK K
      (try simp only [Act.put, List.getElem_toArray, List.getElem_cons_zero, List.getElem_cons_succ, List.setIfInBounds_toArray, List.set_cons_zero, List.set_cons_succ])
      refine wpAnyH_ready (rs := [8]) (by kernel_rfl) (by simp) ?_
      refine AllReadyH.cons rfl (fun K hK => ?_) AllReadyH.nil
      go_simp
      refine hK.out _ _ (HQ.out.box hbg _ _ _ _ _ _) (fun hHeld => ?_)
      clear hK K
      (try simp only [Act.put, List.getElem_toArray, List.getElem_cons_zero, List.getElem_cons_succ, List.setIfInBounds_toArray, List.set_cons_zero, List.set_cons_succ])
      refine wpAnyH_take (i := 9) (v := ?v9) rfl (by kernel_rfl) (by kernel_rfl) (by kernel_rfl) (fun _ _ _ h => h) (Or.inl ⟨by rfl, ?hy9⟩) hHeld ?rest9
      case hy9 => (intro w' hSw; (try dsimp only at hSw); first | (go_simp; done) | (go_simp; with_reducible rfl))
      simp only [Act.put, List.getElem_toArray, List.getElem_cons_zero, List.getElem_cons_succ, List.setIfInBounds_toArray, List.set_cons_zero, List.set_cons_succ]
      refine wpAnyH_done (by kernel_rfl) ?_ _
      refine NoPanic.normal ?_
      clear hHeld
      obtain ⟨⟨z0, z1, z2, z3, z4, z5⟩, ok, hTb, hBw⟩ := colEnd B3.out HT3.out (HB3.out.below (Nat.le_succ _) (by omega)) b0 hbu
      rw [E6.out] at hTb
      have HF := Lib.hid (show Drawn (isPair isTbl (isTxt 4)) w (.returned (.tuple #[.agg #[.string x.2.2.name, .slice (some ⟨x.1, 0, none⟩) n1 n1, .slice A2 n2 c2, .slice A3 n3 c3, .slice A4 n4 c4, .slice A5 n5 c5], .string t])) _ from ⟨_, rfl, ⟨_, _, rfl, ⟨ok, _, _, rfl, hTb, by have := HSZ.out; omega⟩, ⟨_, rfl, ht⟩⟩, hBw⟩)
      clear hTb hBw
      go_wp2_with fail
      refine bodyPost_ret (v := .tuple #[.agg #[.string x.2.2.name, .slice (some ⟨x.1, 0, none⟩) n1 n1, .slice A2 n2 c2, .slice A3 n3 c3, .slice A4 n4 c4, .slice A5 n5 c5], .string t]) ?_ rfl HF.out
      simp [results, Try.results8, go_sem, z0, z1, z2, z3, z4, z5]
    refine AllReadyH.cons rfl (fun K hK => ?_) AllReadyH.nil
    go_simp
    refine hK.out _ _ (HQ.out.box hbg _ _ _ _ _ _) (fun hHeld => ?_)
    clear hK K
    (try simp only [Act.put, List.getElem_toArray, List.getElem_cons_zero, List.getElem_cons_succ, List.setIfInBounds_toArray, List.set_cons_zero, List.set_cons_succ])
    refine wpAnyH_ready (rs := [7]) (by kernel_rfl) (by simp) ?_
    refine AllReadyH.cons rfl (fun K hK => ?_) AllReadyH.nil
    go_simp
    refine hK.out _ _ (HQ.out.box hbg _ _ _ _ _ _) (fun hHeld => ?_)
    clear hK K
    (try simp only [Act.put, List.getElem_toArray, List.getElem_cons_zero, List.getElem_cons_succ, List.setIfInBounds_toArray, List.set_cons_zero, List.set_cons_succ])
    refine wpAnyH_take (i := 9) (v := ?v10) rfl (by kernel_rfl) (by kernel_rfl) (by kernel_rfl) (fun _ _ _ h => h) (Or.inl ⟨by rfl, ?hy10⟩) hHeld ?rest10
    case hy10 => (intro w' hSw; (try dsimp only at hSw); first | (go_simp; done) | (go_simp; with_reducible rfl))
    simp only [Act.put, List.getElem_toArray, List.getElem_cons_zero, List.getElem_cons_succ, List.setIfInBounds_toArray, List.set_cons_zero, List.set_cons_succ]
    refine wpAnyH_done (by kernel_rfl) ?_ _
    refine NoPanic.normal ?_
    clear hHeld
    obtain ⟨⟨z0, z1, z2, z3, z4, z5⟩, ok, hTb, hBw⟩ := colEnd B3.out HT3.out (HB3.out.below (Nat.le_succ _) (by omega)) b0 hbu
    rw [E6.out] at hTb
    have HF := Lib.hid (show Drawn (isPair isTbl (isTxt 4)) w (.returned (.tuple #[.agg #[.string x.2.2.name, .slice (some ⟨x.1, 0, none⟩) n1 n1, .slice A2 n2 c2, .slice A3 n3 c3, .slice A4 n4 c4, .slice A5 n5 c5], .string t])) _ from ⟨_, rfl, ⟨_, _, rfl, ⟨ok, _, _, rfl, hTb, by have := HSZ.out; omega⟩, ⟨_, rfl, ht⟩⟩, hBw⟩)
    clear hTb hBw
    go_wp2_with fail
    refine bodyPost_ret (v := .tuple #[.agg #[.string x.2.2.name, .slice (some ⟨x.1, 0, none⟩) n1 n1, .slice A2 n2 c2, .slice A3 n3 c3, .slice A4 n4 c4, .slice A5 n5 c5], .string t]) ?_ rfl HF.out
    simp [results, Try.results8, go_sem, z0, z1, z2, z3, z4, z5]
  refine AllReadyH.cons rfl (fun K hK => ?_) AllReadyH.nil
  go_simp
  refine hK.out _ _ (HQ.out.box hbg _ _ _ _ _ _) (fun hHeld => ?_)
  clear hK K
  (try simp only [Act.put, List.getElem_toArray, List.getElem_cons_zero, List.getElem_cons_succ, List.setIfInBounds_toArray, List.set_cons_zero, List.set_cons_succ])
  refine wpAnyH_ready (rs := [3]) (by kernel_rfl) (by simp) ?_
  refine AllReadyH.cons rfl (fun K hK => ?_) AllReadyH.nil
  go_simp
  refine hK.out _ _ ((HQ.out.box hbg _ _ _ _ _ _).alloc _) (fun hHeld => ?_)
  clear hK K
  (try simp only [Act.put, List.getElem_toArray, List.getElem_cons_zero, List.getElem_cons_succ, List.setIfInBounds_toArray, List.set_cons_zero, List.set_cons_succ])
  refine wpAnyH_take (i := 6) (v := ?v11) rfl (by kernel_rfl) (by kernel_rfl) (by kernel_rfl) (fun _ _ _ h => h) (Or.inl ⟨by rfl, ?hy11⟩) hHeld ?rest11
  case hy11 => (intro w' hSw; (try dsimp only at hSw); first | (go_simp; done) | (go_simp; with_reducible rfl))
  simp only [Act.put, List.getElem_toArray, List.getElem_cons_zero, List.getElem_cons_succ, List.setIfInBounds_toArray, List.set_cons_zero, List.set_cons_succ]
  refine wpAnyH_ready (rs := [7]) (by kernel_rfl) (by simp) ?_
  refine AllReadyH.cons rfl (fun K hK => ?_) AllReadyH.nil
  go_simp
  refine hK.out _ _ ((HQ.out.box hbg _ _ _ _ _ _).alloc _) (fun hHeld => ?_)
  clear hK K
  (try simp only [Act.put, List.getElem_toArray, List.getElem_cons_zero, List.getElem_cons_succ, List.setIfInBounds_toArray, List.set_cons_zero, List.set_cons_succ])
  refine wpAnyH_take (i := 9) (v := ?v12) rfl (by kernel_rfl) (by kernel_rfl) (by kernel_rfl) (fun _ _ _ h => h) (Or.inl ⟨by rfl, ?hy12⟩) hHeld ?rest12
  case hy12 => (intro w' hSw; (try dsimp only at hSw); first | (go_simp; done) | (go_simp; with_reducible rfl))
  simp only [Act.put, List.getElem_toArray, List.getElem_cons_zero, List.getElem_cons_succ, List.setIfInBounds_toArray, List.set_cons_zero, List.set_cons_succ]
  refine wpAnyH_done (by kernel_rfl) ?_ _
  refine NoPanic.normal ?_
  clear hHeld
  obtain ⟨⟨z0, z1, z2, z3, z4, z5⟩, ok, hTb, hBw⟩ := colEndA (colEnd B3.out HT3.out (HB3.out.below (Nat.le_succ _) (by omega)) b0 hbu) (.cells #[.string ⟨#[107]⟩, .string ⟨#[116]⟩, .string ⟨#[110]⟩, .string ⟨#[120]⟩] 9)
  rw [E6.out] at hTb
  have HF := Lib.hid (show Drawn (isPair isTbl (isTxt 4)) w (.returned (.tuple #[.agg #[.string x.2.2.name, .slice (some ⟨x.1, 0, none⟩) n1 n1, .slice A2 n2 c2, .slice A3 n3 c3, .slice A4 n4 c4, .slice A5 n5 c5], .string t])) _ from ⟨_, rfl, ⟨_, _, rfl, ⟨ok, _, _, rfl, hTb, by have := HSZ.out; omega⟩, ⟨_, rfl, ht⟩⟩, hBw⟩)
  clear hTb hBw
  go_wp2_with fail
  refine bodyPost_ret (v := .tuple #[.agg #[.string x.2.2.name, .slice (some ⟨x.1, 0, none⟩) n1 n1, .slice A2 n2 c2, .slice A3 n3 c3, .slice A4 n4 c4, .slice A5 n5 c5], .string t]) ?_ rfl HF.out
  simp [results, Try.results8, go_sem, z0, z1, z2, z3, z4, z5]
end Go.Proofs.Ytjlolfikaahobaa
