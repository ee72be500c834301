/-
  Disks that a call makes: copies of lists, Sync.
-/
import Derived.Test.YtkinegapnknhiaaDiskOkImpl
namespace Go.Proofs.Ytkinegapnknhiaa
open Go.RowKit
set_option linter.unusedVariables false
set_option linter.unusedSimpArgs false

def OwnO (w : World) (base : Nat) (v : Value) (xs : List Oz) : Prop := OwnG 36 4 Oz.cells w base v xs
theorem oz_cells (d : Oz) : (Oz.cells d).length = 4 := rfl
theorem fz_one : ∀ x, ∀ u ∈ Fz.cells x, u.oneCell' = true := by intro x u hu; simp [Fz.cells] at hu; rcases hu with rfl | rfl <;> rfl
theorem oz_one : ∀ x, ∀ u ∈ Oz.cells x, u.oneCell' = true := by intro x u hu; simp [Oz.cells] at hu; rcases hu with rfl | rfl | rfl | rfl <;> rfl
theorem OwnO.sl {w : World} {base : Nat} {v : Value} {xs : List Oz} (h : OwnO w base v xs) : ∃ A c, v = .slice A xs.length c ∧ xs.length ≤ c ∧ c ≤ maxLen ∧ Sl OzR 4 (okF base w) w A xs.length xs := OwnG.sl oz_cells h
/-- No block is both's. -/
def Dis (v u : Value) : Prop := ∀ k, v.ownBlock = some k → u.ownBlock ≠ some k
theorem Dis.symm {v u : Value} (h : Dis v u) : Dis u v := fun k hk e => h k e hk
section
variable {α β : Type} {T T' : TypeId} {sz sz' : Nat} {f : α → List Value} {f' : β → List Value}
theorem Dis.ne {v u : Value} (h : Dis v u) : v.ownBlock = none ∨ v.ownBlock ≠ u.ownBlock := by
  cases e : v.ownBlock with
  | none => exact .inl rfl
  | some k => exact .inr fun e' => h k e e'.symm
theorem Dis.fresh {w : World} {base : Nat} {u : Value} {xs : List α} (h : OwnG T sz f w base u xs) (n c : Nat) : Dis (.slice (some ⟨w.heap.size, 0, none⟩) n c) u := fun k hk e => by
  have e' : w.heap.size = k := by simpa [Value.ownBlock] using hk
  have := (OwnG.block_lt h k e).2
  omega
theorem Dis.app {w : World} {base : Nat} {v v' u : Value} {xs : List α} (h : OwnG T sz f w base u xs) (hd : Dis v u) (hl : v'.ownBlock = v.ownBlock ∨ ∃ g, v'.ownBlock = some g ∧ w.heap.size ≤ g) : Dis v' u := fun k hk e => by
  rcases hl with e' | ⟨g, e', hg⟩
  · exact hd k (e' ▸ hk) e
  · rw [hk] at e'
    have := (OwnG.block_lt h k e).2
    injection e' with e'
    omega
theorem Dis.nil (u : Value) (n c : Nat) : Dis (.slice none n c) u := fun k hk => by cases hk
theorem OwnG.keptD {w w' : World} {base : Nat} {v u : Value} {xs : List α} (h : OwnG T sz f w base u xs) (hg : w.grownBy w' v.ownBlock) (hd : Dis v u) : OwnG T sz f w' base u xs := World.ownsRow.kept h hg hd.symm.ne
end
/-- A disk in blocks of a call's own, its lists apart. -/
def DzA (w : World) (base : Nat) (v : Value) (x : Dz) : Prop := ∃ v0 v1 v2, v = .agg #[v0, v1, v2] ∧ OwnZ w base v0 x.live ∧ OwnZ w base v1 x.safe ∧ OwnO w base v2 x.ops ∧ Dis v0 v1
theorem DzA.nil (w : World) (base : Nat) : DzA w base (.agg #[.slice none 0 0, .slice none 0 0, .slice none 0 0]) ⟨[], [], []⟩ := ⟨_, _, _, rfl, OwnG.nil _ _, OwnG.nil _ _, OwnG.nil _ _, Dis.nil _ _ _⟩
theorem OwnO.mono {w : World} {base base' : Nat} {v : Value} {xs : List Oz} (h : OwnO w base v xs) (hb : base' ≤ base) : OwnO w base' v xs := by
  refine ⟨h.1, ?_⟩
  rcases h.2 with h | ⟨g, cap, cur, rfl, h1, h2⟩
  · exact .inl h
  · exact .inr ⟨g, cap, cur, rfl, Nat.le_trans hb h1, h2⟩
theorem OwnG.set {α : Type} {T : TypeId} {sz : Nat} {f : α → List Value} {w : World} {base : Nat} {v : Value} {xs : List α} (h : OwnG T sz f w base v xs) {p : Addr} (hp : p.block < base) (u : Value) : OwnG T sz f (w.setCell p u) base v xs := ownsRow_setCell_below h hp u
theorem DzA.set {w : World} {base : Nat} {v : Value} {x : Dz} (h : DzA w base v x) {p : Addr} (hp : p.block < base) (u : Value) : DzA (w.setCell p u) base v x := by
  obtain ⟨v0, v1, v2, e, h0, h1, h2, hd⟩ := h
  exact ⟨v0, v1, v2, e, OwnG.set h0 hp u, OwnG.set h1 hp u, OwnG.set h2 hp u, hd⟩
theorem DzA.mono {w : World} {base base' : Nat} {v : Value} {x : Dz} (h : DzA w base v x) (hb : base' ≤ base) : DzA w base' v x := by
  obtain ⟨v0, v1, v2, e, h0, h1, h2, hd⟩ := h
  exact ⟨v0, v1, v2, e, OwnZ.mono h0 hb, OwnZ.mono h1 hb, OwnO.mono h2 hb, hd⟩
theorem DzA.below {w w' : World} {base : Nat} {v : Value} {x : Dz} (h : DzA w base v x) (hb : Below w.heap.size w w') : DzA w' base v x := by
  obtain ⟨v0, v1, v2, e, h0, h1, h2, hd⟩ := h
  exact ⟨v0, v1, v2, e, OwnG.below h0 hb, OwnG.below h1 hb, OwnG.below h2 hb, hd⟩
theorem infoDisk : (Try.prog.info? 27).map (·.size) = some 3 := by kernel_rfl

set_option maxRecDepth 100000 in
theorem implCloneFiles (A : Option Addr) (n c : Nat) (l : List Fz) (ok : Nat → Prop) (w : World) (h : Sl FzR 2 ok w A n l) (hn : n ≤ 1048576) :
    Calls Try.prog 86 #[.slice A n c] w fun e w' => (∃ v, e = .returned v ∧ OwnZ w' w.heap.size v l) ∧ Below w.heap.size w w' := by
  obtain rfl : l.length = n := h.1
  obtain ⟨i0, hi, hz0, hz1, hz2⟩ := info_parts infoFileT
  have H1 := Lib.hid hi
  have H2 := Lib.hid hz0
  have H3 := Lib.hid hz1
  have H4 := Lib.hid hz2
  clear hi hz0 hz1 hz2
  cases A with
  | none =>
    have hl : l = [] := List.eq_nil_of_length_eq_zero (by
      rcases Nat.eq_zero_or_pos l.length with h0 | h0
      · exact h0
      · obtain ⟨b, off, e, -⟩ := h.2 h0; cases e)
    subst hl
    have hq := fun w => Lib.run_eql_slice_nil (P := Try.prog) w 24 75 none 0 c 0 0 Try.underlying24
    go_enter Try.func86, Try.ntmps86
    go_wp2
    go_ret
    exact ⟨⟨_, rfl, OwnG.nil _ _⟩, Below.refl _ _⟩
  | some p =>
    have ho0 := Lib.hid (OwnG.lit (T := 75) (sz := 2) (f := Fz.cells) w (Nat.le_refl w.heap.size))
    have HX := Lib.hid ((Below.refl w.heap.size w).alloc (Nat.le_refl _) (.cells #[] 75))
    have hs2 := h.below FzR.stays HX.out
    have hq := fun w => Lib.run_eql_slice_nil (P := Try.prog) w 24 75 (some p) l.length c 0 0 Try.underlying24
    go_enter Try.func86, Try.ntmps86
    go_wp2_with (at_builtin; refine wpList_app_all rfl _ _ 24 rfl fz_cells fz_one (by omega) Try.underlying24 H1.out H2.out H3.out H4.out rfl _ rfl ho0.out (by simp) rfl hs2 (by omega) (by omega) ?_)
    intro v9 w9 hown9 hgrow9 hloc9
    have HR := Lib.hid (And.intro (show ∃ v, Ending.returned v9 = .returned v ∧ OwnZ w9 w.heap.size v l from ⟨v9, rfl, hown9⟩) (HX.out.grown hgrow9 (by simp) (fun k hk => (OwnG.block_lt ho0.out k hk).1)))
    clear hown9 hgrow9 hloc9
    go_wp2_with fail
    go_ret
    exact HR.out

set_option maxRecDepth 100000 in
theorem implCloneDOps (A : Option Addr) (n c : Nat) (l : List Oz) (ok : Nat → Prop) (w : World) (h : Sl OzR 4 ok w A n l) (hn : n ≤ 1048576) :
    Calls Try.prog 91 #[.slice A n c] w fun e w' => (∃ v, e = .returned v ∧ OwnO w' w.heap.size v l) ∧ Below w.heap.size w w' := by
  obtain rfl : l.length = n := h.1
  obtain ⟨j0, hi, hz0, hz1, hz2⟩ := info_parts infoDOpT
  have J1 := Lib.hid hi
  have J2 := Lib.hid hz0
  have J3 := Lib.hid hz1
  have J4 := Lib.hid hz2
  clear hi hz0 hz1 hz2
  cases A with
  | none =>
    have hl : l = [] := List.eq_nil_of_length_eq_zero (by
      rcases Nat.eq_zero_or_pos l.length with h0 | h0
      · exact h0
      · obtain ⟨b, off, e, -⟩ := h.2 h0; cases e)
    subst hl
    have hq := fun w => Lib.run_eql_slice_nil (P := Try.prog) w 25 36 none 0 c 0 0 Try.underlying25
    go_enter Try.func91, Try.ntmps91
    go_wp2
    go_ret
    exact ⟨⟨_, rfl, OwnG.nil _ _⟩, Below.refl _ _⟩
  | some p =>
    have ho0 := Lib.hid (OwnG.lit (T := 36) (sz := 4) (f := Oz.cells) w (Nat.le_refl w.heap.size))
    have HX := Lib.hid ((Below.refl w.heap.size w).alloc (Nat.le_refl _) (.cells #[] 36))
    have hs2 := h.below OzR.stays HX.out
    have hq := fun w => Lib.run_eql_slice_nil (P := Try.prog) w 25 36 (some p) l.length c 0 0 Try.underlying25
    go_enter Try.func91, Try.ntmps91
    go_wp2_with (at_builtin; refine wpList_app_all rfl _ _ 25 rfl oz_cells oz_one (by omega) Try.underlying25 J1.out J2.out J3.out J4.out rfl _ rfl ho0.out (by simp) rfl hs2 (by omega) (by omega) ?_)
    intro v9 w9 hown9 hgrow9 hloc9
    have HR := Lib.hid (And.intro (show ∃ v, Ending.returned v9 = .returned v ∧ OwnO w9 w.heap.size v l from ⟨v9, rfl, hown9⟩) (HX.out.grown hgrow9 (by simp) (fun k hk => (OwnG.block_lt ho0.out k hk).1)))
    clear hown9 hgrow9 hloc9
    go_wp2_with fail
    go_ret
    exact HR.out

set_option maxRecDepth 100000 in
theorem implSettled (A : Option Addr) (n c : Nat) (l : List Fz) (ok : Nat → Prop) (w : World) (h : Sl FzR 2 ok w A n l) (hn : n ≤ 1048576) :
    Calls Try.prog 53 #[.slice A n c] w fun e w' => (∃ v, e = .returned v ∧ DzA w' w.heap.size v ⟨l, l, []⟩) ∧ Below w.heap.size w w' := by
  have hx := (Below.refl w.heap.size w).alloc (Nat.le_refl _) (.cells #[.slice none 0 0, .slice none 0 0, .slice none 0 0] 27)
  have rb := Row.new w 27 #[.slice none 0 0, .slice none 0 0, .slice none 0 0]
  have hwz : w.heap.size < (w.alloc (.cells #[.slice none 0 0, .slice none 0 0, .slice none 0 0] 27)).heap.size := by simp
  have HI := Lib.hid infoDisk
  go_enter Try.func53, Try.ntmps53
  go_wp2_with fail
  generalize w.alloc (.cells #[.slice none 0 0, .slice none 0 0, .slice none 0 0] 27) = z at *
  refine (implCloneFiles A n c l _ _ (h.below FzR.stays hx) hn).mono ?_
  rintro e w1 ⟨⟨v1, rfl, o1⟩, hb1⟩
  have O1 := Lib.hid o1
  have hx1 := hx.trans (hb1.mono hx.size)
  have rb1 := rb.below hb1
  have hz1 := hb1.size
  clear rb o1 hb1
  go_wp2_with fail
  refine (implCloneFiles A n c l _ _ (h.below FzR.stays hx1) hn).mono ?_
  rintro e w2 ⟨⟨v2, rfl, o2⟩, hb2⟩
  have O2 := Lib.hid o2
  have O1' := Lib.hid (OwnG.below O1.out hb2)
  have HD := Lib.hid (show Dis v1 v2 from fun k hk e => by have h1 := (OwnG.block_lt O1.out k hk).2; have h2 := (OwnG.block_lt O2.out k e).1; omega)
  have hx2 := hx1.trans (hb2.mono hx1.size)
  have RR := Lib.hid (rb1.below hb2)
  have hz2 := hb2.size
  obtain ⟨A1, c1, e1, -⟩ := (show OwnZ _ _ _ _ from O1.out).sl
  obtain ⟨A2, c2, e2, -⟩ := (show OwnZ _ _ _ _ from O2.out).sl
  subst e1 e2
  have rr := RR.out
  obtain ⟨⟨y0, y1, y2⟩, ⟨f0, f1, f2⟩⟩ := rr.three
  clear rb1 o2 hb2 rr
  go_wp2_with fail
  have hr2 := ((RR.out.set 0 (.slice A1 l.length c1)).set 1 (.slice A2 l.length c2)).set 2 (.slice none 0 0)
  refine bodyPost_ret (results_cell_row (p := 2) (ty := 27) rfl _ _ w.heap.size 27 #[.slice A1 l.length c1, .slice A2 l.length c2, .slice none 0 0] (0, 0) _ rfl hr2 Try.underlying27 rfl HI.out) rfl ⟨⟨_, rfl, ?_⟩, ?_⟩
  · refine DzA.mono (base := z.heap.size) ?_ (by omega)
    refine DzA.set (DzA.set (DzA.set (x := ⟨l, l, []⟩) ⟨_, _, _, rfl, O1'.out, OwnZ.mono O2.out hz1, OwnG.nil _ _, HD.out⟩ ?_ _) ?_ _) ?_ _ <;> exact hwz
  · exact ((hx2.setCell (Nat.le_refl _) _).setCell (Nat.le_refl _) _).setCell (Nat.le_refl _) _
end Go.Proofs.Ytkinegapnknhiaa
