/-
  Several texts in one: what the proof leans on, part 7.
-/
import Derived.Test.YtjhhamlnlalkoaaGreatPc
import Derived.Test.YtjhhamlnlalkoaaGreatPa
import Derived.Test.YtjhhamlnlalkoaaGreatPf
import Derived.Test.YtjhhamlnlalkoaaGreatPe
import Derived.Test.YtjhhamlnlalkoaaGreatPd
import Derived.Deep.RegionHeld3
import Derived.Deep.DeepCutAuto
import Derived.Deep.CutRange
import Derived.IntWalk
import Derived.Deep.Cut
import Derived.Laws.OwnMore
set_option linter.unusedVariables false
set_option linter.unusedSimpArgs false
namespace Go.Proofs.YtjhhamlnlalkoaaGreat
open Go.RowKit
theorem evalB_dead {ts : List Tk} {row : List Vl} {k : Nat} (h : evalGo row (ts.take k) [] = none) : evalB ts row = none := by
 unfold evalB
 split
 ·rw [evalGo_dead row ts k [] h]; rfl
 ·rfl
theorem specTwo (k : Int) (hk : k = 3 ∨ k = 4 ∨ k = 5 ∨ k = 6 ∨ k = 9 ∨ k = 10) (a b : Vl) (w : World) (ha : a.ok = true) (hb : b.ok = true) :
  Calls Tryz.prog 152 #[.int .i64 k, .agg #[.int .i64 a.k, .int .i64 a.n, .string a.s], .agg #[.int .i64 b.k, .int .i64 b.n, .string b.s]] w (OptPost (op2 k a b) w) := by
 rcases hk with rfl | rfl | rfl | rfl | rfl | rfl
 ·exact specTwo3 a b w
 ·exact specTwo4 a b w
 ·exact specTwo5 a b w
 ·exact specTwo6 a b w
 ·exact specTwo9 a b w ha hb
 ·exact specTwo10 a b w ha hb
theorem specTwoNone (k : Int) (hk : k = 3 ∨ k = 4 ∨ k = 5 ∨ k = 6 ∨ k = 9 ∨ k = 10) (a b : Vl) (w : World) (ha : a.ok = true) (hb : b.ok = true) (ho : op2 k a b = none) :
  Calls Tryz.prog 152 #[.int .i64 k, .agg #[.int .i64 a.k, .int .i64 a.n, .string a.s], .agg #[.int .i64 b.k, .int .i64 b.n, .string b.s]] w fun e w' => ∃ v : Vl, e = .returned (.tuple #[.agg #[.int .i64 v.k, .int .i64 v.n, .string v.s], .bool false]) ∧ Below w.heap.size w w' :=
 (specTwo k hk a b w ha hb).mono fun e w' ⟨v, he, _, hbl⟩ => ⟨v, by rw [he, ho]; rfl, hbl⟩
theorem specTwoSome (k : Int) (hk : k = 3 ∨ k = 4 ∨ k = 5 ∨ k = 6 ∨ k = 9 ∨ k = 10) (a b v : Vl) (w : World) (ha : a.ok = true) (hb : b.ok = true) (ho : op2 k a b = some v) :
  Calls Tryz.prog 152 #[.int .i64 k, .agg #[.int .i64 a.k, .int .i64 a.n, .string a.s], .agg #[.int .i64 b.k, .int .i64 b.n, .string b.s]] w fun e w' => e = .returned (.tuple #[.agg #[.int .i64 v.k, .int .i64 v.n, .string v.s], .bool true]) ∧ Below w.heap.size w w' :=
 (specTwo k hk a b w ha hb).mono fun e w' ⟨x, he, hx, hbl⟩ => ⟨by rw [he, hx v ho, ho]; rfl, hbl⟩
theorem keep7 {w w' : World} {a0 a1 a2 a3 a4 a5 a6 : Addr} {v0 v1 v2 v3 v4 v5 v6 : Value} (h : w.cell? a0 = some v0 ∧ w.cell? a1 = some v1 ∧ w.cell? a2 = some v2 ∧ w.cell? a3 = some v3 ∧ w.cell? a4 = some v4 ∧ w.cell? a5 = some v5 ∧ w.cell? a6 = some v6) (hb : Below w.heap.size w w') : w'.cell? a0 = some v0 ∧ w'.cell? a1 = some v1 ∧ w'.cell? a2 = some v2 ∧ w'.cell? a3 = some v3 ∧ w'.cell? a4 = some v4 ∧ w'.cell? a5 = some v5 ∧ w'.cell? a6 = some v6 := by
 obtain ⟨h0, h1, h2, h3, h4, h5, h6⟩ := h
 exact ⟨(hb.cell (cell_lt h0)).trans h0, (hb.cell (cell_lt h1)).trans h1, (hb.cell (cell_lt h2)).trans h2, (hb.cell (cell_lt h3)).trans h3, (hb.cell (cell_lt h4)).trans h4, (hb.cell (cell_lt h5)).trans h5, (hb.cell (cell_lt h6)).trans h6⟩
theorem set_far {w : World} {g b i j : Nat} {x v : Value} (hne : b ≠ g) (h : w.cell? ⟨b, i, none⟩ = some v) : (w.setCell ⟨g, j, none⟩ x).cell? ⟨b, i, none⟩ = some v :=
 (World.cell?_of_block (w := w) (a := ⟨b, i, none⟩) (Below.heap_setCell w ⟨g, j, none⟩ x b hne)).trans h
theorem keep7s {w : World} {g b c i0 i1 i2 i3 i4 i5 i6 : Nat} {x y z v0 v1 v2 v3 v4 v5 v6 : Value} (hb : b ≠ g) (hc : c ≠ g)
  (h : w.cell? ⟨b, i0, none⟩ = some v0 ∧ w.cell? ⟨c, i1, none⟩ = some v1 ∧ w.cell? ⟨c, i2, none⟩ = some v2 ∧ w.cell? ⟨c, i3, none⟩ = some v3 ∧ w.cell? ⟨c, i4, none⟩ = some v4 ∧ w.cell? ⟨c, i5, none⟩ = some v5 ∧ w.cell? ⟨c, i6, none⟩ = some v6) :
  (((w.setCell ⟨g, 0, none⟩ x).setCell ⟨g, 1, none⟩ y).setCell ⟨g, 2, none⟩ z).cell? ⟨b, i0, none⟩ = some v0 ∧ (((w.setCell ⟨g, 0, none⟩ x).setCell ⟨g, 1, none⟩ y).setCell ⟨g, 2, none⟩ z).cell? ⟨c, i1, none⟩ = some v1 ∧ (((w.setCell ⟨g, 0, none⟩ x).setCell ⟨g, 1, none⟩ y).setCell ⟨g, 2, none⟩ z).cell? ⟨c, i2, none⟩ = some v2 ∧ (((w.setCell ⟨g, 0, none⟩ x).setCell ⟨g, 1, none⟩ y).setCell ⟨g, 2, none⟩ z).cell? ⟨c, i3, none⟩ = some v3 ∧ (((w.setCell ⟨g, 0, none⟩ x).setCell ⟨g, 1, none⟩ y).setCell ⟨g, 2, none⟩ z).cell? ⟨c, i4, none⟩ = some v4 ∧ (((w.setCell ⟨g, 0, none⟩ x).setCell ⟨g, 1, none⟩ y).setCell ⟨g, 2, none⟩ z).cell? ⟨c, i5, none⟩ = some v5 ∧ (((w.setCell ⟨g, 0, none⟩ x).setCell ⟨g, 1, none⟩ y).setCell ⟨g, 2, none⟩ z).cell? ⟨c, i6, none⟩ = some v6 := by
 obtain ⟨h0, h1, h2, h3, h4, h5, h6⟩ := h
 exact ⟨set_far hb (set_far hb (set_far hb h0)), set_far hc (set_far hc (set_far hc h1)), set_far hc (set_far hc (set_far hc h2)), set_far hc (set_far hc (set_far hc h3)), set_far hc (set_far hc (set_far hc h4)), set_far hc (set_far hc (set_far hc h5)), set_far hc (set_far hc (set_far hc h6))⟩
set_option maxRecDepth 100000 in
set_option maxHeartbeats 1000000 in
theorem specL2Eval (A R : Option Addr) (n m cap capR : Nat) (ts : List Tk) (row : List Vl) (w : World) (h : Toks w A n ts) (hr : Vals w R m row) (hn : n ≤ maxLen) (hm : m ≤ maxLen) (hrow : rowB row = true) (hex : exprB ts row.length = true) :
  Calls Tryz.prog 125 #[.slice A n cap, .slice R m capR] w (EvalPost (evalB ts row) w) := by
 obtain rfl : n = ts.length := h.len.symm
 obtain rfl : m = row.length := hr.len.symm
 have HR := Lib.hid hrow
 have HE := Lib.hid hex
 have h16 : row.length ≤ 16 := by simp [rowB] at hrow; exact hrow.1
 clear hrow hex
 obtain ⟨hgo, h24⟩ := exprB_go HE.out
 have HGO := Lib.hid hgo
 have hok : ∀ v ∈ row, v.ok = true := by have := HR.out; simp [rowB] at this; exact this.2
 have HOK := Lib.hid hok
 clear hgo hok
 go_enter Tryz.func125, Tryz.ntmps125
 go_wp2
 have rz := (Row.new w 53 #[.int .i64 0, .int .i64 0, .string ⟨#[]⟩]).alloc (.cells #[] 53)
 have hb0 := ((Below.refl w.heap.size w).alloc (Nat.le_refl _) (.cells #[.int .i64 0, .int .i64 0, .string ⟨#[]⟩] 53)).alloc (by simp only [size1]; omega) (.cells #[] 53)
 generalize (w.alloc (.cells #[.int .i64 0, .int .i64 0, .string ⟨#[]⟩] 53)).alloc (.cells #[] 53) = x0 at *
 go_loopw [6, 7] (fun s i wr => ∃ (k : Nat) (st : List Vl) (a : Addr) (c : Nat), k ≤ ts.length ∧ i = .int .i64 k ∧ s = .slice (some a) st.length c ∧ st.length ≤ c ∧ c ≤ maxLen ∧ st.length ≤ k ∧ Hid (a.spot = none) ∧ Hid (exprGo row.length (ts.take k) 0 = some st.length) ∧ Hid (evalGo row (ts.take k) [] = some st) ∧ Hid (∀ v ∈ st, v.ok = true) ∧
   Vals wr (some a) st.length st ∧ Row wr w.heap.size 53 #[.int .i64 0, .int .i64 0, .string ⟨#[]⟩] ∧ Below w.heap.size w wr) (fun _ i _ => ts.length - (intOf i).toNat)
 case atStart => exact ⟨0, [], ⟨w.heap.size + 1, 0, none⟩, 0, by omega, rfl, rfl, by simp, by simp [maxLen], by simp, Lib.hid rfl, Lib.hid (by simp [exprGo]), Lib.hid (by simp [evalGo]), Lib.hid (by simp), ⟨rfl, by simp, fun h => absurd h (by simp)⟩, rz, hb0⟩
 case round =>
  obtain ⟨k, st, a, c, hk, rfl, rfl, hlc, hcm, hlk, hasp, hexp, hev, hstok, hvals, hrz, hb⟩ := hrel
  by_cases hlt : k < ts.length
  ·obtain ⟨b, off, rfl, c0, c1, c2, c3, c4⟩ := (h.below hb).at_ hlt
   obtain ⟨htok, htk, hexp2⟩ := right_at HGO.out hlt hexp.out
   have hev2 := evalGo_snoc row ts k hlt [] st hev.out
   have HEXP := Lib.hid hexp2
   have HEV := Lib.hid hev2
   have HTOK := Lib.hid htok
   clear hexp2 hev2 hexp hev htok
   generalize ts[k] = t at *
   obtain ⟨k0, tc, tvk, tvn, tvs⟩ := t
   simp only at c0 c1 c2 c3 c4 htk HEXP HEV HTOK
   by_cases hk2 : k0 = 2
   ·skip
    subst hk2
    unfold maxLen at hcm
    have bl : b < wr.heap.size := cell_lt c0
    have bz0 := (Below.refl wr.heap.size wr).alloc (Nat.le_refl _) (.cells #[.int .i64 0, .int .i64 0, .string ⟨#[]⟩] 53)
    have e0 := (bz0.cell bl).trans c0
    have e2 := (bz0.cell bl).trans c2
    have e3 := (bz0.cell bl).trans c3
    have e4 := (bz0.cell bl).trans c4
    clear bz0
    go_wp2_with fail
    have rvx := Row.new wr 53 #[.int .i64 tvk, .int .i64 tvn, .string tvs]
    have bv := (Below.refl wr.heap.size wr).alloc (Nat.le_refl _) (.cells #[.int .i64 tvk, .int .i64 tvn, .string tvs] 53)
    have hv := hvals.below bv
    have hzx : wr.heap.size < (wr.alloc (.cells #[.int .i64 tvk, .int .i64 tvn, .string tvs] 53)).heap.size := by simp
    have hbx := hb.trans (bv.mono hb.size)
    have rzx := hrz.below bv
    generalize wr.alloc (.cells #[.int .i64 tvk, .int .i64 tvn, .string tvs] 53) = xt at *
    have hfr : st.length ≤ st.length := Nat.le_refl _
    have HFR := Lib.hid (show st.length = st.length - takes 2 by simp [takes])
    have HTV := Lib.hid (show tokVal row ⟨2, tc, tvk, tvn, tvs⟩ (st.drop (st.length - takes 2)) = some ⟨tvk, tvn, tvs⟩ by simp [tokVal])
    have i2 : IntKind.i64.wrap (st.length : Int) = st.length := IntWalk.i64_in _ (by omega)
    obtain ⟨⟨v0, v1, v2⟩, -⟩ := rvx.three
    have i1 : (st.length : Int) ≤ c := by omega
    have hbs : wr.heap.size ≤ xt.heap.size := by omega
    have Ra : Row (xt.alloc (.cells #[] 53)).drew xt.heap.size 53 #[] := Row.new xt 53 #[]
    have Rb : Row ((xt.alloc (.cells #[] 53)).alloc (.cells #[.int .i64 tvk, .int .i64 tvn, .string tvs] 53)).drew xt.heap.size 53 #[] := (Row.new xt 53 #[]).alloc _
    have Rc : Row ((xt.alloc (.cells #[.int .i64 tvk, .int .i64 tvn, .string tvs] 53)).alloc (.cells #[] 53)).drew (xt.heap.size + 1) 53 #[] := Row.newAt _ _ _ _ (by simp)
    have Sb : Row ((xt.alloc (.cells #[] 53)).alloc (.cells #[.int .i64 tvk, .int .i64 tvn, .string tvs] 53)).drew (xt.heap.size + 1) 53 #[.int .i64 tvk, .int .i64 tvn, .string tvs] := Row.newAt _ _ _ _ (by simp)
    have Sc : Row ((xt.alloc (.cells #[.int .i64 tvk, .int .i64 tvn, .string tvs] 53)).alloc (.cells #[] 53)).drew xt.heap.size 53 #[.int .i64 tvk, .int .i64 tvn, .string tvs] := (Row.new _ _ _).alloc _
    have Va : Vals (xt.alloc (.cells #[] 53)).drew (some a) st.length (st.take st.length) := (hv.below ((Below.refl _ xt).alloc (Nat.le_refl _) _)).take hfr
    have Vb : Vals ((xt.alloc (.cells #[] 53)).alloc (.cells #[.int .i64 tvk, .int .i64 tvn, .string tvs] 53)).drew (some a) st.length (st.take st.length) := (hv.below (((Below.refl _ xt).alloc (Nat.le_refl _) _).alloc (by simp) _)).take hfr
    have Vc : Vals ((xt.alloc (.cells #[.int .i64 tvk, .int .i64 tvn, .string tvs] 53)).alloc (.cells #[] 53)).drew (some a) st.length (st.take st.length) := (hv.below (((Below.refl _ xt).alloc (Nat.le_refl _) _).alloc (by simp) _)).take hfr
    have hlen24 : st.length ≤ 1000 := by omega
    go_region_held3 (fun w' => w'.cell? ⟨wr.heap.size, 0, none⟩ = some (.int .i64 tvk) ∧ w'.cell? ⟨wr.heap.size, 1, none⟩ = some (.int .i64 tvn) ∧ w'.cell? ⟨wr.heap.size, 2, none⟩ = some (.string tvs))
     (first | go_keep | ((with_reducible refine keep3 ?_ ((Below.refl _ _).alloc (Nat.le_refl _) _)); assumption) | ((with_reducible refine keep3g ?_ hg2 ?_ ?_ ?_) <;> first | assumption | (simp only; omega)) | ((with_reducible refine keep3g ?_ hg1 ?_ ?_ ?_) <;> first | assumption | (simp only; omega)))
     (first
      | ((with_reducible refine step_app_vals0 rfl _ _ rfl xt.heap.size xt.heap.size rfl Ra (by omega) a st.length c (st.take st.length) rfl hasp.out Va (by omega) (by first | (simp; done) | (simp; omega)) ?_); intro g1 cap1 w1 ho1 hg1 hb1)
      | ((with_reducible refine step_app_vals0 rfl _ _ rfl xt.heap.size xt.heap.size rfl Rb (by omega) a st.length c (st.take st.length) rfl hasp.out Vb (by omega) (by first | (simp; done) | (simp; omega)) ?_); intro g1 cap1 w1 ho1 hg1 hb1)
      | ((with_reducible refine step_app_vals0 rfl _ _ rfl xt.heap.size (xt.heap.size + 1) rfl Rc (by omega) a st.length c (st.take st.length) rfl hasp.out Vc (by omega) (by first | (simp; done) | (simp; omega)) ?_); intro g1 cap1 w1 ho1 hg1 hb1)
      | ((with_reducible refine step_app_vals rfl _ _ rfl xt.heap.size g1 _ cap1 _ rfl (ho1.alloc _) _ 1 1 [(⟨tvk, tvn, tvs⟩ : Vl)] rfl rfl (vals_one (Row.new _ _ _)) (by omega) (by have := hg1.size; simp at this ⊢; omega) ?_); intro g2 cap2 w2 ho2 hg2 hb2)
      | ((with_reducible refine step_app_vals rfl _ _ rfl xt.heap.size g1 _ cap1 _ rfl ho1 _ 1 1 [(⟨tvk, tvn, tvs⟩ : Vl)] rfl rfl (vals_one (grown_row hg1 Sb (by omega))) (by omega) (by have := hg1.size; simp at this ⊢; omega) ?_); intro g2 cap2 w2 ho2 hg2 hb2)
      | ((with_reducible refine step_app_vals rfl _ _ rfl xt.heap.size g1 _ cap1 _ rfl ho1 _ 1 1 [(⟨tvk, tvn, tvs⟩ : Vl)] rfl rfl (vals_one (grown_row hg1 Sc (by omega))) (by omega) (by have := hg1.size; simp at this ⊢; omega) ?_); intro g2 cap2 w2 ho2 hg2 hb2))
    all_goals
     have bz : Below xt.heap.size xt w2 := by
      have hs1 := hg1.size
      simp at hs1
      first
      | exact ((Below.refl _ xt).alloc (Nat.le_refl _) _).drew.trans ((grown_below hg1 (by omega) (by simp)).trans (((Below.refl _ w1).alloc (by omega) _).trans (grown_below hg2 (by omega) (by simp; omega))))
      | exact (((Below.refl _ xt).alloc (Nat.le_refl _) _).alloc (by simp) _).drew.trans ((grown_below hg1 (by omega) (by simp; omega)).trans (grown_below hg2 (by omega) (by omega)))
     have hbz := hbx.trans (bz.mono hbx.size)
     have rzz := rzx.below bz
     have hl1 : (st.take st.length).length = st.length := by rw [List.length_take]; omega
     have hl2 : (st.take st.length ++ [(⟨tvk, tvn, tvs⟩ : Vl)]).length = st.length + 1 := by rw [List.length_append, hl1]; rfl
     obtain ⟨hvz, hcz, hcz2⟩ := ho2.vals hl2
     have HL := Lib.hid hl2
     have hsz := bz.size
     clear hl1 hl2 ho2 ho1 hg1 hg2 hv rvx Ra Rb Rc Sb Sc Va Vb Vc v0 v1 v2 c0 c1 c2 c3 c4 i1 i2
     go_wp2_with fail
     go_roundw
     case rel =>
      refine ⟨k + 1, st.take st.length ++ [(⟨tvk, tvn, tvs⟩ : Vl)], ⟨g2, 0, none⟩, cap2, by omega, by go_num, by rw [HL.out], by rw [HL.out]; exact hcz, hcz2, by rw [HL.out]; omega, Lib.hid rfl, Lib.hid ?_, Lib.hid ?_, Lib.hid ?_, by rw [HL.out]; exact hvz, rzz, hbz⟩
      ·rw [HL.out, HFR.out]; exact HEXP.out
      ·rw [HEV.out, evalStep_some HTV.out]; exact congrArg (fun m => some (List.take m st ++ [(⟨tvk, tvn, tvs⟩ : Vl)])) HFR.out.symm
      ·intro u hu
       rw [List.mem_append, List.mem_singleton] at hu
       rcases hu with hu | rfl
       ·exact hstok.out u (List.mem_of_mem_take hu)
       ·exact tokVal_ok HOK.out HTOK.out HTV.out
     case measure => simp [intOf]; omega
   have d2 : (k0 == 2) = false := by simpa using hk2
   by_cases hk1 : k0 = 1
   ·skip
    subst hk1
    unfold maxLen at hcm
    have bl : b < wr.heap.size := cell_lt c0
    have bz0 := (Below.refl wr.heap.size wr).alloc (Nat.le_refl _) (.cells #[.int .i64 0, .int .i64 0, .string ⟨#[]⟩] 53)
    have e0 := (bz0.cell bl).trans c0
    have e1 := (bz0.cell bl).trans c1
    obtain ⟨hj0, hj1⟩ : 0 ≤ tc ∧ tc < row.length := by have := HTOK.out; simp [tokB] at this; exact ⟨this.1, this.2.1⟩
    obtain ⟨j, rfl⟩ : ∃ j : Nat, tc = (j : Int) := ⟨tc.toNat, by omega⟩
    have hjr : j < row.length := by omega
    obtain ⟨br, ofr, rfl, r0, r1, r2⟩ := ((hr.below hb).below bz0).at_ hjr
    clear bz0
    go_wp2_with fail
    have rvx := Row.new wr 53 #[.int .i64 row[j].k, .int .i64 row[j].n, .string row[j].s]
    have bv := (Below.refl wr.heap.size wr).alloc (Nat.le_refl _) (.cells #[.int .i64 row[j].k, .int .i64 row[j].n, .string row[j].s] 53)
    have hv := hvals.below bv
    have hzx : wr.heap.size < (wr.alloc (.cells #[.int .i64 row[j].k, .int .i64 row[j].n, .string row[j].s] 53)).heap.size := by simp
    have hbx := hb.trans (bv.mono hb.size)
    have rzx := hrz.below bv
    generalize wr.alloc (.cells #[.int .i64 row[j].k, .int .i64 row[j].n, .string row[j].s] 53) = xt at *
    have hfr : st.length ≤ st.length := Nat.le_refl _
    have HFR := Lib.hid (show st.length = st.length - takes 1 by simp [takes])
    have HTV := Lib.hid (show tokVal row ⟨1, j, tvk, tvn, tvs⟩ (st.drop (st.length - takes 1)) = some row[j] by simp [tokVal, List.getElem?_eq_getElem hjr])
    have i2 : IntKind.i64.wrap (st.length : Int) = st.length := IntWalk.i64_in _ (by omega)
    generalize row[j] = v at *
    clear r0 r1 r2
    obtain ⟨⟨v0, v1, v2⟩, -⟩ := rvx.three
    have i1 : (st.length : Int) ≤ c := by omega
    have hbs : wr.heap.size ≤ xt.heap.size := by omega
    have Ra : Row (xt.alloc (.cells #[] 53)).drew xt.heap.size 53 #[] := Row.new xt 53 #[]
    have Rb : Row ((xt.alloc (.cells #[] 53)).alloc (.cells #[.int .i64 v.k, .int .i64 v.n, .string v.s] 53)).drew xt.heap.size 53 #[] := (Row.new xt 53 #[]).alloc _
    have Rc : Row ((xt.alloc (.cells #[.int .i64 v.k, .int .i64 v.n, .string v.s] 53)).alloc (.cells #[] 53)).drew (xt.heap.size + 1) 53 #[] := Row.newAt _ _ _ _ (by simp)
    have Sb : Row ((xt.alloc (.cells #[] 53)).alloc (.cells #[.int .i64 v.k, .int .i64 v.n, .string v.s] 53)).drew (xt.heap.size + 1) 53 #[.int .i64 v.k, .int .i64 v.n, .string v.s] := Row.newAt _ _ _ _ (by simp)
    have Sc : Row ((xt.alloc (.cells #[.int .i64 v.k, .int .i64 v.n, .string v.s] 53)).alloc (.cells #[] 53)).drew xt.heap.size 53 #[.int .i64 v.k, .int .i64 v.n, .string v.s] := (Row.new _ _ _).alloc _
    have Va : Vals (xt.alloc (.cells #[] 53)).drew (some a) st.length (st.take st.length) := (hv.below ((Below.refl _ xt).alloc (Nat.le_refl _) _)).take hfr
    have Vb : Vals ((xt.alloc (.cells #[] 53)).alloc (.cells #[.int .i64 v.k, .int .i64 v.n, .string v.s] 53)).drew (some a) st.length (st.take st.length) := (hv.below (((Below.refl _ xt).alloc (Nat.le_refl _) _).alloc (by simp) _)).take hfr
    have Vc : Vals ((xt.alloc (.cells #[.int .i64 v.k, .int .i64 v.n, .string v.s] 53)).alloc (.cells #[] 53)).drew (some a) st.length (st.take st.length) := (hv.below (((Below.refl _ xt).alloc (Nat.le_refl _) _).alloc (by simp) _)).take hfr
    have hlen24 : st.length ≤ 1000 := by omega
    go_region_held3 (fun w' => w'.cell? ⟨wr.heap.size, 0, none⟩ = some (.int .i64 v.k) ∧ w'.cell? ⟨wr.heap.size, 1, none⟩ = some (.int .i64 v.n) ∧ w'.cell? ⟨wr.heap.size, 2, none⟩ = some (.string v.s))
     (first | go_keep | ((with_reducible refine keep3 ?_ ((Below.refl _ _).alloc (Nat.le_refl _) _)); assumption) | ((with_reducible refine keep3g ?_ hg2 ?_ ?_ ?_) <;> first | assumption | (simp only; omega)) | ((with_reducible refine keep3g ?_ hg1 ?_ ?_ ?_) <;> first | assumption | (simp only; omega)))
     (first
      | ((with_reducible refine step_app_vals0 rfl _ _ rfl xt.heap.size xt.heap.size rfl Ra (by omega) a st.length c (st.take st.length) rfl hasp.out Va (by omega) (by first | (simp; done) | (simp; omega)) ?_); intro g1 cap1 w1 ho1 hg1 hb1)
      | ((with_reducible refine step_app_vals0 rfl _ _ rfl xt.heap.size xt.heap.size rfl Rb (by omega) a st.length c (st.take st.length) rfl hasp.out Vb (by omega) (by first | (simp; done) | (simp; omega)) ?_); intro g1 cap1 w1 ho1 hg1 hb1)
      | ((with_reducible refine step_app_vals0 rfl _ _ rfl xt.heap.size (xt.heap.size + 1) rfl Rc (by omega) a st.length c (st.take st.length) rfl hasp.out Vc (by omega) (by first | (simp; done) | (simp; omega)) ?_); intro g1 cap1 w1 ho1 hg1 hb1)
      | ((with_reducible refine step_app_vals rfl _ _ rfl xt.heap.size g1 _ cap1 _ rfl (ho1.alloc _) _ 1 1 [v] rfl rfl (vals_one (Row.new _ _ _)) (by omega) (by have := hg1.size; simp at this ⊢; omega) ?_); intro g2 cap2 w2 ho2 hg2 hb2)
      | ((with_reducible refine step_app_vals rfl _ _ rfl xt.heap.size g1 _ cap1 _ rfl ho1 _ 1 1 [v] rfl rfl (vals_one (grown_row hg1 Sb (by omega))) (by omega) (by have := hg1.size; simp at this ⊢; omega) ?_); intro g2 cap2 w2 ho2 hg2 hb2)
      | ((with_reducible refine step_app_vals rfl _ _ rfl xt.heap.size g1 _ cap1 _ rfl ho1 _ 1 1 [v] rfl rfl (vals_one (grown_row hg1 Sc (by omega))) (by omega) (by have := hg1.size; simp at this ⊢; omega) ?_); intro g2 cap2 w2 ho2 hg2 hb2))
    all_goals
     have bz : Below xt.heap.size xt w2 := by
      have hs1 := hg1.size
      simp at hs1
      first
      | exact ((Below.refl _ xt).alloc (Nat.le_refl _) _).drew.trans ((grown_below hg1 (by omega) (by simp)).trans (((Below.refl _ w1).alloc (by omega) _).trans (grown_below hg2 (by omega) (by simp; omega))))
      | exact (((Below.refl _ xt).alloc (Nat.le_refl _) _).alloc (by simp) _).drew.trans ((grown_below hg1 (by omega) (by simp; omega)).trans (grown_below hg2 (by omega) (by omega)))
     have hbz := hbx.trans (bz.mono hbx.size)
     have rzz := rzx.below bz
     have hl1 : (st.take st.length).length = st.length := by rw [List.length_take]; omega
     have hl2 : (st.take st.length ++ [v]).length = st.length + 1 := by rw [List.length_append, hl1]; rfl
     obtain ⟨hvz, hcz, hcz2⟩ := ho2.vals hl2
     have HL := Lib.hid hl2
     have hsz := bz.size
     clear hl1 hl2 ho2 ho1 hg1 hg2 hv rvx Ra Rb Rc Sb Sc Va Vb Vc v0 v1 v2 c0 c1 c2 c3 c4 i1 i2
     go_wp2_with fail
     go_roundw
     case rel =>
      refine ⟨k + 1, st.take st.length ++ [v], ⟨g2, 0, none⟩, cap2, by omega, by go_num, by rw [HL.out], by rw [HL.out]; exact hcz, hcz2, by rw [HL.out]; omega, Lib.hid rfl, Lib.hid ?_, Lib.hid ?_, Lib.hid ?_, by rw [HL.out]; exact hvz, rzz, hbz⟩
      ·rw [HL.out, HFR.out]; exact HEXP.out
      ·rw [HEV.out, evalStep_some HTV.out]; exact congrArg (fun m => some (List.take m st ++ [v])) HFR.out.symm
      ·intro u hu
       rw [List.mem_append, List.mem_singleton] at hu
       rcases hu with hu | rfl
       ·exact hstok.out u (List.mem_of_mem_take hu)
       ·exact tokVal_ok HOK.out HTOK.out HTV.out
     case measure => simp [intOf]; omega
   have d1 : (k0 == 1) = false := by simpa using hk1
   by_cases hk8 : k0 = 8
   ·skip
    subst hk8
    unfold maxLen at hcm
    have ht1 : 1 ≤ st.length := by simpa [takes] using htk
    obtain ⟨fr, hfr1⟩ : ∃ fr, fr = st.length - 1 := ⟨_, rfl⟩
    have hfrl : fr < st.length := by omega
    have bl : b < wr.heap.size := cell_lt c0
    have bz0 := (Below.refl wr.heap.size wr).alloc (Nat.le_refl _) (.cells #[.int .i64 0, .int .i64 0, .string ⟨#[]⟩] 53)
    have e0 := (bz0.cell bl).trans c0
    obtain ⟨bs, ofs, ea, s0, s1, s2⟩ := (hvals.below bz0).at_ hfrl
    obtain rfl : a = ⟨bs, ofs, none⟩ := by simpa using ea
    clear ea
    have HFR := Lib.hid (show fr = st.length - takes 8 by rw [hfr1]; simp [takes])
    have hfr : fr ≤ st.length := by omega
    have i2 : IntKind.i64.wrap ((st.length : Int) - 1) = (fr : Int) := by rw [IntWalk.i64_in _ (by omega)]; omega
    have i3 : (0 : Int) ≤ fr := by omega
    have i4 : (fr : Int) < st.length := by omega
    have hdr : st.drop (st.length - takes 8) = [st[fr]] := by
     rw [← HFR.out, List.drop_eq_getElem_cons hfrl, List.drop_eq_nil_of_le (by omega)]
    have HTV := Lib.hid (show tokVal row ⟨8, tc, tvk, tvn, tvs⟩ (st.drop (st.length - takes 8)) = some ⟨1, yes (st[fr].k == 0), ⟨#[]⟩⟩ by
     rw [hdr]; rcases yes01 (st[fr].k == 0) with h | h <;> simp [tokVal, opOf, op1, asOpt, asVl, h])
    clear hdr hfr1
    have HS := Lib.hid hfrl
    generalize st[fr] = q at *
    have rz1 := Row.new wr 53 #[.int .i64 0, .int .i64 0, .string ⟨#[]⟩]
    go_wp2_with fail
    refine (specYes _ _).mono ?_
    rintro e y1 ⟨rfl, rfl⟩
    generalize yes (q.k == 0) = yq at *
    go_wp2_with fail
    refine (specInt _ _).mono ?_
    rintro e y2 ⟨rfl, o, rfl⟩
    go_wp2_with fail
    have rvx := (Row.new wr 53 #[.int .i64 1, .int .i64 yq, .string ⟨#[]⟩]).alloc o
    have bv := ((Below.refl wr.heap.size wr).alloc (Nat.le_refl _) (.cells #[.int .i64 1, .int .i64 yq, .string ⟨#[]⟩] 53)).alloc (by simp) o
    have hv := hvals.below bv
    have hzx : wr.heap.size < ((wr.alloc (.cells #[.int .i64 1, .int .i64 yq, .string ⟨#[]⟩] 53)).alloc o).heap.size := by simp; try omega
    have hbx := hb.trans (bv.mono hb.size)
    have rzx := hrz.below bv
    generalize (wr.alloc (.cells #[.int .i64 1, .int .i64 yq, .string ⟨#[]⟩] 53)).alloc o = xt at *
    clear rz1 s0 s1 s2 e0 bz0
    obtain ⟨⟨v0, v1, v2⟩, -⟩ := rvx.three
    have i1 : (fr : Int) ≤ c := by omega
    have hbs : wr.heap.size ≤ xt.heap.size := by omega
    have Ra : Row (xt.alloc (.cells #[] 53)).drew xt.heap.size 53 #[] := Row.new xt 53 #[]
    have Rb : Row ((xt.alloc (.cells #[] 53)).alloc (.cells #[.int .i64 1, .int .i64 yq, .string ⟨#[]⟩] 53)).drew xt.heap.size 53 #[] := (Row.new xt 53 #[]).alloc _
    have Rc : Row ((xt.alloc (.cells #[.int .i64 1, .int .i64 yq, .string ⟨#[]⟩] 53)).alloc (.cells #[] 53)).drew (xt.heap.size + 1) 53 #[] := Row.newAt _ _ _ _ (by simp)
    have Sb : Row ((xt.alloc (.cells #[] 53)).alloc (.cells #[.int .i64 1, .int .i64 yq, .string ⟨#[]⟩] 53)).drew (xt.heap.size + 1) 53 #[.int .i64 1, .int .i64 yq, .string ⟨#[]⟩] := Row.newAt _ _ _ _ (by simp)
    have Sc : Row ((xt.alloc (.cells #[.int .i64 1, .int .i64 yq, .string ⟨#[]⟩] 53)).alloc (.cells #[] 53)).drew xt.heap.size 53 #[.int .i64 1, .int .i64 yq, .string ⟨#[]⟩] := (Row.new _ _ _).alloc _
    have Va : Vals (xt.alloc (.cells #[] 53)).drew (some ⟨bs, ofs, none⟩) fr (st.take fr) := (hv.below ((Below.refl _ xt).alloc (Nat.le_refl _) _)).take hfr
    have Vb : Vals ((xt.alloc (.cells #[] 53)).alloc (.cells #[.int .i64 1, .int .i64 yq, .string ⟨#[]⟩] 53)).drew (some ⟨bs, ofs, none⟩) fr (st.take fr) := (hv.below (((Below.refl _ xt).alloc (Nat.le_refl _) _).alloc (by simp) _)).take hfr
    have Vc : Vals ((xt.alloc (.cells #[.int .i64 1, .int .i64 yq, .string ⟨#[]⟩] 53)).alloc (.cells #[] 53)).drew (some ⟨bs, ofs, none⟩) fr (st.take fr) := (hv.below (((Below.refl _ xt).alloc (Nat.le_refl _) _).alloc (by simp) _)).take hfr
    have hlen24 : fr ≤ 1000 := by omega
    go_region_held3 (fun w' => w'.cell? ⟨wr.heap.size, 0, none⟩ = some (.int .i64 1) ∧ w'.cell? ⟨wr.heap.size, 1, none⟩ = some (.int .i64 yq) ∧ w'.cell? ⟨wr.heap.size, 2, none⟩ = some (.string ⟨#[]⟩))
     (first | go_keep | ((with_reducible refine keep3 ?_ ((Below.refl _ _).alloc (Nat.le_refl _) _)); assumption) | ((with_reducible refine keep3g ?_ hg2 ?_ ?_ ?_) <;> first | assumption | (simp only; omega)) | ((with_reducible refine keep3g ?_ hg1 ?_ ?_ ?_) <;> first | assumption | (simp only; omega)))
     (first
      | ((with_reducible refine step_app_vals0 rfl _ _ rfl xt.heap.size xt.heap.size rfl Ra (by omega) ⟨bs, ofs, none⟩ fr c (st.take fr) rfl rfl Va (by omega) (by first | (simp; done) | (simp; omega)) ?_); intro g1 cap1 w1 ho1 hg1 hb1)
      | ((with_reducible refine step_app_vals0 rfl _ _ rfl xt.heap.size xt.heap.size rfl Rb (by omega) ⟨bs, ofs, none⟩ fr c (st.take fr) rfl rfl Vb (by omega) (by first | (simp; done) | (simp; omega)) ?_); intro g1 cap1 w1 ho1 hg1 hb1)
      | ((with_reducible refine step_app_vals0 rfl _ _ rfl xt.heap.size (xt.heap.size + 1) rfl Rc (by omega) ⟨bs, ofs, none⟩ fr c (st.take fr) rfl rfl Vc (by omega) (by first | (simp; done) | (simp; omega)) ?_); intro g1 cap1 w1 ho1 hg1 hb1)
      | ((with_reducible refine step_app_vals rfl _ _ rfl xt.heap.size g1 _ cap1 _ rfl (ho1.alloc _) _ 1 1 [(⟨1, yq, ⟨#[]⟩⟩ : Vl)] rfl rfl (vals_one (Row.new _ _ _)) (by omega) (by have := hg1.size; simp at this ⊢; omega) ?_); intro g2 cap2 w2 ho2 hg2 hb2)
      | ((with_reducible refine step_app_vals rfl _ _ rfl xt.heap.size g1 _ cap1 _ rfl ho1 _ 1 1 [(⟨1, yq, ⟨#[]⟩⟩ : Vl)] rfl rfl (vals_one (grown_row hg1 Sb (by omega))) (by omega) (by have := hg1.size; simp at this ⊢; omega) ?_); intro g2 cap2 w2 ho2 hg2 hb2)
      | ((with_reducible refine step_app_vals rfl _ _ rfl xt.heap.size g1 _ cap1 _ rfl ho1 _ 1 1 [(⟨1, yq, ⟨#[]⟩⟩ : Vl)] rfl rfl (vals_one (grown_row hg1 Sc (by omega))) (by omega) (by have := hg1.size; simp at this ⊢; omega) ?_); intro g2 cap2 w2 ho2 hg2 hb2))
    all_goals
     have bz : Below xt.heap.size xt w2 := by
      have hs1 := hg1.size
      simp at hs1
      first
      | exact ((Below.refl _ xt).alloc (Nat.le_refl _) _).drew.trans ((grown_below hg1 (by omega) (by simp)).trans (((Below.refl _ w1).alloc (by omega) _).trans (grown_below hg2 (by omega) (by simp; omega))))
      | exact (((Below.refl _ xt).alloc (Nat.le_refl _) _).alloc (by simp) _).drew.trans ((grown_below hg1 (by omega) (by simp; omega)).trans (grown_below hg2 (by omega) (by omega)))
     have hbz := hbx.trans (bz.mono hbx.size)
     have rzz := rzx.below bz
     have hl1 : (st.take fr).length = fr := by rw [List.length_take]; omega
     have hl2 : (st.take fr ++ [(⟨1, yq, ⟨#[]⟩⟩ : Vl)]).length = fr + 1 := by rw [List.length_append, hl1]; rfl
     obtain ⟨hvz, hcz, hcz2⟩ := ho2.vals hl2
     have HL := Lib.hid hl2
     have hsz := bz.size
     clear hl1 hl2 ho2 ho1 hg1 hg2 hv rvx Ra Rb Rc Sb Sc Va Vb Vc v0 v1 v2 c0 c1 c2 c3 c4 i1 i2
     go_wp2_with fail
     go_roundw
     case rel =>
      refine ⟨k + 1, st.take fr ++ [(⟨1, yq, ⟨#[]⟩⟩ : Vl)], ⟨g2, 0, none⟩, cap2, by omega, by go_num, by rw [HL.out], by rw [HL.out]; exact hcz, hcz2, by rw [HL.out]; omega, Lib.hid rfl, Lib.hid ?_, Lib.hid ?_, Lib.hid ?_, by rw [HL.out]; exact hvz, rzz, hbz⟩
      ·rw [HL.out, HFR.out]; exact HEXP.out
      ·rw [HEV.out, evalStep_some HTV.out]; exact congrArg (fun m => some (List.take m st ++ [(⟨1, yq, ⟨#[]⟩⟩ : Vl)])) HFR.out.symm
      ·intro u hu
       rw [List.mem_append, List.mem_singleton] at hu
       rcases hu with hu | rfl
       ·exact hstok.out u (List.mem_of_mem_take hu)
       ·exact tokVal_ok HOK.out HTOK.out HTV.out
     case measure => simp [intOf]; omega
   have d8 : (k0 == 8) = false := by simpa using hk8
   by_cases hk7 : k0 = 7
   ·skip
    subst hk7
    unfold maxLen at hcm
    have ht1 : 1 ≤ st.length := by simpa [takes] using htk
    obtain ⟨fr, hfr1⟩ : ∃ fr, fr = st.length - 1 := ⟨_, rfl⟩
    have hfrl : fr < st.length := by omega
    have bl : b < wr.heap.size := cell_lt c0
    have bz0 := (Below.refl wr.heap.size wr).alloc (Nat.le_refl _) (.cells #[.int .i64 0, .int .i64 0, .string ⟨#[]⟩] 53)
    have e0 := (bz0.cell bl).trans c0
    obtain ⟨bs, ofs, ea, s0, s1, s2⟩ := (hvals.below bz0).at_ hfrl
    obtain rfl : a = ⟨bs, ofs, none⟩ := by simpa using ea
    clear ea
    have HFR := Lib.hid (show fr = st.length - takes 7 by rw [hfr1]; simp [takes])
    have hfr : fr ≤ st.length := by omega
    have i2 : IntKind.i64.wrap ((st.length : Int) - 1) = (fr : Int) := by rw [IntWalk.i64_in _ (by omega)]; omega
    have i3 : (0 : Int) ≤ fr := by omega
    have i4 : (fr : Int) < st.length := by omega
    have hdr : st.drop (st.length - takes 7) = [st[fr]] := by
     rw [← HFR.out, List.drop_eq_getElem_cons hfrl, List.drop_eq_nil_of_le (by omega)]
    have hqok := hstok.out _ (List.getElem_mem hfrl)
    have HDR := Lib.hid hdr
    have HQ := Lib.hid hqok
    clear hdr hfr1 hqok
    have HS := Lib.hid hfrl
    generalize st[fr] = q at *
    have rz1 := Row.new wr 53 #[.int .i64 0, .int .i64 0, .string ⟨#[]⟩]
    cases htr : truS q
    ·have HT := Lib.hid htr
     clear htr
     have HTV := Lib.hid (show tokVal row ⟨7, tc, tvk, tvn, tvs⟩ (st.drop (st.length - takes 7)) = none by
      have h1 : truOf q = -1 := by simpa [truS] using HT.out
      rw [HDR.out]; simp [tokVal, opOf, op1, h1, not3, asOpt])
     go_wp2_with fail
     refine (specOf q _).mono ?_
     rintro e y1 ⟨rfl, hb1⟩
     rw [HT.out]
     have rz2 := rz1.below hb1
     have bz1 := bz0.trans (hb1.mono bz0.size)
     go_wp2_with fail
     refine (specNot3 _ _).mono ?_
     rintro e y2 ⟨rfl, rfl⟩
     go_wp2_with fail
     refine (specAs _ _).mono ?_
     rintro e y3 ⟨rfl, hb3⟩
     have rz3 := rz2.below hb3
     have bz3 := bz1.trans (hb3.mono bz1.size)
     obtain ⟨⟨g0, g1, g2⟩, ⟨g3, g4, g5⟩⟩ := rz3.three
     generalize asVl (not3 (truN q)) = v at *
     have rzf := hrz.below bz3
     obtain ⟨⟨f0, f1, f2⟩, ⟨f3, f4, f5⟩⟩ := rzf.three
     have hne : w.heap.size ≠ wr.heap.size := by have := lt_of_block hrz; omega
     go_wp2_with fail
     have rzz : Row ((((((y3.setCell ⟨wr.heap.size, 0, none⟩ (.int .i64 v.k)).setCell ⟨wr.heap.size, 1, none⟩ (.int .i64 v.n)).setCell ⟨wr.heap.size, 2, none⟩ (.string v.s)).setCell ⟨w.heap.size, 0, none⟩ (.int .i64 0)).setCell ⟨w.heap.size, 1, none⟩ (.int .i64 0)).setCell ⟨w.heap.size, 2, none⟩ (.string ⟨#[]⟩)) w.heap.size 53 #[.int .i64 0, .int .i64 0, .string ⟨#[]⟩] := (((((rzf.far hne _).far hne _).far hne _).set 0 _).set 1 _).set 2 _
     obtain ⟨⟨z0, z1, z2⟩, -⟩ := rzz.three
     have hz := hb.trans (bz3.mono hb.size)
     have HN := evalB_dead (row := row) (ts := ts) (k := k + 1) (by rw [HEV.out, evalStep_none HTV.out])
     have HNN := Lib.hid HN
     clear HN
     refine bodyPost_ret (v := .tuple #[.agg #[.int .i64 0, .int .i64 0, .string ⟨#[]⟩], .bool false]) (by simp [results, Tryz.results125, go_sem, z0, z1, z2]) rfl ⟨by rw [HNN.out]; rfl, ?_⟩
     have hq := hb.size
     repeat (first | with_reducible exact hz | with_reducible refine Below.drew ?_ | with_reducible refine Below.setCell ?_ (by simp; omega) _ | with_reducible refine Below.setCell ?_ (by simp) _)
    ·have HT := Lib.hid htr
     clear htr
     have HTV := Lib.hid (show tokVal row ⟨7, tc, tvk, tvn, tvs⟩ (st.drop (st.length - takes 7)) = some (asVl (not3 (truN q))) by
      have h1 : ¬ truOf q = -1 := by simpa [truS] using HT.out
      have h2 : truN q = truOf q := by simp [truN, h1]
      have h3 : ¬ not3 (truOf q) = -1 := by rcases truOf_cases HQ.out with ⟨_, h⟩ | ⟨_, h | h⟩ | ⟨_, h⟩ <;> rw [h] <;> first | decide | exact absurd h h1
      rw [HDR.out, h2]; simp [tokVal, opOf, op1, asOpt, h3])
     go_wp2_with fail
     refine (specOf q _).mono ?_
     rintro e y1 ⟨rfl, hb1⟩
     rw [HT.out]
     have rz2 := rz1.below hb1
     have bz1 := bz0.trans (hb1.mono bz0.size)
     go_wp2_with fail
     refine (specNot3 _ _).mono ?_
     rintro e y2 ⟨rfl, rfl⟩
     go_wp2_with fail
     refine (specAs _ _).mono ?_
     rintro e y3 ⟨rfl, hb3⟩
     have rz3 := rz2.below hb3
     have bz3 := bz1.trans (hb3.mono bz1.size)
     obtain ⟨⟨g0, g1, g2⟩, ⟨g3, g4, g5⟩⟩ := rz3.three
     generalize asVl (not3 (truN q)) = v at *
     go_wp2_with fail
     have rvx := ((rz3.set 0 (.int .i64 v.k)).set 1 (.int .i64 v.n)).set 2 (.string v.s)
     have bv := ((bz3.setCell (p := ⟨wr.heap.size, 0, none⟩) (Nat.le_refl _) (.int .i64 v.k)).setCell (p := ⟨wr.heap.size, 1, none⟩) (Nat.le_refl _) (.int .i64 v.n)).setCell (p := ⟨wr.heap.size, 2, none⟩) (Nat.le_refl _) (.string v.s)
     have hv := hvals.below bv
     have hzx : wr.heap.size < (((y3.setCell ⟨wr.heap.size, 0, none⟩ (.int .i64 v.k)).setCell ⟨wr.heap.size, 1, none⟩ (.int .i64 v.n)).setCell ⟨wr.heap.size, 2, none⟩ (.string v.s)).heap.size := by have := lt_of_block rz3; simp; exact this
     have hbx := hb.trans (bv.mono hb.size)
     have rzx := hrz.below bv
     generalize ((y3.setCell ⟨wr.heap.size, 0, none⟩ (.int .i64 v.k)).setCell ⟨wr.heap.size, 1, none⟩ (.int .i64 v.n)).setCell ⟨wr.heap.size, 2, none⟩ (.string v.s) = xt at *
     clear rz1 rz2 rz3 g0 g1 g2 g3 g4 g5 s0 s1 s2 e0 bz0 bz1 bz3
     obtain ⟨⟨v0, v1, v2⟩, -⟩ := rvx.three
     have i1 : (fr : Int) ≤ c := by omega
     have hbs : wr.heap.size ≤ xt.heap.size := by omega
     have Ra : Row (xt.alloc (.cells #[] 53)).drew xt.heap.size 53 #[] := Row.new xt 53 #[]
     have Rb : Row ((xt.alloc (.cells #[] 53)).alloc (.cells #[.int .i64 v.k, .int .i64 v.n, .string v.s] 53)).drew xt.heap.size 53 #[] := (Row.new xt 53 #[]).alloc _
     have Rc : Row ((xt.alloc (.cells #[.int .i64 v.k, .int .i64 v.n, .string v.s] 53)).alloc (.cells #[] 53)).drew (xt.heap.size + 1) 53 #[] := Row.newAt _ _ _ _ (by simp)
     have Sb : Row ((xt.alloc (.cells #[] 53)).alloc (.cells #[.int .i64 v.k, .int .i64 v.n, .string v.s] 53)).drew (xt.heap.size + 1) 53 #[.int .i64 v.k, .int .i64 v.n, .string v.s] := Row.newAt _ _ _ _ (by simp)
     have Sc : Row ((xt.alloc (.cells #[.int .i64 v.k, .int .i64 v.n, .string v.s] 53)).alloc (.cells #[] 53)).drew xt.heap.size 53 #[.int .i64 v.k, .int .i64 v.n, .string v.s] := (Row.new _ _ _).alloc _
     have Va : Vals (xt.alloc (.cells #[] 53)).drew (some ⟨bs, ofs, none⟩) fr (st.take fr) := (hv.below ((Below.refl _ xt).alloc (Nat.le_refl _) _)).take hfr
     have Vb : Vals ((xt.alloc (.cells #[] 53)).alloc (.cells #[.int .i64 v.k, .int .i64 v.n, .string v.s] 53)).drew (some ⟨bs, ofs, none⟩) fr (st.take fr) := (hv.below (((Below.refl _ xt).alloc (Nat.le_refl _) _).alloc (by simp) _)).take hfr
     have Vc : Vals ((xt.alloc (.cells #[.int .i64 v.k, .int .i64 v.n, .string v.s] 53)).alloc (.cells #[] 53)).drew (some ⟨bs, ofs, none⟩) fr (st.take fr) := (hv.below (((Below.refl _ xt).alloc (Nat.le_refl _) _).alloc (by simp) _)).take hfr
     have hlen24 : fr ≤ 1000 := by omega
     go_region_held3 (fun w' => w'.cell? ⟨wr.heap.size, 0, none⟩ = some (.int .i64 v.k) ∧ w'.cell? ⟨wr.heap.size, 1, none⟩ = some (.int .i64 v.n) ∧ w'.cell? ⟨wr.heap.size, 2, none⟩ = some (.string v.s))
      (first | go_keep | ((with_reducible refine keep3 ?_ ((Below.refl _ _).alloc (Nat.le_refl _) _)); assumption) | ((with_reducible refine keep3g ?_ hg2 ?_ ?_ ?_) <;> first | assumption | (simp only; omega)) | ((with_reducible refine keep3g ?_ hg1 ?_ ?_ ?_) <;> first | assumption | (simp only; omega)))
      (first
       | ((with_reducible refine step_app_vals0 rfl _ _ rfl xt.heap.size xt.heap.size rfl Ra (by omega) ⟨bs, ofs, none⟩ fr c (st.take fr) rfl rfl Va (by omega) (by first | (simp; done) | (simp; omega)) ?_); intro g1 cap1 w1 ho1 hg1 hb1)
       | ((with_reducible refine step_app_vals0 rfl _ _ rfl xt.heap.size xt.heap.size rfl Rb (by omega) ⟨bs, ofs, none⟩ fr c (st.take fr) rfl rfl Vb (by omega) (by first | (simp; done) | (simp; omega)) ?_); intro g1 cap1 w1 ho1 hg1 hb1)
       | ((with_reducible refine step_app_vals0 rfl _ _ rfl xt.heap.size (xt.heap.size + 1) rfl Rc (by omega) ⟨bs, ofs, none⟩ fr c (st.take fr) rfl rfl Vc (by omega) (by first | (simp; done) | (simp; omega)) ?_); intro g1 cap1 w1 ho1 hg1 hb1)
       | ((with_reducible refine step_app_vals rfl _ _ rfl xt.heap.size g1 _ cap1 _ rfl (ho1.alloc _) _ 1 1 [v] rfl rfl (vals_one (Row.new _ _ _)) (by omega) (by have := hg1.size; simp at this ⊢; omega) ?_); intro g2 cap2 w2 ho2 hg2 hb2)
       | ((with_reducible refine step_app_vals rfl _ _ rfl xt.heap.size g1 _ cap1 _ rfl ho1 _ 1 1 [v] rfl rfl (vals_one (grown_row hg1 Sb (by omega))) (by omega) (by have := hg1.size; simp at this ⊢; omega) ?_); intro g2 cap2 w2 ho2 hg2 hb2)
       | ((with_reducible refine step_app_vals rfl _ _ rfl xt.heap.size g1 _ cap1 _ rfl ho1 _ 1 1 [v] rfl rfl (vals_one (grown_row hg1 Sc (by omega))) (by omega) (by have := hg1.size; simp at this ⊢; omega) ?_); intro g2 cap2 w2 ho2 hg2 hb2))
     all_goals
      have bz : Below xt.heap.size xt w2 := by
       have hs1 := hg1.size
       simp at hs1
       first
       | exact ((Below.refl _ xt).alloc (Nat.le_refl _) _).drew.trans ((grown_below hg1 (by omega) (by simp)).trans (((Below.refl _ w1).alloc (by omega) _).trans (grown_below hg2 (by omega) (by simp; omega))))
       | exact (((Below.refl _ xt).alloc (Nat.le_refl _) _).alloc (by simp) _).drew.trans ((grown_below hg1 (by omega) (by simp; omega)).trans (grown_below hg2 (by omega) (by omega)))
      have hbz := hbx.trans (bz.mono hbx.size)
      have rzz := rzx.below bz
      have hl1 : (st.take fr).length = fr := by rw [List.length_take]; omega
      have hl2 : (st.take fr ++ [v]).length = fr + 1 := by rw [List.length_append, hl1]; rfl
      obtain ⟨hvz, hcz, hcz2⟩ := ho2.vals hl2
      have HL := Lib.hid hl2
      have hsz := bz.size
      clear hl1 hl2 ho2 ho1 hg1 hg2 hv rvx Ra Rb Rc Sb Sc Va Vb Vc v0 v1 v2 c0 c1 c2 c3 c4 i1 i2
      go_wp2_with fail
      go_roundw
      case rel =>
       refine ⟨k + 1, st.take fr ++ [v], ⟨g2, 0, none⟩, cap2, by omega, by go_num, by rw [HL.out], by rw [HL.out]; exact hcz, hcz2, by rw [HL.out]; omega, Lib.hid rfl, Lib.hid ?_, Lib.hid ?_, Lib.hid ?_, by rw [HL.out]; exact hvz, rzz, hbz⟩
       ·rw [HL.out, HFR.out]; exact HEXP.out
       ·rw [HEV.out, evalStep_some HTV.out]; exact congrArg (fun m => some (List.take m st ++ [v])) HFR.out.symm
       ·intro u hu
        rw [List.mem_append, List.mem_singleton] at hu
        rcases hu with hu | rfl
        ·exact hstok.out u (List.mem_of_mem_take hu)
        ·exact tokVal_ok HOK.out HTOK.out HTV.out
      case measure => simp [intOf]; omega
   have d7 : (k0 == 7) = false := by simpa using hk7
   unfold maxLen at hcm
   have hkk : k0 = 3 ∨ k0 = 4 ∨ k0 = 5 ∨ k0 = 6 ∨ k0 = 9 ∨ k0 = 10 := by
    have := HTOK.out; unfold tokB isOpB at this; simp only [hk1, hk2, if_false] at this; split at this
    ·rename_i h; simp at h; omega
    ·cases this
   have htk2 : takes k0 = 2 := by unfold takes; rw [if_neg (by omega), if_pos hkk]
   have ht1 : 2 ≤ st.length := by rw [htk2] at htk; exact htk
   obtain ⟨f2, hf2⟩ : ∃ f2, f2 = st.length - 2 := ⟨_, rfl⟩
   obtain ⟨f1, hf1⟩ : ∃ f1, f1 = st.length - 1 := ⟨_, rfl⟩
   have hf2l : f2 < st.length := by omega
   have hf1l : f1 < st.length := by omega
   have bl : b < wr.heap.size := cell_lt c0
   have bz0 := (Below.refl wr.heap.size wr).alloc (Nat.le_refl _) (.cells #[.int .i64 0, .int .i64 0, .string ⟨#[]⟩] 53)
   have e0 := (bz0.cell bl).trans c0
   obtain ⟨bs, ofs, ea, s0, s1, s2⟩ := (hvals.below bz0).at_ hf2l
   obtain rfl : a = ⟨bs, ofs, none⟩ := by simpa using ea
   clear ea
   obtain ⟨bs', ofs', ea, s3, s4, s5⟩ := (hvals.below bz0).at_ hf1l
   obtain ⟨rfl, rfl⟩ : bs = bs' ∧ ofs = ofs' := by simpa using ea
   clear ea
   have HFR := Lib.hid (show f2 = st.length - takes k0 by rw [htk2]; exact hf2)
   have hfr : f2 ≤ st.length := by omega
   have i2 : IntKind.i64.wrap ((st.length : Int) - 2) = (f2 : Int) := by rw [IntWalk.i64_in _ (by omega)]; omega
   have i2b : IntKind.i64.wrap ((st.length : Int) - 1) = (f1 : Int) := by rw [IntWalk.i64_in _ (by omega)]; omega
   have i3 : (0 : Int) ≤ f2 := by omega
   have i4 : (f2 : Int) < st.length := by omega
   have i5 : (0 : Int) ≤ f1 := by omega
   have i6 : (f1 : Int) < st.length := by omega
   have i7 : (0 : Int) ≤ k := by omega
   have i8 : (k : Int) < ts.length := by omega
   have hdr : st.drop (st.length - takes k0) = [st[f2], st[f1]] := by
    have e1 : f1 = f2 + 1 := by omega
    subst e1
    rw [← HFR.out, List.drop_eq_getElem_cons hf2l, List.drop_eq_getElem_cons hf1l, List.drop_eq_nil_of_le (by omega)]
   have hpok := hstok.out _ (List.getElem_mem hf2l)
   have hqok := hstok.out _ (List.getElem_mem hf1l)
   have HT0 := Lib.hid (show tokVal row ⟨k0, tc, tvk, tvn, tvs⟩ (st.drop (st.length - takes k0)) = op2 k0 st[f2] st[f1] by rw [hdr]; simp [tokVal, opOf, hk1, hk2])
   clear hdr hf1 hf2 htk2
   have HPK := Lib.hid hpok
   have HQK := Lib.hid hqok
   clear hpok hqok
   generalize st[f2] = p at *
   generalize st[f1] = q at *
   have rz1 := Row.new wr 53 #[.int .i64 0, .int .i64 0, .string ⟨#[]⟩]
   have hbs : bs < wr.heap.size := by
    obtain ⟨b', o', e', hc'⟩ := hvals.2.2 (by omega)
    cases e'
    have := hc' 0 (by simp; omega) 0 (by simp [Vl.cells])
    exact cell_lt this
   have hnb : b ≠ wr.heap.size := by omega
   have hns : bs ≠ wr.heap.size := by omega
   have HKK := Lib.hid hkk
   clear hkk
   cases hop : op2 k0 p q
   ·have HOP := Lib.hid hop
    clear hop
    have HTV := Lib.hid (HT0.out.trans HOP.out)
    go_wp2_with fail
    have rzf0 := hrz.below bz0
    generalize wr.alloc (.cells #[.int .i64 0, .int .i64 0, .string ⟨#[]⟩] 53) = y0 at *
    go_region_held3 (fun w' => w'.cell? ⟨b, off + k * 5, none⟩ = some (.int .i64 k0) ∧ w'.cell? ⟨bs, ofs + f2 * 3, none⟩ = some (.int .i64 p.k) ∧ w'.cell? ⟨bs, ofs + f2 * 3 + 1, none⟩ = some (.int .i64 p.n) ∧ w'.cell? ⟨bs, ofs + f2 * 3 + 2, none⟩ = some (.string p.s) ∧ w'.cell? ⟨bs, ofs + f1 * 3, none⟩ = some (.int .i64 q.k) ∧ w'.cell? ⟨bs, ofs + f1 * 3 + 1, none⟩ = some (.int .i64 q.n) ∧ w'.cell? ⟨bs, ofs + f1 * 3 + 2, none⟩ = some (.string q.s))
     (first | go_keep | exact keep7 (by assumption) hbA | ((with_reducible refine keep7s hnb hns ?_); assumption))
     (first | (go_at_call 152; refine (specTwoNone k0 HKK.out p q _ HPK.out HQK.out HOP.out).mono ?_; rintro e yA ⟨v, rfl, hbA⟩; have rzA := rz1.drew.below hbA; have rfA := rzf0.drew.below hbA; obtain ⟨⟨g0, g1, g2⟩, ⟨g3, g4, g5⟩⟩ := rzA.three; obtain ⟨⟨f0, f1', f2'⟩, ⟨f3, f4, f5⟩⟩ := rfA.three))
    have hne : w.heap.size ≠ wr.heap.size := by have := lt_of_block hrz; omega
    have bzA := bz0.drew.trans (hbA.mono bz0.size)
    go_wp2_with fail
    have rzz : Row ((((((yA.setCell ⟨wr.heap.size, 0, none⟩ (.int .i64 v.k)).setCell ⟨wr.heap.size, 1, none⟩ (.int .i64 v.n)).setCell ⟨wr.heap.size, 2, none⟩ (.string v.s)).setCell ⟨w.heap.size, 0, none⟩ (.int .i64 0)).setCell ⟨w.heap.size, 1, none⟩ (.int .i64 0)).setCell ⟨w.heap.size, 2, none⟩ (.string ⟨#[]⟩)) w.heap.size 53 #[.int .i64 0, .int .i64 0, .string ⟨#[]⟩] := (((((rfA.far hne _).far hne _).far hne _).set 0 _).set 1 _).set 2 _
    obtain ⟨⟨z0, z1, z2⟩, -⟩ := rzz.three
    have hz := hb.trans (bzA.mono hb.size)
    have HN := evalB_dead (row := row) (ts := ts) (k := k + 1) (by rw [HEV.out, evalStep_none HTV.out])
    have HNN := Lib.hid HN
    clear HN
    refine bodyPost_ret (v := .tuple #[.agg #[.int .i64 0, .int .i64 0, .string ⟨#[]⟩], .bool false]) (by simp [results, Tryz.results125, go_sem, z0, z1, z2]) rfl ⟨by rw [HNN.out]; rfl, ?_⟩
    have hq := hb.size
    repeat (first | with_reducible exact hz | with_reducible refine Below.drew ?_ | with_reducible refine Below.setCell ?_ (by simp; omega) _ | with_reducible refine Below.setCell ?_ (by simp) _)
   ·rename_i v
    have HOP := Lib.hid hop
    clear hop
    have HTV := Lib.hid (HT0.out.trans HOP.out)
    go_wp2_with fail
    have rzf0 := hrz.below bz0
    generalize wr.alloc (.cells #[.int .i64 0, .int .i64 0, .string ⟨#[]⟩] 53) = y0 at *
    go_region_held3 (fun w' => w'.cell? ⟨b, off + k * 5, none⟩ = some (.int .i64 k0) ∧ w'.cell? ⟨bs, ofs + f2 * 3, none⟩ = some (.int .i64 p.k) ∧ w'.cell? ⟨bs, ofs + f2 * 3 + 1, none⟩ = some (.int .i64 p.n) ∧ w'.cell? ⟨bs, ofs + f2 * 3 + 2, none⟩ = some (.string p.s) ∧ w'.cell? ⟨bs, ofs + f1 * 3, none⟩ = some (.int .i64 q.k) ∧ w'.cell? ⟨bs, ofs + f1 * 3 + 1, none⟩ = some (.int .i64 q.n) ∧ w'.cell? ⟨bs, ofs + f1 * 3 + 2, none⟩ = some (.string q.s))
     (first | go_keep | exact keep7 (by assumption) hbA | ((with_reducible refine keep7s hnb hns ?_); assumption))
     (first | (go_at_call 152; refine (specTwoSome k0 HKK.out p q v _ HPK.out HQK.out HOP.out).mono ?_; rintro e yA ⟨rfl, hbA⟩; have rzA := rz1.drew.below hbA; have rfA := rzf0.drew.below hbA; obtain ⟨⟨g0, g1, g2⟩, ⟨g3, g4, g5⟩⟩ := rzA.three; obtain ⟨⟨f0, f1', f2'⟩, ⟨f3, f4, f5⟩⟩ := rfA.three))
    have bzA := bz0.drew.trans (hbA.mono bz0.size)
    go_wp2_with fail
    have rvx := ((rzA.set 0 (.int .i64 v.k)).set 1 (.int .i64 v.n)).set 2 (.string v.s)
    have bv := ((bzA.setCell (p := ⟨wr.heap.size, 0, none⟩) (Nat.le_refl _) (.int .i64 v.k)).setCell (p := ⟨wr.heap.size, 1, none⟩) (Nat.le_refl _) (.int .i64 v.n)).setCell (p := ⟨wr.heap.size, 2, none⟩) (Nat.le_refl _) (.string v.s)
    have hv := hvals.below bv
    have hzx : wr.heap.size < (((yA.setCell ⟨wr.heap.size, 0, none⟩ (.int .i64 v.k)).setCell ⟨wr.heap.size, 1, none⟩ (.int .i64 v.n)).setCell ⟨wr.heap.size, 2, none⟩ (.string v.s)).heap.size := by have := lt_of_block rzA; simp; exact this
    have hbx := hb.trans (bv.mono hb.size)
    have rzx := hrz.below bv
    generalize ((yA.setCell ⟨wr.heap.size, 0, none⟩ (.int .i64 v.k)).setCell ⟨wr.heap.size, 1, none⟩ (.int .i64 v.n)).setCell ⟨wr.heap.size, 2, none⟩ (.string v.s) = xt at *
    clear rz1 rzA rfA rzf0 g0 g1 g2 g3 g4 g5 f0 f1' f2' f3 f4 f5 s0 s1 s2 s3 s4 s5 e0 bz0 bzA
    obtain ⟨⟨v0, v1, v2⟩, -⟩ := rvx.three
    have i1 : (f2 : Int) ≤ c := by omega
    have hbs : wr.heap.size ≤ xt.heap.size := by omega
    have Ra : Row (xt.alloc (.cells #[] 53)).drew xt.heap.size 53 #[] := Row.new xt 53 #[]
    have Rb : Row ((xt.alloc (.cells #[] 53)).alloc (.cells #[.int .i64 v.k, .int .i64 v.n, .string v.s] 53)).drew xt.heap.size 53 #[] := (Row.new xt 53 #[]).alloc _
    have Rc : Row ((xt.alloc (.cells #[.int .i64 v.k, .int .i64 v.n, .string v.s] 53)).alloc (.cells #[] 53)).drew (xt.heap.size + 1) 53 #[] := Row.newAt _ _ _ _ (by simp)
    have Sb : Row ((xt.alloc (.cells #[] 53)).alloc (.cells #[.int .i64 v.k, .int .i64 v.n, .string v.s] 53)).drew (xt.heap.size + 1) 53 #[.int .i64 v.k, .int .i64 v.n, .string v.s] := Row.newAt _ _ _ _ (by simp)
    have Sc : Row ((xt.alloc (.cells #[.int .i64 v.k, .int .i64 v.n, .string v.s] 53)).alloc (.cells #[] 53)).drew xt.heap.size 53 #[.int .i64 v.k, .int .i64 v.n, .string v.s] := (Row.new _ _ _).alloc _
    have Va : Vals (xt.alloc (.cells #[] 53)).drew (some ⟨bs, ofs, none⟩) f2 (st.take f2) := (hv.below ((Below.refl _ xt).alloc (Nat.le_refl _) _)).take hfr
    have Vb : Vals ((xt.alloc (.cells #[] 53)).alloc (.cells #[.int .i64 v.k, .int .i64 v.n, .string v.s] 53)).drew (some ⟨bs, ofs, none⟩) f2 (st.take f2) := (hv.below (((Below.refl _ xt).alloc (Nat.le_refl _) _).alloc (by simp) _)).take hfr
    have Vc : Vals ((xt.alloc (.cells #[.int .i64 v.k, .int .i64 v.n, .string v.s] 53)).alloc (.cells #[] 53)).drew (some ⟨bs, ofs, none⟩) f2 (st.take f2) := (hv.below (((Below.refl _ xt).alloc (Nat.le_refl _) _).alloc (by simp) _)).take hfr
    have hlen24 : f2 ≤ 1000 := by omega
    go_region_held3 (fun w' => w'.cell? ⟨wr.heap.size, 0, none⟩ = some (.int .i64 v.k) ∧ w'.cell? ⟨wr.heap.size, 1, none⟩ = some (.int .i64 v.n) ∧ w'.cell? ⟨wr.heap.size, 2, none⟩ = some (.string v.s))
     (first | go_keep | ((with_reducible refine keep3 ?_ ((Below.refl _ _).alloc (Nat.le_refl _) _)); assumption) | ((with_reducible refine keep3g ?_ hg2 ?_ ?_ ?_) <;> first | assumption | (simp only; omega)) | ((with_reducible refine keep3g ?_ hg1 ?_ ?_ ?_) <;> first | assumption | (simp only; omega)))
     (first
      | ((with_reducible refine step_app_vals0 rfl _ _ rfl xt.heap.size xt.heap.size rfl Ra (by omega) ⟨bs, ofs, none⟩ f2 c (st.take f2) rfl rfl Va (by omega) (by first | (simp; done) | (simp; omega)) ?_); intro g1 cap1 w1 ho1 hg1 hb1)
      | ((with_reducible refine step_app_vals0 rfl _ _ rfl xt.heap.size xt.heap.size rfl Rb (by omega) ⟨bs, ofs, none⟩ f2 c (st.take f2) rfl rfl Vb (by omega) (by first | (simp; done) | (simp; omega)) ?_); intro g1 cap1 w1 ho1 hg1 hb1)
      | ((with_reducible refine step_app_vals0 rfl _ _ rfl xt.heap.size (xt.heap.size + 1) rfl Rc (by omega) ⟨bs, ofs, none⟩ f2 c (st.take f2) rfl rfl Vc (by omega) (by first | (simp; done) | (simp; omega)) ?_); intro g1 cap1 w1 ho1 hg1 hb1)
      | ((with_reducible refine step_app_vals rfl _ _ rfl xt.heap.size g1 _ cap1 _ rfl (ho1.alloc _) _ 1 1 [v] rfl rfl (vals_one (Row.new _ _ _)) (by omega) (by have := hg1.size; simp at this ⊢; omega) ?_); intro g2 cap2 w2 ho2 hg2 hb2)
      | ((with_reducible refine step_app_vals rfl _ _ rfl xt.heap.size g1 _ cap1 _ rfl ho1 _ 1 1 [v] rfl rfl (vals_one (grown_row hg1 Sb (by omega))) (by omega) (by have := hg1.size; simp at this ⊢; omega) ?_); intro g2 cap2 w2 ho2 hg2 hb2)
      | ((with_reducible refine step_app_vals rfl _ _ rfl xt.heap.size g1 _ cap1 _ rfl ho1 _ 1 1 [v] rfl rfl (vals_one (grown_row hg1 Sc (by omega))) (by omega) (by have := hg1.size; simp at this ⊢; omega) ?_); intro g2 cap2 w2 ho2 hg2 hb2))
    all_goals
     have bz : Below xt.heap.size xt w2 := by
      have hs1 := hg1.size
      simp at hs1
      first
      | exact ((Below.refl _ xt).alloc (Nat.le_refl _) _).drew.trans ((grown_below hg1 (by omega) (by simp)).trans (((Below.refl _ w1).alloc (by omega) _).trans (grown_below hg2 (by omega) (by simp; omega))))
      | exact (((Below.refl _ xt).alloc (Nat.le_refl _) _).alloc (by simp) _).drew.trans ((grown_below hg1 (by omega) (by simp; omega)).trans (grown_below hg2 (by omega) (by omega)))
     have hbz := hbx.trans (bz.mono hbx.size)
     have rzz := rzx.below bz
     have hl1 : (st.take f2).length = f2 := by rw [List.length_take]; omega
     have hl2 : (st.take f2 ++ [v]).length = f2 + 1 := by rw [List.length_append, hl1]; rfl
     obtain ⟨hvz, hcz, hcz2⟩ := ho2.vals hl2
     have HL := Lib.hid hl2
     have hsz := bz.size
     clear hl1 hl2 ho2 ho1 hg1 hg2 hv rvx Ra Rb Rc Sb Sc Va Vb Vc v0 v1 v2 c0 c1 c2 c3 c4 i1 i2
     go_wp2_with fail
     go_roundw
     case rel =>
      refine ⟨k + 1, st.take f2 ++ [v], ⟨g2, 0, none⟩, cap2, by omega, by go_num, by rw [HL.out], by rw [HL.out]; exact hcz, hcz2, by rw [HL.out]; omega, Lib.hid rfl, Lib.hid ?_, Lib.hid ?_, Lib.hid ?_, by rw [HL.out]; exact hvz, rzz, hbz⟩
      ·rw [HL.out, HFR.out]; exact HEXP.out
      ·rw [HEV.out, evalStep_some HTV.out]; exact congrArg (fun m => some (List.take m st ++ [v])) HFR.out.symm
      ·intro u hu
       rw [List.mem_append, List.mem_singleton] at hu
       rcases hu with hu | rfl
       ·exact hstok.out u (List.mem_of_mem_take hu)
       ·exact tokVal_ok HOK.out HTOK.out HTV.out
     case measure => simp [intOf]; omega
  ·have e : ts.take k = ts := List.take_of_length_le (by omega)
   have hx := hexp.out
   rw [e] at hx
   have hl1 : st.length = 1 := by have := HGO.out; rw [hx] at this; simpa using this
   have hev' := hev.out
   rw [e] at hev'
   have h0 : 0 < st.length := by omega
   obtain ⟨bs, ofs, ea, s0, s1, s2⟩ := hvals.at_ h0
   obtain rfl : a = ⟨bs, ofs, none⟩ := by simpa using ea
   have hB : evalB ts row = some st[0] := by
    unfold evalB
    rw [if_pos (by rw [Bool.and_eq_true]; exact ⟨HR.out, HE.out⟩), hev']
    simp [h0]
   have HB := Lib.hid hB
   clear hB hev' hx e hl1 ea
   generalize st[0] = v at *
   rw [Nat.zero_mul, Nat.add_zero] at s0 s1 s2
   obtain ⟨⟨f0, f1, f2⟩, ⟨f3, f4, f5⟩⟩ := hrz.three
   have rzz : Row (((wr.setCell ⟨w.heap.size, 0, none⟩ (.int .i64 v.k)).setCell ⟨w.heap.size, 1, none⟩ (.int .i64 v.n)).setCell ⟨w.heap.size, 2, none⟩ (.string v.s)) w.heap.size 53 #[.int .i64 v.k, .int .i64 v.n, .string v.s] := ((hrz.set 0 _).set 1 _).set 2 _
   obtain ⟨⟨z0, z1, z2⟩, -⟩ := rzz.three
   clear rzz
   go_wp2_with fail
   refine bodyPost_ret (v := .tuple #[.agg #[.int .i64 v.k, .int .i64 v.n, .string v.s], .bool true]) (by simp [results, Tryz.results125, go_sem, z0, z1, z2]) rfl ⟨by rw [HB.out]; rfl, ?_⟩
   repeat (first | with_reducible exact hb | with_reducible refine Below.drew ?_ | with_reducible refine Below.setCell ?_ (by simp; omega) _ | with_reducible refine Below.setCell ?_ (by simp) _)
set_option maxRecDepth 100000 in
set_option maxHeartbeats 1000000 in
theorem specL2Truth (A R : Option Addr) (n m cap capR : Nat) (ts : List Tk) (row : List Vl) (w : World) (h : Toks w A n ts) (hr : Vals w R m row) (hn : n ≤ maxLen) (hm : m ≤ maxLen) (hrow : rowB row = true) (hex : exprB ts row.length = true) :
  Calls Tryz.prog 98 #[.slice A n cap, .slice R m capR] w fun e w' => e = .returned (.int .i64 (truthB ts row)) ∧ Below w.heap.size w w' := by
 have HR := Lib.hid hrow
 have HX := Lib.hid hex
 clear hrow hex
 cases hv : evalB ts row with
 | none =>
  have HE := Lib.hid hv
  have HT := Lib.hid (show truthB ts row = -1 by simp [truthB, hv])
  have HZ := Lib.hid (show truS Vl.zero = true by simp [truS, truOf, Vl.zero])
  clear hv
  go_enter Tryz.func98, Tryz.ntmps98
  go_wp2_with fail
  refine (specL2Eval A R n m cap capR ts row _ h hr hn hm HR.out HX.out).mono ?_
  rintro e w1 ⟨rfl, hb1⟩
  rw [HE.out]
  simp only [Option.getD_none, Option.isSome_none]
  have r1 := Row.new w1 53 #[.int .i64 Vl.zero.k, .int .i64 Vl.zero.n, .string Vl.zero.s]
  have hbx := hb1.alloc hb1.size (.cells #[.int .i64 Vl.zero.k, .int .i64 Vl.zero.n, .string Vl.zero.s] 53)
  go_wp2_with fail
  generalize Vl.zero = v at *
  refine (specOf v _).mono ?_
  rintro e w2 ⟨rfl, hb2⟩
  go_wp2
  go_ret
  exact ⟨retI (by rw [HT.out]), hbx.trans (hb2.mono hbx.size)⟩
 | some v =>
  have HE := Lib.hid hv
  have HT := Lib.hid (show truthB ts row = truOf v by simp [truthB, hv])
  clear hv
  cases hs : truS v
  ·have HS := Lib.hid hs
   have HT2 := Lib.hid (show truOf v = -1 by simpa [truS] using hs)
   clear hs
   go_enter Tryz.func98, Tryz.ntmps98
   go_wp2_with fail
   refine (specL2Eval A R n m cap capR ts row _ h hr hn hm HR.out HX.out).mono ?_
   rintro e w1 ⟨rfl, hb1⟩
   rw [HE.out]
   simp only [Option.getD_some, Option.isSome_some]
   have hbx := hb1.alloc hb1.size (.cells #[.int .i64 v.k, .int .i64 v.n, .string v.s] 53)
   go_wp2_with fail
   refine (specOf v _).mono ?_
   rintro e w2 ⟨rfl, hb2⟩
   rw [HS.out]
   go_wp2
   go_ret
   exact ⟨retI (by rw [HT.out, HT2.out]), hbx.trans (hb2.mono hbx.size)⟩
  ·have HS := Lib.hid hs
   have HT2 := Lib.hid (show truN v = truOf v by have h1 : ¬ truOf v = -1 := by simpa [truS] using hs
                                                 simp [truN, h1])
   clear hs
   go_enter Tryz.func98, Tryz.ntmps98
   go_wp2_with fail
   refine (specL2Eval A R n m cap capR ts row _ h hr hn hm HR.out HX.out).mono ?_
   rintro e w1 ⟨rfl, hb1⟩
   rw [HE.out]
   simp only [Option.getD_some, Option.isSome_some]
   have hbx := hb1.alloc hb1.size (.cells #[.int .i64 v.k, .int .i64 v.n, .string v.s] 53)
   go_wp2_with fail
   refine (specOf v _).mono ?_
   rintro e w2 ⟨rfl, hb2⟩
   rw [HS.out]
   go_wp2
   go_ret
   exact ⟨retI (by rw [HT.out, HT2.out]), hbx.trans (hb2.mono hbx.size)⟩
end Go.Proofs.YtjhhamlnlalkoaaGreat
namespace Go.Proofs.YtjhhamlnlalkoaaGreat
open Go.RowKit Go.Maps
set_option maxRecDepth 100000 in
set_option maxHeartbeats 1000000 in
theorem specNulls (A1 AR : Option Addr) (n1 c1 nR cR : Nat) (v0 v2 v3 v4 v5 : Value) (cols : List Cl) (row : List Vl) (ok : Nat → Prop) (w : World)
  (h : Sl ClR 6 ok w A1 n1 cols) (hv : Vals w AR nR row) (hn1 : n1 ≤ 1048576) (hn2 : nR ≤ 1048576) (hlen : row.length = cols.length) :
  Calls Tryz.prog 57 #[.agg #[v0, .slice A1 n1 c1, v2, v3, v4, v5], .slice AR nR cR] w fun e w' => e = .returned (.bool (nullsB cols row)) ∧ Below w.heap.size w w' := by
 obtain rfl : cols.length = n1 := h.1
 obtain rfl : row.length = nR := hv.len
 have hb0 := (Below.refl w.heap.size w).alloc (Nat.le_refl _) (.cells #[v0, .slice A1 cols.length c1, v2, v3, v4, v5] 45)
 have r0 := Row.new w 45 #[v0, .slice A1 cols.length c1, v2, v3, v4, v5]
 have hz : (cols.zip row).length = cols.length := by simp [hlen]
 have HZ := Lib.hid hz
 have HL := Lib.hid hlen
 clear hz hlen
 go_enter Tryz.func57, Tryz.ntmps57
 go_wp2_with fail
 generalize w.alloc (.cells #[v0, .slice A1 cols.length c1, v2, v3, v4, v5] 45) = x0 at *
 go_loopw [5] (fun i wr => ∃ k : Nat, k ≤ cols.length ∧ i = .int .i64 k ∧ Hid (((cols.zip row).take k).all nullV = true) ∧ Row wr w.heap.size 45 #[v0, .slice A1 cols.length c1, v2, v3, v4, v5] ∧ Below w.heap.size w wr) (fun i _ => cols.length - (intOf i).toNat)
 case atStart => exact ⟨0, by omega, rfl, Lib.hid (by simp), r0, hb0⟩
 case round =>
  obtain ⟨k, hk, rfl, hall, hr, hb⟩ := hrel
  by_cases hlt : k < cols.length
  ·have hlt2 : k < row.length := by have := HL.out; omega
   obtain ⟨⟨d0, d1, d2, d3, d4, d5⟩, -⟩ := hr.all6
   obtain ⟨b2, off2, rfl, p0, p1, p2⟩ := (hv.below hb).at_ hlt2
   obtain ⟨b, off, -, rfl, q0, q1, q2, q3, q4, q5⟩ := ClR.at_ (h.below ClR.stays hb) hlt
   have hsn := all_take nullV (cols.zip row) k (by rw [HZ.out]; exact hlt)
   have hno := fun hf => all_no nullV (cols.zip row) k (by rw [HZ.out]; exact hlt) hf
   have eg : nullV ((cols.zip row)[k]'(by rw [HZ.out]; exact hlt)) = !(cols[k].nn && row[k].k == 0) := by rw [List.getElem_zip]; rfl
   rw [hall.out, Bool.true_and, eg] at hsn
   rw [eg] at hno
   have i0 : (0 : Int) ≤ k := by omega
   have i1 : (k : Int) < cols.length := by omega
   have i2 : (k : Int) < row.length := by have := HL.out; omega
   clear eg
   cases hd : cols[k].nn
   ·have HA := Lib.hid (show ((cols.zip row).take (k + 1)).all nullV = true by rw [hsn, hd]; rfl)
    rw [hd] at q2
    clear hsn hno hall
    go_wp2_with fail
    go_roundw
    case rel => exact ⟨k + 1, by omega, by go_num, Lib.hid HA.out, hr, hb⟩
    case measure => simp [intOf]; omega
   rw [hd] at q2
   cases hc : (row[k].k == 0)
   ·have HA := Lib.hid (show ((cols.zip row).take (k + 1)).all nullV = true by rw [hsn, hc, Bool.and_false]; rfl)
    clear hsn hno hall
    go_wp2_with fail
    go_roundw
    case rel => exact ⟨k + 1, by omega, by go_num, Lib.hid HA.out, hr, hb⟩
    case measure => simp [intOf]; omega
   ·have HF := Lib.hid (show nullsB cols row = false from hno (by rw [hc, hd]; rfl))
    clear hsn hno hall
    go_wp2_with fail
    go_ret
    exact ⟨retB HF.out.symm, hb⟩
  ·have e : (cols.zip row).take k = cols.zip row := List.take_of_length_le (by rw [HZ.out]; omega)
   have h1 := hall.out
   rw [e] at h1
   have HF := Lib.hid (show nullsB cols row = true from h1)
   have i3 : ¬ (k : Int) < row.length := by have := HL.out; omega
   clear e h1 hall
   go_wp2
   go_ret
   exact ⟨retB HF.out.symm, hb⟩
theorem truthB_rng (ts : List Tk) (row : List Vl) : truthB ts row = -1 ∨ truthB ts row = 0 ∨ truthB ts row = 1 ∨ truthB ts row = 2 := by
 unfold truthB
 split
 ·unfold truOf
  split
  ·simp
  ·split
   ·unfold yes; split <;> simp
   ·simp
 ·simp
set_option maxRecDepth 100000 in
set_option maxHeartbeats 1000000 in
theorem specChecks (AL AR : Option Addr) (nL cL nR cR : Nat) (v0 v1 v2 v3 v5 : Value) (l : List Ck) (row : List Vl) (ok : Nat → Prop) (w : World)
  (h : Sl CkR 1 ok w AL nL l) (hv : Vals w AR nR row) (hs : szL Ck.sz l ≤ 1048576) (hn2 : nR ≤ 1048576) (hrow : rowB row = true) (hex : ∀ u ∈ l, exprB u.expr row.length = true) :
  Calls Tryz.prog 58 #[.agg #[v0, v1, v2, v3, .slice AL nL cL, v5], .slice AR nR cR] w fun e w' => e = .returned (.bool (checksB l row)) ∧ Below w.heap.size w w' := by
 obtain rfl : l.length = nL := h.1
 have hn1 : l.length ≤ 1048576 := by unfold szL at hs; omega
 have HSZ := Lib.hid hs
 have HR := Lib.hid hrow
 have HX := Lib.hid hex
 have HM := Lib.hid (show nR ≤ maxLen by unfold maxLen; omega)
 clear hs hrow hex
 have hb0 := (Below.refl w.heap.size w).alloc (Nat.le_refl _) (.cells #[v0, v1, v2, v3, .slice AL l.length cL, v5] 45)
 have r0 := Row.new w 45 #[v0, v1, v2, v3, .slice AL l.length cL, v5]
 go_enter Tryz.func58, Tryz.ntmps58
 go_wp2_with fail
 generalize w.alloc (.cells #[v0, v1, v2, v3, .slice AL l.length cL, v5] 45) = x0 at *
 go_loopw [5] (fun i wr => ∃ k : Nat, k ≤ l.length ∧ i = .int .i64 k ∧ Hid ((l.take k).all (ckV row) = true) ∧ Row wr w.heap.size 45 #[v0, v1, v2, v3, .slice AL l.length cL, v5] ∧ Below w.heap.size w wr) (fun i _ => l.length - (intOf i).toNat)
 case atStart => exact ⟨0, by omega, rfl, Lib.hid (by simp), r0, hb0⟩
 case round =>
  obtain ⟨k, hk, rfl, hall, hr, hb⟩ := hrel
  obtain ⟨⟨d0, d1, d2, d3, d4, d5⟩, -⟩ := hr.all6
  by_cases hlt : k < l.length
  ·obtain ⟨b, off, A9, n9, c9, -, ea, q0, s0, hcp⟩ := CkR.at_ (h.below CkR.stays hb) hlt
   rw [ea] at d4
   clear ea
   obtain rfl : l[k].expr.length = n9 := s0.1
   have hv1 := hv.below hb
   have hk9 : l[k].expr.length ≤ 1048576 := by have := HSZ.out; have := sum_mem_le Ck.sz l k hlt; unfold szL at *; simp only [Ck.sz] at *; (try unfold szL at *); (try simp only at *); omega
   have HK9 := Lib.hid (show l[k].expr.length ≤ maxLen by unfold maxLen; omega)
   have hsn := all_take (ckV row) l k hlt
   rw [hall.out, Bool.true_and] at hsn
   have hno := fun hf => all_no (ckV row) l k hlt hf
   have i0 : (0 : Int) ≤ k := by omega
   have i1 : (k : Int) < l.length := by omega
   have hcall := specL2Truth A9 AR l[k].expr.length nR c9 cR l[k].expr row _ (Sl.cellz (fun _ => rfl) s0) hv1 HK9.out HM.out HR.out (HX.out _ (List.getElem_mem hlt))
   have HCALL := Lib.hid hcall
   clear hk9 hcall
   rcases truthB_rng l[k].expr row with h1 | h1 | h1 | h1
   ·have HF := Lib.hid (show checksB l row = false from hno (by unfold ckV truOkB; rw [h1]; rfl))
    have H1 := Lib.hid h1
    clear hsn hno hall h1
    go_wp2_with fail
    refine HCALL.out.mono ?_
    rintro e w1 ⟨rfl, hb1⟩
    rw [H1.out]
    clear HCALL
    go_wp2
    go_ret
    exact ⟨retB HF.out.symm, hb.trans (hb1.mono hb.size)⟩
   ·have HF := Lib.hid (show checksB l row = false from hno (by unfold ckV truOkB; rw [h1]; rfl))
    have H1 := Lib.hid h1
    clear hsn hno hall h1
    go_wp2_with fail
    refine HCALL.out.mono ?_
    rintro e w1 ⟨rfl, hb1⟩
    rw [H1.out]
    clear HCALL
    go_wp2
    go_ret
    exact ⟨retB HF.out.symm, hb.trans (hb1.mono hb.size)⟩
   all_goals
    have HA := Lib.hid (show (l.take (k + 1)).all (ckV row) = true by rw [hsn]; unfold ckV truOkB; rw [h1]; rfl)
    have H1 := Lib.hid h1
    clear hsn hno hall h1
    go_wp2_with fail
    refine HCALL.out.mono ?_
    rintro e w1 ⟨rfl, hb1⟩
    rw [H1.out]
    clear HCALL
    go_wp2
    go_roundw
    case rel => exact ⟨k + 1, by omega, by go_num, Lib.hid HA.out, hr.below hb1, hb.trans (hb1.mono hb.size)⟩
    case measure => simp [intOf]; omega
  ·have e : l.take k = l := List.take_of_length_le (by omega)
   have h1 := hall.out
   rw [e] at h1
   have HF := Lib.hid (show checksB l row = true from h1)
   clear e h1 hall
   go_wp2
   go_ret
   exact ⟨retB HF.out.symm, hb⟩
theorem fit_all {cols : List Cl} {row : List Vl} (hl : row.length = cols.length) (h : fitAll cols row = true) : row.all Vl.ok = true := by
 induction row generalizing cols with
 | nil => rfl
 | cons v vs ih =>
  cases cols with
  | nil => simp at hl
  | cons c cs =>
   unfold fitAll at h
   rw [List.zip_cons_cons, List.all_cons, Bool.and_eq_true] at h
   have h1 : valOkB v.k v.n v.s = true := by
    have := h.1; unfold fitV fitsB at this; simp only [Bool.and_eq_true] at this; exact this.1
   rw [List.all_cons, ih (by simpa using hl) h.2, Bool.and_true]
   exact h1
theorem rowB_of {x : Tb} {row : List Vl} (hT : tableB x = true) (hK : kindsB x.cols row = true) : rowB row = true := by
 unfold kindsB at hK
 rw [Bool.and_eq_true, decide_eq_true_eq] at hK
 unfold tableB colsB at hT
 simp only [Bool.and_eq_true, decide_eq_true_eq] at hT
 have h8 : x.cols.length ≤ 8 := hT.2.1.2.1
 unfold rowB
 rw [fit_all hK.1 hK.2, decide_eq_true (by omega)]; rfl
theorem exprs_of {x : Tb} {row : List Vl} (hT : tableB x = true) (hl : row.length = x.cols.length) : ∀ u ∈ x.checks, exprB u.expr row.length = true := by
 unfold tableB cksB at hT
 simp only [Bool.and_eq_true, decide_eq_true_eq] at hT
 intro u hu
 rw [hl]
 exact List.all_eq_true.1 hT.2.2.2.2.1.2 u hu
end Go.Proofs.YtjhhamlnlalkoaaGreat
namespace Go.Proofs.YtjhhamlnlalkoaaGreat
open Go.RowKit
def nextI (rows : List Rw) : Int := match rows.getLast? with | none => 1 | some r => r.id + 1
theorem nextI_last {rows : List Rw} {k : Nat} (h : rows.length = k + 1) (hk : k < rows.length) : nextI rows = rows[k].id + 1 := by
 unfold nextI
 rw [List.getLast?_eq_getElem?, h, Nat.add_sub_cancel, List.getElem?_eq_getElem hk]
set_option maxRecDepth 100000 in
theorem specL6Next (AL : Option Addr) (nL cL : Nat) (rows : List Rw) (ok : Nat → Prop) (w : World) (hr : Sl RwR 2 ok w AL nL rows) (hn : nL ≤ 1048576) (hid : ∀ r ∈ rows, -1000000000 ≤ r.id ∧ r.id ≤ 1000000000) :
  Calls Tryz.prog 136 #[.agg #[.slice AL nL cL]] w fun e w' => e = .returned (.int .i64 (nextI rows)) ∧ Below w.heap.size w w' := by
 obtain rfl : rows.length = nL := hr.1
 have hb0 := (Below.refl w.heap.size w).alloc (Nat.le_refl _) (.cells #[.slice AL rows.length cL] 33)
 obtain ⟨c0, -⟩ := (Row.new w 33 #[.slice AL rows.length cL]).all1
 by_cases h0 : rows.length = 0
 ·have hx : rows = [] := List.length_eq_zero_iff.1 h0
  subst hx
  go_enter Tryz.func136, Tryz.ntmps136
  go_wp2
  go_ret
  exact ⟨rfl, hb0⟩
 ·obtain ⟨k, hk⟩ : ∃ k, rows.length = k + 1 := ⟨rows.length - 1, by omega⟩
  have hlt : k < rows.length := by omega
  obtain ⟨b, off, A1, n1, c1, -, rfl, q0, q1, -, -⟩ := RwR.at_ (hr.below RwR.stays hb0) hlt
  have hrx := hid _ (List.getElem_mem hlt)
  have HN := Lib.hid (nextI_last hk hlt)
  have hk1 : (rows.length : Int) - 1 = k := by omega
  have hk2 : ¬ (rows.length : Int) = 0 := by omega
  have hk3 : ((rows.length : Int) == 0) = false := by simpa using hk2
  have i0 : (0 : Int) ≤ k := by omega
  have i1 : (k : Int) < rows.length := by omega
  have hw : IntKind.i64.wrap (rows[k].id + 1) = rows[k].id + 1 := by rw [IntKind.wrap_i64]; omega
  generalize rows[k].id = id at *
  clear hk h0 hid
  go_enter Tryz.func136, Tryz.ntmps136
  go_wp2
  go_ret
  exact ⟨by rw [HN.out]; rfl, hb0⟩
def ableI (t : Tb) (row : List Vl) : Int := if nullsB t.cols row then (if checksB t.checks row then 0 else 3) else 2
set_option maxRecDepth 100000 in
set_option maxHeartbeats 1000000 in
theorem specL6Able (A1 : Option Addr) (n1 c1 : Nat) (A2 : Option Addr) (n2 c2 : Nat) (A3 : Option Addr) (n3 c3 : Nat) (A4 : Option Addr) (n4 c4 : Nat) (A5 : Option Addr) (n5 c5 : Nat) (AR : Option Addr) (nR cR : Nat) (t : Tb) (row : List Vl) (ok okv : Nat → Prop) (w : World)
  (h1 : Sl ClR 6 ok w A1 n1 t.cols) (h4 : Sl CkR 1 ok w A4 n4 t.checks) (hv : Sl VlR 3 okv w AR nR row) (hts : t.sz ≤ 1048576) (hn2 : nR ≤ 1048576) (hlen : row.length = t.cols.length) (hrow : rowB row = true) (hex : ∀ u ∈ t.checks, exprB u.expr row.length = true) :
  Calls Tryz.prog 135 #[.agg #[.string t.name, .slice A1 n1 c1, .slice A2 n2 c2, .slice A3 n3 c3, .slice A4 n4 c4, .slice A5 n5 c5], .slice AR nR cR] w fun e w' => e = .returned (.int .i64 (ableI t row)) ∧ Below w.heap.size w w' := by
 have hn1 : n1 ≤ 1048576 := by rw [← h1.1]; unfold Tb.sz szL at hts; omega
 have hcs : szL Ck.sz t.checks ≤ 1048576 := by unfold Tb.sz at hts; omega
 have HC := Lib.hid hcs
 have HX := Lib.hid hex
 have HR := Lib.hid hrow
 have hb0 := (Below.refl w.heap.size w).alloc (Nat.le_refl _) (.cells #[.string t.name, .slice A1 n1 c1, .slice A2 n2 c2, .slice A3 n3 c3, .slice A4 n4 c4, .slice A5 n5 c5] 45)
 have rt := Row.new w 45 #[.string t.name, .slice A1 n1 c1, .slice A2 n2 c2, .slice A3 n3 c3, .slice A4 n4 c4, .slice A5 n5 c5]
 obtain ⟨⟨p0, p1, p2, p3, p4, p5⟩, -⟩ := rt.all6
 clear hcs hex hrow
 go_enter Tryz.func135, Tryz.ntmps135
 go_wp2_with fail
 generalize w.alloc (.cells #[.string t.name, .slice A1 n1 c1, .slice A2 n2 c2, .slice A3 n3 c3, .slice A4 n4 c4, .slice A5 n5 c5] 45) = z at *
 refine (specNulls A1 AR n1 c1 nR cR _ _ _ _ _ t.cols row _ _ (h1.below ClR.stays hb0) (Sl.cellz (fun _ => rfl) (hv.below VlR.stays hb0)) hn1 hn2 hlen).mono ?_
 rintro e w1 ⟨rfl, hq⟩
 have rt := rt.below hq
 have hb1 := hb0.trans (hq.mono hb0.size)
 clear p0 p1 p2 p3 p4 p5 hq
 obtain ⟨⟨p0, p1, p2, p3, p4, p5⟩, -⟩ := rt.all6
 cases hu : nullsB t.cols row
 ·have HF := Lib.hid (show ableI t row = 2 by unfold ableI; rw [hu]; rfl)
  go_wp2_with fail
  go_ret
  exact ⟨by rw [HF.out]; rfl, hb1⟩
 go_wp2_with fail
 refine (specChecks A4 AR n4 c4 nR cR _ _ _ _ _ t.checks row _ _ (h4.below CkR.stays hb1) (Sl.cellz (fun _ => rfl) (hv.below VlR.stays hb1)) HC.out hn2 HR.out HX.out).mono ?_
 rintro e w2 ⟨rfl, hq⟩
 have hb2 := hb1.trans (hq.mono hb1.size)
 clear hq
 cases hk : checksB t.checks row
 ·have HF := Lib.hid (show ableI t row = 3 by unfold ableI; rw [hu, hk]; rfl)
  go_wp2_with fail
  go_ret
  exact ⟨by rw [HF.out]; rfl, hb2⟩
 ·have HF := Lib.hid (show ableI t row = 0 by unfold ableI; rw [hu, hk]; rfl)
  go_wp2_with fail
  go_ret
  exact ⟨by rw [HF.out]; rfl, hb2⟩
def keysIn (t : Tb) (v : List Vl) : Prop := t.key.all (inV v) = true ∧ (∀ u ∈ t.uniqs, u.cols.all (inV v) = true) ∧ v.length ≤ 1048576
def rivB6 (t : Tb) (x r : Rw) : Bool := (r.id != x.id) && !(uniqueB t [r] x)
def rivI (t : Tb) (rows : List Rw) (x : Rw) : List Int := (rows.filter (rivB6 t x)).map Rw.id
theorem rivI_take (t : Tb) (rows : List Rw) (x : Rw) (k : Nat) (h : k < rows.length) : rivI t (rows.take (k + 1)) x = rivI t (rows.take k) x ++ (if rivB6 t x rows[k] then [rows[k].id] else []) := by
 unfold rivI
 rw [List.take_succ_eq_append_getElem h, List.filter_append, List.map_append]
 congr 1
 cases hb : rivB6 t x rows[k] <;> simp [hb]
theorem rivI_len (t : Tb) (rows : List Rw) (x : Rw) (k : Nat) : (rivI t (rows.take k) x).length ≤ k := by
 unfold rivI
 rw [List.length_map]
 exact Nat.le_trans (List.length_filter_le _ _) (by rw [List.length_take]; omega)
theorem row_one {w : World} {g : Nat} {x : Rw} {A : Option Addr} {n c : Nat} {ok : Nat → Prop} (hr : Row w g 36 #[.int .i64 x.id, .slice A n c]) (hv : Sl VlR 3 ok w A n x.vals) (hc : n ≤ c) : Sl RwR 2 (fun _ => True) w (some ⟨g, 0, none⟩) 1 [x] := by
 refine ⟨rfl, fun _ => ⟨g, 0, rfl, trivial, fun i hi => ?_⟩⟩
 obtain rfl : i = 0 := by simpa using hi
 refine ⟨[.int .i64 x.id, .slice A n c], rfl, ⟨A, n, c, rfl, hv.stays VlR.stays (fun _ _ => trivial) (fun _ _ _ h => h), hc⟩, fun j v hj => ?_⟩
 have h1 := hr.cell j
 rw [show (0 : Nat) + 0 * 2 + j = j by omega, h1, ← hj]
 simp
theorem one_all {x : Rw} {P : Rw → Prop} (h : P x) : ∀ r ∈ [x], P r := fun r hr => by rw [List.mem_singleton.1 hr]; exact h
theorem bx3r {w w' : World} {g0 g1 g2 : Nat} {T0 T1 T2 : TypeId} {c0 c1 c2 : Array Value} (h : Row w g0 T0 c0 ∧ Row w g1 T1 c1 ∧ Row w g2 T2 c2) (hb : Below w.heap.size w w') : Row w' g0 T0 c0 ∧ Row w' g1 T1 c1 ∧ Row w' g2 T2 c2 := ⟨h.1.below hb, h.2.1.below hb, h.2.2.below hb⟩
theorem rows3 {u w' : World} {g0 g1 g2 : Nat} {T0 T1 T2 : TypeId} {c0 c1 c2 : Array Value} (h : Row u g0 T0 c0 ∧ Row u g1 T1 c1 ∧ Row u g2 T2 c2) (hk : ∀ g T cs, T ≠ 2 → Row u g T cs → Row w' g T cs) (h0 : T0 ≠ 2 := by decide) (h1 : T1 ≠ 2 := by decide) (h2 : T2 ≠ 2 := by decide) : Row w' g0 T0 c0 ∧ Row w' g1 T1 c1 ∧ Row w' g2 T2 c2 := ⟨hk _ _ _ h0 h.1, hk _ _ _ h1 h.2.1, hk _ _ _ h2 h.2.2⟩
theorem grown_ints {u w' : World} {o : Obj} {base : Nat} {v : Value} {xs : List Int} (hg : (u.alloc o).grownBy w' v.ownBlock) (ho : OwnI u base v xs) : ∀ g T cs, T ≠ 2 → Row u g T cs → Row w' g T cs := fun g T cs hT hr => by
 refine (hg.block g (lt_of_block (hr.alloc o)) (fun e => ?_)).trans (hr.alloc o)
 rcases ho.2 with ⟨rfl, -⟩ | ⟨k, cap, cur, rfl, h1, h2, -⟩
 ·cases e
 ·have e1 : k = g := by simpa [Value.ownBlock] using e.symm
  subst e1
  have h3 : u.heap[k]? = some (.cells cs T (0, 0)) := hr
  rw [h2] at h3
  injection h3 with h4
  injection h4 with _ h5 _
  exact hT h5.symm
set_option maxRecDepth 100000 in
set_option maxHeartbeats 2000000 in
theorem specL6Rivals (A1 A2 A3 A4 A5 AL AX : Option Addr) (n1 c1 n2 c2 n3 c3 n4 c4 n5 c5 nL cL nX cX : Nat) (t : Tb) (rows : List Rw) (x : Rw) (ok okr okx : Nat → Prop) (w : World)
  (h2 : Sl IntR 1 ok w A2 n2 t.key) (h3 : Sl UqR 1 ok w A3 n3 t.uniqs) (hr : Sl RwR 2 okr w AL nL rows) (hx : Sl VlR 3 okx w AX nX x.vals) (hts : t.sz ≤ 1048576) (hrn : nL ≤ 1048576) (hall : ∀ r ∈ rows, keysIn t r.vals) (hkx : keysIn t x.vals) :
  Calls Tryz.prog 156 #[.agg #[.string t.name, .slice A1 n1 c1, .slice A2 n2 c2, .slice A3 n3 c3, .slice A4 n4 c4, .slice A5 n5 c5], .agg #[.slice AL nL cL], .agg #[.int .i64 x.id, .slice AX nX cX]] w (MadeI (rivI t rows x) w) := by
 obtain rfl : rows.length = nL := hr.1
 obtain rfl : x.vals.length = nX := hx.1
 have hkn : n2 ≤ 1048576 := by rw [← h2.1]; unfold Tb.sz at hts; omega
 have hun : n3 ≤ 1048576 := by rw [← h3.1]; unfold Tb.sz szL at hts; omega
 have hum : ∀ u ∈ t.uniqs, u.cols.length ≤ 1048576 := fun u hu => by
  have g1 := szL_mem Uq.sz t.uniqs u hu
  have g3 : szL Uq.sz t.uniqs ≤ t.sz := by unfold Tb.sz; omega
  have g4 : u.cols.length ≤ u.sz := by unfold Uq.sz; omega
  omega
 have HALL := Lib.hid hall
 have HKX := Lib.hid hkx
 have HUM := Lib.hid hum
 have H2 := Lib.hid h2
 have H3 := Lib.hid h3
 have HX := Lib.hid hx
 have HRW := Lib.hid hr
 clear hall hkx hum h2 h3 hx hr hts
 obtain ⟨i0, hi, hz0, hz1, hz2⟩ := info_parts infoIntI
 have I1 := Lib.hid hi
 have I2 := Lib.hid hz0
 have I3 := Lib.hid hz1
 have I4 := Lib.hid hz2
 clear hi hz0 hz1 hz2
 have hz : Below w.heap.size w (((w.alloc (.cells #[.string t.name, .slice A1 n1 c1, .slice A2 n2 c2, .slice A3 n3 c3, .slice A4 n4 c4, .slice A5 n5 c5] 45)).alloc (.cells #[.slice AL rows.length cL] 33)).alloc (.cells #[.int .i64 x.id, .slice AX x.vals.length cX] 36)) := (((Below.refl w.heap.size w).alloc (Nat.le_refl _) _).alloc (by simp) _).alloc (by simp; omega) _
 have rt := ((Row.new w 45 #[.string t.name, .slice A1 n1 c1, .slice A2 n2 c2, .slice A3 n3 c3, .slice A4 n4 c4, .slice A5 n5 c5]).alloc (.cells #[.slice AL rows.length cL] 33)).alloc (.cells #[.int .i64 x.id, .slice AX x.vals.length cX] 36)
 have rd := (Row.newAt (w.alloc (.cells #[.string t.name, .slice A1 n1 c1, .slice A2 n2 c2, .slice A3 n3 c3, .slice A4 n4 c4, .slice A5 n5 c5] 45)) 33 #[.slice AL rows.length cL] (w.heap.size + 1) (by simp)).alloc (.cells #[.int .i64 x.id, .slice AX x.vals.length cX] 36)
 have rx := Row.newAt ((w.alloc (.cells #[.string t.name, .slice A1 n1 c1, .slice A2 n2 c2, .slice A3 n3 c3, .slice A4 n4 c4, .slice A5 n5 c5] 45)).alloc (.cells #[.slice AL rows.length cL] 33)) 36 #[.int .i64 x.id, .slice AX x.vals.length cX] (w.heap.size + 2) (by simp)
 have hsz : (((w.alloc (.cells #[.string t.name, .slice A1 n1 c1, .slice A2 n2 c2, .slice A3 n3 c3, .slice A4 n4 c4, .slice A5 n5 c5] 45)).alloc (.cells #[.slice AL rows.length cL] 33)).alloc (.cells #[.int .i64 x.id, .slice AX x.vals.length cX] 36)).heap.size = w.heap.size + 3 := by simp
 go_enter Tryz.func156, Tryz.ntmps156
 go_wp2_with fail
 generalize hzz : ((w.alloc (.cells #[.string t.name, .slice A1 n1 c1, .slice A2 n2 c2, .slice A3 n3 c3, .slice A4 n4 c4, .slice A5 n5 c5] 45)).alloc (.cells #[.slice AL rows.length cL] 33)).alloc (.cells #[.int .i64 x.id, .slice AX x.vals.length cX] 36) = z at *
 clear hzz
 have ho := OwnI.lit z (base := w.heap.size) (by omega)
 rw [hsz] at ho
 have HO := Lib.hid ho
 clear ho
 have hb0 := hz.alloc hz.size (.cells #[] 2)
 have rt0 := rt.alloc (.cells #[] 2)
 have rd0 := rd.alloc (.cells #[] 2)
 have rx0 := rx.alloc (.cells #[] 2)
 generalize z.alloc (.cells #[] 2) = z1 at *
 go_loopw [7, 8] (fun v iv wr => ∃ k : Nat, k ≤ rows.length ∧ iv = .int .i64 k ∧ Hid (OwnI wr w.heap.size v (rivI t (rows.take k) x)) ∧ Below w.heap.size w wr ∧ Hid (Row wr w.heap.size 45 #[.string t.name, .slice A1 n1 c1, .slice A2 n2 c2, .slice A3 n3 c3, .slice A4 n4 c4, .slice A5 n5 c5] ∧ Row wr (w.heap.size + 1) 33 #[.slice AL rows.length cL] ∧ Row wr (w.heap.size + 2) 36 #[.int .i64 x.id, .slice AX x.vals.length cX])) (fun _ iv _ => rows.length - (intOf iv).toNat)
 case atStart => exact ⟨0, by omega, rfl, Lib.hid (by rw [List.take_zero]; exact HO.out), hb0, Lib.hid ⟨rt0, rd0, rx0⟩⟩
 case round =>
  clear HO hb0 rt rd rx rt0 rd0 rx0 hz hsz
  obtain ⟨k, hk, rfl, hown, hb, hbox⟩ := hrel
  obtain ⟨rt, rd, rx⟩ := hbox.out
  obtain ⟨e0, -⟩ := rd.all1
  obtain ⟨⟨x0, x1⟩, -⟩ := rx.all2
  obtain ⟨⟨p0, p1, p2, p3, p4, p5⟩, -⟩ := rt.all6
  by_cases hlt : k < rows.length
  ·obtain ⟨b, off, A6, n6, c6, -, rfl, q0, q1, hv6, hc6⟩ := RwR.at_ (HRW.out.below RwR.stays hb) hlt
   have i0' : (0 : Int) ≤ k := by omega
   have i1 : (k : Int) < rows.length := by omega
   have HTK := Lib.hid (rivI_take t rows x k hlt)
   have HKL := Lib.hid (rivI_len t rows x k)
   have HV6 := Lib.hid hv6
   have HKI := Lib.hid (HALL.out _ (List.getElem_mem hlt))
   clear hv6
   cases idn : (rows[k].id != x.id)
   ·have HB := Lib.hid (show rivB6 t x rows[k] = false by unfold rivB6; rw [idn]; rfl)
    have idn2 : (rows[k].id == x.id) = true := by simpa using idn
    rw [HB.out] at HTK
    go_wp2_with fail
    go_quiet (fail)
    have hb2 : Below w.heap.size w (wr.drewN nq) := ⟨hb.os, hb.tape, hb.output, hb.size, hb.block⟩
    have HR := Lib.hid (show OwnI (wr.drewN nq) w.heap.size _ (rivI t (rows.take (k + 1)) x) from by rw [HTK.out]; simp only [Bool.false_eq_true, if_false, List.append_nil]; exact hown.out)
    have HBX := Lib.hid (show Row (wr.drewN nq) w.heap.size _ _ ∧ Row (wr.drewN nq) (w.heap.size + 1) _ _ ∧ Row (wr.drewN nq) (w.heap.size + 2) _ _ from hbox.out)
    generalize wr.drewN nq = w2 at *
    go_wp2_with fail
    go_roundw
    case rel => exact ⟨k + 1, by omega, by go_num, HR, hb2, HBX⟩
    case measure => simp [intOf]; omega
   ·go_wp2_with fail
    have hc0 : Below wr.heap.size wr wr.drew := (Below.refl wr.heap.size wr).drew
    refine wp_region_noPanic ?_
    refine wp_region_held_drew (S := (fun w' => w'.cell? ⟨w.heap.size, 0, none⟩ = some (.string t.name) ∧ w'.cell? ⟨w.heap.size, 1, none⟩ = some (.slice A1 n1 c1) ∧ w'.cell? ⟨w.heap.size, 2, none⟩ = some (.slice A2 n2 c2) ∧ w'.cell? ⟨w.heap.size, 3, none⟩ = some (.slice A3 n3 c3) ∧ w'.cell? ⟨w.heap.size, 4, none⟩ = some (.slice A4 n4 c4) ∧ w'.cell? ⟨w.heap.size, 5, none⟩ = some (.slice A5 n5 c5) ∧ w'.cell? ⟨w.heap.size + 1, 0, none⟩ = some (.slice (some ⟨b, off, none⟩) rows.length cL) ∧ w'.cell? ⟨w.heap.size + 2, 0, none⟩ = some (.int .i64 x.id) ∧ w'.cell? ⟨w.heap.size + 2, 1, none⟩ = some (.slice AX x.vals.length cX) ∧ w'.cell? ⟨b, off + k * 2, none⟩ = some (.int .i64 rows[k].id) ∧ w'.cell? ⟨b, off + k * 2 + 1, none⟩ = some (.slice A6 n6 c6))) (by kernel_rfl) ⟨p0, p1, p2, p3, p4, p5, e0, x0, x1, q0, q1⟩ (fun hHeld => ?_)
    generalize wr.drew = u0 at *
    refine tk 0 ?_
    refine tk 1 ?_
    refine tk 2 ?_
    refine tk 3 ?_
    refine tk 4 ?_
    refine tk 5 ?_
    refine tk 6 ?_
    refine tk 7 ?_
    refine tk 8 ?_
    refine tk 9 ?_
    refine tk 10 ?_
    refine tk 11 ?_
    refine tk 12 ?_
    refine tk 13 ?_
    refine tk 14 ?_
    refine tk 15 ?_
    refine tk 18 ?_
    refine wpAnyH_ready (rs := [16]) (by kernel_rfl) (by simp) ?_
    refine AllReadyH.cons rfl (fun K hK => ?_) AllReadyH.nil
    go_simp
    have hal : Below u0.heap.size u0 (u0.alloc (.cells #[.int .i64 rows[k].id, .slice A6 n6 c6] 36)) := (Below.refl _ _).alloc (Nat.le_refl _) _
    have rg := Row.new u0 36 #[.int .i64 rows[k].id, .slice A6 n6 c6]
    have hc1 := hc0.alloc hc0.size (.cells #[.int .i64 rows[k].id, .slice A6 n6 c6] 36)
    have hv1 := HV6.out.below VlR.stays (hc1.mono (Nat.le_refl _))
    have hs1 := row_one (x := rows[k]) rg hv1 hc6
    have how1 := OwnI.below hown.out hc1
    have hb1 := hb.trans (hc1.mono hb.size)
    have hbx1 := bx3r hbox.out hc1
    clear hal rg hv1
    generalize u0.alloc (.cells #[.int .i64 rows[k].id, .slice A6 n6 c6] 36) = u1 at *
    generalize u0.heap.size = g at *
    refine hK.out _ _ ⟨below_keep hc1 _ _ p0, below_keep hc1 _ _ p1, below_keep hc1 _ _ p2, below_keep hc1 _ _ p3, below_keep hc1 _ _ p4, below_keep hc1 _ _ p5, below_keep hc1 _ _ e0, below_keep hc1 _ _ x0, below_keep hc1 _ _ x1, below_keep hc1 _ _ q0, below_keep hc1 _ _ q1⟩ (fun hHeld => ?_)
    clear hK K
    (try simp only [Act.put, pz0, pz1, pz2, pz3, pz4, pz5])
    refine tk 17 ?_
    refine wpAnyH_ready (rs := [19]) (by kernel_rfl) (by simp) ?_
    refine AllReadyH.cons rfl (fun K hK => ?_) AllReadyH.nil
    go_simp
    go_at_call 64
    refine (specL5Unique A1 A2 A3 A4 A5 (some ⟨g, 0, none⟩) AX n1 c1 n2 c2 n3 c3 n4 c4 n5 c5 1 1 _ cX t [rows[k]] x _ _ _ _ u1 (H2.out.below IntR.stays hb1) (H3.out.below UqR.stays hb1) hs1 (HX.out.below VlR.stays hb1) (by omega) hkn hun HUM.out HKX.out.2.2 (one_all HKI.out.2.2) (one_all HKI.out.1) HKX.out.1 (fun u hu => ⟨one_all (HKI.out.2.1 u hu), HKX.out.2.1 u hu⟩)).mono ?_
    rintro e u2 ⟨rfl, hq⟩
    have hc2 := hc1.trans (hq.mono hc1.size)
    have how2 := OwnI.below how1 hq
    have hb2 := hb1.trans (hq.mono hb1.size)
    have hbx2 := bx3r hbx1 hq
    clear hq how1 hbx1 hs1
    refine hK.out _ _ ⟨below_keep hc2 _ _ p0, below_keep hc2 _ _ p1, below_keep hc2 _ _ p2, below_keep hc2 _ _ p3, below_keep hc2 _ _ p4, below_keep hc2 _ _ p5, below_keep hc2 _ _ e0, below_keep hc2 _ _ x0, below_keep hc2 _ _ x1, below_keep hc2 _ _ q0, below_keep hc2 _ _ q1⟩ (fun hHeld => ?_)
    clear hK K
    (try simp only [Act.put, pz0, pz1, pz2, pz3, pz4, pz5])
    refine tk 20 ?_
    refine tk 21 ?_
    refine wpAnyH_done (by kernel_rfl) ?_ _
    refine NoPanic.normal ?_
    clear hHeld
    have HOW := Lib.hid how2
    have HBX := Lib.hid hbx2
    obtain ⟨f0, -⟩ := hbx2.2.1.all1
    have g0 := below_keep hc2 _ _ q0
    clear how2 hbx2 hc0 hc1 hc2 hb1 hbox hown p0 p1 p2 p3 p4 p5 e0 x0 x1 q0 q1 hb rt rd rx
    cases hun2 : uniqueB t [rows[k]] x
    ·have HB := Lib.hid (show rivB6 t x rows[k] = true by unfold rivB6; rw [idn, hun2]; rfl)
     rw [HB.out] at HTK
     clear hun2
     go_wp2_with (at_builtin; refine wpList_append_own _ rfl _ _ 40 rfl w.heap.size 2 i0 (.int .i64 0) 1 8 Tryz.underlying40 I1.out I2.out I3.out I4.out rfl (by decide) _ _ _ rfl (World.ownsRow.alloc HOW.out _) ⟨_, 0, none⟩ 1 1 [.int .i64 rows[k].id] rfl rfl ?c1 ?c2 ?c3 ?c4 ?c5 ?_)
     try (case c1 => exact cell_one_new _ _ _)
     case c2 => first | rfl | (intro u hu; simp at hu; subst hu; rfl)
     case c3 => have := HKL.out; unfold maxLen; omega
     case c4 => have := HKL.out; omega
     case c5 => have := hb2.size; simp; omega
     intro v' w3 hown3 hgrow _
     have R3 := Lib.hid (OwnI.app HOW.out hb2.size hown3 hgrow)
     have HB3 := Lib.hid (rows3 HBX.out (u := u2) (w' := w3) (grown_ints hgrow HOW.out))
     have hb3 := hb2.trans R3.out.2
     clear hown3 hgrow HOW
     go_wp2_with fail
     go_roundw
     case rel => exact ⟨k + 1, by omega, by go_num, Lib.hid (by rw [HTK.out]; exact R3.out.1), hb3, HB3⟩
     case measure => simp [intOf]; omega
    ·have HB := Lib.hid (show rivB6 t x rows[k] = false by unfold rivB6; rw [idn, hun2]; rfl)
     rw [HB.out] at HTK
     clear hun2
     have HR := Lib.hid (show OwnI u2 w.heap.size _ (rivI t (rows.take (k + 1)) x) from by rw [HTK.out]; simp only [Bool.false_eq_true, if_false, List.append_nil]; exact HOW.out)
     go_wp2_with fail
     go_roundw
     case rel => exact ⟨k + 1, by omega, by go_num, HR, hb2, HBX⟩
     case measure => simp [intOf]; omega
  ·obtain rfl : k = rows.length := by omega
   have HF := Lib.hid hown.out
   rw [List.take_length] at HF
   obtain ⟨A9, c9, rfl, h91, -, h93⟩ := HF.out.sl
   have H93 := Lib.hid h93
   have hc9 := h91
   clear h93 h91 p0 p1 p2 p3 p4 p5 x0 x1
   generalize hnn : (rivI t rows x).length = nn at *
   have HNN := Lib.hid hnn
   clear hnn
   go_wp2_with fail
   go_ret
   exact ⟨A9, c9, by rw [HNN.out]; rfl, by rw [HNN.out]; exact hc9, by rw [HNN.out]; exact H93.out, hb⟩
set_option maxRecDepth 100000 in
set_option maxHeartbeats 1000000 in
theorem specL6ClearNo (AS AD AX : Option Addr) (nS cS nD cD nX cX : Nat) (s : List Tb) (db : List Dt) (m : Nat) (x : Rw) (deep : Int) (ok okd okx : Nat → Prop) (w : World)
  (hs : Sl TbR 6 ok w AS nS s) (hd : Sl DtR 1 okd w AD nD db) (hx : Sl VlR 3 okx w AX nX x.vals) (hm : m < s.length) (hmd : m < db.length) (hss : szL Tb.sz s ≤ 1048576) (hrn : db[m].rows.length ≤ 1048576) (hall : ∀ r ∈ db[m].rows, keysIn s[m] r.vals) (hkx : keysIn s[m] x.vals) (hriv : rivI s[m] db[m].rows x = []) :
  Calls Tryz.prog 138 #[.slice AS nS cS, .slice AD nD cD, .int .i64 m, .agg #[.int .i64 x.id, .slice AX nX cX], .bool false, .int .i64 deep] w fun e w' => e = .returned (.tuple #[.slice AD nD cD, .int .i64 0]) ∧ Below w.heap.size w w' := by
 obtain rfl : s.length = nS := hs.1
 obtain rfl : db.length = nD := hd.1
 obtain rfl : x.vals.length = nX := hx.1
 obtain ⟨b, off, A1, n1, c1, A2, n2, c2, A3, n3, c3, A4, n4, c4, A5, n5, c5, -, eS, q0, q1, q2, q3, q4, q5, s1, s2, s3, s4, s5, -⟩ := TbR.at_ hs hm
 obtain ⟨bd, od, AL, nL, cL, -, eD, p0, hrw, -⟩ := DtR.at_ hd hmd
 obtain rfl : db[m].rows.length = nL := hrw.1
 subst eS eD
 have hts : s[m].sz ≤ 1048576 := Nat.le_trans (szL_mem Tb.sz s s[m] (List.getElem_mem hm)) hss
 have HALL := Lib.hid hall
 have HKX := Lib.hid hkx
 have HRV := Lib.hid hriv
 have HTS := Lib.hid hts
 clear hall hkx hriv hts hss hs hd s1 s4 s5
 have i0' : (0 : Int) ≤ m := by omega
 have i1 : (m : Int) < s.length := by omega
 have i2 : (m : Int) < db.length := by omega
 have hz : Below w.heap.size w (w.alloc (.cells #[.int .i64 x.id, .slice AX x.vals.length cX] 36)) := (Below.refl w.heap.size w).alloc (Nat.le_refl _) _
 obtain ⟨⟨x0, x1⟩, -⟩ := (Row.new w 36 #[.int .i64 x.id, .slice AX x.vals.length cX]).all2
 go_enter Tryz.func138, Tryz.ntmps138
 go_upto_region 1 with fail
 generalize w.alloc (.cells #[.int .i64 x.id, .slice AX x.vals.length cX] 36) = z at *
 have q0 := below_keep hz _ _ q0
 have q1 := below_keep hz _ _ q1
 have q2 := below_keep hz _ _ q2
 have q3 := below_keep hz _ _ q3
 have q4 := below_keep hz _ _ q4
 have q5 := below_keep hz _ _ q5
 have p0 := below_keep hz _ _ p0
 have hc0 : Below z.heap.size z z.drew := (Below.refl z.heap.size z).drew
 refine wp_region_noPanic ?_
 refine wp_region_held_drew (S := (fun w' => w'.cell? ⟨b, off + m * 6, none⟩ = some (.string s[m].name) ∧ w'.cell? ⟨b, off + m * 6 + 1, none⟩ = some (.slice A1 n1 c1) ∧ w'.cell? ⟨b, off + m * 6 + 2, none⟩ = some (.slice A2 n2 c2) ∧ w'.cell? ⟨b, off + m * 6 + 3, none⟩ = some (.slice A3 n3 c3) ∧ w'.cell? ⟨b, off + m * 6 + 4, none⟩ = some (.slice A4 n4 c4) ∧ w'.cell? ⟨b, off + m * 6 + 5, none⟩ = some (.slice A5 n5 c5) ∧ w'.cell? ⟨bd, od + m, none⟩ = some (.slice AL db[m].rows.length cL) ∧ w'.cell? ⟨w.heap.size, 0, none⟩ = some (.int .i64 x.id) ∧ w'.cell? ⟨w.heap.size, 1, none⟩ = some (.slice AX x.vals.length cX))) (by kernel_rfl) ⟨q0, q1, q2, q3, q4, q5, p0, x0, x1⟩ (fun hHeld => ?_)
 generalize z.drew = u0 at *
 refine tk 0 ?_
 refine tk 1 ?_
 refine tk 2 ?_
 refine tk 3 ?_
 refine tk 4 ?_
 refine tk 5 ?_
 refine tk 6 ?_
 refine tk 7 ?_
 refine tk 8 ?_
 refine wpAnyH_ready (rs := [9]) (by kernel_rfl) (by simp) ?_
 refine AllReadyH.cons rfl (fun K hK => ?_) AllReadyH.nil
 go_simp
 go_at_call 156
 refine (specL6Rivals A1 A2 A3 A4 A5 AL AX n1 c1 n2 c2 n3 c3 n4 c4 n5 c5 _ cL _ cX s[m] db[m].rows x _ _ _ u0 (s2.below IntR.stays (hz.trans (hc0.mono hz.size))) (s3.below UqR.stays (hz.trans (hc0.mono hz.size))) (hrw.below RwR.stays (hz.trans (hc0.mono hz.size))) (hx.below VlR.stays (hz.trans (hc0.mono hz.size))) HTS.out hrn HALL.out HKX.out).mono ?_
 rintro e u1 ⟨AR, cR, rfl, hcR, hR, hq⟩
 have hc1 := hc0.trans (hq.mono hc0.size)
 clear hq
 refine hK.out _ _ ⟨below_keep hc1 _ _ q0, below_keep hc1 _ _ q1, below_keep hc1 _ _ q2, below_keep hc1 _ _ q3, below_keep hc1 _ _ q4, below_keep hc1 _ _ q5, below_keep hc1 _ _ p0, below_keep hc1 _ _ x0, below_keep hc1 _ _ x1⟩ (fun hHeld => ?_)
 clear hK K
 (try simp only [Act.put, pz0, pz1, pz2, pz3, pz4, pz5])
 refine tk 10 ?_
 refine wpAnyH_done (by kernel_rfl) ?_ _
 refine NoPanic.normal ?_
 clear hHeld
 have hbz := hz.trans (hc1.mono hz.size)
 clear hc1 hc0 x0 x1 q0 q1 q2 q3 q4 q5 p0
 rw [HRV.out] at hR hcR ⊢
 simp only [List.length_nil] at hR hcR ⊢
 clear hR hcR
 go_wp2_with fail
 go_loopw [1, 15] (fun v iv wr => v = .slice (some ⟨bd, od, none⟩) db.length cD ∧ iv = .int .i64 0 ∧ wr = u1) (fun _ _ _ => 0)
 case atStart => exact ⟨rfl, rfl, rfl⟩
 case round =>
  obtain ⟨rfl, rfl, rfl⟩ := hrel
  go_wp2_with fail
  go_ret2
  exact ⟨rfl, hbz⟩
set_option maxRecDepth 100000 in
set_option maxHeartbeats 1000000 in
theorem specL6ClearYes (AS AD AX : Option Addr) (nS cS nD cD nX cX : Nat) (s : List Tb) (db : List Dt) (m : Nat) (x : Rw) (deep : Int) (ok okd okx : Nat → Prop) (w : World)
  (hs : Sl TbR 6 ok w AS nS s) (hd : Sl DtR 1 okd w AD nD db) (hx : Sl VlR 3 okx w AX nX x.vals) (hm : m < s.length) (hmd : m < db.length) (hss : szL Tb.sz s ≤ 1048576) (hrn : db[m].rows.length ≤ 1048576) (hall : ∀ r ∈ db[m].rows, keysIn s[m] r.vals) (hkx : keysIn s[m] x.vals) (hriv : rivI s[m] db[m].rows x ≠ []) :
  Calls Tryz.prog 138 #[.slice AS nS cS, .slice AD nD cD, .int .i64 m, .agg #[.int .i64 x.id, .slice AX nX cX], .bool false, .int .i64 deep] w fun e w' => e = .returned (.tuple #[.slice none 0 0, .int .i64 4]) ∧ Below w.heap.size w w' := by
 obtain rfl : s.length = nS := hs.1
 obtain rfl : db.length = nD := hd.1
 obtain rfl : x.vals.length = nX := hx.1
 obtain ⟨b, off, A1, n1, c1, A2, n2, c2, A3, n3, c3, A4, n4, c4, A5, n5, c5, -, eS, q0, q1, q2, q3, q4, q5, s1, s2, s3, s4, s5, -⟩ := TbR.at_ hs hm
 obtain ⟨bd, od, AL, nL, cL, -, eD, p0, hrw, -⟩ := DtR.at_ hd hmd
 obtain rfl : db[m].rows.length = nL := hrw.1
 subst eS eD
 have hts : s[m].sz ≤ 1048576 := Nat.le_trans (szL_mem Tb.sz s s[m] (List.getElem_mem hm)) hss
 have HALL := Lib.hid hall
 have HKX := Lib.hid hkx
 have HRV := Lib.hid hriv
 have HTS := Lib.hid hts
 clear hall hkx hriv hts hss hs hd s1 s4 s5
 have i0' : (0 : Int) ≤ m := by omega
 have i1 : (m : Int) < s.length := by omega
 have i2 : (m : Int) < db.length := by omega
 have hz : Below w.heap.size w (w.alloc (.cells #[.int .i64 x.id, .slice AX x.vals.length cX] 36)) := (Below.refl w.heap.size w).alloc (Nat.le_refl _) _
 obtain ⟨⟨x0, x1⟩, -⟩ := (Row.new w 36 #[.int .i64 x.id, .slice AX x.vals.length cX]).all2
 go_enter Tryz.func138, Tryz.ntmps138
 go_upto_region 1 with fail
 generalize w.alloc (.cells #[.int .i64 x.id, .slice AX x.vals.length cX] 36) = z at *
 have q0 := below_keep hz _ _ q0
 have q1 := below_keep hz _ _ q1
 have q2 := below_keep hz _ _ q2
 have q3 := below_keep hz _ _ q3
 have q4 := below_keep hz _ _ q4
 have q5 := below_keep hz _ _ q5
 have p0 := below_keep hz _ _ p0
 have hc0 : Below z.heap.size z z.drew := (Below.refl z.heap.size z).drew
 refine wp_region_noPanic ?_
 refine wp_region_held_drew (S := (fun w' => w'.cell? ⟨b, off + m * 6, none⟩ = some (.string s[m].name) ∧ w'.cell? ⟨b, off + m * 6 + 1, none⟩ = some (.slice A1 n1 c1) ∧ w'.cell? ⟨b, off + m * 6 + 2, none⟩ = some (.slice A2 n2 c2) ∧ w'.cell? ⟨b, off + m * 6 + 3, none⟩ = some (.slice A3 n3 c3) ∧ w'.cell? ⟨b, off + m * 6 + 4, none⟩ = some (.slice A4 n4 c4) ∧ w'.cell? ⟨b, off + m * 6 + 5, none⟩ = some (.slice A5 n5 c5) ∧ w'.cell? ⟨bd, od + m, none⟩ = some (.slice AL db[m].rows.length cL) ∧ w'.cell? ⟨w.heap.size, 0, none⟩ = some (.int .i64 x.id) ∧ w'.cell? ⟨w.heap.size, 1, none⟩ = some (.slice AX x.vals.length cX))) (by kernel_rfl) ⟨q0, q1, q2, q3, q4, q5, p0, x0, x1⟩ (fun hHeld => ?_)
 generalize z.drew = u0 at *
 refine tk 0 ?_
 refine tk 1 ?_
 refine tk 2 ?_
 refine tk 3 ?_
 refine tk 4 ?_
 refine tk 5 ?_
 refine tk 6 ?_
 refine tk 7 ?_
 refine tk 8 ?_
 refine wpAnyH_ready (rs := [9]) (by kernel_rfl) (by simp) ?_
 refine AllReadyH.cons rfl (fun K hK => ?_) AllReadyH.nil
 go_simp
 go_at_call 156
 refine (specL6Rivals A1 A2 A3 A4 A5 AL AX n1 c1 n2 c2 n3 c3 n4 c4 n5 c5 _ cL _ cX s[m] db[m].rows x _ _ _ u0 (s2.below IntR.stays (hz.trans (hc0.mono hz.size))) (s3.below UqR.stays (hz.trans (hc0.mono hz.size))) (hrw.below RwR.stays (hz.trans (hc0.mono hz.size))) (hx.below VlR.stays (hz.trans (hc0.mono hz.size))) HTS.out hrn HALL.out HKX.out).mono ?_
 rintro e u1 ⟨AR, cR, rfl, hcR, hR, hq⟩
 have hc1 := hc0.trans (hq.mono hc0.size)
 clear hq
 refine hK.out _ _ ⟨below_keep hc1 _ _ q0, below_keep hc1 _ _ q1, below_keep hc1 _ _ q2, below_keep hc1 _ _ q3, below_keep hc1 _ _ q4, below_keep hc1 _ _ q5, below_keep hc1 _ _ p0, below_keep hc1 _ _ x0, below_keep hc1 _ _ x1⟩ (fun hHeld => ?_)
 clear hK K
 (try simp only [Act.put, pz0, pz1, pz2, pz3, pz4, pz5])
 refine tk 10 ?_
 refine wpAnyH_done (by kernel_rfl) ?_ _
 refine NoPanic.normal ?_
 clear hHeld
 have hbz := hz.trans (hc1.mono hz.size)
 clear hc1 hc0 x0 x1 q0 q1 q2 q3 q4 q5 p0
 have hpos : 0 < (rivI s[m] db[m].rows x).length := List.length_pos_iff.2 HRV.out
 generalize (rivI s[m] db[m].rows x).length = nn at *
 have hpi : (0 : Int) < (nn : Int) := by omega
 clear hR hcR
 go_wp2_with fail
 go_ret2
 exact ⟨rfl, hbz⟩
def lastI (a : Int) : List Rw → Int
 | [] => a
 | x :: r => lastI x.id r
theorem lastI_app (x : Rw) : ∀ (l : List Rw) (a : Int), lastI a (l ++ [x]) = x.id
 | [], _ => rfl
 | y :: r, _ => lastI_app x r y.id
theorem nextI_eq (l : List Rw) : nextI l = lastI 0 l + 1 := by
 unfold nextI
 cases h : l.getLast? with
 | none => rw [List.getLast?_eq_none_iff.1 h]; rfl
 | some r =>
  obtain ⟨ys, rfl⟩ := List.getLast?_eq_some_iff.1 h
  rw [lastI_app]
theorem idsGo_le {cols : List Cl} : ∀ {l : List Rw} {a : Int}, idsGo cols a l = true → a ≤ lastI a l ∧ ∀ r ∈ l, a < r.id ∧ r.id ≤ lastI a l ∧ r.id ≤ 1000000000
 | [], a, _ => ⟨Int.le_refl _, fun r hr => by cases hr⟩
 | x :: l, a, h => by
  simp only [idsGo, Bool.and_eq_true, decide_eq_true_eq] at h
  obtain ⟨h1, h2, h3, h4⟩ := h
  obtain ⟨g1, g2⟩ := idsGo_le h4
  refine ⟨by show a ≤ lastI x.id l; omega, fun r hr => ?_⟩
  rcases List.mem_cons.1 hr with rfl | hr
  ·exact ⟨h1, g1, h2⟩
  ·obtain ⟨k1, k2, k3⟩ := g2 r hr
   exact ⟨by omega, k2, k3⟩
theorem idsGo_app {cols : List Cl} {x : Rw} (hx : x.id ≤ 1000000000) (hk : kindsB cols x.vals = true) : ∀ {l : List Rw} {a : Int}, idsGo cols a l = true → a < x.id → (∀ r ∈ l, r.id < x.id) → idsGo cols a (l ++ [x]) = true
 | [], a, _, ha, _ => by
  show (decide (a < x.id) && (decide (x.id ≤ 1000000000) && (kindsB cols x.vals && true))) = true
  rw [hk, decide_eq_true ha, decide_eq_true hx]; rfl
 | y :: l, a, h, ha, hl => by
  simp only [idsGo, Bool.and_eq_true, decide_eq_true_eq] at h
  obtain ⟨h1, h2, h3, h4⟩ := h
  have := idsGo_app hx hk h4 (hl y (List.mem_cons_self ..)) fun r hr => hl r (List.mem_cons_of_mem _ hr)
  show (decide (a < y.id) && (decide (y.id ≤ 1000000000) && (kindsB cols y.vals && idsGo cols y.id (l ++ [x])))) = true
  rw [this, h3, decide_eq_true h1, decide_eq_true h2]; rfl
def insD (db : List Dt) (m : Nat) (x : Rw) : List Dt := db.set m ⟨(db[m]?.getD ⟨[]⟩).rows ++ [x]⟩
theorem insD_at {db : List Dt} {m : Nat} (h : m < db.length) (x : Rw) : insD db m x = db.set m ⟨db[m].rows ++ [x]⟩ := by unfold insD; rw [List.getElem?_eq_getElem h]; rfl
theorem ids_next {s : List Tb} {db : List Dt} (h : dbB s db = true) {m : Nat} (h1 : m < s.length) (h2 : m < db.length) : 0 < nextI db[m].rows ∧ ∀ r ∈ db[m].rows, 0 < r.id ∧ r.id < nextI db[m].rows ∧ r.id ≤ 1000000000 := by
 have h3 := dbB_data h h1 h2
 simp only [dataB, Bool.and_eq_true] at h3
 obtain ⟨g1, g2⟩ := idsGo_le h3.2
 rw [nextI_eq]
 exact ⟨by omega, fun r hr => by obtain ⟨k1, k2, k3⟩ := g2 r hr; exact ⟨k1, by omega, k3⟩⟩
theorem dbB_ins {s : List Tb} {db : List Dt} (h : dbB s db = true) {m : Nat} (h1 : m < s.length) (h2 : m < db.length) {vals : List Vl} (hk : kindsB s[m].cols vals = true) (h60 : db[m].rows.length < 60) (hid : nextI db[m].rows ≤ 1000000000) : dbB s (insD db m ⟨nextI db[m].rows, vals⟩) = true := by
 rw [insD_at h2]
 have hd := dbB_data h h1 h2
 obtain ⟨hp, hn⟩ := ids_next h h1 h2
 simp only [dataB, Bool.and_eq_true, decide_eq_true_eq] at hd
 have hx : dataB s[m].cols (db[m].rows ++ [⟨nextI db[m].rows, vals⟩]) = true := by
  unfold dataB
  rw [Bool.and_eq_true, decide_eq_true_eq]
  exact ⟨by rw [List.length_append, List.length_singleton]; omega, idsGo_app hid hk hd.2 hp fun r hr => (hn r hr).2.1⟩
 have hl := dbB_len h
 unfold dbB
 rw [dbB_schema h, List.length_set, decide_eq_true hl, Bool.true_and, Bool.true_and, List.all_eq_true]
 intro p hpm
 obtain ⟨i, hi, rfl⟩ := List.mem_iff_getElem.1 hpm
 rw [List.length_zip, List.length_set] at hi
 have his : i < s.length := by omega
 have hid' : i < db.length := by omega
 rw [List.getElem_zip]
 by_cases e : m = i
 ·subst e
  rw [List.getElem_set_self]
  exact hx
 ·rw [List.getElem_set_ne e]
  exact dbB_data h his hid'
theorem keysIn_of {s : List Tb} (h : schemaB s = true) {i : Nat} (hi : i < s.length) {vals : List Vl} (hl : vals.length = s[i].cols.length) : keysIn s[i] vals := by
 have hT := (schemaB_at h hi).1
 have h8 := tableB_cols hT
 exact ⟨all_inV (tableB_key hT) hl, fun u hu => all_inV (tableB_uniq hT u hu) hl, by omega⟩
theorem kindsB_len {cols : List Cl} {l : List Vl} (h : kindsB cols l = true) : l.length = cols.length := by
 simp only [kindsB, Bool.and_eq_true, decide_eq_true_eq] at h
 exact h.1
set_option maxRecDepth 100000 in
set_option maxHeartbeats 600000 in
theorem specL6Insert (AS AD AV : Option Addr) (nS cS nD cD nV cV : Nat) (s : List Tb) (db : List Dt) (m : Nat) (vals : List Vl) (ok okd okv : Nat → Prop) (w : World)
  (hs : Sl TbR 6 ok w AS nS s) (hd : Sl DtR 1 okd w AD nD db) (hv : Sl VlR 3 okv w AV nV vals) (hB : dbB s db = true) (hm : m < s.length) (hk : kindsB s[m].cols vals = true) (hss : szL Tb.sz s ≤ 1048576) :
  Calls Tryz.prog 107 #[.slice AS nS cS, .slice AD nD cD, .int .i64 m, .slice AV nV cV, .bool false] w fun e w' => (∃ (A : Option Addr) (n c : Nat) (id code : Int), e = .returned (.tuple #[.slice A n c, .int .i64 id, .int .i64 code]) ∧
   (code ≠ 0 ∨ (n = nD ∧ nD ≤ c ∧ Sl DtR 1 (fun _ => True) w' A nD (insD db m ⟨nextI (db[m]?.getD ⟨[]⟩).rows, vals⟩) ∧ dbB s (insD db m ⟨nextI (db[m]?.getD ⟨[]⟩).rows, vals⟩) = true))) ∧ Below w.heap.size w w' := by
 obtain rfl : s.length = nS := hs.1
 obtain rfl : db.length = nD := hd.1
 obtain rfl : vals.length = nV := hv.1
 have hmd : m < db.length := by have := dbB_len hB; omega
 obtain ⟨b, off, A1, n1, c1, A2, n2, c2, A3, n3, c3, A4, n4, c4, A5, n5, c5, -, eS, q0, q1, q2, q3, q4, q5, s1, s2, s3, s4, s5, -⟩ := TbR.at_ hs hm
 obtain ⟨bd, od, AL, nL, cL, -, eD, p0, hrw, -⟩ := DtR.at_ hd hmd
 obtain rfl : db[m].rows.length = nL := hrw.1
 subst eS eD
 have hts : s[m].sz ≤ 1048576 := Nat.le_trans (szL_mem Tb.sz s s[m] (List.getElem_mem hm)) hss
 have hS := dbB_schema hB
 have hT := (schemaB_at hS hm).1
 have hlen := kindsB_len hk
 have h8 := tableB_cols hT
 have hrb := rowB_of hT hk
 have hex := exprs_of hT hlen
 have hids := ids_next hB hm hmd
 have h60 := dbB_data hB hm hmd
 simp only [dataB, Bool.and_eq_true, decide_eq_true_eq] at h60
 have HB := Lib.hid hB
 have HK := Lib.hid hk
 have HTS := Lib.hid hts
 have HRB := Lib.hid hrb
 have HEX := Lib.hid hex
 have HIDS := Lib.hid hids
 have HLEN := Lib.hid hlen
 have HSS := Lib.hid hss
 have HKX := Lib.hid (keysIn_of hS hm hlen)
 have HALL := Lib.hid (show ∀ r ∈ db[m].rows, keysIn s[m] r.vals from fun r hr => keysIn_of hS hm (dbB_row hB hm hmd r hr))
 have hrn : db[m].rows.length ≤ 60 := h60.1
 have HRN := Lib.hid hrn
 have hvn : vals.length ≤ 8 := by omega
 have HVN := Lib.hid hvn
 have HS := Lib.hid hs
 have HD := Lib.hid hd
 have hsl : s.length ≤ 1048576 := by unfold szL at hss; omega
 have hdl : db.length ≤ 1048576 := by have := dbB_len hB; omega
 have HSL := Lib.hid hsl
 have HDL := Lib.hid hdl
 have HFN := Lib.hid (show s[m].fks.length ≤ 1048576 by unfold Tb.sz szL at hts; omega)
 clear hB hk hts hrb hex hids hlen hss hS hT h8 h60 hrn hs hd hsl hdl
 have i0' : (0 : Int) ≤ m := by omega
 have i1 : (m : Int) < s.length := by omega
 have i2 : (m : Int) < db.length := by omega
 have hz := (Below.refl w.heap.size w).alloc (Nat.le_refl _) (.cells #[.string s[m].name, .slice A1 n1 c1, .slice A2 n2 c2, .slice A3 n3 c3, .slice A4 n4 c4, .slice A5 n5 c5] 45)
 have rt := Row.new w 45 #[.string s[m].name, .slice A1 n1 c1, .slice A2 n2 c2, .slice A3 n3 c3, .slice A4 n4 c4, .slice A5 n5 c5]
 obtain ⟨⟨t0, t1, t2, t3, t4, t5⟩, -⟩ := rt.all6
 go_enter Tryz.func107, Tryz.ntmps107
 go_wp2_with fail
 generalize w.alloc (.cells #[.string s[m].name, .slice A1 n1 c1, .slice A2 n2 c2, .slice A3 n3 c3, .slice A4 n4 c4, .slice A5 n5 c5] 45) = z at *
 clear t0 t1 t2 t3 t4 t5 rt q0 q1 q2 q3 q4 q5
 refine (specL6Able A1 n1 c1 A2 n2 c2 A3 n3 c3 A4 n4 c4 A5 n5 c5 AV _ cV s[m] vals _ _ z (s1.below ClR.stays hz) (s4.below CkR.stays hz) (hv.below VlR.stays hz) HTS.out (by omega) HLEN.out HRB.out HEX.out).mono ?_
 rintro e w2 ⟨rfl, hq⟩
 have hb := hz.trans (hq.mono hz.size)
 clear hq hz
 by_cases ha : ableI s[m] vals = 0
 case neg =>
  generalize ableI s[m] vals = kc at *
  have hk1 : (kc != 0) = true := by simpa using ha
  go_wp2_with fail
  go_ret3
  exact ⟨⟨none, 0, 0, 0, kc, rfl, .inl ha⟩, hb⟩
 rw [ha]
 clear ha
 have p1 := below_keep hb _ _ p0
 go_wp2_with fail
 refine (specL6Next AL _ cL db[m].rows _ _ (hrw.below RwR.stays hb) (by have := HRN.out; omega) (fun r hr => by have := HIDS.out.2 r hr; omega)).mono ?_
 rintro e w3 ⟨rfl, hq⟩
 have hb := hb.trans (hq.mono hb.size)
 clear hq p1
 go_wp2_with fail
 refine (specCopyVals AV _ cV vals _ _ (hv.below VlR.stays hb) (by omega)).mono ?_
 rintro e w4 ⟨v4, rfl, hK, hq⟩
 have hb := hb.trans (hq.mono hb.size)
 clear hq
 obtain ⟨AX, cX, ev, hcX, -, hX⟩ := OwnG.sl (f := Vl.cells) (sz := 3) (fun _ => rfl) hK
 subst ev
 have hX := hX.stays VlR.stays (ok' := fun _ => True) (fun _ _ => trivial) (fun _ _ _ h => h)
 clear hK
 obtain ⟨id, hid⟩ : ∃ id, id = nextI db[m].rows := ⟨_, rfl⟩
 rw [← hid]
 have HID := Lib.hid (show id = nextI (db[m]?.getD ⟨[]⟩).rows by rw [List.getElem?_eq_getElem hmd]; exact hid)
 have HIE := Lib.hid hid
 clear hid
 have hal := (Below.refl w4.heap.size w4).alloc (Nat.le_refl _) (.cells #[.int .i64 id, .slice AX vals.length cX] 36)
 have rx := Row.new w4 36 #[.int .i64 id, .slice AX vals.length cX]
 have hX := hX.below VlR.stays hal
 have hb := hb.trans (hal.mono hb.size)
 obtain ⟨⟨x0, x1⟩, -⟩ := rx.all2
 clear hal
 go_wp2_with fail
 generalize w4.alloc (.cells #[.int .i64 id, .slice AX vals.length cX] 36) = z5 at *
 generalize w4.heap.size = gx at *
 clear x0 x1
 by_cases hr : rivI s[m] db[m].rows ⟨id, vals⟩ = []
 case neg =>
  refine (specL6ClearYes _ _ AX _ cS _ cD _ cX s db m ⟨id, vals⟩ 0 _ _ _ _ (HS.out.below TbR.stays hb) (HD.out.below DtR.stays hb) hX hm hmd HSS.out (by have := HRN.out; omega) HALL.out HKX.out hr).mono ?_
  rintro e w6 ⟨rfl, hq⟩
  have hb := hb.trans (hq.mono hb.size)
  clear hq
  go_wp2_with fail
  go_ret3
  exact ⟨⟨none, 0, 0, 0, 4, rfl, .inl (by omega)⟩, hb⟩
 refine (specL6ClearNo _ _ AX _ cS _ cD _ cX s db m ⟨id, vals⟩ 0 _ _ _ _ (HS.out.below TbR.stays hb) (HD.out.below DtR.stays hb) hX hm hmd HSS.out (by have := HRN.out; omega) HALL.out HKX.out hr).mono ?_
 rintro e w6 ⟨rfl, hq⟩
 have hb := hb.trans (hq.mono hb.size)
 have rx := rx.below hq
 have hX := hX.below VlR.stays hq
 clear hq hr
 have p1 := below_keep hb _ _ p0
 obtain ⟨⟨x0, x1⟩, -⟩ := rx.all2
 by_cases hf : db[m].rows.length = 60
 ·have hf1 : (db[m].rows.length : Int) = 60 := by omega
  have hf2 : ((db[m].rows.length : Int) == 60) = true := by simpa using hf1
  generalize db[m].rows.length = nr at *
  go_wp2_with fail
  go_ret3
  exact ⟨⟨none, 0, 0, 0, 7, rfl, .inl (by omega)⟩, hb⟩
 have hf1 : ((db[m].rows.length : Int) == 60) = false := by simp; omega
 by_cases hg : 1000000000 < id
 ·go_wp2_with fail
  go_ret3
  exact ⟨⟨none, 0, 0, 0, 7, rfl, .inl (by omega)⟩, hb⟩
 have HDB := Lib.hid (dbB_ins HB.out hm hmd HK.out (by have := HRN.out; omega) (by rw [← HIE.out]; omega))
 rw [← HIE.out] at HDB
 have HLT := Lib.hid (show ∀ r ∈ db[m].rows, r.id < id from fun r hr => by rw [HIE.out]; exact (HIDS.out.2 r hr).2.1)
 go_upto_region 13 with fail
 have hc0 : Below w6.heap.size w6 w6.drew := (Below.refl w6.heap.size w6).drew
 refine wp_region_noPanic ?_
 refine wp_region_held_drew (S := (fun w' => w'.cell? ⟨bd, od + m, none⟩ = some (.slice AL db[m].rows.length cL) ∧ w'.cell? ⟨gx, 0, none⟩ = some (.int .i64 id) ∧ w'.cell? ⟨gx, 1, none⟩ = some (.slice AX vals.length cX))) (by kernel_rfl) ⟨p1, x0, x1⟩ (fun hHeld => ?_)
 generalize w6.drew = u0 at *
 refine tk 0 ?_
 refine tk 1 ?_
 refine tk 2 ?_
 refine tk 3 ?_
 refine tk 4 ?_
 refine tk 5 ?_
 refine tk 6 ?_
 refine wpAnyH_ready (rs := [7]) (by kernel_rfl) (by simp) ?_
 refine AllReadyH.cons rfl (fun K hK => ?_) AllReadyH.nil
 go_simp
 go_at_call 140
 refine (specL4Put AL AX _ cL _ cX db[m].rows ⟨id, vals⟩ _ _ u0 (hrw.below RwR.stays (hb.trans (hc0.mono hb.size))) (hX.below VlR.stays hc0) hcX (by have := HRN.out; omega) HLT.out).mono ?_
 rintro e u1 ⟨⟨AP, cP, rfl, hcP, hP⟩, hq⟩
 have hc1 := hc0.trans (hq.mono hc0.size)
 obtain ⟨rs, hrs⟩ : ∃ rs, rs = db[m].rows ++ [⟨id, vals⟩] := ⟨_, rfl⟩
 rw [← hrs] at hP hcP ⊢
 have HRS := Lib.hid hrs
 have HP := Lib.hid hP
 have HCP := Lib.hid hcP
 have HDD := Lib.hid (HD.out.below DtR.stays (hb.trans (hc1.mono hb.size)))
 have HDN := Lib.hid (show db.length ≤ 1000000 by have := dbB_len HB.out; have := schemaB_le (dbB_schema HB.out); omega)
 generalize hnp : rs.length = np at *
 have HNP := Lib.hid hnp
 clear hq hrs hP hcP hnp
 refine hK.out _ _ ⟨below_keep hc1 _ _ p1, below_keep hc1 _ _ x0, below_keep hc1 _ _ x1⟩ (fun hHeld => ?_)
 clear hK K
 (try simp only [Act.put, pz0, pz1, pz2, pz3, pz4, pz5])
 refine wpAnyH_ready (rs := [8]) (by kernel_rfl) (by simp) ?_
 refine AllReadyH.cons rfl (fun K hK => ?_) AllReadyH.nil
 go_simp
 go_at_call 139
 refine (specL4With (some ⟨bd, od, none⟩) AP db.length cD np cP m db ⟨rs⟩ _ _ u1 HDD.out HP.out HCP.out hmd HDN.out).mono ?_
 rintro e u2 ⟨⟨AW, cW, rfl, hcW, hW⟩, hq⟩
 have hc2 := hc1.trans (hq.mono hc1.size)
 rw [HRS.out] at hW
 clear hq HP HCP HDD
 refine hK.out _ _ ⟨below_keep hc2 _ _ p1, below_keep hc2 _ _ x0, below_keep hc2 _ _ x1⟩ (fun hHeld => ?_)
 clear hK K
 (try simp only [Act.put, pz0, pz1, pz2, pz3, pz4, pz5])
 refine tk 9 ?_
 refine wpAnyH_done (by kernel_rfl) ?_ _
 refine NoPanic.normal ?_
 clear hHeld
 have hb := hb.trans (hc2.mono hb.size)
 have rx := rx.below hc2
 have hX := hX.below VlR.stays hc2
 rw [← insD_at hmd] at hW
 clear hc0 hc1 hc2 p1 x0 x1
 obtain ⟨⟨x0, x1⟩, -⟩ := rx.all2
 have HW := Lib.hid hW
 have HCW := Lib.hid hcW
 clear hW hcW
 go_wp2_with fail
 refine (specL5Refers _ AW AX _ cS _ cW _ cX s (insD db m ⟨id, vals⟩) m vals true _ _ _ _ (HS.out.below TbR.stays hb) HW.out hX HSL.out HDL.out (by omega) hm HFN.out (fkIn_of HDB.out hm HLEN.out)).mono ?_
 rintro e u3 ⟨rfl, hq⟩
 have hb := hb.trans (hq.mono hb.size)
 have HW := Lib.hid (HW.out.below DtR.stays hq)
 have rx := rx.below hq
 clear hq x0 x1
 obtain ⟨⟨x0, x1⟩, -⟩ := rx.all2
 cases hrf : refersB s (insD db m ⟨id, vals⟩) s[m] vals true
 ·go_wp2_with fail
  go_ret3
  exact ⟨⟨none, 0, 0, 0, 5, rfl, .inl (by omega)⟩, hb⟩
 ·go_wp2_with fail
  go_quiet (fail)
  go_wp2_with fail
  go_ret3
  refine ⟨⟨AW, db.length, cW, id, 0, rfl, .inr ⟨rfl, HCW.out, ?_, ?_⟩⟩, ⟨hb.os, hb.tape, hb.output, hb.size, hb.block⟩⟩
  ·rw [← HID.out]; exact HW.out.stays DtR.stays (fun _ h => h) (fun _ _ _ h => h)
  ·rw [← HID.out]; exact HDB.out
set_option maxRecDepth 100000 in
theorem specL6OkM (AS AD : Option Addr) (nS cS nD cD : Nat) (s : List Tb) (db : List Dt) (m : Nat) (ok okd : Nat → Prop) (w : World) (hs : Sl TbR 6 ok w AS nS s) (hd : Sl DtR 1 okd w AD nD db) (hm : m < s.length) (hcp : nS ≤ cS) (hsz : szL Tb.sz s ≤ 1048576) (hdz : szL Dt.sz db ≤ 1048576) :
  Calls Tryz.prog 106 #[.slice AS nS cS, .slice AD nD cD, .int .i64 m] w fun e w' => e = .returned (.bool (dbB s db)) ∧ Below w.heap.size w w' := by
 obtain rfl : s.length = nS := hs.1
 have hsl : s.length ≤ 1048576 := by unfold szL at hsz; omega
 have hin : (decide ((0 : Int) ≤ (m : Int)) && decide ((m : Int) ≤ (s.length : Int) - 1)) = true := by
  rw [Bool.and_eq_true, decide_eq_true_eq, decide_eq_true_eq]; omega
 have HC := Lib.hid (specDbOk AS AD _ cS nD cD s db _ _ w hs hd hcp hsz hdz)
 have HI := Lib.hid (fun w => specInK (n := (m : Int)) hin w)
 clear hs hd hsz hdz hin
 go_enter Tryz.func106, Tryz.ntmps106
 go_wp2_with fail
 refine HC.out.mono ?_
 rintro e w1 ⟨rfl, hb⟩
 cases hB : dbB s db
 ·go_wp2_with fail
  go_ret
  exact ⟨by rw [hB]; rfl, hb⟩
 ·go_wp2_with fail
  refine (HI.out _).mono ?_
  rintro e w2 ⟨rfl, rfl⟩
  go_wp2_with fail
  go_ret
  exact ⟨by rw [hB]; rfl, hb⟩
theorem dbB_small {s : List Tb} {db : List Dt} (h : dbB s db = true) : db.length ≤ 1048576 ∧ (∀ d ∈ db, d.rows.length ≤ 1000000) ∧ ∀ d ∈ db, ∀ r ∈ d.rows, r.vals.length ≤ 1048576 := by
 have hl := dbB_len h
 have h5 := schemaB_le (dbB_schema h)
 refine ⟨by omega, fun d hd => ?_, fun d hd r hr => ?_⟩
 ·obtain ⟨i, hi, rfl⟩ := List.mem_iff_getElem.1 hd
  have := dbB_rows h (m := i) (by omega) hi
  omega
 ·obtain ⟨i, hi, rfl⟩ := List.mem_iff_getElem.1 hd
  have h1 := dbB_row h (m := i) (by omega) hi r hr
  have h8 := tableB_cols (schemaB_at (dbB_schema h) (i := i) (by omega)).1
  omega
set_option maxRecDepth 100000 in
set_option maxHeartbeats 1000000 in
theorem specInsertRow (AS AD AV : Option Addr) (nS cS nD cD nV cV : Nat) (s : List Tb) (db : List Dt) (m : Nat) (vals : List Vl) (ok okd okv : Nat → Prop) (w : World)
  (hs : Sl TbR 6 ok w AS nS s) (hd : Sl DtR 1 okd w AD nD db) (hv : Sl VlR 3 okv w AV nV vals) (hm : m < s.length) (hcp : nS ≤ cS) (hss : szL Tb.sz s ≤ 1048576) (hdz : szL Dt.sz db ≤ 1048576) (hvn : nV ≤ 1048576) :
  Calls Tryz.prog 74 #[.slice AS nS cS, .slice AD nD cD, .int .i64 m, .slice AV nV cV, .bool false] w fun e w' => (∃ (A : Option Addr) (n c : Nat) (id code : Int) (db' : List Dt), e = .returned (.tuple #[.slice A n c, .int .i64 id, .int .i64 code]) ∧ n ≤ c ∧ Sl DtR 1 (okF w.heap.size w') w' A n db' ∧
   (code = 1 ∨ db' = db ∨ db' = insD db m ⟨nextI (db[m]?.getD ⟨[]⟩).rows, vals⟩)) ∧ Below w.heap.size w w' := by
 obtain rfl : s.length = nS := hs.1
 obtain rfl : db.length = nD := hd.1
 obtain rfl : vals.length = nV := hv.1
 obtain ⟨b, off, A1, n1, c1, A2, n2, c2, A3, n3, c3, A4, n4, c4, A5, n5, c5, -, eS, q0, q1, q2, q3, q4, q5, s1, -, -, -, -, -⟩ := TbR.at_ hs hm
 subst eS
 have hts : s[m].sz ≤ 1048576 := Nat.le_trans (szL_mem Tb.sz s s[m] (List.getElem_mem hm)) hss
 have hn1 : n1 ≤ 1048576 := by rw [← s1.1]; unfold Tb.sz szL at hts; omega
 have i0' : (0 : Int) ≤ m := by omega
 have i1 : (m : Int) < s.length := by omega
 have HS := Lib.hid hs
 have HD := Lib.hid hd
 have HV := Lib.hid hv
 have HC := Lib.hid (specL6OkM _ AD _ cS _ cD s db m _ _ w hs hd hm hcp hss hdz)
 have HSS := Lib.hid hss
 clear hs hd hv hss hdz hts
 go_enter Tryz.func74, Tryz.ntmps74
 go_wp2_with fail
 refine HC.out.mono ?_
 rintro e w1 ⟨rfl, hb⟩
 clear HC
 cases hB : dbB s db
 ·go_wp2_with fail
  go_ret3
  exact ⟨⟨none, 0, 0, 0, 1, [], rfl, Nat.le_refl _, ⟨rfl, fun h => by omega⟩, .inl rfl⟩, hb⟩
 have HB := Lib.hid hB
 clear hB
 have q0 := below_keep hb _ _ q0
 have q1 := below_keep hb _ _ q1
 have q2 := below_keep hb _ _ q2
 have q3 := below_keep hb _ _ q3
 have q4 := below_keep hb _ _ q4
 have q5 := below_keep hb _ _ q5
 go_wp2_with fail
 refine (specKinds A1 AV n1 c1 _ cV _ _ _ _ _ s[m].cols vals _ _ (s1.below ClR.stays hb) (Sl.cellz (fun _ => rfl) (HV.out.below VlR.stays hb)) hn1 hvn).mono ?_
 rintro e w2 ⟨rfl, hq⟩
 have hb := hb.trans (hq.mono hb.size)
 clear hq q0 q1 q2 q3 q4 q5
 cases hk : kindsB s[m].cols vals
 ·go_wp2_with fail
  go_ret3
  exact ⟨⟨none, 0, 0, 0, 1, [], rfl, Nat.le_refl _, ⟨rfl, fun h => by omega⟩, .inl rfl⟩, hb⟩
 have HK := Lib.hid hk
 clear hk
 go_wp2_with fail
 refine (specL6Insert _ AD AV _ cS _ cD _ cV s db m vals _ _ _ _ (HS.out.below TbR.stays hb) (HD.out.below DtR.stays hb) (HV.out.below VlR.stays hb) HB.out hm HK.out HSS.out).mono ?_
 rintro e w3 ⟨⟨A, n, c, id, code, rfl, hcase⟩, hq⟩
 have hb := hb.trans (hq.mono hb.size)
 have HCA := Lib.hid hcase
 have HB3 := Lib.hid hb
 clear hq hcase
 by_cases h0 : code = 0
 ·rcases HCA.out with h | ⟨rfl, hnc, hsl, hB2⟩
  ·exact absurd h0 h
  obtain ⟨g1, g2, g3⟩ := dbB_small hB2
  have hlen : (insD db m ⟨nextI (db[m]?.getD ⟨[]⟩).rows, vals⟩).length = db.length := by unfold insD; rw [List.length_set]
  have HSL := Lib.hid hsl
  have HG := Lib.hid (And.intro g1 (And.intro g2 g3))
  have hdl : db.length ≤ 1048576 := by omega
  subst h0
  clear hsl hB2 g1 g2 g3 hlen
  go_wp2_with fail
  refine (specL4Copy A _ c _ _ _ HSL.out hdl HG.out.2.1 HG.out.2.2).mono ?_
  rintro e w4 ⟨A9, c9, rfl, hc9, h9, hq⟩
  go_wp2_with fail
  go_ret3
  exact ⟨⟨A9, _, c9, _, 0, _, rfl, hc9, h9.stays DtR.stays (fun b hb' => ⟨Nat.le_trans HB3.out.size hb'.1, hb'.2⟩) (fun _ _ _ h => h), .inr (.inr rfl)⟩, HB3.out.trans (hq.mono HB3.out.size)⟩
 ·have hk1 : (code != 0) = true := by simpa using h0
  obtain ⟨g1, g2, g3⟩ := dbB_small HB.out
  have HG := Lib.hid (And.intro g1 (And.intro g2 g3))
  clear g2 g3
  go_wp2_with fail
  refine (specL4Copy AD _ cD db _ _ (HD.out.below DtR.stays hb) g1 HG.out.2.1 HG.out.2.2).mono ?_
  rintro e w4 ⟨A9, c9, rfl, hc9, h9, hq⟩
  go_wp2_with fail
  go_ret3
  exact ⟨⟨A9, _, c9, 0, code, db, rfl, hc9, h9.stays DtR.stays (fun b hb' => ⟨Nat.le_trans HB3.out.size hb'.1, hb'.2⟩) (fun _ _ _ h => h), .inr (.inl rfl)⟩, HB3.out.trans (hq.mono HB3.out.size)⟩
def baseOk (M : Nat) (ts : List Tb) (ds : List Dt) : Prop := ∀ d ∈ ds, d.rows.length ≤ M ∧ ∀ r ∈ d.rows, (∃ t ∈ ts, r.vals.length = t.cols.length) ∧ ∀ x ∈ r.vals, okV x.k x.n x.s
def isBase (M : Nat) (ts : List Tb) (base : Nat) (v : Value) (w : World) : Prop := ∃ (A : Option Addr) (c : Nat) (ds : List Dt), v = .slice A ds.length c ∧ ds.length ≤ c ∧ Sl DtR 1 (okF base w) w A ds.length ds ∧ ds.length ≤ ts.length ∧ baseOk M ts ds
def baseK (M : Nat) (ts : List Tb) (ds : List Dt) (i : Nat) (k : Int) : Prop := ds.length = ts.length ∧ baseOk M ts ds ∧ (∀ j (h : j < ds.length), i < j → ds[j].rows = []) ∧ ∀ h : i < ds.length, (ds[i].rows.length : Int) + k ≤ M
theorem baseOk.sz {M : Nat} {ts : List Tb} {ds : List Dt} (h : baseOk M ts ds) (ht : schOk ts) (hM : M ≤ 20) (hl : ds.length ≤ ts.length) : szL Dt.sz ds ≤ 50000 := by
 have hv : ∀ d ∈ ds, ∀ r ∈ d.rows, Rw.sz r ≤ 61 + 61 * 12 := fun d hd r hr => by
  obtain ⟨⟨t, ht1, ht2⟩, hx⟩ := (h d hd).2 r hr
  have h1 := szL_le (fun v : Vl => v.s.size) 12 r.vals fun x hx' => okV_le (hx x hx')
  have h2 := cols_le t
  have h3 := (ht.2.2 t ht1).1
  have h4 : r.vals.length * 12 ≤ 61 * 12 := Nat.mul_le_mul_right _ (by omega)
  show szL (fun v : Vl => v.s.size) r.vals ≤ _
  omega
 have hd : ∀ d ∈ ds, Dt.sz d ≤ 20 + 20 * (61 + 61 * 12) := fun d hd => by
  have h1 := szL_le Rw.sz (61 + 61 * 12) d.rows (hv d hd)
  have h2 := (h d hd).1
  have h4 : d.rows.length * (61 + 61 * 12) ≤ 20 * (61 + 61 * 12) := Nat.mul_le_mul_right _ (by omega)
  show szL Rw.sz d.rows ≤ _
  omega
 have h1 := szL_le Dt.sz (20 + 20 * (61 + 61 * 12)) ds hd
 have h4 : ds.length * (20 + 20 * (61 + 61 * 12)) ≤ 3 * (20 + 20 * (61 + 61 * 12)) := Nat.mul_le_mul_right _ (by have := ht.2.1; omega)
 have := ht.2.1
 omega
theorem baseK.ins {M : Nat} {ts : List Tb} {ds : List Dt} {i : Nat} {k : Int} (h : baseK M ts ds i k) (hk : 0 < k) (hi : i < ds.length) {id : Int} {xs : List Vl} (ht : ∃ t ∈ ts, xs.length = t.cols.length) (hx : ∀ y ∈ xs, okV y.k y.n y.s) : baseK M ts (insD ds i ⟨id, xs⟩) i (k - 1) := by
 obtain ⟨h1, h2, h3, h4⟩ := h
 have h4' := h4 hi
 rw [insD_at hi]
 refine ⟨by rw [List.length_set]; exact h1, fun d hd => ?_, fun j hj hij => by rw [List.getElem_set_ne (by omega)]; exact h3 j (by simpa using hj) hij, fun h => ?_⟩
 ·rcases List.mem_or_eq_of_mem_set hd with hd | rfl
  ·exact h2 d hd
  ·refine ⟨by rw [List.length_append]; simp; omega, fun r hr => ?_⟩
   rcases List.mem_append.1 hr with hr | hr
   ·exact (h2 _ (List.getElem_mem hi)).2 r hr
   ·rw [List.mem_singleton.1 hr]; exact ⟨ht, hx⟩
 ·rw [List.getElem_set_self, List.length_append]; simp; omega
theorem baseK.less {M : Nat} {ts : List Tb} {ds : List Dt} {i : Nat} {k : Int} (h : baseK M ts ds i k) : baseK M ts ds i (k - 1) := ⟨h.1, h.2.1, h.2.2.1, fun hi => by have := h.2.2.2 hi; omega⟩
theorem okF.but {base R : Nat} {w w' : World} (hb : But R w w') (hR : R < base) {b : Nat} (h : okF base w b) : okF base w' b :=
 ⟨h.1, Nat.lt_of_lt_of_le h.2.1 hb.size, fun off => (World.frozen?_of_block (hb.block b h.2.1 (by have := h.1; omega))).trans (h.2.2 off)⟩
theorem Sl.butF {α : Type} {Rr : Rd α} (hR : Stays Rr) {sz base : Nat} {w w' : World} {A : Option Addr} {n : Nat} {ds : List α} (h : Sl Rr sz (okF base w) w A n ds) {R : Nat} (hb : But R w w') (hlt : R < base) : Sl Rr sz (okF base w') w' A n ds :=
 h.stays hR (fun b hb' => hb'.but hb hlt) fun p v hp hc => (hb.cell (cell_lt hc) (by have := hp.1; omega)).trans hc
theorem OwnW.second {w : World} {base : Nat} {A : Option Addr} {c : Nat} {xs : List Vl} (h : OwnW w base (.slice A xs.length c) xs) (h2 : 2 ≤ xs.length) : ∃ g, A = some ⟨g, 0, none⟩ ∧ base ≤ g ∧ g < w.heap.size ∧
  (∃ k n s, w.cell? ⟨g, 3, none⟩ = some (.int .i64 k) ∧ w.cell? ⟨g, 4, none⟩ = some (.int .i64 n) ∧ w.cell? ⟨g, 5, none⟩ = some (.string s)) ∧ (∀ j, w.frozen? ⟨g, j, none⟩ = false) ∧
  ∀ k n s, OwnW (((w.setCell ⟨g, 3, none⟩ (.int .i64 k)).setCell ⟨g, 4, none⟩ (.int .i64 n)).setCell ⟨g, 5, none⟩ (.string s)) base (.slice A xs.length c) (xs.set 1 ⟨k, n, s⟩) := by
 obtain ⟨x0, x1, tl, rfl⟩ : ∃ x0 x1 tl, xs = x0 :: x1 :: tl := by
  match xs, h2 with
  | x0 :: x1 :: tl, _ => exact ⟨x0, x1, tl, rfl⟩
 have h' := h
 rcases h.2 with ⟨-, hn⟩ | ⟨g, cap, cur, e, k1, k2, k3, k4, k5, k6⟩
 ·simp at hn
 simp only [Value.slice.injEq] at e
 obtain ⟨rfl, -, rfl⟩ := e
 have hcell : ∀ j u, ((x0 :: x1 :: tl).map Vl.cells).flatten[j]? = some u → w.cell? ⟨g, j, none⟩ = some u := fun j u hj => by
  rw [← k6, List.getElem?_take] at hj
  split at hj
  ·simp only [World.cell?, k2]
   rw [← Array.getElem?_toList]
   exact hj
  ·cases hj
 refine ⟨g, rfl, k1, lt_of_block k2, ⟨x1.k, x1.n, x1.s, hcell 3 _ rfl, hcell 4 _ rfl, hcell 5 _ rfl⟩, fun j => by simp [World.frozen?, k2], fun k n s => ?_⟩
 have s1 := (World.ownsRow.stored h' 3 (.int .i64 k)).1
 have s2 := (World.ownsRow.stored s1 4 (.int .i64 n)).1
 have s3 := (World.ownsRow.stored s2 5 (.string s)).1
 exact s3
def FitW (wr wx : World) (R : Nat) (a : Option Addr) (len cap : Nat) (zs : List Int) (A : Option Addr) (m c : Nat) : Prop := ∃ xs : List Vl, OwnW wx wr.heap.size (.slice A m c) xs ∧ xs.length = m ∧ (∀ x ∈ xs, okV x.k x.n x.s) ∧ But R wr wx ∧ Rdr wx R a len cap zs
theorem FitW.b {wr wx : World} {R : Nat} {a : Option Addr} {len cap : Nat} {zs : List Int} {A : Option Addr} {m c : Nat} (h : FitW wr wx R a len cap zs A m c) : But R wr wx := by obtain ⟨_, -, -, -, h, -⟩ := h; exact h
theorem FitW.rdr {wr wx : World} {R : Nat} {a : Option Addr} {len cap : Nat} {zs : List Int} {A : Option Addr} {m c : Nat} (h : FitW wr wx R a len cap zs A m c) : Rdr wx R a len cap zs := by obtain ⟨_, -, -, -, -, h⟩ := h; exact h
theorem FitW.but {wr wx wy : World} {R : Nat} {a : Option Addr} {len cap : Nat} {zs : List Int} {A : Option Addr} {m c : Nat} (h : FitW wr wx R a len cap zs A m c) (hb : But R wx wy) (hr : Rdr wy R a len cap zs) (hR : R < wr.heap.size) : FitW wr wy R a len cap zs A m c := by
 obtain ⟨xs, h1, h2, h3, h4, h5⟩ := h
 exact ⟨xs, OwnG.but h1 hb hR, h2, h3, h4.trans hb, hr⟩
theorem FitW.store {wr wx : World} {R : Nat} {a : Option Addr} {len cap : Nat} {zs : List Int} {A : Option Addr} {m c : Nat} (h : FitW wr wx R a len cap zs A m c) (h0 : Rdr wr R a len cap zs) (h2 : 2 ≤ m) : ∃ g, A = some ⟨g, 0, none⟩ ∧
  (∃ k n s, wx.cell? ⟨g, 3, none⟩ = some (.int .i64 k) ∧ wx.cell? ⟨g, 4, none⟩ = some (.int .i64 n) ∧ wx.cell? ⟨g, 5, none⟩ = some (.string s)) ∧ (∀ j, wx.frozen? ⟨g, j, none⟩ = false) ∧
  ∀ k n s, okV k n s → FitW wr (((wx.setCell ⟨g, 3, none⟩ (.int .i64 k)).setCell ⟨g, 4, none⟩ (.int .i64 n)).setCell ⟨g, 5, none⟩ (.string s)) R a len cap zs A m c := by
 obtain ⟨xs, h1, rfl, h3, h4, h5⟩ := h
 obtain ⟨g, e, hg, hl, hc, hf, hs⟩ := OwnW.second h1 h2
 refine ⟨g, e, hc, hf, fun k n s hk => ⟨_, hs k n s, by rw [List.length_set], fun x hx => ?_, ((h4.setNew (p := ⟨g, 3, none⟩) hg _).setNew (p := ⟨g, 4, none⟩) hg _).setNew (p := ⟨g, 5, none⟩) hg _, h0.setNew (h0.setNew (h0.setNew h5 (p := ⟨g, 3, none⟩) hg _) (p := ⟨g, 4, none⟩) hg _) (p := ⟨g, 5, none⟩) hg _⟩⟩
 rcases List.mem_or_eq_of_mem_set hx with hx | rfl
 ·exact h3 x hx
 ·exact hk
set_option maxRecDepth 100000 in
set_option maxHeartbeats 4000000 in
theorem rdBase (M : Nat) (hM1 : 1 ≤ M) (hM2 : M ≤ 20) (A : Option Addr) (n c : Nat) (ts : List Tb) (ok : Nat → Prop) (w : World) (R : Nat) (a : Option Addr) (len cap : Nat) (zs : List Int) (h : Rdr w R a len cap zs) (hs : Sl TbR 6 ok w A n ts) (hok : ∀ b, ok b → b ≠ R) (hcp : n ≤ c) (hk : schOk ts) :
  Calls Tryz.prog 40 #[.pointer (some ⟨R, 0, none⟩), .slice A n c, .int .i64 M] w (Drew R a len cap zs (isBase M ts w.heap.size) w) := by
 have hR : R < w.heap.size := cell_lt h.code
 obtain rfl : ts.length = n := hs.1
 have hsz := hk.sz
 have hn3 := hk.2.1
 have HC := Lib.hid (specDbNew A ts.length c ts ok w hs hcp (by omega))
 have H0 := Lib.hid h
 have HS := Lib.hid hs
 have HK := Lib.hid hk
 clear hs hk
 go_enter Tryz.func40, Tryz.ntmps40
 go_wp2_with fail
 refine HC.out.mono ?_
 rintro e w1 ⟨A0, c0, rfl, hc0, hem, hq⟩
 have hdt := Em.toDt hem
 have HB := Lib.hid (below_but hq R)
 have HR := Lib.hid (rdr_below h hq)
 clear HC hem hq h
 cases hB : schemaB ts
 ·rw [hB] at hdt hc0
  have hl0 : (ems false ts.length).length = 0 := rfl
  rw [hl0] at hdt hc0 ⊢
  go_wp2_with fail
  go_loopw [7, 9] (fun v i wr => v = .slice A0 0 c0 ∧ i = .int .i64 0 ∧ wr = w1) (fun _ _ _ => 0)
  case atStart => exact ⟨rfl, rfl, rfl⟩
  case round =>
   obtain ⟨rfl, rfl, rfl⟩ := hrel
   have h1 : (0 : Int) < ts.length := by have := HK.out.1; omega
   go_wp2_with fail
   go_ret
   exact ⟨_, rfl, ⟨A0, c0, [], rfl, Nat.zero_le _, hdt, Nat.zero_le _, fun d hd => by cases hd⟩, HB.out, HR.out⟩
 rw [hB] at hdt hc0
 have hl0 : (ems true ts.length).length = ts.length := by simp [ems]
 rw [hl0] at hdt hc0 ⊢
 have hde : dts (ems true ts.length) = List.replicate ts.length ⟨[]⟩ := by simp [ems, dts]
 rw [hde] at hdt
 have HD := Lib.hid hdt
 clear hdt hde hB
 go_wp2_with fail
 go_loopw [7, 9] (fun v i wr => ∃ (k : Nat) (A0 : Option Addr) (c0 : Nat) (ds : List Dt), v = .slice A0 ts.length c0 ∧ i = .int .i64 k ∧ k ≤ ts.length ∧ ts.length ≤ c0 ∧ Hid (Sl DtR 1 (okF w.heap.size wr) wr A0 ts.length ds) ∧ Hid (ds.length = ts.length ∧ baseOk M ts ds ∧ ∀ j (h : j < ds.length), k ≤ j → ds[j].rows = []) ∧ Hid (But R w wr) ∧ Hid (Rdr wr R a len cap zs)) (fun _ i _ => ts.length - (intOf i).toNat)
 case atStart => exact ⟨0, A0, c0, _, rfl, rfl, Nat.zero_le _, hc0, HD, Lib.hid ⟨by simp, fun d hd => by rw [List.eq_of_mem_replicate hd]; exact ⟨by simp, fun r hr => by cases hr⟩, fun j hj _ => by rw [List.getElem_replicate]⟩, HB, HR⟩
 case round =>
  clear HD HB HR hc0
  obtain ⟨k, A0, c0, ds, rfl, rfl, hkl, hc0, hdb, hrk, hb, hr⟩ := hrel
  by_cases hlt : k < ts.length
  ·have g1 : (k : Int) < (ts.length : Nat) := by omega
   have g0 : (0 : Int) ≤ (k : Nat) := by omega
   go_wp2_with fail
   refine (rdBelow M _ R a len cap zs hr.out).mono ?_
   rintro e w2 ⟨v, rfl, ⟨y, rfl, y0, y1⟩, hb2, hr2⟩
   have HDI := Lib.hid (hdb.out.butF DtR.stays hb2 hR)
   have HBI := Lib.hid (hb.out.trans hb2)
   have HRI := Lib.hid hr2
   have HKI := Lib.hid (show baseK M ts ds k (1 + y) from ⟨hrk.out.1, hrk.out.2.1, fun j hj hkj => hrk.out.2.2 j hj (by omega), fun h => by rw [hrk.out.2.2 k h (Nat.le_refl _)]; simp; omega⟩)
   clear hdb hb hr hrk hb2 hr2
   go_wp2_with fail
   go_loopw [7, 10] (fun v kv wi => ∃ (m : Int) (A0 : Option Addr) (c0 : Nat) (ds : List Dt), v = .slice A0 ts.length c0 ∧ kv = .int .i64 m ∧ 0 ≤ m ∧ m ≤ 20 ∧ ts.length ≤ c0 ∧ Hid (Sl DtR 1 (okF w.heap.size wi) wi A0 ts.length ds) ∧ Hid (baseK M ts ds k m) ∧ Hid (But R w wi) ∧ Hid (Rdr wi R a len cap zs)) (fun _ kv _ => (intOf kv).toNat)
   case atStart => exact ⟨1 + y, A0, c0, ds, rfl, by go_num, by omega, by omega, hc0, HDI, HKI, HBI, HRI⟩
   case round =>
    clear HDI HKI HBI HRI
    obtain ⟨m, A0, c0, ds, rfl, rfl, m0, m20, hc0, hdb, hkk, hb, hr⟩ := hrel
    by_cases hm : 0 < m
    ·have hkd : k < ds.length := by rw [hkk.out.1]; exact hlt
     have h0d : 0 < ds.length := by omega
     obtain ⟨b, off, P1, p1, q1, P2, p2, q2, P3, p3, q3, P4, p4, q4, P5, p5, q5, hokb, rfl, e0, e1, e2, e3, e4, e5, hcols, -, -, -, -, -⟩ := TbR.at_ (HS.out.butY TbR.stays hb.out hok) hlt
     have hbR : b ≠ R := hok b hokb
     have hc2 : 2 ≤ ts[k].cols.length ∧ ts[k].cols.length ≤ 1000 := by
      have h1 := HK.out.2.2 ts[k] (List.getElem_mem hlt)
      have h2 := cols_le ts[k]
      omega
     go_wp2_with fail
     refine (rdFit _ _ _ _ _ P1 p1 q1 ts[k].cols ok _ R a len cap zs hr.out hcols hok hc2.2).mono ?_
     rintro e w3 ⟨v, rfl, ⟨xs, hown, hxl, hxo⟩, hb3, hr3⟩
     obtain ⟨AV, cV, rfl, -, -, -⟩ := OwnG.sl (f := Vl.cells) (sz := 3) (fun _ => rfl) hown
     have E0 := Lib.hid e0
     have q0 := (hb3.cell (cell_lt e0) hbR).trans e0
     have HF := Lib.hid (show FitW wr w3 R a len cap zs AV xs.length cV from ⟨xs, hown, rfl, hxo, hb3, hr3⟩)
     have HXL := Lib.hid hxl
     have HDR := Lib.hid (hdb.out.butF DtR.stays hb3 hR)
     obtain ⟨b1, o1, A1, n1, c1, ho1, rfl, d0, hrw0, -⟩ := DtR.at_ HDR.out h0d
     simp only [Nat.add_zero] at d0
     clear e0 e1 e2 e3 e4 e5 hcols hown hxo hb3 hr3
     have hc2' : 2 ≤ xs.length := by rw [hxl]; exact hc2.1
     have HXL := Lib.hid hxl
     clear hxl
     obtain ⟨wv, hwv⟩ : ∃ wv, wv = wr := ⟨_, rfl⟩
     subst hwv
     go_upto_region 9 with fail
     go_cut [62] from 44 to 62 (fun s62 wx => ∃ bb : Bool, s62 = .bool bb ∧ (bb = true → 0 < ds[0].rows.length) ∧ FitW wv wx R a len cap zs AV xs.length cV)
     case first =>
      by_cases hN : ts[k].name.toList = [112]
      ·go_wp2_with fail
       go_meet
       case rel => exact ⟨false, rfl, by simp, HF.out⟩
      ·by_cases hL : 0 < n1
       ·have hL1 : (0 : Int) < n1 := by omega
        go_wp2_with fail
        refine (rdOnce 4 _ R a len cap zs HF.out.rdr).mono ?_
        rintro e w4 ⟨v, rfl, ⟨bb, rfl⟩, hb4, hr4⟩
        have HF4 := Lib.hid (HF.out.but hb4 hr4 (Nat.lt_of_lt_of_le hR hb.out.size))
        clear hb4 hr4
        go_wp2_with fail
        go_meet
        case rel => exact ⟨_, rfl, fun _ => by rw [hrw0.1]; exact hL, HF4.out⟩
       ·have hL1 : ¬ (0 : Int) < n1 := by omega
        go_wp2_with fail
        go_meet
        case rel => exact ⟨false, rfl, by simp, HF.out⟩
     case rest =>
      obtain ⟨bb, rfl, hbb, hf⟩ := hcut
      have HF1 := Lib.hid hf
      have q1 := (hf.b.cell (cell_lt E0.out) hbR).trans E0.out
      have HD1 := Lib.hid (hdb.out.butF DtR.stays hf.b hR)
      clear hf HF HDR d0 hrw0
      obtain ⟨wd, hwd⟩ : ∃ wd, wd = wc := ⟨_, rfl⟩
      subst hwd
      go_upto_if 62 with (fail)
      go_cut [12] from 63 to 92 (fun s12 wx => FitW wv wx R a len cap zs AV xs.length cV)
      case first =>
       cases bb
       ·go_wp2_with fail
        go_meet
        case rel => exact HF1.out
       ·have hL := hbb rfl
        obtain ⟨b2, o2, A2, n2, c2, ho2, eo2, d0, hrw0, -⟩ := DtR.at_ HD1.out h0d
        obtain ⟨b3, o3, A3, n3, c3, ho3, eo3, d3, hrw3, -⟩ := DtR.at_ HD1.out hkd
        simp only [Option.some.injEq, Addr.mk.injEq, and_true] at eo2 eo3
        obtain ⟨rfl, rfl⟩ := eo2
        obtain ⟨rfl, rfl⟩ := eo3
        simp only [Nat.add_zero] at d0
        obtain rfl : ds[0].rows.length = n2 := hrw0.1
        obtain rfl : ds[k].rows.length = n3 := hrw3.1
        go_upto_if 72 with (fail)
        go_cut [12] from 72 to 77 (fun s12 wx => wx = wd ∧ ∃ (A9 : Option Addr) (c9 q : Nat) (hq : q < ds.length), s12 = .slice A9 ds[q].rows.length c9 ∧ Hid (Sl RwR 2 (okF w.heap.size wd) wd A9 ds[q].rows.length ds[q].rows))
        case first =>
         cases hT : (ts[k].name.toList == [116, 114, 101, 101])
         ·go_wp2_with fail
          go_meet
          case rel => exact ⟨rfl, A2, c2, 0, h0d, rfl, Lib.hid hrw0⟩
         ·go_wp2_with fail
          go_meet
          case rel => exact ⟨rfl, A3, c3, k, hkd, rfl, Lib.hid hrw3⟩
        case rest =>
         obtain ⟨rfl, A9, c9, q, hq, rfl, hrw9⟩ := hcut
         clear d0 d3 hrw0 hrw3
         by_cases hl : 0 < ds[q].rows.length
         ·have hl1 : (0 : Int) < ds[q].rows.length := by omega
          go_wp2_with fail
          refine (rdBelow _ _ R a len cap zs HF1.out.rdr).mono ?_
          rintro e w5 ⟨v, rfl, ⟨y5, rfl, y50, y51⟩, hb5, hr5⟩
          obtain ⟨j, rfl, hj⟩ := below_nat y50 y51 hl1
          have hj' : j < ds[q].rows.length := by omega
          have HF5 := Lib.hid (HF1.out.but hb5 hr5 (Nat.lt_of_lt_of_le hR hb.out.size))
          have hrw5 := hrw9.out.butF RwR.stays hb5 hR
          obtain ⟨b6, o6, A6, n6, c6, ho6, rfl, -, p6, hvl6, -⟩ := RwR.at_ hrw5 hj'
          have hv2 : 0 < ds[q].rows[j].vals.length := by
           obtain ⟨t, ht1, ht2⟩ := ((hkk.out.2.1 _ (List.getElem_mem hq)).2 _ (List.getElem_mem hj')).1
           have := (HK.out.2.2 t ht1).2
           omega
          have hov := ((hkk.out.2.1 _ (List.getElem_mem hq)).2 _ (List.getElem_mem hj')).2 _ (List.getElem_mem hv2)
          obtain ⟨b7, o7, ho7, rfl, v0, v1, v2⟩ := VlR.at_ hvl6 hv2
          obtain rfl : ds[q].rows[j].vals.length = n6 := hvl6.1
          have hv3 : (0 : Int) < ds[q].rows[j].vals.length := by omega
          obtain ⟨g, rfl, ⟨k9, n9, s9, z3, z4, z5⟩, hfz, hst⟩ := HF5.out.store hr.out hc2'
          have hc3 : (1 : Int) < xs.length := by omega
          have f3 := hfz 3
          have f4 := hfz 4
          have f5 := hfz 5
          have HST := Lib.hid (hst _ _ _ hov)
          simp only [Nat.zero_mul, Nat.add_zero] at v0 v1 v2
          clear hb5 hr5 hvl6 hrw5 hst hfz hov
          go_wp2_with fail
          go_meet
          case rel => exact HST.out
         ·have hl1 : ¬ (0 : Int) < ds[q].rows.length := by omega
          go_wp2_with fail
          go_meet
          case rel => exact HF1.out
      case rest =>
       have HF2 := Lib.hid hcut
       have q2 := (hcut.b.cell (cell_lt E0.out) hbR).trans E0.out
       have HD2 := Lib.hid (hdb.out.butF DtR.stays hcut.b hR)
       clear hcut HF1 HD1 q1 hbb
       obtain ⟨we, hwe⟩ : ∃ we, we = wc := ⟨_, rfl⟩
       subst hwe
       obtain ⟨b3, o3, A3, n3, c3, ho3, eo3, d3, hrw3, -⟩ := DtR.at_ HD2.out hkd
       simp only [Option.some.injEq, Addr.mk.injEq, and_true] at eo3
       obtain ⟨rfl, rfl⟩ := eo3
       go_upto_region 15 with fail
       go_cut [107] from 93 to 107 (fun s107 wx => wx = we ∧ ∃ bb : Bool, s107 = .bool bb)
       case first =>
        by_cases hT : ts[k].name.toList = [116, 114, 101, 101]
        ·go_wp2_with fail
         go_meet
         case rel => exact ⟨rfl, _, rfl⟩
        ·go_wp2_with fail
         go_meet
         case rel => exact ⟨rfl, _, rfl⟩
       case rest =>
        obtain ⟨rfl, bt, rfl⟩ := hcut
        clear d3 hrw3 q2
        obtain ⟨g, rfl, ⟨k9, n9, s9, z3, z4, z5⟩, hfz, hst⟩ := HF2.out.store hr.out hc2'
        have hc3 : (1 : Int) < xs.length := by omega
        have f3 := hfz 3
        have f4 := hfz 4
        have f5 := hfz 5
        have HST := Lib.hid (hst _ _ _ okV_null)
        clear hst hfz
        go_upto_if 107 with (fail)
        go_cut [] from 108 to 110 (fun wx => FitW wv wx R a len cap zs (some ⟨g, 0, none⟩) xs.length cV)
        case first =>
         cases bt
         ·go_wp2_with fail
          go_meet
          case rel => exact HF2.out
         ·go_wp2_with fail
          go_meet
          case rel => exact HST.out
        case rest =>
         have HF3 := Lib.hid hcut
         clear hcut HF2 HST HD2 z3 z4 z5 f3 f4 f5
         obtain ⟨xs', ho, hl', hx', hbx, hrx⟩ := HF3.out
         obtain ⟨A8, c8, e8, -, -, hsv⟩ := OwnG.sl (f := Vl.cells) (sz := 3) (fun _ => rfl) ho
         simp only [Value.slice.injEq] at e8
         obtain ⟨rfl, -, rfl⟩ := e8
         rw [hl'] at hsv
         have HD3 := Lib.hid (hdb.out.butF DtR.stays hbx hR)
         have HS3 := Lib.hid ((HS.out.butY TbR.stays hb.out hok).butY TbR.stays hbx hok)
         have HSV := Lib.hid hsv
         have HB3 := Lib.hid (hb.out.trans hbx)
         have HR3 := Lib.hid hrx
         have HX3 := Lib.hid (show (∃ t ∈ ts, xs'.length = t.cols.length) ∧ ∀ y ∈ xs', okV y.k y.n y.s from ⟨⟨ts[k], List.getElem_mem hlt, by rw [hl']; exact HXL.out⟩, hx'⟩)
         have hdz := hkk.out.2.1.sz HK.out hM2 (Nat.le_of_eq hkk.out.1)
         have HW := Lib.hid hbx.size
         clear ho hx' hbx hrx hsv HF3
         go_wp2_with fail
         refine (specInsertRow _ _ _ ts.length c ts.length c0 xs.length cV ts ds k xs' _ _ _ _ HS3.out HD3.out HSV.out hlt hcp (by omega) (by omega) (by have := HXL.out; omega)).mono ?_
         rintro e w6 ⟨⟨A9, n9, c9, id, code, db', rfl, hc9, h9, hcase⟩, hq⟩
         have HB6 := Lib.hid (HB3.out.trans (below_but hq R))
         have HR6 := Lib.hid (rdr_below HR3.out hq)
         by_cases hcode : code = 1
         ·subst hcode
          have HD6 := Lib.hid (HD3.out.butF DtR.stays (below_but hq R) hR)
          have HK6 := Lib.hid hkk.out.less
          clear hq h9 hcase
          go_wp2_with fail
          go_roundw
          case rel => exact ⟨m - 1, _, c0, ds, rfl, by go_num, by omega, by omega, hc0, HD6, HK6, HB6, HR6⟩
          case measure => simp [intOf]; omega
         ·have hk1 : (code != 1) = true := by simpa using hcode
          have hk2 : baseK M ts db' k (m - 1) := by
           rcases hcase with h | rfl | rfl
           ·exact absurd h hcode
           ·exact hkk.out.less
           ·exact hkk.out.ins hm hkd HX3.out.1 HX3.out.2
          have hn9 : n9 = ts.length := by rw [← h9.1]; exact hk2.1
          subst hn9
          have HD6 := Lib.hid (h9.stays DtR.stays (ok' := okF w.heap.size w6) (fun b hb' => hb'.mono (Nat.le_trans hb.out.size HW.out)) (fun _ _ _ h => h))
          have HK6 := Lib.hid hk2
          clear hq h9 hcase hk2
          go_wp2_with fail
          go_roundw
          case rel => exact ⟨m - 1, A9, c9, db', rfl, by go_num, by omega, by omega, hc9, HD6, HK6, HB6, HR6⟩
          case measure => simp [intOf]; omega
    ·have hm' : m = 0 := by omega
     subst hm'
     go_wp2_with fail
     go_roundw
     case rel => exact ⟨k + 1, A0, c0, ds, rfl, by go_num, by omega, hc0, hdb, Lib.hid ⟨hkk.out.1, hkk.out.2.1, fun j hj hkj => hkk.out.2.2.1 j hj (by omega)⟩, hb, hr⟩
     case measure => simp [intOf]; omega
  ·have g1 : ¬ (k : Int) < (ts.length : Nat) := by omega
   go_wp2_with fail
   go_ret
   exact ⟨_, rfl, ⟨A0, c0, ds, by show Value.slice A0 ts.length c0 = _; rw [hrk.out.1], by rw [hrk.out.1]; exact hc0, by rw [hrk.out.1]; exact hdb.out, by rw [hrk.out.1]; exact Nat.le_refl _, hrk.out.2.1⟩, hb.out, hr.out⟩
set_option maxRecDepth 100000 in
set_option maxHeartbeats 2000000 in
theorem drawSound (a : Option Addr) (len cap : Nat) (zs : List Int) (w : World) (h : IsRow .u8 w a len cap zs) :
  Calls Tryz.prog 13 #[.slice a len cap] w (Drawn isDbArgs w) := by
 have h0 := Rdr.new h 112
 have b0 := (Below.refl w.heap.size w).alloc (Nat.le_refl _) (.cells #[.slice a len cap, .int .i64 0] 112)
 go_enter Tryz.func13, Tryz.ntmps13
 go_wp2_with fail
 refine (specOpen _ _ _ _).mono ?_
 rintro e w1 ⟨rfl, rfl⟩
 have hRlt : w.heap.size < (w.alloc (.cells #[.slice a len cap, .int .i64 0] 112)).heap.size := by simp
 generalize w.alloc (.cells #[.slice a len cap, .int .i64 0] 112) = u at *
 go_wp2_with fail
 refine (rdSchema _ _ a len cap zs h0).mono ?_
 rintro e w2 ⟨v, rfl, hsch, hb2, hr2⟩
 obtain ⟨A1, c1, ts, rfl, hc1, hsl, hsk⟩ := hsch.full
 have hsz := hsk.sz
 have hS := okF.weak TbR.stays hsl (Nat.le_refl _)
 have hok : ∀ b, u.heap.size ≤ b → b ≠ w.heap.size := fun b hb => by omega
 clear hsl hsch
 go_wp2_with fail
 refine (rdOnce 3 _ _ a len cap zs hr2).mono ?_
 rintro e w4 ⟨v4, rfl, ⟨b4, rfl⟩, hb4, hr4⟩
 have hS4 := hS.butY TbR.stays hb4 hok
 have hb24 := hb2.trans hb4
 clear hS hb2 hb4 hr2
 cases b4
 ·go_wp2_with fail
  refine (rdBase 5 (by omega) (by omega) A1 ts.length c1 ts _ _ _ a len cap zs hr4 hS4 hok hc1 hsk).mono ?_
  rintro e w3 ⟨v, rfl, ⟨A2, c2, ds, rfl, hc2, hdl, hn2, hrw⟩, hb3, hr3⟩
  have hD := okF.weak DtR.stays hdl hb24.size
  have hS3 := hS4.butY TbR.stays hb3 hok
  have hds := hrw.sz hsk (by omega) hn2
  have hb23 := hb24.trans hb3
  clear hdl hb3 hr3
  go_wp2_with fail
  refine bodyPost_ret (v := .tuple #[.slice A1 ts.length c1, .slice A2 ds.length c2]) ?_ rfl ?_
  ·simp [results, Tryz.results13, go_sem]
  ·exact ⟨_, rfl, ⟨_, A1, c1, ts, A2, ds.length, c2, ds, rfl, hc1, hS3, hD, hsk, by omega, by omega⟩, b0.trans (hb23.below (Nat.le_refl _) (Nat.le_of_lt hRlt))⟩
 ·go_wp2_with fail
  refine (rdRaw A1 ts.length c1 ts _ _ _ a len cap zs hr4 hS4 hok hsz).mono ?_
  rintro e w3 ⟨v, rfl, ⟨A2, n2, c2, ds, rfl, hc2, hdl, hn2, hrw⟩, hb3, hr3⟩
  have hD := okF.weak DtR.stays hdl hb24.size
  have hS3 := hS4.butY TbR.stays hb3 hok
  have hdlen : ds.length = n2 := hD.1
  have hl3 := hsk.2.1
  have hds := hrw.sz hsk.2.2 (by omega)
  have hb23 := hb24.trans hb3
  clear hdl hb3 hr3
  go_wp2_with fail
  refine bodyPost_ret (v := .tuple #[.slice A1 ts.length c1, .slice A2 n2 c2]) ?_ rfl ?_
  ·simp [results, Tryz.results13, go_sem]
  ·exact ⟨_, rfl, ⟨_, A1, c1, ts, A2, n2, c2, ds, rfl, hc1, hS3, hD, hsk, by omega, by omega⟩, b0.trans (hb23.below (Nat.le_refl _) (Nat.le_of_lt hRlt))⟩
set_option maxRecDepth 100000 in
set_option maxHeartbeats 2000000 in
theorem drawSoundNow (a : Option Addr) (len cap : Nat) (zs : List Int) (w : World) (h : IsRow .u8 w a len cap zs) :
  Calls Tryz.prog 15 #[.slice a len cap] w (Drawn isDbArgs w) := by
 go_enter Tryz.func15, Tryz.ntmps15
 go_wp2_with fail
 refine (drawSound a len cap zs w h).mono ?_
 rintro e w1 ⟨v, rfl, ⟨ok, A1, c1, ts, A2, n2, c2, ds, rfl, h1, h2, h3, h4, h5, h6⟩, hb⟩
 go_wp2_with fail
 refine bodyPost_ret (v := .tuple #[.slice A1 ts.length c1, .slice A2 n2 c2]) ?_ rfl ?_
 ·simp [results, Tryz.results15, go_sem]
 ·exact ⟨_, rfl, ⟨ok, A1, c1, ts, A2, n2, c2, ds, rfl, h1, h2, h3, h4, h5, h6⟩, hb⟩
end Go.Proofs.YtjhhamlnlalkoaaGreat
namespace Go.Proofs.YtjhhamlnlalkoaaGreat
open Go.RowKit Go.Maps
theorem findL_idx (cols : List Int) (key : List Vl) (rows : List Rw) : (findL cols key rows).length = (idxK cols key rows rows.length).length := by
 unfold findL idL; rw [List.length_map]
theorem keyOf_in {cols : List Int} {vals : List Vl} (h1 : rowB vals = true) (h2 : cols.all (inV vals) = true) : keyOf cols vals = keyL cols vals ∧ keyFl cols vals = knownL (keyL cols vals) := by
 unfold keyOf keyFl keyOk; rw [h1, h2]; exact ⟨rfl, rfl⟩
set_option maxRecDepth 100000 in
set_option maxHeartbeats 4000000 in
theorem implLeadsNowhere (AS AD AC AV : Option Addr) (bf of br orr nS cS nD cD nC cC nV cV : Nat) (s : List Tb) (db : List Dt) (f : Fk) (vals : List Vl) (ok okd okc okv : Nat → Prop) (w : World)
  (hs : Sl TbR 6 ok w AS nS s) (hd : Sl DtR 1 okd w AD nD db) (hc : Sl IntR 1 okc w AC nC f.cols) (hv : Sl VlR 3 okv w AV nV vals) (f0 : w.cell? ⟨bf, of, none⟩ = some (.slice AC nC cC)) (f1 : w.cell? ⟨bf, of + 1, none⟩ = some (.string f.table)) (r1 : w.cell? ⟨br, orr + 1, none⟩ = some (.slice AV nV cV))
  (hss : szL Tb.sz s ≤ 1048576) (hdn : nD ≤ 1048576) (hvn : nV ≤ 1048576) (hfm : f.table.size ≤ maxLen) (hrow : rowB vals = true) (hF : FkIn s db vals f) :
  Calls Tryz.prog 130 #[.slice AS nS cS, .slice AD nD cD, .pointer (some ⟨bf, of, none⟩), .pointer (some ⟨br, orr, none⟩)] w fun e w' => e = .returned (.bool (!(parentB s db f vals))) ∧ Below w.heap.size w w' := by
 obtain rfl : s.length = nS := hs.1
 obtain rfl : db.length = nD := hd.1
 obtain rfl : f.cols.length = nC := hc.1
 obtain rfl : vals.length = nV := hv.1
 obtain ⟨hca, hcn, m, hat, hm, hmd, hkn, hrn, hrv, hall⟩ := hF
 have hsn : s.length ≤ 1048576 := by unfold szL at hss; omega
 have HKF := Lib.hid (keyOf_in hrow hca)
 have HVN := Lib.hid hrv
 have HALL := Lib.hid hall
 have HAT := Lib.hid hat
 have HKN := Lib.hid hkn
 have HRN := Lib.hid hrn
 have HPB := Lib.hid (parentB_at (vals := vals) hat hm hmd)
 have HSS := Lib.hid hss
 have HFM := Lib.hid hfm
 have HKL := Lib.hid (show (keyL f.cols vals).length ≤ 1048576 by rw [show (keyL f.cols vals).length = f.cols.length by simp [keyL]]; exact hcn)
 have i0 : (0 : Int) ≤ m := by omega
 have i1 : (m : Int) < s.length := by omega
 have i2 : (m : Int) < db.length := by omega
 have HC := implKeyOf AC AV f.cols.length cC vals.length cV f.cols vals _ _ w.drew (hc.drew IntR.stays) (hv.drew VlR.stays) hcn hvn
 rw [HKF.out.1, HKF.out.2] at HC
 have HC0 := Lib.hid HC
 clear HC
 clear hrv hall hca hat hkn hrn hss hfm hrow
 have hbd := (Below.refl w.heap.size w).drew
 go_enter Tryz.func130, Tryz.ntmps130
 go_wp2_with fail
 go_region_held3 (fun w' => w'.cell? ⟨bf, of, none⟩ = some (.slice AC f.cols.length cC) ∧ w'.cell? ⟨bf, of + 1, none⟩ = some (.string f.table) ∧ w'.cell? ⟨br, orr + 1, none⟩ = some (.slice AV vals.length cV))
  (first | go_keep | exact ⟨below_keep hb9 _ _ f0, below_keep hb9 _ _ f1, below_keep hb9 _ _ r1⟩)
  (first | (go_at_call 11; refine HC0.out.mono ?_; rintro e w9 ⟨AO, cO, rfl, hcO, hsl, hb9⟩))
 have hb1 := hbd.trans (hb9.mono hbd.size)
 have f1' := below_keep hb1 _ _ f1
 have HSL := Lib.hid hsl
 clear hsl f0 f1 r1 hbd hb9
 cases hk : knownL (keyL f.cols vals)
 ·have HR := Lib.hid (show (!(parentB s db f vals)) = false by rw [HPB.out]; unfold parentR; rw [hk]; rfl)
  clear hk
  go_wp2_with fail
  go_ret
  exact ⟨retB HR.out.symm, hb1⟩
 ·have HR := Lib.hid (show (!(parentB s db f vals)) = (((idxK s[m].key (keyL f.cols vals) db[m].rows db[m].rows.length).length : Int) == 0) by
   rw [HPB.out]; unfold parentR; rw [hk, findL_idx]
   generalize (idxK s[m].key (keyL f.cols vals) db[m].rows db[m].rows.length).length = q
   by_cases h : q = 0
   ·subst h; rfl
   ·rw [show ((q : Int) == 0) = false by rw [beq_eq_false_iff_ne]; omega, decide_eq_true (show 0 < q by omega)]; rfl)
  clear hk
  go_wp2_with fail
  refine (implTableAt AS s.length cS s f.table _ _ (hs.below TbR.stays hb1) HSS.out HFM.out).mono ?_
  rintro e w2 ⟨rfl, hb2⟩
  rw [HAT.out]
  have hb3 := hb1.trans (hb2.mono hb1.size)
  have HSL2 := Lib.hid ((HSL.out.below VlR.stays hb2).drew VlR.stays)
  clear f1' HSL
  obtain ⟨bt, ot, A1, n1, d1, A2, n2, d2, A3, n3, d3, A4, n4, d4, A5, n5, d5, -, rfl, q0, q1, q2, q3, q4, q5, s1, s2, -⟩ := TbR.at_ (hs.below TbR.stays hb3) hm
  obtain rfl : s[m].key.length = n2 := s2.1
  obtain ⟨bd, od, AL, nL, cL, -, rfl, p0, hrw, -⟩ := DtR.at_ (hd.below DtR.stays hb3) hmd
  obtain rfl : db[m].rows.length = nL := hrw.1
  have HP := Lib.hid (implRowsWith bd (od + m) AL A2 AO db[m].rows.length cL s[m].key.length d2 (keyL f.cols vals).length cO db[m].rows s[m].key (keyL f.cols vals) _ _ _ w2.drew p0 (hrw.drew RwR.stays) (s2.drew IntR.stays) HSL2.out HRN.out HKN.out HKL.out HVN.out HALL.out)
  have HXL := Lib.hid (idxK_len s[m].key (keyL f.cols vals) db[m].rows db[m].rows.length)
  have hbd := hb3.drew
  clear q0 q1 q3 q4 q5 s1 s2 hrw
  go_wp2_with fail
  go_region_held3 (fun w' => w'.cell? ⟨bd, od + m, none⟩ = some (.slice AL db[m].rows.length cL) ∧ w'.cell? ⟨bt, ot + m * 6 + 2, none⟩ = some (.slice A2 s[m].key.length d2))
   (first | go_keep | exact ⟨below_keep hb9 _ _ p0, below_keep hb9 _ _ q2⟩)
   (first | (go_at_call 35; refine HP.out.mono ?_; rintro e w9 ⟨AP, cP, rfl, hcP, hsp, hb9⟩))
  go_wp2_with fail
  go_ret
  exact ⟨retB HR.out.symm, hbd.trans (hb9.mono hbd.size)⟩
end Go.Proofs.YtjhhamlnlalkoaaGreat
