/-
  Several texts in one: what the proof leans on, part 8.
-/
import Derived.Test.YteiifabdbkpkiaaGreatPc
import Derived.Test.YteiifabdbkpkiaaGreatPa
import Derived.Test.YteiifabdbkpkiaaGreatPf
import Derived.Test.YteiifabdbkpkiaaGreatPd
import Derived.Test.YteiifabdbkpkiaaGreatPe
import Derived.Test.YteiifabdbkpkiaaGreatPg
import Derived.Test.YteiifabdbkpkiaaGreatPb
import Derived.Deep.RegionHeld3
import Derived.Deep.DeepCutAuto
import Derived.Deep.CutRange
import Derived.IntWalk
set_option linter.unusedVariables false
set_option linter.unusedSimpArgs false
namespace Go.Proofs.YteiifabdbkpkiaaGreat
open Go.RowKit
theorem evalB_dead {ts : List Tk} {row : List Vl} {k : Nat} (h : evalGo row (ts.take k) [] = none) : evalB ts row = none := by
 unfold evalB
 split
 ·rw [evalGo_dead row ts k [] h]; rfl
 ·rfl
theorem specTwo (k : Int) (hk : k = 3 ∨ k = 4 ∨ k = 5 ∨ k = 6 ∨ k = 9 ∨ k = 10) (a b : Vl) (w : World) (ha : a.ok = true) (hb : b.ok = true) :
  Calls Tryz.prog 86 #[.int .i64 k, .agg #[.int .i64 a.k, .int .i64 a.n, .string a.s], .agg #[.int .i64 b.k, .int .i64 b.n, .string b.s]] w (OptPost (op2 k a b) w) := by
 rcases hk with rfl | rfl | rfl | rfl | rfl | rfl
 ·exact specTwo3 a b w
 ·exact specTwo4 a b w
 ·exact specTwo5 a b w
 ·exact specTwo6 a b w
 ·exact specTwo9 a b w ha hb
 ·exact specTwo10 a b w ha hb
theorem specTwoNone (k : Int) (hk : k = 3 ∨ k = 4 ∨ k = 5 ∨ k = 6 ∨ k = 9 ∨ k = 10) (a b : Vl) (w : World) (ha : a.ok = true) (hb : b.ok = true) (ho : op2 k a b = none) :
  Calls Tryz.prog 86 #[.int .i64 k, .agg #[.int .i64 a.k, .int .i64 a.n, .string a.s], .agg #[.int .i64 b.k, .int .i64 b.n, .string b.s]] w fun e w' => ∃ v : Vl, e = .returned (.tuple #[.agg #[.int .i64 v.k, .int .i64 v.n, .string v.s], .bool false]) ∧ Below w.heap.size w w' :=
 (specTwo k hk a b w ha hb).mono fun e w' ⟨v, he, _, hbl⟩ => ⟨v, by rw [he, ho]; rfl, hbl⟩
theorem specTwoSome (k : Int) (hk : k = 3 ∨ k = 4 ∨ k = 5 ∨ k = 6 ∨ k = 9 ∨ k = 10) (a b v : Vl) (w : World) (ha : a.ok = true) (hb : b.ok = true) (ho : op2 k a b = some v) :
  Calls Tryz.prog 86 #[.int .i64 k, .agg #[.int .i64 a.k, .int .i64 a.n, .string a.s], .agg #[.int .i64 b.k, .int .i64 b.n, .string b.s]] w fun e w' => e = .returned (.tuple #[.agg #[.int .i64 v.k, .int .i64 v.n, .string v.s], .bool true]) ∧ Below w.heap.size w w' :=
 (specTwo k hk a b w ha hb).mono fun e w' ⟨x, he, hx, hbl⟩ => ⟨by rw [he, hx v ho, ho]; rfl, hbl⟩
theorem keep7 {w w' : World} {a0 a1 a2 a3 a4 a5 a6 : Addr} {v0 v1 v2 v3 v4 v5 v6 : Value} (h : w.cell? a0 = some v0 ∧ w.cell? a1 = some v1 ∧ w.cell? a2 = some v2 ∧ w.cell? a3 = some v3 ∧ w.cell? a4 = some v4 ∧ w.cell? a5 = some v5 ∧ w.cell? a6 = some v6) (hb : Below w.heap.size w w') : w'.cell? a0 = some v0 ∧ w'.cell? a1 = some v1 ∧ w'.cell? a2 = some v2 ∧ w'.cell? a3 = some v3 ∧ w'.cell? a4 = some v4 ∧ w'.cell? a5 = some v5 ∧ w'.cell? a6 = some v6 := by
 obtain ⟨h0, h1, h2, h3, h4, h5, h6⟩ := h
 exact ⟨(hb.cell (cell_lt h0)).trans h0, (hb.cell (cell_lt h1)).trans h1, (hb.cell (cell_lt h2)).trans h2, (hb.cell (cell_lt h3)).trans h3, (hb.cell (cell_lt h4)).trans h4, (hb.cell (cell_lt h5)).trans h5, (hb.cell (cell_lt h6)).trans h6⟩
theorem set_far {w : World} {g b i j : Nat} {x v : Value} (hne : b ≠ g) (h : w.cell? ⟨b, i, none⟩ = some v) : (w.setCell ⟨g, j, none⟩ x).cell? ⟨b, i, none⟩ = some v :=
 (World.cell?_of_block (w := w) (a := ⟨b, i, none⟩) (Below.heap_setCell w ⟨g, j, none⟩ x b hne)).trans h
theorem keep7s {w : World} {g b c i0 i1 i2 i3 i4 i5 i6 : Nat} {x y z v0 v1 v2 v3 v4 v5 v6 : Value} (hb : b ≠ g) (hc : c ≠ g)
  (h : w.cell? ⟨b, i0, none⟩ = some v0 ∧ w.cell? ⟨c, i1, none⟩ = some v1 ∧ w.cell? ⟨c, i2, none⟩ = some v2 ∧ w.cell? ⟨c, i3, none⟩ = some v3 ∧ w.cell? ⟨c, i4, none⟩ = some v4 ∧ w.cell? ⟨c, i5, none⟩ = some v5 ∧ w.cell? ⟨c, i6, none⟩ = some v6) :
  (((w.setCell ⟨g, 0, none⟩ x).setCell ⟨g, 1, none⟩ y).setCell ⟨g, 2, none⟩ z).cell? ⟨b, i0, none⟩ = some v0 ∧ (((w.setCell ⟨g, 0, none⟩ x).setCell ⟨g, 1, none⟩ y).setCell ⟨g, 2, none⟩ z).cell? ⟨c, i1, none⟩ = some v1 ∧ (((w.setCell ⟨g, 0, none⟩ x).setCell ⟨g, 1, none⟩ y).setCell ⟨g, 2, none⟩ z).cell? ⟨c, i2, none⟩ = some v2 ∧ (((w.setCell ⟨g, 0, none⟩ x).setCell ⟨g, 1, none⟩ y).setCell ⟨g, 2, none⟩ z).cell? ⟨c, i3, none⟩ = some v3 ∧ (((w.setCell ⟨g, 0, none⟩ x).setCell ⟨g, 1, none⟩ y).setCell ⟨g, 2, none⟩ z).cell? ⟨c, i4, none⟩ = some v4 ∧ (((w.setCell ⟨g, 0, none⟩ x).setCell ⟨g, 1, none⟩ y).setCell ⟨g, 2, none⟩ z).cell? ⟨c, i5, none⟩ = some v5 ∧ (((w.setCell ⟨g, 0, none⟩ x).setCell ⟨g, 1, none⟩ y).setCell ⟨g, 2, none⟩ z).cell? ⟨c, i6, none⟩ = some v6 := by
 obtain ⟨h0, h1, h2, h3, h4, h5, h6⟩ := h
 exact ⟨set_far hb (set_far hb (set_far hb h0)), set_far hc (set_far hc (set_far hc h1)), set_far hc (set_far hc (set_far hc h2)), set_far hc (set_far hc (set_far hc h3)), set_far hc (set_far hc (set_far hc h4)), set_far hc (set_far hc (set_far hc h5)), set_far hc (set_far hc (set_far hc h6))⟩
set_option maxRecDepth 100000 in
set_option maxHeartbeats 1000000 in
theorem specL2Eval (A R : Option Addr) (n m cap capR : Nat) (ts : List Tk) (row : List Vl) (w : World) (h : Toks w A n ts) (hr : Vals w R m row) (hn : n ≤ maxLen) (hm : m ≤ maxLen) (hrow : rowB row = true) (hex : exprB ts row.length = true) :
  Calls Tryz.prog 60 #[.slice A n cap, .slice R m capR] w (EvalPost (evalB ts row) w) := by
 obtain rfl : n = ts.length := h.len.symm
 obtain rfl : m = row.length := hr.len.symm
 have HR := Lib.hid hrow
 have HE := Lib.hid hex
 have h16 : row.length ≤ 16 := by simp [rowB] at hrow; exact hrow.1
 clear hrow hex
 obtain ⟨hgo, h24⟩ := exprB_go HE.out
 have HGO := Lib.hid hgo
 have hok : ∀ v ∈ row, v.ok = true := by have := HR.out; simp [rowB] at this; exact this.2
 have HOK := Lib.hid hok
 clear hgo hok
 go_enter Tryz.func60, Tryz.ntmps60
 go_wp2
 have rz := (Row.new w 66 #[.int .i64 0, .int .i64 0, .string ⟨#[]⟩]).alloc (.cells #[] 66)
 have hb0 := ((Below.refl w.heap.size w).alloc (Nat.le_refl _) (.cells #[.int .i64 0, .int .i64 0, .string ⟨#[]⟩] 66)).alloc (by simp only [size1]; omega) (.cells #[] 66)
 generalize (w.alloc (.cells #[.int .i64 0, .int .i64 0, .string ⟨#[]⟩] 66)).alloc (.cells #[] 66) = x0 at *
 go_loopw [6, 7] (fun s i wr => ∃ (k : Nat) (st : List Vl) (a : Addr) (c : Nat), k ≤ ts.length ∧ i = .int .i64 k ∧ s = .slice (some a) st.length c ∧ st.length ≤ c ∧ c ≤ maxLen ∧ st.length ≤ k ∧ Hid (a.spot = none) ∧ Hid (exprGo row.length (ts.take k) 0 = some st.length) ∧ Hid (evalGo row (ts.take k) [] = some st) ∧ Hid (∀ v ∈ st, v.ok = true) ∧
   Vals wr (some a) st.length st ∧ Row wr w.heap.size 66 #[.int .i64 0, .int .i64 0, .string ⟨#[]⟩] ∧ Below w.heap.size w wr) (fun _ i _ => ts.length - (intOf i).toNat)
 case atStart => exact ⟨0, [], ⟨w.heap.size + 1, 0, none⟩, 0, by omega, rfl, rfl, by simp, by simp [maxLen], by simp, Lib.hid rfl, Lib.hid (by simp [exprGo]), Lib.hid (by simp [evalGo]), Lib.hid (by simp), ⟨rfl, by simp, fun h => absurd h (by simp)⟩, rz, hb0⟩
 case round =>
  obtain ⟨k, st, a, c, hk, rfl, rfl, hlc, hcm, hlk, hasp, hexp, hev, hstok, hvals, hrz, hb⟩ := hrel
  by_cases hlt : k < ts.length
  ·obtain ⟨b, off, rfl, c0, c1, c2, c3, c4⟩ := (h.below hb).at_ hlt
   obtain ⟨htok, htk, hexp2⟩ := right_at HGO.out hlt hexp.out
   have hev2 := evalGo_snoc row ts k hlt [] st hev.out
   have HEXP := Lib.hid hexp2
   have HEV := Lib.hid hev2
   have HTOK := Lib.hid htok
   clear hexp2 hev2 hexp hev htok
   generalize ts[k] = t at *
   obtain ⟨k0, tc, tvk, tvn, tvs⟩ := t
   simp only at c0 c1 c2 c3 c4 htk HEXP HEV HTOK
   by_cases hk2 : k0 = 2
   ·skip
    subst hk2
    unfold maxLen at hcm
    have bl : b < wr.heap.size := cell_lt c0
    have bz0 := (Below.refl wr.heap.size wr).alloc (Nat.le_refl _) (.cells #[.int .i64 0, .int .i64 0, .string ⟨#[]⟩] 66)
    have e0 := (bz0.cell bl).trans c0
    have e2 := (bz0.cell bl).trans c2
    have e3 := (bz0.cell bl).trans c3
    have e4 := (bz0.cell bl).trans c4
    clear bz0
    go_wp2_with fail
    have rvx := Row.new wr 66 #[.int .i64 tvk, .int .i64 tvn, .string tvs]
    have bv := (Below.refl wr.heap.size wr).alloc (Nat.le_refl _) (.cells #[.int .i64 tvk, .int .i64 tvn, .string tvs] 66)
    have hv := hvals.below bv
    have hzx : wr.heap.size < (wr.alloc (.cells #[.int .i64 tvk, .int .i64 tvn, .string tvs] 66)).heap.size := by simp
    have hbx := hb.trans (bv.mono hb.size)
    have rzx := hrz.below bv
    generalize wr.alloc (.cells #[.int .i64 tvk, .int .i64 tvn, .string tvs] 66) = xt at *
    have hfr : st.length ≤ st.length := Nat.le_refl _
    have HFR := Lib.hid (show st.length = st.length - takes 2 by simp [takes])
    have HTV := Lib.hid (show tokVal row ⟨2, tc, tvk, tvn, tvs⟩ (st.drop (st.length - takes 2)) = some ⟨tvk, tvn, tvs⟩ by simp [tokVal])
    have i2 : IntKind.i64.wrap (st.length : Int) = st.length := IntWalk.i64_in _ (by omega)
    obtain ⟨⟨v0, v1, v2⟩, -⟩ := rvx.three
    have i1 : (st.length : Int) ≤ c := by omega
    have hbs : wr.heap.size ≤ xt.heap.size := by omega
    have Ra : Row (xt.alloc (.cells #[] 66)).drew xt.heap.size 66 #[] := Row.new xt 66 #[]
    have Rb : Row ((xt.alloc (.cells #[] 66)).alloc (.cells #[.int .i64 tvk, .int .i64 tvn, .string tvs] 66)).drew xt.heap.size 66 #[] := (Row.new xt 66 #[]).alloc _
    have Rc : Row ((xt.alloc (.cells #[.int .i64 tvk, .int .i64 tvn, .string tvs] 66)).alloc (.cells #[] 66)).drew (xt.heap.size + 1) 66 #[] := Row.newAt _ _ _ _ (by simp)
    have Sb : Row ((xt.alloc (.cells #[] 66)).alloc (.cells #[.int .i64 tvk, .int .i64 tvn, .string tvs] 66)).drew (xt.heap.size + 1) 66 #[.int .i64 tvk, .int .i64 tvn, .string tvs] := Row.newAt _ _ _ _ (by simp)
    have Sc : Row ((xt.alloc (.cells #[.int .i64 tvk, .int .i64 tvn, .string tvs] 66)).alloc (.cells #[] 66)).drew xt.heap.size 66 #[.int .i64 tvk, .int .i64 tvn, .string tvs] := (Row.new _ _ _).alloc _
    have Va : Vals (xt.alloc (.cells #[] 66)).drew (some a) st.length (st.take st.length) := (hv.below ((Below.refl _ xt).alloc (Nat.le_refl _) _)).take hfr
    have Vb : Vals ((xt.alloc (.cells #[] 66)).alloc (.cells #[.int .i64 tvk, .int .i64 tvn, .string tvs] 66)).drew (some a) st.length (st.take st.length) := (hv.below (((Below.refl _ xt).alloc (Nat.le_refl _) _).alloc (by simp) _)).take hfr
    have Vc : Vals ((xt.alloc (.cells #[.int .i64 tvk, .int .i64 tvn, .string tvs] 66)).alloc (.cells #[] 66)).drew (some a) st.length (st.take st.length) := (hv.below (((Below.refl _ xt).alloc (Nat.le_refl _) _).alloc (by simp) _)).take hfr
    have hlen24 : st.length ≤ 1000 := by omega
    go_region_held3 (fun w' => w'.cell? ⟨wr.heap.size, 0, none⟩ = some (.int .i64 tvk) ∧ w'.cell? ⟨wr.heap.size, 1, none⟩ = some (.int .i64 tvn) ∧ w'.cell? ⟨wr.heap.size, 2, none⟩ = some (.string tvs))
     (first | go_keep | ((with_reducible refine keep3 ?_ ((Below.refl _ _).alloc (Nat.le_refl _) _)); assumption) | ((with_reducible refine keep3g ?_ hg2 ?_ ?_ ?_) <;> first | assumption | (simp only; omega)) | ((with_reducible refine keep3g ?_ hg1 ?_ ?_ ?_) <;> first | assumption | (simp only; omega)))
     (first
      | ((with_reducible refine step_app_vals0 rfl _ _ rfl xt.heap.size xt.heap.size rfl Ra (by omega) a st.length c (st.take st.length) rfl hasp.out Va (by omega) (by first | (simp; done) | (simp; omega)) ?_); intro g1 cap1 w1 ho1 hg1 hb1)
      | ((with_reducible refine step_app_vals0 rfl _ _ rfl xt.heap.size xt.heap.size rfl Rb (by omega) a st.length c (st.take st.length) rfl hasp.out Vb (by omega) (by first | (simp; done) | (simp; omega)) ?_); intro g1 cap1 w1 ho1 hg1 hb1)
      | ((with_reducible refine step_app_vals0 rfl _ _ rfl xt.heap.size (xt.heap.size + 1) rfl Rc (by omega) a st.length c (st.take st.length) rfl hasp.out Vc (by omega) (by first | (simp; done) | (simp; omega)) ?_); intro g1 cap1 w1 ho1 hg1 hb1)
      | ((with_reducible refine step_app_vals rfl _ _ rfl xt.heap.size g1 _ cap1 _ rfl (ho1.alloc _) _ 1 1 [(⟨tvk, tvn, tvs⟩ : Vl)] rfl rfl (vals_one (Row.new _ _ _)) (by omega) (by have := hg1.size; simp at this ⊢; omega) ?_); intro g2 cap2 w2 ho2 hg2 hb2)
      | ((with_reducible refine step_app_vals rfl _ _ rfl xt.heap.size g1 _ cap1 _ rfl ho1 _ 1 1 [(⟨tvk, tvn, tvs⟩ : Vl)] rfl rfl (vals_one (grown_row hg1 Sb (by omega))) (by omega) (by have := hg1.size; simp at this ⊢; omega) ?_); intro g2 cap2 w2 ho2 hg2 hb2)
      | ((with_reducible refine step_app_vals rfl _ _ rfl xt.heap.size g1 _ cap1 _ rfl ho1 _ 1 1 [(⟨tvk, tvn, tvs⟩ : Vl)] rfl rfl (vals_one (grown_row hg1 Sc (by omega))) (by omega) (by have := hg1.size; simp at this ⊢; omega) ?_); intro g2 cap2 w2 ho2 hg2 hb2))
    all_goals
     have bz : Below xt.heap.size xt w2 := by
      have hs1 := hg1.size
      simp at hs1
      first
      | exact ((Below.refl _ xt).alloc (Nat.le_refl _) _).drew.trans ((grown_below hg1 (by omega) (by simp)).trans (((Below.refl _ w1).alloc (by omega) _).trans (grown_below hg2 (by omega) (by simp; omega))))
      | exact (((Below.refl _ xt).alloc (Nat.le_refl _) _).alloc (by simp) _).drew.trans ((grown_below hg1 (by omega) (by simp; omega)).trans (grown_below hg2 (by omega) (by omega)))
     have hbz := hbx.trans (bz.mono hbx.size)
     have rzz := rzx.below bz
     have hl1 : (st.take st.length).length = st.length := by rw [List.length_take]; omega
     have hl2 : (st.take st.length ++ [(⟨tvk, tvn, tvs⟩ : Vl)]).length = st.length + 1 := by rw [List.length_append, hl1]; rfl
     obtain ⟨hvz, hcz, hcz2⟩ := ho2.vals hl2
     have HL := Lib.hid hl2
     have hsz := bz.size
     clear hl1 hl2 ho2 ho1 hg1 hg2 hv rvx Ra Rb Rc Sb Sc Va Vb Vc v0 v1 v2 c0 c1 c2 c3 c4 i1 i2
     go_wp2_with fail
     go_roundw
     case rel =>
      refine ⟨k + 1, st.take st.length ++ [(⟨tvk, tvn, tvs⟩ : Vl)], ⟨g2, 0, none⟩, cap2, by omega, by go_num, by rw [HL.out], by rw [HL.out]; exact hcz, hcz2, by rw [HL.out]; omega, Lib.hid rfl, Lib.hid ?_, Lib.hid ?_, Lib.hid ?_, by rw [HL.out]; exact hvz, rzz, hbz⟩
      ·rw [HL.out, HFR.out]; exact HEXP.out
      ·rw [HEV.out, evalStep_some HTV.out]; exact congrArg (fun m => some (List.take m st ++ [(⟨tvk, tvn, tvs⟩ : Vl)])) HFR.out.symm
      ·intro u hu
       rw [List.mem_append, List.mem_singleton] at hu
       rcases hu with hu | rfl
       ·exact hstok.out u (List.mem_of_mem_take hu)
       ·exact tokVal_ok HOK.out HTOK.out HTV.out
     case measure => simp [intOf]; omega
   have d2 : (k0 == 2) = false := by simpa using hk2
   by_cases hk1 : k0 = 1
   ·skip
    subst hk1
    unfold maxLen at hcm
    have bl : b < wr.heap.size := cell_lt c0
    have bz0 := (Below.refl wr.heap.size wr).alloc (Nat.le_refl _) (.cells #[.int .i64 0, .int .i64 0, .string ⟨#[]⟩] 66)
    have e0 := (bz0.cell bl).trans c0
    have e1 := (bz0.cell bl).trans c1
    obtain ⟨hj0, hj1⟩ : 0 ≤ tc ∧ tc < row.length := by have := HTOK.out; simp [tokB] at this; exact ⟨this.1, this.2.1⟩
    obtain ⟨j, rfl⟩ : ∃ j : Nat, tc = (j : Int) := ⟨tc.toNat, by omega⟩
    have hjr : j < row.length := by omega
    obtain ⟨br, ofr, rfl, r0, r1, r2⟩ := ((hr.below hb).below bz0).at_ hjr
    clear bz0
    go_wp2_with fail
    have rvx := Row.new wr 66 #[.int .i64 row[j].k, .int .i64 row[j].n, .string row[j].s]
    have bv := (Below.refl wr.heap.size wr).alloc (Nat.le_refl _) (.cells #[.int .i64 row[j].k, .int .i64 row[j].n, .string row[j].s] 66)
    have hv := hvals.below bv
    have hzx : wr.heap.size < (wr.alloc (.cells #[.int .i64 row[j].k, .int .i64 row[j].n, .string row[j].s] 66)).heap.size := by simp
    have hbx := hb.trans (bv.mono hb.size)
    have rzx := hrz.below bv
    generalize wr.alloc (.cells #[.int .i64 row[j].k, .int .i64 row[j].n, .string row[j].s] 66) = xt at *
    have hfr : st.length ≤ st.length := Nat.le_refl _
    have HFR := Lib.hid (show st.length = st.length - takes 1 by simp [takes])
    have HTV := Lib.hid (show tokVal row ⟨1, j, tvk, tvn, tvs⟩ (st.drop (st.length - takes 1)) = some row[j] by simp [tokVal, List.getElem?_eq_getElem hjr])
    have i2 : IntKind.i64.wrap (st.length : Int) = st.length := IntWalk.i64_in _ (by omega)
    generalize row[j] = v at *
    clear r0 r1 r2
    obtain ⟨⟨v0, v1, v2⟩, -⟩ := rvx.three
    have i1 : (st.length : Int) ≤ c := by omega
    have hbs : wr.heap.size ≤ xt.heap.size := by omega
    have Ra : Row (xt.alloc (.cells #[] 66)).drew xt.heap.size 66 #[] := Row.new xt 66 #[]
    have Rb : Row ((xt.alloc (.cells #[] 66)).alloc (.cells #[.int .i64 v.k, .int .i64 v.n, .string v.s] 66)).drew xt.heap.size 66 #[] := (Row.new xt 66 #[]).alloc _
    have Rc : Row ((xt.alloc (.cells #[.int .i64 v.k, .int .i64 v.n, .string v.s] 66)).alloc (.cells #[] 66)).drew (xt.heap.size + 1) 66 #[] := Row.newAt _ _ _ _ (by simp)
    have Sb : Row ((xt.alloc (.cells #[] 66)).alloc (.cells #[.int .i64 v.k, .int .i64 v.n, .string v.s] 66)).drew (xt.heap.size + 1) 66 #[.int .i64 v.k, .int .i64 v.n, .string v.s] := Row.newAt _ _ _ _ (by simp)
    have Sc : Row ((xt.alloc (.cells #[.int .i64 v.k, .int .i64 v.n, .string v.s] 66)).alloc (.cells #[] 66)).drew xt.heap.size 66 #[.int .i64 v.k, .int .i64 v.n, .string v.s] := (Row.new _ _ _).alloc _
    have Va : Vals (xt.alloc (.cells #[] 66)).drew (some a) st.length (st.take st.length) := (hv.below ((Below.refl _ xt).alloc (Nat.le_refl _) _)).take hfr
    have Vb : Vals ((xt.alloc (.cells #[] 66)).alloc (.cells #[.int .i64 v.k, .int .i64 v.n, .string v.s] 66)).drew (some a) st.length (st.take st.length) := (hv.below (((Below.refl _ xt).alloc (Nat.le_refl _) _).alloc (by simp) _)).take hfr
    have Vc : Vals ((xt.alloc (.cells #[.int .i64 v.k, .int .i64 v.n, .string v.s] 66)).alloc (.cells #[] 66)).drew (some a) st.length (st.take st.length) := (hv.below (((Below.refl _ xt).alloc (Nat.le_refl _) _).alloc (by simp) _)).take hfr
    have hlen24 : st.length ≤ 1000 := by omega
    go_region_held3 (fun w' => w'.cell? ⟨wr.heap.size, 0, none⟩ = some (.int .i64 v.k) ∧ w'.cell? ⟨wr.heap.size, 1, none⟩ = some (.int .i64 v.n) ∧ w'.cell? ⟨wr.heap.size, 2, none⟩ = some (.string v.s))
     (first | go_keep | ((with_reducible refine keep3 ?_ ((Below.refl _ _).alloc (Nat.le_refl _) _)); assumption) | ((with_reducible refine keep3g ?_ hg2 ?_ ?_ ?_) <;> first | assumption | (simp only; omega)) | ((with_reducible refine keep3g ?_ hg1 ?_ ?_ ?_) <;> first | assumption | (simp only; omega)))
     (first
      | ((with_reducible refine step_app_vals0 rfl _ _ rfl xt.heap.size xt.heap.size rfl Ra (by omega) a st.length c (st.take st.length) rfl hasp.out Va (by omega) (by first | (simp; done) | (simp; omega)) ?_); intro g1 cap1 w1 ho1 hg1 hb1)
      | ((with_reducible refine step_app_vals0 rfl _ _ rfl xt.heap.size xt.heap.size rfl Rb (by omega) a st.length c (st.take st.length) rfl hasp.out Vb (by omega) (by first | (simp; done) | (simp; omega)) ?_); intro g1 cap1 w1 ho1 hg1 hb1)
      | ((with_reducible refine step_app_vals0 rfl _ _ rfl xt.heap.size (xt.heap.size + 1) rfl Rc (by omega) a st.length c (st.take st.length) rfl hasp.out Vc (by omega) (by first | (simp; done) | (simp; omega)) ?_); intro g1 cap1 w1 ho1 hg1 hb1)
      | ((with_reducible refine step_app_vals rfl _ _ rfl xt.heap.size g1 _ cap1 _ rfl (ho1.alloc _) _ 1 1 [v] rfl rfl (vals_one (Row.new _ _ _)) (by omega) (by have := hg1.size; simp at this ⊢; omega) ?_); intro g2 cap2 w2 ho2 hg2 hb2)
      | ((with_reducible refine step_app_vals rfl _ _ rfl xt.heap.size g1 _ cap1 _ rfl ho1 _ 1 1 [v] rfl rfl (vals_one (grown_row hg1 Sb (by omega))) (by omega) (by have := hg1.size; simp at this ⊢; omega) ?_); intro g2 cap2 w2 ho2 hg2 hb2)
      | ((with_reducible refine step_app_vals rfl _ _ rfl xt.heap.size g1 _ cap1 _ rfl ho1 _ 1 1 [v] rfl rfl (vals_one (grown_row hg1 Sc (by omega))) (by omega) (by have := hg1.size; simp at this ⊢; omega) ?_); intro g2 cap2 w2 ho2 hg2 hb2))
    all_goals
     have bz : Below xt.heap.size xt w2 := by
      have hs1 := hg1.size
      simp at hs1
      first
      | exact ((Below.refl _ xt).alloc (Nat.le_refl _) _).drew.trans ((grown_below hg1 (by omega) (by simp)).trans (((Below.refl _ w1).alloc (by omega) _).trans (grown_below hg2 (by omega) (by simp; omega))))
      | exact (((Below.refl _ xt).alloc (Nat.le_refl _) _).alloc (by simp) _).drew.trans ((grown_below hg1 (by omega) (by simp; omega)).trans (grown_below hg2 (by omega) (by omega)))
     have hbz := hbx.trans (bz.mono hbx.size)
     have rzz := rzx.below bz
     have hl1 : (st.take st.length).length = st.length := by rw [List.length_take]; omega
     have hl2 : (st.take st.length ++ [v]).length = st.length + 1 := by rw [List.length_append, hl1]; rfl
     obtain ⟨hvz, hcz, hcz2⟩ := ho2.vals hl2
     have HL := Lib.hid hl2
     have hsz := bz.size
     clear hl1 hl2 ho2 ho1 hg1 hg2 hv rvx Ra Rb Rc Sb Sc Va Vb Vc v0 v1 v2 c0 c1 c2 c3 c4 i1 i2
     go_wp2_with fail
     go_roundw
     case rel =>
      refine ⟨k + 1, st.take st.length ++ [v], ⟨g2, 0, none⟩, cap2, by omega, by go_num, by rw [HL.out], by rw [HL.out]; exact hcz, hcz2, by rw [HL.out]; omega, Lib.hid rfl, Lib.hid ?_, Lib.hid ?_, Lib.hid ?_, by rw [HL.out]; exact hvz, rzz, hbz⟩
      ·rw [HL.out, HFR.out]; exact HEXP.out
      ·rw [HEV.out, evalStep_some HTV.out]; exact congrArg (fun m => some (List.take m st ++ [v])) HFR.out.symm
      ·intro u hu
       rw [List.mem_append, List.mem_singleton] at hu
       rcases hu with hu | rfl
       ·exact hstok.out u (List.mem_of_mem_take hu)
       ·exact tokVal_ok HOK.out HTOK.out HTV.out
     case measure => simp [intOf]; omega
   have d1 : (k0 == 1) = false := by simpa using hk1
   by_cases hk8 : k0 = 8
   ·skip
    subst hk8
    unfold maxLen at hcm
    have ht1 : 1 ≤ st.length := by simpa [takes] using htk
    obtain ⟨fr, hfr1⟩ : ∃ fr, fr = st.length - 1 := ⟨_, rfl⟩
    have hfrl : fr < st.length := by omega
    have bl : b < wr.heap.size := cell_lt c0
    have bz0 := (Below.refl wr.heap.size wr).alloc (Nat.le_refl _) (.cells #[.int .i64 0, .int .i64 0, .string ⟨#[]⟩] 66)
    have e0 := (bz0.cell bl).trans c0
    obtain ⟨bs, ofs, ea, s0, s1, s2⟩ := (hvals.below bz0).at_ hfrl
    obtain rfl : a = ⟨bs, ofs, none⟩ := by simpa using ea
    clear ea
    have HFR := Lib.hid (show fr = st.length - takes 8 by rw [hfr1]; simp [takes])
    have hfr : fr ≤ st.length := by omega
    have i2 : IntKind.i64.wrap ((st.length : Int) - 1) = (fr : Int) := by rw [IntWalk.i64_in _ (by omega)]; omega
    have i3 : (0 : Int) ≤ fr := by omega
    have i4 : (fr : Int) < st.length := by omega
    have hdr : st.drop (st.length - takes 8) = [st[fr]] := by
     rw [← HFR.out, List.drop_eq_getElem_cons hfrl, List.drop_eq_nil_of_le (by omega)]
    have HTV := Lib.hid (show tokVal row ⟨8, tc, tvk, tvn, tvs⟩ (st.drop (st.length - takes 8)) = some ⟨1, yes (st[fr].k == 0), ⟨#[]⟩⟩ by
     rw [hdr]; rcases yes01 (st[fr].k == 0) with h | h <;> simp [tokVal, opOf, op1, asOpt, asVl, h])
    clear hdr hfr1
    have HS := Lib.hid hfrl
    generalize st[fr] = q at *
    have rz1 := Row.new wr 66 #[.int .i64 0, .int .i64 0, .string ⟨#[]⟩]
    go_wp2_with fail
    refine (specYes _ _).mono ?_
    rintro e y1 ⟨rfl, rfl⟩
    generalize yes (q.k == 0) = yq at *
    go_wp2_with fail
    refine (specInt _ _).mono ?_
    rintro e y2 ⟨rfl, o, rfl⟩
    go_wp2_with fail
    have rvx := (Row.new wr 66 #[.int .i64 1, .int .i64 yq, .string ⟨#[]⟩]).alloc o
    have bv := ((Below.refl wr.heap.size wr).alloc (Nat.le_refl _) (.cells #[.int .i64 1, .int .i64 yq, .string ⟨#[]⟩] 66)).alloc (by simp) o
    have hv := hvals.below bv
    have hzx : wr.heap.size < ((wr.alloc (.cells #[.int .i64 1, .int .i64 yq, .string ⟨#[]⟩] 66)).alloc o).heap.size := by simp; try omega
    have hbx := hb.trans (bv.mono hb.size)
    have rzx := hrz.below bv
    generalize (wr.alloc (.cells #[.int .i64 1, .int .i64 yq, .string ⟨#[]⟩] 66)).alloc o = xt at *
    clear rz1 s0 s1 s2 e0 bz0
    obtain ⟨⟨v0, v1, v2⟩, -⟩ := rvx.three
    have i1 : (fr : Int) ≤ c := by omega
    have hbs : wr.heap.size ≤ xt.heap.size := by omega
    have Ra : Row (xt.alloc (.cells #[] 66)).drew xt.heap.size 66 #[] := Row.new xt 66 #[]
    have Rb : Row ((xt.alloc (.cells #[] 66)).alloc (.cells #[.int .i64 1, .int .i64 yq, .string ⟨#[]⟩] 66)).drew xt.heap.size 66 #[] := (Row.new xt 66 #[]).alloc _
    have Rc : Row ((xt.alloc (.cells #[.int .i64 1, .int .i64 yq, .string ⟨#[]⟩] 66)).alloc (.cells #[] 66)).drew (xt.heap.size + 1) 66 #[] := Row.newAt _ _ _ _ (by simp)
    have Sb : Row ((xt.alloc (.cells #[] 66)).alloc (.cells #[.int .i64 1, .int .i64 yq, .string ⟨#[]⟩] 66)).drew (xt.heap.size + 1) 66 #[.int .i64 1, .int .i64 yq, .string ⟨#[]⟩] := Row.newAt _ _ _ _ (by simp)
    have Sc : Row ((xt.alloc (.cells #[.int .i64 1, .int .i64 yq, .string ⟨#[]⟩] 66)).alloc (.cells #[] 66)).drew xt.heap.size 66 #[.int .i64 1, .int .i64 yq, .string ⟨#[]⟩] := (Row.new _ _ _).alloc _
    have Va : Vals (xt.alloc (.cells #[] 66)).drew (some ⟨bs, ofs, none⟩) fr (st.take fr) := (hv.below ((Below.refl _ xt).alloc (Nat.le_refl _) _)).take hfr
    have Vb : Vals ((xt.alloc (.cells #[] 66)).alloc (.cells #[.int .i64 1, .int .i64 yq, .string ⟨#[]⟩] 66)).drew (some ⟨bs, ofs, none⟩) fr (st.take fr) := (hv.below (((Below.refl _ xt).alloc (Nat.le_refl _) _).alloc (by simp) _)).take hfr
    have Vc : Vals ((xt.alloc (.cells #[.int .i64 1, .int .i64 yq, .string ⟨#[]⟩] 66)).alloc (.cells #[] 66)).drew (some ⟨bs, ofs, none⟩) fr (st.take fr) := (hv.below (((Below.refl _ xt).alloc (Nat.le_refl _) _).alloc (by simp) _)).take hfr
    have hlen24 : fr ≤ 1000 := by omega
    go_region_held3 (fun w' => w'.cell? ⟨wr.heap.size, 0, none⟩ = some (.int .i64 1) ∧ w'.cell? ⟨wr.heap.size, 1, none⟩ = some (.int .i64 yq) ∧ w'.cell? ⟨wr.heap.size, 2, none⟩ = some (.string ⟨#[]⟩))
     (first | go_keep | ((with_reducible refine keep3 ?_ ((Below.refl _ _).alloc (Nat.le_refl _) _)); assumption) | ((with_reducible refine keep3g ?_ hg2 ?_ ?_ ?_) <;> first | assumption | (simp only; omega)) | ((with_reducible refine keep3g ?_ hg1 ?_ ?_ ?_) <;> first | assumption | (simp only; omega)))
     (first
      | ((with_reducible refine step_app_vals0 rfl _ _ rfl xt.heap.size xt.heap.size rfl Ra (by omega) ⟨bs, ofs, none⟩ fr c (st.take fr) rfl rfl Va (by omega) (by first | (simp; done) | (simp; omega)) ?_); intro g1 cap1 w1 ho1 hg1 hb1)
      | ((with_reducible refine step_app_vals0 rfl _ _ rfl xt.heap.size xt.heap.size rfl Rb (by omega) ⟨bs, ofs, none⟩ fr c (st.take fr) rfl rfl Vb (by omega) (by first | (simp; done) | (simp; omega)) ?_); intro g1 cap1 w1 ho1 hg1 hb1)
      | ((with_reducible refine step_app_vals0 rfl _ _ rfl xt.heap.size (xt.heap.size + 1) rfl Rc (by omega) ⟨bs, ofs, none⟩ fr c (st.take fr) rfl rfl Vc (by omega) (by first | (simp; done) | (simp; omega)) ?_); intro g1 cap1 w1 ho1 hg1 hb1)
      | ((with_reducible refine step_app_vals rfl _ _ rfl xt.heap.size g1 _ cap1 _ rfl (ho1.alloc _) _ 1 1 [(⟨1, yq, ⟨#[]⟩⟩ : Vl)] rfl rfl (vals_one (Row.new _ _ _)) (by omega) (by have := hg1.size; simp at this ⊢; omega) ?_); intro g2 cap2 w2 ho2 hg2 hb2)
      | ((with_reducible refine step_app_vals rfl _ _ rfl xt.heap.size g1 _ cap1 _ rfl ho1 _ 1 1 [(⟨1, yq, ⟨#[]⟩⟩ : Vl)] rfl rfl (vals_one (grown_row hg1 Sb (by omega))) (by omega) (by have := hg1.size; simp at this ⊢; omega) ?_); intro g2 cap2 w2 ho2 hg2 hb2)
      | ((with_reducible refine step_app_vals rfl _ _ rfl xt.heap.size g1 _ cap1 _ rfl ho1 _ 1 1 [(⟨1, yq, ⟨#[]⟩⟩ : Vl)] rfl rfl (vals_one (grown_row hg1 Sc (by omega))) (by omega) (by have := hg1.size; simp at this ⊢; omega) ?_); intro g2 cap2 w2 ho2 hg2 hb2))
    all_goals
     have bz : Below xt.heap.size xt w2 := by
      have hs1 := hg1.size
      simp at hs1
      first
      | exact ((Below.refl _ xt).alloc (Nat.le_refl _) _).drew.trans ((grown_below hg1 (by omega) (by simp)).trans (((Below.refl _ w1).alloc (by omega) _).trans (grown_below hg2 (by omega) (by simp; omega))))
      | exact (((Below.refl _ xt).alloc (Nat.le_refl _) _).alloc (by simp) _).drew.trans ((grown_below hg1 (by omega) (by simp; omega)).trans (grown_below hg2 (by omega) (by omega)))
     have hbz := hbx.trans (bz.mono hbx.size)
     have rzz := rzx.below bz
     have hl1 : (st.take fr).length = fr := by rw [List.length_take]; omega
     have hl2 : (st.take fr ++ [(⟨1, yq, ⟨#[]⟩⟩ : Vl)]).length = fr + 1 := by rw [List.length_append, hl1]; rfl
     obtain ⟨hvz, hcz, hcz2⟩ := ho2.vals hl2
     have HL := Lib.hid hl2
     have hsz := bz.size
     clear hl1 hl2 ho2 ho1 hg1 hg2 hv rvx Ra Rb Rc Sb Sc Va Vb Vc v0 v1 v2 c0 c1 c2 c3 c4 i1 i2
     go_wp2_with fail
     go_roundw
     case rel =>
      refine ⟨k + 1, st.take fr ++ [(⟨1, yq, ⟨#[]⟩⟩ : Vl)], ⟨g2, 0, none⟩, cap2, by omega, by go_num, by rw [HL.out], by rw [HL.out]; exact hcz, hcz2, by rw [HL.out]; omega, Lib.hid rfl, Lib.hid ?_, Lib.hid ?_, Lib.hid ?_, by rw [HL.out]; exact hvz, rzz, hbz⟩
      ·rw [HL.out, HFR.out]; exact HEXP.out
      ·rw [HEV.out, evalStep_some HTV.out]; exact congrArg (fun m => some (List.take m st ++ [(⟨1, yq, ⟨#[]⟩⟩ : Vl)])) HFR.out.symm
      ·intro u hu
       rw [List.mem_append, List.mem_singleton] at hu
       rcases hu with hu | rfl
       ·exact hstok.out u (List.mem_of_mem_take hu)
       ·exact tokVal_ok HOK.out HTOK.out HTV.out
     case measure => simp [intOf]; omega
   have d8 : (k0 == 8) = false := by simpa using hk8
   by_cases hk7 : k0 = 7
   ·skip
    subst hk7
    unfold maxLen at hcm
    have ht1 : 1 ≤ st.length := by simpa [takes] using htk
    obtain ⟨fr, hfr1⟩ : ∃ fr, fr = st.length - 1 := ⟨_, rfl⟩
    have hfrl : fr < st.length := by omega
    have bl : b < wr.heap.size := cell_lt c0
    have bz0 := (Below.refl wr.heap.size wr).alloc (Nat.le_refl _) (.cells #[.int .i64 0, .int .i64 0, .string ⟨#[]⟩] 66)
    have e0 := (bz0.cell bl).trans c0
    obtain ⟨bs, ofs, ea, s0, s1, s2⟩ := (hvals.below bz0).at_ hfrl
    obtain rfl : a = ⟨bs, ofs, none⟩ := by simpa using ea
    clear ea
    have HFR := Lib.hid (show fr = st.length - takes 7 by rw [hfr1]; simp [takes])
    have hfr : fr ≤ st.length := by omega
    have i2 : IntKind.i64.wrap ((st.length : Int) - 1) = (fr : Int) := by rw [IntWalk.i64_in _ (by omega)]; omega
    have i3 : (0 : Int) ≤ fr := by omega
    have i4 : (fr : Int) < st.length := by omega
    have hdr : st.drop (st.length - takes 7) = [st[fr]] := by
     rw [← HFR.out, List.drop_eq_getElem_cons hfrl, List.drop_eq_nil_of_le (by omega)]
    have hqok := hstok.out _ (List.getElem_mem hfrl)
    have HDR := Lib.hid hdr
    have HQ := Lib.hid hqok
    clear hdr hfr1 hqok
    have HS := Lib.hid hfrl
    generalize st[fr] = q at *
    have rz1 := Row.new wr 66 #[.int .i64 0, .int .i64 0, .string ⟨#[]⟩]
    cases htr : truS q
    ·have HT := Lib.hid htr
     clear htr
     have HTV := Lib.hid (show tokVal row ⟨7, tc, tvk, tvn, tvs⟩ (st.drop (st.length - takes 7)) = none by
      have h1 : truOf q = -1 := by simpa [truS] using HT.out
      rw [HDR.out]; simp [tokVal, opOf, op1, h1, not3, asOpt])
     go_wp2_with fail
     refine (specOf q _).mono ?_
     rintro e y1 ⟨rfl, hb1⟩
     rw [HT.out]
     have rz2 := rz1.below hb1
     have bz1 := bz0.trans (hb1.mono bz0.size)
     go_wp2_with fail
     refine (specNot3 _ _).mono ?_
     rintro e y2 ⟨rfl, rfl⟩
     go_wp2_with fail
     refine (specAs _ _).mono ?_
     rintro e y3 ⟨rfl, hb3⟩
     have rz3 := rz2.below hb3
     have bz3 := bz1.trans (hb3.mono bz1.size)
     obtain ⟨⟨g0, g1, g2⟩, ⟨g3, g4, g5⟩⟩ := rz3.three
     generalize asVl (not3 (truN q)) = v at *
     have rzf := hrz.below bz3
     obtain ⟨⟨f0, f1, f2⟩, ⟨f3, f4, f5⟩⟩ := rzf.three
     have hne : w.heap.size ≠ wr.heap.size := by have := lt_of_block hrz; omega
     go_wp2_with fail
     have rzz : Row ((((((y3.setCell ⟨wr.heap.size, 0, none⟩ (.int .i64 v.k)).setCell ⟨wr.heap.size, 1, none⟩ (.int .i64 v.n)).setCell ⟨wr.heap.size, 2, none⟩ (.string v.s)).setCell ⟨w.heap.size, 0, none⟩ (.int .i64 0)).setCell ⟨w.heap.size, 1, none⟩ (.int .i64 0)).setCell ⟨w.heap.size, 2, none⟩ (.string ⟨#[]⟩)) w.heap.size 66 #[.int .i64 0, .int .i64 0, .string ⟨#[]⟩] := (((((rzf.far hne _).far hne _).far hne _).set 0 _).set 1 _).set 2 _
     obtain ⟨⟨z0, z1, z2⟩, -⟩ := rzz.three
     have hz := hb.trans (bz3.mono hb.size)
     have HN := evalB_dead (row := row) (ts := ts) (k := k + 1) (by rw [HEV.out, evalStep_none HTV.out])
     have HNN := Lib.hid HN
     clear HN
     refine bodyPost_ret (v := .tuple #[.agg #[.int .i64 0, .int .i64 0, .string ⟨#[]⟩], .bool false]) (by simp [results, Tryz.results60, go_sem, z0, z1, z2]) rfl ⟨by rw [HNN.out]; rfl, ?_⟩
     have hq := hb.size
     repeat (first | with_reducible exact hz | with_reducible refine Below.drew ?_ | with_reducible refine Below.setCell ?_ (by simp; omega) _ | with_reducible refine Below.setCell ?_ (by simp) _)
    ·have HT := Lib.hid htr
     clear htr
     have HTV := Lib.hid (show tokVal row ⟨7, tc, tvk, tvn, tvs⟩ (st.drop (st.length - takes 7)) = some (asVl (not3 (truN q))) by
      have h1 : ¬ truOf q = -1 := by simpa [truS] using HT.out
      have h2 : truN q = truOf q := by simp [truN, h1]
      have h3 : ¬ not3 (truOf q) = -1 := by rcases truOf_cases HQ.out with ⟨_, h⟩ | ⟨_, h | h⟩ | ⟨_, h⟩ <;> rw [h] <;> first | decide | exact absurd h h1
      rw [HDR.out, h2]; simp [tokVal, opOf, op1, asOpt, h3])
     go_wp2_with fail
     refine (specOf q _).mono ?_
     rintro e y1 ⟨rfl, hb1⟩
     rw [HT.out]
     have rz2 := rz1.below hb1
     have bz1 := bz0.trans (hb1.mono bz0.size)
     go_wp2_with fail
     refine (specNot3 _ _).mono ?_
     rintro e y2 ⟨rfl, rfl⟩
     go_wp2_with fail
     refine (specAs _ _).mono ?_
     rintro e y3 ⟨rfl, hb3⟩
     have rz3 := rz2.below hb3
     have bz3 := bz1.trans (hb3.mono bz1.size)
     obtain ⟨⟨g0, g1, g2⟩, ⟨g3, g4, g5⟩⟩ := rz3.three
     generalize asVl (not3 (truN q)) = v at *
     go_wp2_with fail
     have rvx := ((rz3.set 0 (.int .i64 v.k)).set 1 (.int .i64 v.n)).set 2 (.string v.s)
     have bv := ((bz3.setCell (p := ⟨wr.heap.size, 0, none⟩) (Nat.le_refl _) (.int .i64 v.k)).setCell (p := ⟨wr.heap.size, 1, none⟩) (Nat.le_refl _) (.int .i64 v.n)).setCell (p := ⟨wr.heap.size, 2, none⟩) (Nat.le_refl _) (.string v.s)
     have hv := hvals.below bv
     have hzx : wr.heap.size < (((y3.setCell ⟨wr.heap.size, 0, none⟩ (.int .i64 v.k)).setCell ⟨wr.heap.size, 1, none⟩ (.int .i64 v.n)).setCell ⟨wr.heap.size, 2, none⟩ (.string v.s)).heap.size := by have := lt_of_block rz3; simp; exact this
     have hbx := hb.trans (bv.mono hb.size)
     have rzx := hrz.below bv
     generalize ((y3.setCell ⟨wr.heap.size, 0, none⟩ (.int .i64 v.k)).setCell ⟨wr.heap.size, 1, none⟩ (.int .i64 v.n)).setCell ⟨wr.heap.size, 2, none⟩ (.string v.s) = xt at *
     clear rz1 rz2 rz3 g0 g1 g2 g3 g4 g5 s0 s1 s2 e0 bz0 bz1 bz3
     obtain ⟨⟨v0, v1, v2⟩, -⟩ := rvx.three
     have i1 : (fr : Int) ≤ c := by omega
     have hbs : wr.heap.size ≤ xt.heap.size := by omega
     have Ra : Row (xt.alloc (.cells #[] 66)).drew xt.heap.size 66 #[] := Row.new xt 66 #[]
     have Rb : Row ((xt.alloc (.cells #[] 66)).alloc (.cells #[.int .i64 v.k, .int .i64 v.n, .string v.s] 66)).drew xt.heap.size 66 #[] := (Row.new xt 66 #[]).alloc _
     have Rc : Row ((xt.alloc (.cells #[.int .i64 v.k, .int .i64 v.n, .string v.s] 66)).alloc (.cells #[] 66)).drew (xt.heap.size + 1) 66 #[] := Row.newAt _ _ _ _ (by simp)
     have Sb : Row ((xt.alloc (.cells #[] 66)).alloc (.cells #[.int .i64 v.k, .int .i64 v.n, .string v.s] 66)).drew (xt.heap.size + 1) 66 #[.int .i64 v.k, .int .i64 v.n, .string v.s] := Row.newAt _ _ _ _ (by simp)
     have Sc : Row ((xt.alloc (.cells #[.int .i64 v.k, .int .i64 v.n, .string v.s] 66)).alloc (.cells #[] 66)).drew xt.heap.size 66 #[.int .i64 v.k, .int .i64 v.n, .string v.s] := (Row.new _ _ _).alloc _
     have Va : Vals (xt.alloc (.cells #[] 66)).drew (some ⟨bs, ofs, none⟩) fr (st.take fr) := (hv.below ((Below.refl _ xt).alloc (Nat.le_refl _) _)).take hfr
     have Vb : Vals ((xt.alloc (.cells #[] 66)).alloc (.cells #[.int .i64 v.k, .int .i64 v.n, .string v.s] 66)).drew (some ⟨bs, ofs, none⟩) fr (st.take fr) := (hv.below (((Below.refl _ xt).alloc (Nat.le_refl _) _).alloc (by simp) _)).take hfr
     have Vc : Vals ((xt.alloc (.cells #[.int .i64 v.k, .int .i64 v.n, .string v.s] 66)).alloc (.cells #[] 66)).drew (some ⟨bs, ofs, none⟩) fr (st.take fr) := (hv.below (((Below.refl _ xt).alloc (Nat.le_refl _) _).alloc (by simp) _)).take hfr
     have hlen24 : fr ≤ 1000 := by omega
     go_region_held3 (fun w' => w'.cell? ⟨wr.heap.size, 0, none⟩ = some (.int .i64 v.k) ∧ w'.cell? ⟨wr.heap.size, 1, none⟩ = some (.int .i64 v.n) ∧ w'.cell? ⟨wr.heap.size, 2, none⟩ = some (.string v.s))
      (first | go_keep | ((with_reducible refine keep3 ?_ ((Below.refl _ _).alloc (Nat.le_refl _) _)); assumption) | ((with_reducible refine keep3g ?_ hg2 ?_ ?_ ?_) <;> first | assumption | (simp only; omega)) | ((with_reducible refine keep3g ?_ hg1 ?_ ?_ ?_) <;> first | assumption | (simp only; omega)))
      (first
       | ((with_reducible refine step_app_vals0 rfl _ _ rfl xt.heap.size xt.heap.size rfl Ra (by omega) ⟨bs, ofs, none⟩ fr c (st.take fr) rfl rfl Va (by omega) (by first | (simp; done) | (simp; omega)) ?_); intro g1 cap1 w1 ho1 hg1 hb1)
       | ((with_reducible refine step_app_vals0 rfl _ _ rfl xt.heap.size xt.heap.size rfl Rb (by omega) ⟨bs, ofs, none⟩ fr c (st.take fr) rfl rfl Vb (by omega) (by first | (simp; done) | (simp; omega)) ?_); intro g1 cap1 w1 ho1 hg1 hb1)
       | ((with_reducible refine step_app_vals0 rfl _ _ rfl xt.heap.size (xt.heap.size + 1) rfl Rc (by omega) ⟨bs, ofs, none⟩ fr c (st.take fr) rfl rfl Vc (by omega) (by first | (simp; done) | (simp; omega)) ?_); intro g1 cap1 w1 ho1 hg1 hb1)
       | ((with_reducible refine step_app_vals rfl _ _ rfl xt.heap.size g1 _ cap1 _ rfl (ho1.alloc _) _ 1 1 [v] rfl rfl (vals_one (Row.new _ _ _)) (by omega) (by have := hg1.size; simp at this ⊢; omega) ?_); intro g2 cap2 w2 ho2 hg2 hb2)
       | ((with_reducible refine step_app_vals rfl _ _ rfl xt.heap.size g1 _ cap1 _ rfl ho1 _ 1 1 [v] rfl rfl (vals_one (grown_row hg1 Sb (by omega))) (by omega) (by have := hg1.size; simp at this ⊢; omega) ?_); intro g2 cap2 w2 ho2 hg2 hb2)
       | ((with_reducible refine step_app_vals rfl _ _ rfl xt.heap.size g1 _ cap1 _ rfl ho1 _ 1 1 [v] rfl rfl (vals_one (grown_row hg1 Sc (by omega))) (by omega) (by have := hg1.size; simp at this ⊢; omega) ?_); intro g2 cap2 w2 ho2 hg2 hb2))
     all_goals
      have bz : Below xt.heap.size xt w2 := by
       have hs1 := hg1.size
       simp at hs1
       first
       | exact ((Below.refl _ xt).alloc (Nat.le_refl _) _).drew.trans ((grown_below hg1 (by omega) (by simp)).trans (((Below.refl _ w1).alloc (by omega) _).trans (grown_below hg2 (by omega) (by simp; omega))))
       | exact (((Below.refl _ xt).alloc (Nat.le_refl _) _).alloc (by simp) _).drew.trans ((grown_below hg1 (by omega) (by simp; omega)).trans (grown_below hg2 (by omega) (by omega)))
      have hbz := hbx.trans (bz.mono hbx.size)
      have rzz := rzx.below bz
      have hl1 : (st.take fr).length = fr := by rw [List.length_take]; omega
      have hl2 : (st.take fr ++ [v]).length = fr + 1 := by rw [List.length_append, hl1]; rfl
      obtain ⟨hvz, hcz, hcz2⟩ := ho2.vals hl2
      have HL := Lib.hid hl2
      have hsz := bz.size
      clear hl1 hl2 ho2 ho1 hg1 hg2 hv rvx Ra Rb Rc Sb Sc Va Vb Vc v0 v1 v2 c0 c1 c2 c3 c4 i1 i2
      go_wp2_with fail
      go_roundw
      case rel =>
       refine ⟨k + 1, st.take fr ++ [v], ⟨g2, 0, none⟩, cap2, by omega, by go_num, by rw [HL.out], by rw [HL.out]; exact hcz, hcz2, by rw [HL.out]; omega, Lib.hid rfl, Lib.hid ?_, Lib.hid ?_, Lib.hid ?_, by rw [HL.out]; exact hvz, rzz, hbz⟩
       ·rw [HL.out, HFR.out]; exact HEXP.out
       ·rw [HEV.out, evalStep_some HTV.out]; exact congrArg (fun m => some (List.take m st ++ [v])) HFR.out.symm
       ·intro u hu
        rw [List.mem_append, List.mem_singleton] at hu
        rcases hu with hu | rfl
        ·exact hstok.out u (List.mem_of_mem_take hu)
        ·exact tokVal_ok HOK.out HTOK.out HTV.out
      case measure => simp [intOf]; omega
   have d7 : (k0 == 7) = false := by simpa using hk7
   unfold maxLen at hcm
   have hkk : k0 = 3 ∨ k0 = 4 ∨ k0 = 5 ∨ k0 = 6 ∨ k0 = 9 ∨ k0 = 10 := by
    have := HTOK.out; unfold tokB isOpB at this; simp only [hk1, hk2, if_false] at this; split at this
    ·rename_i h; simp at h; omega
    ·cases this
   have htk2 : takes k0 = 2 := by unfold takes; rw [if_neg (by omega), if_pos hkk]
   have ht1 : 2 ≤ st.length := by rw [htk2] at htk; exact htk
   obtain ⟨f2, hf2⟩ : ∃ f2, f2 = st.length - 2 := ⟨_, rfl⟩
   obtain ⟨f1, hf1⟩ : ∃ f1, f1 = st.length - 1 := ⟨_, rfl⟩
   have hf2l : f2 < st.length := by omega
   have hf1l : f1 < st.length := by omega
   have bl : b < wr.heap.size := cell_lt c0
   have bz0 := (Below.refl wr.heap.size wr).alloc (Nat.le_refl _) (.cells #[.int .i64 0, .int .i64 0, .string ⟨#[]⟩] 66)
   have e0 := (bz0.cell bl).trans c0
   obtain ⟨bs, ofs, ea, s0, s1, s2⟩ := (hvals.below bz0).at_ hf2l
   obtain rfl : a = ⟨bs, ofs, none⟩ := by simpa using ea
   clear ea
   obtain ⟨bs', ofs', ea, s3, s4, s5⟩ := (hvals.below bz0).at_ hf1l
   obtain ⟨rfl, rfl⟩ : bs = bs' ∧ ofs = ofs' := by simpa using ea
   clear ea
   have HFR := Lib.hid (show f2 = st.length - takes k0 by rw [htk2]; exact hf2)
   have hfr : f2 ≤ st.length := by omega
   have i2 : IntKind.i64.wrap ((st.length : Int) - 2) = (f2 : Int) := by rw [IntWalk.i64_in _ (by omega)]; omega
   have i2b : IntKind.i64.wrap ((st.length : Int) - 1) = (f1 : Int) := by rw [IntWalk.i64_in _ (by omega)]; omega
   have i3 : (0 : Int) ≤ f2 := by omega
   have i4 : (f2 : Int) < st.length := by omega
   have i5 : (0 : Int) ≤ f1 := by omega
   have i6 : (f1 : Int) < st.length := by omega
   have i7 : (0 : Int) ≤ k := by omega
   have i8 : (k : Int) < ts.length := by omega
   have hdr : st.drop (st.length - takes k0) = [st[f2], st[f1]] := by
    have e1 : f1 = f2 + 1 := by omega
    subst e1
    rw [← HFR.out, List.drop_eq_getElem_cons hf2l, List.drop_eq_getElem_cons hf1l, List.drop_eq_nil_of_le (by omega)]
   have hpok := hstok.out _ (List.getElem_mem hf2l)
   have hqok := hstok.out _ (List.getElem_mem hf1l)
   have HT0 := Lib.hid (show tokVal row ⟨k0, tc, tvk, tvn, tvs⟩ (st.drop (st.length - takes k0)) = op2 k0 st[f2] st[f1] by rw [hdr]; simp [tokVal, opOf, hk1, hk2])
   clear hdr hf1 hf2 htk2
   have HPK := Lib.hid hpok
   have HQK := Lib.hid hqok
   clear hpok hqok
   generalize st[f2] = p at *
   generalize st[f1] = q at *
   have rz1 := Row.new wr 66 #[.int .i64 0, .int .i64 0, .string ⟨#[]⟩]
   have hbs : bs < wr.heap.size := by
    obtain ⟨b', o', e', hc'⟩ := hvals.2.2 (by omega)
    cases e'
    have := hc' 0 (by simp; omega) 0 (by simp [Vl.cells])
    exact cell_lt this
   have hnb : b ≠ wr.heap.size := by omega
   have hns : bs ≠ wr.heap.size := by omega
   have HKK := Lib.hid hkk
   clear hkk
   cases hop : op2 k0 p q
   ·have HOP := Lib.hid hop
    clear hop
    have HTV := Lib.hid (HT0.out.trans HOP.out)
    go_wp2_with fail
    have rzf0 := hrz.below bz0
    generalize wr.alloc (.cells #[.int .i64 0, .int .i64 0, .string ⟨#[]⟩] 66) = y0 at *
    go_region_held3 (fun w' => w'.cell? ⟨b, off + k * 5, none⟩ = some (.int .i64 k0) ∧ w'.cell? ⟨bs, ofs + f2 * 3, none⟩ = some (.int .i64 p.k) ∧ w'.cell? ⟨bs, ofs + f2 * 3 + 1, none⟩ = some (.int .i64 p.n) ∧ w'.cell? ⟨bs, ofs + f2 * 3 + 2, none⟩ = some (.string p.s) ∧ w'.cell? ⟨bs, ofs + f1 * 3, none⟩ = some (.int .i64 q.k) ∧ w'.cell? ⟨bs, ofs + f1 * 3 + 1, none⟩ = some (.int .i64 q.n) ∧ w'.cell? ⟨bs, ofs + f1 * 3 + 2, none⟩ = some (.string q.s))
     (first | go_keep | exact keep7 (by assumption) hbA | ((with_reducible refine keep7s hnb hns ?_); assumption))
     (first | (go_at_call 86; refine (specTwoNone k0 HKK.out p q _ HPK.out HQK.out HOP.out).mono ?_; rintro e yA ⟨v, rfl, hbA⟩; have rzA := rz1.drew.below hbA; have rfA := rzf0.drew.below hbA; obtain ⟨⟨g0, g1, g2⟩, ⟨g3, g4, g5⟩⟩ := rzA.three; obtain ⟨⟨f0, f1', f2'⟩, ⟨f3, f4, f5⟩⟩ := rfA.three))
    have hne : w.heap.size ≠ wr.heap.size := by have := lt_of_block hrz; omega
    have bzA := bz0.drew.trans (hbA.mono bz0.size)
    go_wp2_with fail
    have rzz : Row ((((((yA.setCell ⟨wr.heap.size, 0, none⟩ (.int .i64 v.k)).setCell ⟨wr.heap.size, 1, none⟩ (.int .i64 v.n)).setCell ⟨wr.heap.size, 2, none⟩ (.string v.s)).setCell ⟨w.heap.size, 0, none⟩ (.int .i64 0)).setCell ⟨w.heap.size, 1, none⟩ (.int .i64 0)).setCell ⟨w.heap.size, 2, none⟩ (.string ⟨#[]⟩)) w.heap.size 66 #[.int .i64 0, .int .i64 0, .string ⟨#[]⟩] := (((((rfA.far hne _).far hne _).far hne _).set 0 _).set 1 _).set 2 _
    obtain ⟨⟨z0, z1, z2⟩, -⟩ := rzz.three
    have hz := hb.trans (bzA.mono hb.size)
    have HN := evalB_dead (row := row) (ts := ts) (k := k + 1) (by rw [HEV.out, evalStep_none HTV.out])
    have HNN := Lib.hid HN
    clear HN
    refine bodyPost_ret (v := .tuple #[.agg #[.int .i64 0, .int .i64 0, .string ⟨#[]⟩], .bool false]) (by simp [results, Tryz.results60, go_sem, z0, z1, z2]) rfl ⟨by rw [HNN.out]; rfl, ?_⟩
    have hq := hb.size
    repeat (first | with_reducible exact hz | with_reducible refine Below.drew ?_ | with_reducible refine Below.setCell ?_ (by simp; omega) _ | with_reducible refine Below.setCell ?_ (by simp) _)
   ·rename_i v
    have HOP := Lib.hid hop
    clear hop
    have HTV := Lib.hid (HT0.out.trans HOP.out)
    go_wp2_with fail
    have rzf0 := hrz.below bz0
    generalize wr.alloc (.cells #[.int .i64 0, .int .i64 0, .string ⟨#[]⟩] 66) = y0 at *
    go_region_held3 (fun w' => w'.cell? ⟨b, off + k * 5, none⟩ = some (.int .i64 k0) ∧ w'.cell? ⟨bs, ofs + f2 * 3, none⟩ = some (.int .i64 p.k) ∧ w'.cell? ⟨bs, ofs + f2 * 3 + 1, none⟩ = some (.int .i64 p.n) ∧ w'.cell? ⟨bs, ofs + f2 * 3 + 2, none⟩ = some (.string p.s) ∧ w'.cell? ⟨bs, ofs + f1 * 3, none⟩ = some (.int .i64 q.k) ∧ w'.cell? ⟨bs, ofs + f1 * 3 + 1, none⟩ = some (.int .i64 q.n) ∧ w'.cell? ⟨bs, ofs + f1 * 3 + 2, none⟩ = some (.string q.s))
     (first | go_keep | exact keep7 (by assumption) hbA | ((with_reducible refine keep7s hnb hns ?_); assumption))
     (first | (go_at_call 86; refine (specTwoSome k0 HKK.out p q v _ HPK.out HQK.out HOP.out).mono ?_; rintro e yA ⟨rfl, hbA⟩; have rzA := rz1.drew.below hbA; have rfA := rzf0.drew.below hbA; obtain ⟨⟨g0, g1, g2⟩, ⟨g3, g4, g5⟩⟩ := rzA.three; obtain ⟨⟨f0, f1', f2'⟩, ⟨f3, f4, f5⟩⟩ := rfA.three))
    have bzA := bz0.drew.trans (hbA.mono bz0.size)
    go_wp2_with fail
    have rvx := ((rzA.set 0 (.int .i64 v.k)).set 1 (.int .i64 v.n)).set 2 (.string v.s)
    have bv := ((bzA.setCell (p := ⟨wr.heap.size, 0, none⟩) (Nat.le_refl _) (.int .i64 v.k)).setCell (p := ⟨wr.heap.size, 1, none⟩) (Nat.le_refl _) (.int .i64 v.n)).setCell (p := ⟨wr.heap.size, 2, none⟩) (Nat.le_refl _) (.string v.s)
    have hv := hvals.below bv
    have hzx : wr.heap.size < (((yA.setCell ⟨wr.heap.size, 0, none⟩ (.int .i64 v.k)).setCell ⟨wr.heap.size, 1, none⟩ (.int .i64 v.n)).setCell ⟨wr.heap.size, 2, none⟩ (.string v.s)).heap.size := by have := lt_of_block rzA; simp; exact this
    have hbx := hb.trans (bv.mono hb.size)
    have rzx := hrz.below bv
    generalize ((yA.setCell ⟨wr.heap.size, 0, none⟩ (.int .i64 v.k)).setCell ⟨wr.heap.size, 1, none⟩ (.int .i64 v.n)).setCell ⟨wr.heap.size, 2, none⟩ (.string v.s) = xt at *
    clear rz1 rzA rfA rzf0 g0 g1 g2 g3 g4 g5 f0 f1' f2' f3 f4 f5 s0 s1 s2 s3 s4 s5 e0 bz0 bzA
    obtain ⟨⟨v0, v1, v2⟩, -⟩ := rvx.three
    have i1 : (f2 : Int) ≤ c := by omega
    have hbs : wr.heap.size ≤ xt.heap.size := by omega
    have Ra : Row (xt.alloc (.cells #[] 66)).drew xt.heap.size 66 #[] := Row.new xt 66 #[]
    have Rb : Row ((xt.alloc (.cells #[] 66)).alloc (.cells #[.int .i64 v.k, .int .i64 v.n, .string v.s] 66)).drew xt.heap.size 66 #[] := (Row.new xt 66 #[]).alloc _
    have Rc : Row ((xt.alloc (.cells #[.int .i64 v.k, .int .i64 v.n, .string v.s] 66)).alloc (.cells #[] 66)).drew (xt.heap.size + 1) 66 #[] := Row.newAt _ _ _ _ (by simp)
    have Sb : Row ((xt.alloc (.cells #[] 66)).alloc (.cells #[.int .i64 v.k, .int .i64 v.n, .string v.s] 66)).drew (xt.heap.size + 1) 66 #[.int .i64 v.k, .int .i64 v.n, .string v.s] := Row.newAt _ _ _ _ (by simp)
    have Sc : Row ((xt.alloc (.cells #[.int .i64 v.k, .int .i64 v.n, .string v.s] 66)).alloc (.cells #[] 66)).drew xt.heap.size 66 #[.int .i64 v.k, .int .i64 v.n, .string v.s] := (Row.new _ _ _).alloc _
    have Va : Vals (xt.alloc (.cells #[] 66)).drew (some ⟨bs, ofs, none⟩) f2 (st.take f2) := (hv.below ((Below.refl _ xt).alloc (Nat.le_refl _) _)).take hfr
    have Vb : Vals ((xt.alloc (.cells #[] 66)).alloc (.cells #[.int .i64 v.k, .int .i64 v.n, .string v.s] 66)).drew (some ⟨bs, ofs, none⟩) f2 (st.take f2) := (hv.below (((Below.refl _ xt).alloc (Nat.le_refl _) _).alloc (by simp) _)).take hfr
    have Vc : Vals ((xt.alloc (.cells #[.int .i64 v.k, .int .i64 v.n, .string v.s] 66)).alloc (.cells #[] 66)).drew (some ⟨bs, ofs, none⟩) f2 (st.take f2) := (hv.below (((Below.refl _ xt).alloc (Nat.le_refl _) _).alloc (by simp) _)).take hfr
    have hlen24 : f2 ≤ 1000 := by omega
    go_region_held3 (fun w' => w'.cell? ⟨wr.heap.size, 0, none⟩ = some (.int .i64 v.k) ∧ w'.cell? ⟨wr.heap.size, 1, none⟩ = some (.int .i64 v.n) ∧ w'.cell? ⟨wr.heap.size, 2, none⟩ = some (.string v.s))
     (first | go_keep | ((with_reducible refine keep3 ?_ ((Below.refl _ _).alloc (Nat.le_refl _) _)); assumption) | ((with_reducible refine keep3g ?_ hg2 ?_ ?_ ?_) <;> first | assumption | (simp only; omega)) | ((with_reducible refine keep3g ?_ hg1 ?_ ?_ ?_) <;> first | assumption | (simp only; omega)))
     (first
      | ((with_reducible refine step_app_vals0 rfl _ _ rfl xt.heap.size xt.heap.size rfl Ra (by omega) ⟨bs, ofs, none⟩ f2 c (st.take f2) rfl rfl Va (by omega) (by first | (simp; done) | (simp; omega)) ?_); intro g1 cap1 w1 ho1 hg1 hb1)
      | ((with_reducible refine step_app_vals0 rfl _ _ rfl xt.heap.size xt.heap.size rfl Rb (by omega) ⟨bs, ofs, none⟩ f2 c (st.take f2) rfl rfl Vb (by omega) (by first | (simp; done) | (simp; omega)) ?_); intro g1 cap1 w1 ho1 hg1 hb1)
      | ((with_reducible refine step_app_vals0 rfl _ _ rfl xt.heap.size (xt.heap.size + 1) rfl Rc (by omega) ⟨bs, ofs, none⟩ f2 c (st.take f2) rfl rfl Vc (by omega) (by first | (simp; done) | (simp; omega)) ?_); intro g1 cap1 w1 ho1 hg1 hb1)
      | ((with_reducible refine step_app_vals rfl _ _ rfl xt.heap.size g1 _ cap1 _ rfl (ho1.alloc _) _ 1 1 [v] rfl rfl (vals_one (Row.new _ _ _)) (by omega) (by have := hg1.size; simp at this ⊢; omega) ?_); intro g2 cap2 w2 ho2 hg2 hb2)
      | ((with_reducible refine step_app_vals rfl _ _ rfl xt.heap.size g1 _ cap1 _ rfl ho1 _ 1 1 [v] rfl rfl (vals_one (grown_row hg1 Sb (by omega))) (by omega) (by have := hg1.size; simp at this ⊢; omega) ?_); intro g2 cap2 w2 ho2 hg2 hb2)
      | ((with_reducible refine step_app_vals rfl _ _ rfl xt.heap.size g1 _ cap1 _ rfl ho1 _ 1 1 [v] rfl rfl (vals_one (grown_row hg1 Sc (by omega))) (by omega) (by have := hg1.size; simp at this ⊢; omega) ?_); intro g2 cap2 w2 ho2 hg2 hb2))
    all_goals
     have bz : Below xt.heap.size xt w2 := by
      have hs1 := hg1.size
      simp at hs1
      first
      | exact ((Below.refl _ xt).alloc (Nat.le_refl _) _).drew.trans ((grown_below hg1 (by omega) (by simp)).trans (((Below.refl _ w1).alloc (by omega) _).trans (grown_below hg2 (by omega) (by simp; omega))))
      | exact (((Below.refl _ xt).alloc (Nat.le_refl _) _).alloc (by simp) _).drew.trans ((grown_below hg1 (by omega) (by simp; omega)).trans (grown_below hg2 (by omega) (by omega)))
     have hbz := hbx.trans (bz.mono hbx.size)
     have rzz := rzx.below bz
     have hl1 : (st.take f2).length = f2 := by rw [List.length_take]; omega
     have hl2 : (st.take f2 ++ [v]).length = f2 + 1 := by rw [List.length_append, hl1]; rfl
     obtain ⟨hvz, hcz, hcz2⟩ := ho2.vals hl2
     have HL := Lib.hid hl2
     have hsz := bz.size
     clear hl1 hl2 ho2 ho1 hg1 hg2 hv rvx Ra Rb Rc Sb Sc Va Vb Vc v0 v1 v2 c0 c1 c2 c3 c4 i1 i2
     go_wp2_with fail
     go_roundw
     case rel =>
      refine ⟨k + 1, st.take f2 ++ [v], ⟨g2, 0, none⟩, cap2, by omega, by go_num, by rw [HL.out], by rw [HL.out]; exact hcz, hcz2, by rw [HL.out]; omega, Lib.hid rfl, Lib.hid ?_, Lib.hid ?_, Lib.hid ?_, by rw [HL.out]; exact hvz, rzz, hbz⟩
      ·rw [HL.out, HFR.out]; exact HEXP.out
      ·rw [HEV.out, evalStep_some HTV.out]; exact congrArg (fun m => some (List.take m st ++ [v])) HFR.out.symm
      ·intro u hu
       rw [List.mem_append, List.mem_singleton] at hu
       rcases hu with hu | rfl
       ·exact hstok.out u (List.mem_of_mem_take hu)
       ·exact tokVal_ok HOK.out HTOK.out HTV.out
     case measure => simp [intOf]; omega
  ·have e : ts.take k = ts := List.take_of_length_le (by omega)
   have hx := hexp.out
   rw [e] at hx
   have hl1 : st.length = 1 := by have := HGO.out; rw [hx] at this; simpa using this
   have hev' := hev.out
   rw [e] at hev'
   have h0 : 0 < st.length := by omega
   obtain ⟨bs, ofs, ea, s0, s1, s2⟩ := hvals.at_ h0
   obtain rfl : a = ⟨bs, ofs, none⟩ := by simpa using ea
   have hB : evalB ts row = some st[0] := by
    unfold evalB
    rw [if_pos (by rw [Bool.and_eq_true]; exact ⟨HR.out, HE.out⟩), hev']
    simp [h0]
   have HB := Lib.hid hB
   clear hB hev' hx e hl1 ea
   generalize st[0] = v at *
   rw [Nat.zero_mul, Nat.add_zero] at s0 s1 s2
   obtain ⟨⟨f0, f1, f2⟩, ⟨f3, f4, f5⟩⟩ := hrz.three
   have rzz : Row (((wr.setCell ⟨w.heap.size, 0, none⟩ (.int .i64 v.k)).setCell ⟨w.heap.size, 1, none⟩ (.int .i64 v.n)).setCell ⟨w.heap.size, 2, none⟩ (.string v.s)) w.heap.size 66 #[.int .i64 v.k, .int .i64 v.n, .string v.s] := ((hrz.set 0 _).set 1 _).set 2 _
   obtain ⟨⟨z0, z1, z2⟩, -⟩ := rzz.three
   clear rzz
   go_wp2_with fail
   refine bodyPost_ret (v := .tuple #[.agg #[.int .i64 v.k, .int .i64 v.n, .string v.s], .bool true]) (by simp [results, Tryz.results60, go_sem, z0, z1, z2]) rfl ⟨by rw [HB.out]; rfl, ?_⟩
   repeat (first | with_reducible exact hb | with_reducible refine Below.drew ?_ | with_reducible refine Below.setCell ?_ (by simp; omega) _ | with_reducible refine Below.setCell ?_ (by simp) _)
set_option maxRecDepth 100000 in
set_option maxHeartbeats 1000000 in
theorem specL2Truth (A R : Option Addr) (n m cap capR : Nat) (ts : List Tk) (row : List Vl) (w : World) (h : Toks w A n ts) (hr : Vals w R m row) (hn : n ≤ maxLen) (hm : m ≤ maxLen) (hrow : rowB row = true) (hex : exprB ts row.length = true) :
  Calls Tryz.prog 42 #[.slice A n cap, .slice R m capR] w fun e w' => e = .returned (.int .i64 (truthB ts row)) ∧ Below w.heap.size w w' := by
 have HR := Lib.hid hrow
 have HX := Lib.hid hex
 clear hrow hex
 cases hv : evalB ts row with
 | none =>
  have HE := Lib.hid hv
  have HT := Lib.hid (show truthB ts row = -1 by simp [truthB, hv])
  have HZ := Lib.hid (show truS Vl.zero = true by simp [truS, truOf, Vl.zero])
  clear hv
  go_enter Tryz.func42, Tryz.ntmps42
  go_wp2_with fail
  refine (specL2Eval A R n m cap capR ts row _ h hr hn hm HR.out HX.out).mono ?_
  rintro e w1 ⟨rfl, hb1⟩
  rw [HE.out]
  simp only [Option.getD_none, Option.isSome_none]
  have r1 := Row.new w1 66 #[.int .i64 Vl.zero.k, .int .i64 Vl.zero.n, .string Vl.zero.s]
  have hbx := hb1.alloc hb1.size (.cells #[.int .i64 Vl.zero.k, .int .i64 Vl.zero.n, .string Vl.zero.s] 66)
  go_wp2_with fail
  generalize Vl.zero = v at *
  refine (specOf v _).mono ?_
  rintro e w2 ⟨rfl, hb2⟩
  go_wp2
  go_ret
  exact ⟨retI (by rw [HT.out]), hbx.trans (hb2.mono hbx.size)⟩
 | some v =>
  have HE := Lib.hid hv
  have HT := Lib.hid (show truthB ts row = truOf v by simp [truthB, hv])
  clear hv
  cases hs : truS v
  ·have HS := Lib.hid hs
   have HT2 := Lib.hid (show truOf v = -1 by simpa [truS] using hs)
   clear hs
   go_enter Tryz.func42, Tryz.ntmps42
   go_wp2_with fail
   refine (specL2Eval A R n m cap capR ts row _ h hr hn hm HR.out HX.out).mono ?_
   rintro e w1 ⟨rfl, hb1⟩
   rw [HE.out]
   simp only [Option.getD_some, Option.isSome_some]
   have hbx := hb1.alloc hb1.size (.cells #[.int .i64 v.k, .int .i64 v.n, .string v.s] 66)
   go_wp2_with fail
   refine (specOf v _).mono ?_
   rintro e w2 ⟨rfl, hb2⟩
   rw [HS.out]
   go_wp2
   go_ret
   exact ⟨retI (by rw [HT.out, HT2.out]), hbx.trans (hb2.mono hbx.size)⟩
  ·have HS := Lib.hid hs
   have HT2 := Lib.hid (show truN v = truOf v by have h1 : ¬ truOf v = -1 := by simpa [truS] using hs
                                                 simp [truN, h1])
   clear hs
   go_enter Tryz.func42, Tryz.ntmps42
   go_wp2_with fail
   refine (specL2Eval A R n m cap capR ts row _ h hr hn hm HR.out HX.out).mono ?_
   rintro e w1 ⟨rfl, hb1⟩
   rw [HE.out]
   simp only [Option.getD_some, Option.isSome_some]
   have hbx := hb1.alloc hb1.size (.cells #[.int .i64 v.k, .int .i64 v.n, .string v.s] 66)
   go_wp2_with fail
   refine (specOf v _).mono ?_
   rintro e w2 ⟨rfl, hb2⟩
   rw [HS.out]
   go_wp2
   go_ret
   exact ⟨retI (by rw [HT.out, HT2.out]), hbx.trans (hb2.mono hbx.size)⟩
theorem keepF9 {w w' : World} {p0 p1 p2 p3 p4 p5 p6 p7 p8 : Addr} {a0 a1 a2 a3 a4 a5 a6 a7 a8 : Value} (h : w.cell? p0 = some a0 ∧ w.cell? p1 = some a1 ∧ w.cell? p2 = some a2 ∧ w.cell? p3 = some a3 ∧ w.cell? p4 = some a4 ∧ w.cell? p5 = some a5 ∧ w.cell? p6 = some a6 ∧ w.cell? p7 = some a7 ∧ w.cell? p8 = some a8) (hb : Below w.heap.size w w') : w'.cell? p0 = some a0 ∧ w'.cell? p1 = some a1 ∧ w'.cell? p2 = some a2 ∧ w'.cell? p3 = some a3 ∧ w'.cell? p4 = some a4 ∧ w'.cell? p5 = some a5 ∧ w'.cell? p6 = some a6 ∧ w'.cell? p7 = some a7 ∧ w'.cell? p8 = some a8 :=
 ⟨below_keep hb _ _ h.1, below_keep hb _ _ h.2.1, below_keep hb _ _ h.2.2.1, below_keep hb _ _ h.2.2.2.1, below_keep hb _ _ h.2.2.2.2.1, below_keep hb _ _ h.2.2.2.2.2.1, below_keep hb _ _ h.2.2.2.2.2.2.1, below_keep hb _ _ h.2.2.2.2.2.2.2.1, below_keep hb _ _ h.2.2.2.2.2.2.2.2⟩
set_option maxRecDepth 100000 in
set_option maxHeartbeats 4000000 in
theorem specL8Fires (AS AL : Option Addr) (nS cS nL cL : Nat) (s : List Tb) (l : List Tg) (ok okl : Nat → Prop) (m : Nat) (ev : Int) (AO AN : Option Addr) (nO cO nN cN : Nat) (old now : List Vl) (w : World)
  (hS : Sl TbR 6 ok w AS nS s) (hL : Sl TgR 5 okl w AL nL l) (hm : m < s.length) (hO : Vals w AO nO old) (hN : Vals w AN nN now) (h0 : 0 < s[m].cols.length) (hn : s[m].cols.length ≤ 8) (hnO : nO ≤ s[m].cols.length) (hnN : nN ≤ s[m].cols.length)
  (hs9 : s.length ≤ 1048576) (hl9 : l.length ≤ 1048576) (hB : rowB (bothV s[m].cols.length old now) = true) (hX : ∀ x ∈ l, (x.table.toList == s[m].name.toList) = true → x.wher.length ≠ 0 → exprB x.wher (2 * s[m].cols.length : Nat) = true) (hW : ∀ x ∈ l, x.wher.length ≤ 1048576) :
  Calls Tryz.prog 23 #[.slice AS nS cS, .slice AL nL cL, .int .i64 m, .int .i64 ev, .slice AO nO cO, .slice AN nN cN] w fun e w' => ∃ v, e = .returned v ∧ OwnI w' w.heap.size v (firesTo s[m] ev old now l l.length) ∧ Below w.heap.size w w' := by
 obtain rfl : s.length = nS := hS.1
 obtain rfl : l.length = nL := hL.1
 obtain rfl : old.length = nO := hO.len
 obtain rfl : now.length = nN := hN.len
 obtain ⟨j0, hi, hz0, hz1, hz2⟩ := info_parts infoIntI
 have J1 := Lib.hid hi
 have J2 := Lib.hid hz0
 have J3 := Lib.hid hz1
 have J4 := Lib.hid hz2
 clear hi hz0 hz1 hz2
 obtain ⟨g, o, A1, n1, c1, A2, n2, c2, A3, n3, c3, A4, n4, c4, A5, n5, c5, -, rfl, x0', x1', x2', x3', x4', x5', hcols, -⟩ := TbR.at_ hS hm
 have hn1 : n1 = s[m].cols.length := hcols.1.symm
 generalize ht : s[m] = t at *
 rw [← hn1] at h0 hn hnO hnN hB hX
 have HX := Lib.hid hX
 have HBO := Lib.hid hB
 have HW := Lib.hid hW
 have HN1 := Lib.hid hn1
 have hb0 := (Below.refl w.heap.size w).alloc (Nat.le_refl _) (.cells #[] 2)
 have ho0 := Lib.hid (OwnI.lit w (Nat.le_refl w.heap.size))
 have i0 : (0 : Int) ≤ (m : Nat) := by omega
 have i1 : ((m : Nat) : Int) < s.length := by omega
 clear hX hB hW hn1 ht hcols
 go_enter Tryz.func23, Tryz.ntmps23
 go_wp2_with fail
 generalize w.alloc (.cells #[] 2) = z0 at *
 have HB0 := Lib.hid hb0
 go_loopw [13, 14] (fun v i wr => ∃ (k : Nat), k ≤ l.length ∧ i = .int .i64 k ∧ Hid (OwnI wr w.heap.size v (firesTo t ev old now l k)) ∧ Hid (Below w.heap.size w wr)) (fun _ i _ => l.length - (intOf i).toNat)
 case atStart => exact ⟨0, by omega, rfl, ho0, HB0⟩
 case round =>
  clear hb0 ho0 HB0
  obtain ⟨k, hk, rfl, hown, hbh⟩ := hrel
  have hb := hbh.out
  by_cases hlt : k < l.length
  ·obtain ⟨gb, go, B2, k2, d2, B4, k4, d4, -, rfl, y0', y1', y2', y3', y4', hwh', -⟩ := TgR.at_ hL hlt
   have y0 := below_keep hb _ _ y0'
   have y1 := below_keep hb _ _ y1'
   have y2 := below_keep hb _ _ y2'
   have x0 := below_keep hb _ _ x0'
   have x1 := below_keep hb _ _ x1'
   have x2 := below_keep hb _ _ x2'
   have x3 := below_keep hb _ _ x3'
   have x4 := below_keep hb _ _ x4'
   have x5 := below_keep hb _ _ x5'
   have k0' : (0 : Int) ≤ k := by omega
   have k1' : (k : Int) < l.length := by omega
   have HFY := Lib.hid (fun hs => firesTo_yes (t := t) (ev := ev) (old := old) (now := now) hlt hs)
   have HFN := Lib.hid (fun hs => firesTo_no (t := t) (ev := ev) (old := old) (now := now) hlt hs)
   have HLE := Lib.hid (firesTo_len t ev old now l k)
   have HMX := Lib.hid (HX.out l[k] (List.getElem_mem hlt))
   have HMW := Lib.hid (HW.out l[k] (List.getElem_mem hlt))
   generalize firesTo t ev old now l k = xs at hown HFY HFN HLE
   generalize hek : l[k] = x at *
   clear y3' y4' hek
   cases e1 : (x.table.toList == t.name.toList)
   ·have HT := Lib.hid (HFN.out (by unfold fireB; rw [e1]; rfl))
    go_wp2_with fail
    go_quiet (fail)
    go_wp2_with fail
    go_roundw
    case rel => exact ⟨k + 1, by omega, by go_num, by rw [HT.out]; exact Lib.hid hown.out, Lib.hid (below_dN hb _)⟩
    case measure => simp [intOf]; omega
   ·cases e2 : (x.event == ev)
    ·have HT := Lib.hid (HFN.out (by unfold fireB; rw [e1, e2]; rfl))
     go_wp2_with fail
     go_quiet (fail)
     go_wp2_with fail
     go_roundw
     case rel => exact ⟨k + 1, by omega, by go_num, by rw [HT.out]; exact Lib.hid hown.out, Lib.hid (below_dN hb _)⟩
     case measure => simp [intOf]; omega
    ·have hwl : x.wher.length = k2 := hwh'.1
     by_cases hw0 : k2 = 0
     ·have HT := Lib.hid (HFY.out (by unfold fireB; rw [e1, e2, hwl, decide_eq_true hw0]; rfl))
      have z3 : ((k2 : Int) == 0) = true := by rw [hw0]; rfl
      go_wp2_with fail
      go_quiet (fail)
      have HBW := Lib.hid (below_dN hb nq)
      have HOW := Lib.hid (show OwnI (wr.drewN nq) w.heap.size _ xs from hown.out)
      generalize wr.drewN nq = W at *
      clear hown hbh hb
      have HLB := Lib.hid (show xs.length ≤ 1048576 by have := HLE.out; omega)
      go_wp2_with (at_builtin; refine wpList_append_own _ rfl _ _ 29 rfl w.heap.size 2 j0 (.int .i64 0) 1 8 Tryz.underlying29 J1.out J2.out J3.out J4.out rfl (by decide) _ _ _ rfl (World.ownsRow.alloc HOW.out _) ⟨_, 0, none⟩ 1 1 [.int .i64 k] rfl rfl ?c1 ?c2 ?c3 ?c4 ?c5 ?_)
      case c1 => exact cells_newAt _ [.int .i64 k] _ (by simp)
      case c2 => intro u hu; simp at hu; subst hu; rfl
      case c3 => have := HLB.out; unfold maxLen; omega
      case c4 => have := HLB.out; omega
      case c5 => have := HBW.out.size; simp; omega
      intro v8 W8 own8 grow8 _
      obtain ⟨hE8, hB8⟩ := OwnI.app HOW.out HBW.out.size own8 grow8
      have HE8 := Lib.hid (show OwnI W8 w.heap.size v8 (firesTo t ev old now l (k + 1)) by rw [HT.out]; exact hE8)
      have HB8 := Lib.hid (HBW.out.trans hB8)
      clear own8 grow8 hE8 hB8
      go_wp2_with fail
      go_roundw
      case rel => exact ⟨k + 1, by omega, by go_num, HE8, HB8⟩
      case measure => simp [intOf]; omega
     ·have z3 : ((k2 : Int) == 0) = false := beq_eq_false_iff_ne.2 (by omega)
      have hOd : Vals wr.drew AO old.length old := (hO.below hb).below ((Below.refl wr.heap.size wr).drew)
      have hNd : Vals wr.drew AN now.length now := (hN.below hb).below ((Below.refl wr.heap.size wr).drew)
      have HWD := Lib.hid (show Sl TkR 5 okl wr.drew B2 k2 x.wher from (hwh'.below TkR.stays hb).stays TkR.stays (fun _ h => h) (fun p v _ h => h))
      have HXX := Lib.hid (HMX.out e1 (by omega))
      have HBL := Lib.hid (both_len hnO hnN)
      have hk9 : k2 ≤ maxLen := by have := HMW.out; unfold maxLen; omega
      have HF2 := Lib.hid (show fireB t ev old now x = (truthB x.wher (bothV n1 old now) == 1) by unfold fireB; rw [e1, e2, hwl, decide_eq_false hw0, HN1.out]; rfl)
      generalize hbv : bothV n1 old now = bv at HF2 HBL HBO
      clear hwl hwh' HMX
      go_wp2_with fail
      go_region_held3 (fun w' => w'.cell? ⟨gb, go + k * 5, none⟩ = some (.string x.table) ∧ w'.cell? ⟨gb, go + k * 5 + 1, none⟩ = some (.int .i64 x.event) ∧ w'.cell? ⟨gb, go + k * 5 + 2, none⟩ = some (.slice B2 k2 d2) ∧ w'.cell? ⟨g, o + m * 6, none⟩ = some (.string t.name) ∧ w'.cell? ⟨g, o + m * 6 + 1, none⟩ = some (.slice A1 n1 c1) ∧ w'.cell? ⟨g, o + m * 6 + 2, none⟩ = some (.slice A2 n2 c2) ∧ w'.cell? ⟨g, o + m * 6 + 3, none⟩ = some (.slice A3 n3 c3) ∧ w'.cell? ⟨g, o + m * 6 + 4, none⟩ = some (.slice A4 n4 c4) ∧ w'.cell? ⟨g, o + m * 6 + 5, none⟩ = some (.slice A5 n5 c5))
       (first | go_keep | exact keepF9 (by assumption) hq2 | exact keepF9 (by assumption) hq1)
       (first
        | (go_at_call 43; refine (specL8Both t.name A1 A2 A3 A4 A5 n1 c1 n2 c2 n3 c3 n4 c4 n5 c5 AO AN old.length cO now.length cN old now _ hOd hNd h0 (by omega) hnO hnN).mono ?_; rintro r1 w1 ⟨v1, rfl, hk1, hq1⟩; rw [hbv] at hk1; obtain ⟨B9, d9, e9, -, -, hsl9⟩ := OwnG.sl (f := Vl.cells) (sz := 3) (fun _ => rfl) hk1; subst e9)
        | (go_at_call 42; refine (specL2Truth B2 B9 k2 bv.length d2 d9 x.wher bv _ (Sl.cellz (fun _ => rfl) (HWD.out.below TkR.stays hq1)) (Sl.cellz (fun _ => rfl) hsl9) hk9 (by have := HBL.out; unfold maxLen; omega) HBO.out (by rw [HBL.out]; exact HXX.out)).mono ?_; rintro r2 w2 ⟨rfl, hq2⟩))
      have HBW := Lib.hid (show Below w.heap.size w w2 from (hb.drew.trans (hq1.mono hb.size)).trans (hq2.mono (Nat.le_trans hb.size hq1.size)))
      have HOW := Lib.hid (show OwnI w2 w.heap.size _ xs from OwnI.below (OwnI.below (w := wr.drew) hown.out hq1) hq2)
      clear hown hbh hb hq1 hq2 hsl9 hk1 hOd hNd
      cases e3 : (truthB x.wher bv == 1)
      ·have HT := Lib.hid (HFN.out (by rw [HF2.out, e3]))
       go_wp2_with fail
       go_roundw
       case rel => exact ⟨k + 1, by omega, by go_num, by rw [HT.out]; exact HOW, HBW⟩
       case measure => simp [intOf]; omega
      ·have HT := Lib.hid (HFY.out (by rw [HF2.out, e3]))
       have HLB := Lib.hid (show xs.length ≤ 1048576 by have := HLE.out; omega)
       go_wp2_with (at_builtin; refine wpList_append_own _ rfl _ _ 29 rfl w.heap.size 2 j0 (.int .i64 0) 1 8 Tryz.underlying29 J1.out J2.out J3.out J4.out rfl (by decide) _ _ _ rfl (World.ownsRow.alloc HOW.out _) ⟨_, 0, none⟩ 1 1 [.int .i64 k] rfl rfl ?c1 ?c2 ?c3 ?c4 ?c5 ?_)
       case c1 => exact cells_newAt _ [.int .i64 k] _ (by simp)
       case c2 => intro u hu; simp at hu; subst hu; rfl
       case c3 => have := HLB.out; unfold maxLen; omega
       case c4 => have := HLB.out; omega
       case c5 => have := HBW.out.size; simp; omega
       intro v8 W8 own8 grow8 _
       obtain ⟨hE8, hB8⟩ := OwnI.app HOW.out HBW.out.size own8 grow8
       have HE8 := Lib.hid (show OwnI W8 w.heap.size v8 (firesTo t ev old now l (k + 1)) by rw [HT.out]; exact hE8)
       have HB8 := Lib.hid (HBW.out.trans hB8)
       clear own8 grow8 hE8 hB8
       go_wp2_with fail
       go_roundw
       case rel => exact ⟨k + 1, by omega, by go_num, HE8, HB8⟩
       case measure => simp [intOf]; omega
  ·obtain rfl : k = l.length := by omega
   go_wp2_with fail
   go_ret
   exact ⟨_, rfl, hown.out, hb⟩
set_option maxRecDepth 100000 in
set_option maxHeartbeats 4000000 in
theorem specFires (AS AL : Option Addr) (nS cS nL cL : Nat) (s : List Tb) (l : List Tg) (ok okl : Nat → Prop) (tb ev : Int) (AO AN : Option Addr) (nO cO nN cN : Nat) (old now : List Vl) (w : World)
  (hS : Sl TbR 6 ok w AS nS s) (hL : Sl TgR 5 okl w AL nL l) (hcp : nS ≤ cS) (hsz : szL Tb.sz s ≤ 1048576) (hlz : szL Tg.szN l ≤ 1048576) (hO : Vals w AO nO old) (hN : Vals w AN nN now) (hnO : nO ≤ 1048576) (hnN : nN ≤ 1048576) :
  Calls Tryz.prog 8 #[.slice AS nS cS, .slice AL nL cL, .int .i64 tb, .int .i64 ev, .slice AO nO cO, .slice AN nN cN] w fun e w' => ∃ v, e = .returned v ∧ OwnI w' w.heap.size v (firesL s l tb ev old now) ∧ Below w.heap.size w w' := by
 obtain rfl : s.length = nS := hS.1
 obtain rfl : l.length = nL := hL.1
 obtain rfl : old.length = nO := hO.len
 obtain rfl : now.length = nN := hN.len
 have hs9 : s.length ≤ 1048576 := by unfold szL at hsz; omega
 have hl9 : l.length ≤ 1048576 := by unfold szL at hlz; omega
 have HW := Lib.hid (show ∀ x ∈ l, x.wher.length ≤ 1048576 from fun x hx => by
  have h1 := szL_mem Tg.szN l x hx
  have h3 : x.szN = x.table.size + szL (fun _ : Tk => 0) x.wher + x.into.size + szL Te.szN x.terms := rfl
  have h2 : x.wher.length ≤ szL (fun _ : Tk => 0) x.wher := by unfold szL; omega
  omega)
 have HT := Lib.hid (specTriggersOk AS AL s.length cS l.length cL s l ok okl w hS hL hcp hsz hlz)
 go_enter Tryz.func8, Tryz.ntmps8
 go_wp2_with fail
 refine HT.out.mono ?_
 rintro e w1 ⟨rfl, hb1⟩
 cases ht : triggersB s l
 ·have HF := Lib.hid (show firesL s l tb ev old now = [] by unfold firesL; rw [ht]; rfl)
  have ho := Lib.hid (OwnI.lit w1 (base := w.heap.size) hb1.size)
  have HB := Lib.hid (hb1.alloc hb1.size (.cells #[] 2))
  go_wp2_with fail
  go_ret
  exact ⟨_, rfl, by rw [HF.out]; exact ho.out, HB.out⟩
 ·have HTR := Lib.hid ht
  clear ht
  by_cases hin : 0 ≤ tb ∧ tb < s.length
  ·obtain ⟨m, rfl⟩ : ∃ m : Nat, tb = (m : Int) := ⟨tb.toNat, by omega⟩
   have hm : m < s.length := by omega
   have HTB := Lib.hid (tabAt_some hm)
   have HIN := Lib.hid (show (decide ((0 : Int) ≤ (m : Nat)) && decide (((m : Nat) : Int) ≤ (s.length : Int) - 1)) = true by rw [decide_eq_true (by omega : (0 : Int) ≤ (m : Nat)), decide_eq_true (by omega : ((m : Nat) : Int) ≤ (s.length : Int) - 1)]; rfl)
   obtain ⟨g, o, A1, n1, c1, A2, n2, c2, A3, n3, c3, A4, n4, c4, A5, n5, c5, -, rfl, x0', x1', x2', x3', x4', x5', hcols', -⟩ := TbR.at_ hS hm
   have x0 := below_keep hb1 _ _ x0'
   have x1 := below_keep hb1 _ _ x1'
   have x2 := below_keep hb1 _ _ x2'
   have x3 := below_keep hb1 _ _ x3'
   have x4 := below_keep hb1 _ _ x4'
   have x5 := below_keep hb1 _ _ x5'
   have i0 : (0 : Int) ≤ (m : Nat) := by omega
   have i1 : ((m : Nat) : Int) < s.length := by omega
   have HCC := Lib.hid (show n1 = s[m].cols.length ∧ 0 < n1 ∧ n1 ≤ 8 from by
    have h3 := hcols'.1
    have h4 : schemaB s = true := by have h5 := HTR.out; unfold triggersB at h5; simp only [Bool.and_eq_true] at h5; exact h5.1
    have h6 := schema_tab h4 hm
    omega)
   have HEX := Lib.hid (trig_expr HTR.out hm)
   go_wp2_with fail
   refine (specInV (b := true) (by rw [Bool.and_eq_true, decide_eq_true_eq, decide_eq_true_eq]; omega) _).mono ?_
   rintro e w2 ⟨rfl, rfl⟩
   go_wp2_with fail
   refine (specL8Row s[m].name A1 A2 A3 A4 A5 AO n1 c1 n2 c2 n3 c3 n4 c4 n5 c5 old.length cO s[m].cols old ok _ (hcols'.below ClR.stays hb1) (hO.below hb1) (by have := HCC.out; omega) hnO).mono ?_
   rintro e w3 ⟨rfl, hq3⟩
   have hb3 := hb1.trans (hq3.mono hb1.size)
   cases ho1 : rowIfB s[m].cols old
   ·have HF := Lib.hid (show firesL s l (m : Int) ev old now = [] by unfold firesL; rw [if_pos HTR.out, HTB.out]; simp [ho1])
    have ho := Lib.hid (OwnI.lit w3 (base := w.heap.size) hb3.size)
    have HB := Lib.hid (hb3.alloc hb3.size (.cells #[] 2))
    go_wp2_with fail
    go_ret
    exact ⟨_, rfl, by rw [HF.out]; exact ho.out, HB.out⟩
   ·clear x0 x1 x2 x3 x4 x5
    have x0 := below_keep hb3 _ _ x0'
    have x1 := below_keep hb3 _ _ x1'
    have x2 := below_keep hb3 _ _ x2'
    have x3 := below_keep hb3 _ _ x3'
    have x4 := below_keep hb3 _ _ x4'
    have x5 := below_keep hb3 _ _ x5'
    have HO1 := Lib.hid ho1
    go_wp2_with fail
    refine (specL8Row s[m].name A1 A2 A3 A4 A5 AN n1 c1 n2 c2 n3 c3 n4 c4 n5 c5 now.length cN s[m].cols now ok _ (hcols'.below ClR.stays hb3) (hN.below hb3) (by have := HCC.out; omega) hnN).mono ?_
    rintro e w4 ⟨rfl, hq4⟩
    have hb4 := hb3.trans (hq4.mono hb3.size)
    cases ho2 : rowIfB s[m].cols now
    ·have HF := Lib.hid (show firesL s l (m : Int) ev old now = [] by unfold firesL; rw [if_pos HTR.out, HTB.out]; simp [ho2])
     have ho := Lib.hid (OwnI.lit w4 (base := w.heap.size) hb4.size)
     have HB := Lib.hid (hb4.alloc hb4.size (.cells #[] 2))
     go_wp2_with fail
     go_ret
     exact ⟨_, rfl, by rw [HF.out]; exact ho.out, HB.out⟩
    ·have HF := Lib.hid (show firesL s l (m : Int) ev old now = firesTo s[m] ev old now l l.length by unfold firesL; rw [if_pos HTR.out, HTB.out]; simp only [HO1.out, ho2]; rfl)
     have HLF := Lib.hid (specL8Fires (some ⟨g, o, none⟩) AL s.length cS l.length cL s l ok okl m ev AO AN old.length cO now.length cN old now w4 (hS.below TbR.stays hb4) (hL.below TgR.stays hb4) hm (hO.below hb4) (hN.below hb4) (by have := HCC.out; omega) (by have := HCC.out; omega) (rowIf_len HO1.out) (rowIf_len ho2) hs9 hl9 (both_row (by have := HCC.out; omega) HO1.out ho2) HEX.out HW.out)
     go_wp2_with fail
     refine HLF.out.mono ?_
     rintro e w5 ⟨v5, rfl, ho5, hq5⟩
     have HO5 := Lib.hid (ho5.mono hb4.size)
     have HB5 := Lib.hid (hb4.trans (hq5.mono hb4.size))
     clear ho5 hq5
     go_wp2_with fail
     go_ret
     exact ⟨_, rfl, by rw [HF.out]; exact HO5.out, HB5.out⟩
  ·have HF := Lib.hid (show firesL s l tb ev old now = [] by unfold firesL; rw [if_pos HTR.out, tabAt_none hin])
   have ho := Lib.hid (OwnI.lit w1 (base := w.heap.size) hb1.size)
   have HB := Lib.hid (hb1.alloc hb1.size (.cells #[] 2))
   go_wp2_with fail
   refine (specInV (b := false) (by rw [Bool.and_eq_false_iff, decide_eq_false_iff_not, decide_eq_false_iff_not]; omega) _).mono ?_
   rintro e w2 ⟨rfl, rfl⟩
   go_wp2_with fail
   go_ret
   exact ⟨_, rfl, by rw [HF.out]; exact ho.out, HB.out⟩
set_option maxRecDepth 100000 in
set_option maxHeartbeats 4000000 in
theorem implFires (AS AL AO AN : Option Addr) (nS cS nL cL nO cO nN cN : Nat) (tb ev : Int) (s : List Tb) (l : List Tg) (ok okl oko okn : Nat → Prop) (old now : List Vl) (w : World)
  (hS : Sl TbR 6 ok w AS nS s) (hL : Sl TgR 5 okl w AL nL l) (hsz : szL Tb.sz s ≤ 1048576) (hlz : szL Tg.szN l ≤ 1048576) (hO : Sl VlR 3 oko w AO nO old) (hN : Sl VlR 3 okn w AN nN now) (hnO : nO ≤ 1048576) (hnN : nN ≤ 1048576) :
  Calls Tryz.prog 6 #[.slice AS nS cS, .slice AL nL cL, .int .i64 tb, .int .i64 ev, .slice AO nO cO, .slice AN nN cN] w fun e w' => ∃ v, e = .returned v ∧ OwnI w' w.heap.size v (firesL s l tb ev old now) ∧ Below w.heap.size w w' := by
 obtain rfl : s.length = nS := hS.1
 obtain rfl : l.length = nL := hL.1
 obtain rfl : old.length = nO := hO.1
 obtain rfl : now.length = nN := hN.1
 have hs9 : s.length ≤ 1048576 := by unfold szL at hsz; omega
 have HT := Lib.hid (implTriggersOk AS AL s.length cS l.length cL s l ok okl w hS hL hsz hlz)
 cases hT : triggersB s l
 ·have HF := Lib.hid (show firesL s l tb ev old now = [] by unfold firesL; rw [hT]; rfl)
  go_enter Tryz.func6, Tryz.ntmps6
  go_wp2_with fail
  refine HT.out.mono ?_
  rintro e w1 ⟨rfl, hb1⟩
  rw [hT]
  clear HT
  go_wp2_with fail
  go_ret
  exact ⟨_, rfl, by rw [HF.out]; exact OwnI.nil _ _, hb1⟩
 have HTB := Lib.hid hT
 have hsch : schemaB s = true := by unfold triggersB at hT; simp only [Bool.and_eq_true] at hT; exact hT.1
 by_cases hin : 0 ≤ tb ∧ tb < s.length
 ·obtain ⟨m, rfl⟩ : ∃ m : Nat, tb = (m : Int) := ⟨tb.toNat, by omega⟩
  have hm : m < s.length := by omega
  have HTA := Lib.hid (tabAt_some hm)
  cases hrO : rowIfB s[m].cols old
  ·have HF := Lib.hid (show firesL s l (m : Nat) ev old now = [] by unfold firesL; rw [if_pos HTB.out, HTA.out]; simp [hrO])
   have HRO := Lib.hid hrO
   have HIN := Lib.hid (show (decide ((0 : Int) ≤ (m : Nat)) && decide (((m : Nat) : Int) < (s.length : Int))) = true by rw [decide_eq_true (by omega : (0 : Int) ≤ (m : Nat)), decide_eq_true (by omega : ((m : Nat) : Int) < (s.length : Int))]; rfl)
   have m0 : (0 : Int) ≤ (m : Nat) := by omega
   have m1 : ((m : Nat) : Int) < s.length := by omega
   have HSC := Lib.hid (schema_tab hsch hm)
   have HVO := Lib.hid hO
   obtain ⟨g, o, A1, n1, c1, A2, n2, c2, A3, n3, c3, A4, n4, c4, A5, n5, c5, -, rfl, x0', x1', -, -, -, -, hcols', -⟩ := TbR.at_ hS hm
   have HC1 := Lib.hid (And.intro x1' hcols')
   have hc1 : n1 ≤ 1048576 := by have := hcols'.1; have := HSC.out; omega
   clear x0' x1' hcols' hrO hT hO hN hL hS
   go_enter Tryz.func6, Tryz.ntmps6
   go_wp2_with fail
   refine HT.out.mono ?_
   rintro e w1 ⟨rfl, hb1⟩
   rw [HTB.out]
   clear HT
   go_wp2_with fail
   refine (implIsPlace (m : Nat) s.length w1).mono ?_
   rintro e w1' ⟨rfl, rfl⟩
   rw [HIN.out]
   go_wp2_with fail
   refine (implFitsIf g (o + m * 6) A1 AO n1 c1 old.length cO s[m].cols old ok w1 (below_keep hb1 _ _ HC1.out.1) (HC1.out.2.below ClR.stays hb1) (Sl.cellz (fun _ => rfl) (HVO.out.below VlR.stays hb1)) hc1 hnO).mono ?_
   rintro e w2 ⟨rfl, hb2⟩
   rw [HRO.out]
   have hb12 := hb1.trans (hb2.mono hb1.size)
   go_wp2_with fail
   go_ret
   exact ⟨_, rfl, by rw [HF.out]; exact OwnI.nil _ _, hb12⟩
  cases hrN : rowIfB s[m].cols now
  ·have HF := Lib.hid (show firesL s l (m : Nat) ev old now = [] by unfold firesL; rw [if_pos HTB.out, HTA.out]; simp [hrN])
   have HRO := Lib.hid hrO
   have HRN := Lib.hid hrN
   have HIN := Lib.hid (show (decide ((0 : Int) ≤ (m : Nat)) && decide (((m : Nat) : Int) < (s.length : Int))) = true by rw [decide_eq_true (by omega : (0 : Int) ≤ (m : Nat)), decide_eq_true (by omega : ((m : Nat) : Int) < (s.length : Int))]; rfl)
   have m0 : (0 : Int) ≤ (m : Nat) := by omega
   have m1 : ((m : Nat) : Int) < s.length := by omega
   have HSC := Lib.hid (schema_tab hsch hm)
   have HVO := Lib.hid (And.intro hO hN)
   obtain ⟨g, o, A1, n1, c1, A2, n2, c2, A3, n3, c3, A4, n4, c4, A5, n5, c5, -, rfl, x0', x1', -, -, -, -, hcols', -⟩ := TbR.at_ hS hm
   have HC1 := Lib.hid (And.intro x1' hcols')
   have hc1 : n1 ≤ 1048576 := by have := hcols'.1; have := HSC.out; omega
   clear x0' x1' hcols' hrO hrN hT hO hN hL hS
   go_enter Tryz.func6, Tryz.ntmps6
   go_wp2_with fail
   refine HT.out.mono ?_
   rintro e w1 ⟨rfl, hb1⟩
   rw [HTB.out]
   clear HT
   go_wp2_with fail
   refine (implIsPlace (m : Nat) s.length w1).mono ?_
   rintro e w1' ⟨rfl, rfl⟩
   rw [HIN.out]
   go_wp2_with fail
   refine (implFitsIf g (o + m * 6) A1 AO n1 c1 old.length cO s[m].cols old ok w1 (below_keep hb1 _ _ HC1.out.1) (HC1.out.2.below ClR.stays hb1) (Sl.cellz (fun _ => rfl) (HVO.out.1.below VlR.stays hb1)) hc1 hnO).mono ?_
   rintro e w2 ⟨rfl, hb2⟩
   rw [HRO.out]
   have hb12 := hb1.trans (hb2.mono hb1.size)
   go_wp2_with fail
   refine (implFitsIf g (o + m * 6) A1 AN n1 c1 now.length cN s[m].cols now ok w2 (below_keep hb12 _ _ HC1.out.1) (HC1.out.2.below ClR.stays hb12) (Sl.cellz (fun _ => rfl) (HVO.out.2.below VlR.stays hb12)) hc1 hnN).mono ?_
   rintro e w3 ⟨rfl, hb3⟩
   rw [HRN.out]
   have hb13 := hb12.trans (hb3.mono hb12.size)
   go_wp2_with fail
   go_ret
   exact ⟨_, rfl, by rw [HF.out]; exact OwnI.nil _ _, hb13⟩
  have HF : firesL s l (m : Nat) ev old now = firesTo s[m] ev old now l l.length := by unfold firesL; rw [if_pos hT, tabAt_some hm]; simp [hrO, hrN]
  rw [HF]
  exact implFiresOk AS AL AO AN s.length cS l.length cL old.length cO now.length cN m ev s l ok okl oko okn old now w hS hL hsz hlz hO hN hnO hnN hT hm hrO hrN
 ·have HF := Lib.hid (show firesL s l tb ev old now = [] by unfold firesL; rw [if_pos hT, tabAt_none hin])
  have HIN := Lib.hid (show (decide ((0 : Int) ≤ tb) && decide (tb < (s.length : Int))) = false by
   rw [Bool.eq_false_iff]; intro h; rw [Bool.and_eq_true, decide_eq_true_eq, decide_eq_true_eq] at h; exact hin h)
  go_enter Tryz.func6, Tryz.ntmps6
  go_wp2_with fail
  refine HT.out.mono ?_
  rintro e w1 ⟨rfl, hb1⟩
  rw [HTB.out]
  clear HT
  go_wp2_with fail
  refine (implIsPlace tb s.length w1).mono ?_
  rintro e w1' ⟨rfl, rfl⟩
  rw [HIN.out]
  go_wp2_with fail
  go_ret
  exact ⟨_, rfl, by rw [HF.out]; exact OwnI.nil _ _, hb1⟩
theorem fires_mem {t : Tb} {ev : Int} {old now : List Vl} {l : List Tg} {i : Nat} (hi : i < l.length) : (i : Int) ∈ firesTo t ev old now l l.length ↔ fireB t ev old now l[i] = true := by
 unfold firesTo
 rw [List.mem_map]
 constructor
 ·rintro ⟨j, hj, e⟩
  obtain rfl : j = i := by omega
  have h := (List.mem_filter.1 hj).2
  unfold fireAt at h
  rwa [List.getElem?_eq_getElem hi] at h
 ·intro h
  refine ⟨i, List.mem_filter.2 ⟨List.mem_range.2 hi, ?_⟩, rfl⟩
  unfold fireAt
  rwa [List.getElem?_eq_getElem hi]
theorem fires_law {s : List Tb} {l : List Tg} {k : Nat} {ev : Int} {old now : List Vl} (hk : k < s.length) {i : Nat} (hi : i < l.length) (hne : (firesL s l (k : Int) ev old now).length ≠ 0) :
  ((i : Int) ∈ firesL s l (k : Int) ev old now → (l[i].table.toList == s[k].name.toList && l[i].event == ev) = true) ∧
  ((l[i].table.toList == s[k].name.toList && l[i].event == ev) = true → l[i].wher.length = 0 → (i : Int) ∈ firesL s l (k : Int) ev old now) := by
 obtain ⟨t, ht, e⟩ : ∃ t, tabAt s (k : Int) = some t ∧ firesL s l (k : Int) ev old now = firesTo t ev old now l l.length := by
  unfold firesL at hne ⊢
  split at hne
  ·next h =>
   rw [if_pos h]
   cases htab : tabAt s (k : Int) with
   | none => rw [htab] at hne; exact absurd rfl hne
   | some t =>
    rw [htab] at hne
    simp only at hne ⊢
    split at hne
    ·next h2 => exact ⟨t, rfl, by rw [if_pos h2]⟩
    ·exact absurd rfl hne
  ·exact absurd rfl hne
 have ht2 : t = s[k] := by
  unfold tabAt at ht
  simpa [hk] using ht.symm
 subst ht2
 rw [e, fires_mem hi]
 unfold fireB
 constructor
 ·intro h
  simp only [Bool.and_eq_true] at h ⊢
  exact ⟨h.1, h.2.1⟩
 ·intro h h0
  simp only [Bool.and_eq_true] at h
  rw [h.1, h.2, decide_eq_true h0]; rfl
theorem fires_if {s : List Tb} {l : List Tg} {k : Nat} {ev : Int} {old now : List Vl} (hk : k < s.length) {i : Nat} (hi : i < l.length) {h f e : Bool} (hh : hasI (firesL s l (k : Int) ev old now) i = h) (hf : (l[i].table.toList == s[k].name.toList && l[i].event == ev) = f) (he : (((l[i].wher.length : Nat) : Int) == 0) = e) (hc : (h && !f || (f && e && !h)) = true) :
  (((firesL s l (k : Int) ev old now).length : Int) == 0) = true := by
 by_cases hne : (firesL s l (k : Int) ev old now).length = 0
 ·rw [hne]; rfl
 ·obtain ⟨h1, h2⟩ := fires_law (old := old) (now := now) (ev := ev) hk hi hne
  have hmem : h = true ↔ (i : Int) ∈ firesL s l (k : Int) ev old now := by rw [← hh]; unfold hasI; simp
  exfalso
  cases h
  ·cases f
   ·simp at hc
   ·cases e
    ·simp at hc
    ·have := hmem.2 (h2 hf (by simpa using he))
     cases this
  ·cases f
   ·have := h1 (hmem.1 rfl)
    rw [hf] at this
    cases this
   ·simp at hc
end Go.Proofs.YteiifabdbkpkiaaGreat
