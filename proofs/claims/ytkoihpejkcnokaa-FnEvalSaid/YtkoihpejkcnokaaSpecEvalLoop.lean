/-
  Contracts on the value of an expression, in the model.
-/
import Derived.Test.YtkoihpejkcnokaaTruth
import Derived.Test.YtkoihpejkcnokaaAppVals
import Derived.Deep.RegionHeld3
import Derived.Deep.DeepCutAuto
import Derived.Deep.CutRange
import Derived.IntWalk
namespace Go.Proofs.Ytkoihpejkcnokaa
open Go.RowKit

theorem evalB_dead {ts : List Tk} {row : List Vl} {k : Nat} (h : evalGo row (ts.take k) [] = none) : evalB ts row = none := by
  unfold evalB
  split
  · rw [evalGo_dead row ts k [] h]; rfl
  · rfl

theorem specTwo (k : Int) (hk : k = 3 ∨ k = 4 ∨ k = 5 ∨ k = 6 ∨ k = 9 ∨ k = 10) (a b : Vl) (w : World) (ha : a.ok = true) (hb : b.ok = true) :
    Calls Try.prog 61 #[.int .i64 k, .agg #[.int .i64 a.k, .int .i64 a.n, .string a.s], .agg #[.int .i64 b.k, .int .i64 b.n, .string b.s]] w (OptPost (op2 k a b) w) := by
  rcases hk with rfl | rfl | rfl | rfl | rfl | rfl
  · exact specTwo3 a b w
  · exact specTwo4 a b w
  · exact specTwo5 a b w
  · exact specTwo6 a b w
  · exact specTwo9 a b w ha hb
  · exact specTwo10 a b w ha hb
theorem specTwoNone (k : Int) (hk : k = 3 ∨ k = 4 ∨ k = 5 ∨ k = 6 ∨ k = 9 ∨ k = 10) (a b : Vl) (w : World) (ha : a.ok = true) (hb : b.ok = true) (ho : op2 k a b = none) :
    Calls Try.prog 61 #[.int .i64 k, .agg #[.int .i64 a.k, .int .i64 a.n, .string a.s], .agg #[.int .i64 b.k, .int .i64 b.n, .string b.s]] w fun e w' => ∃ v : Vl, e = .returned (.tuple #[.agg #[.int .i64 v.k, .int .i64 v.n, .string v.s], .bool false]) ∧ Below w.heap.size w w' :=
  (specTwo k hk a b w ha hb).mono fun e w' ⟨v, he, _, hbl⟩ => ⟨v, by rw [he, ho]; rfl, hbl⟩
theorem specTwoSome (k : Int) (hk : k = 3 ∨ k = 4 ∨ k = 5 ∨ k = 6 ∨ k = 9 ∨ k = 10) (a b v : Vl) (w : World) (ha : a.ok = true) (hb : b.ok = true) (ho : op2 k a b = some v) :
    Calls Try.prog 61 #[.int .i64 k, .agg #[.int .i64 a.k, .int .i64 a.n, .string a.s], .agg #[.int .i64 b.k, .int .i64 b.n, .string b.s]] w fun e w' => e = .returned (.tuple #[.agg #[.int .i64 v.k, .int .i64 v.n, .string v.s], .bool true]) ∧ Below w.heap.size w w' :=
  (specTwo k hk a b w ha hb).mono fun e w' ⟨x, he, hx, hbl⟩ => ⟨by rw [he, hx v ho, ho]; rfl, hbl⟩

theorem keep7 {w w' : World} {a0 a1 a2 a3 a4 a5 a6 : Addr} {v0 v1 v2 v3 v4 v5 v6 : Value} (h : w.cell? a0 = some v0 ∧ w.cell? a1 = some v1 ∧ w.cell? a2 = some v2 ∧ w.cell? a3 = some v3 ∧ w.cell? a4 = some v4 ∧ w.cell? a5 = some v5 ∧ w.cell? a6 = some v6) (hb : Below w.heap.size w w') : w'.cell? a0 = some v0 ∧ w'.cell? a1 = some v1 ∧ w'.cell? a2 = some v2 ∧ w'.cell? a3 = some v3 ∧ w'.cell? a4 = some v4 ∧ w'.cell? a5 = some v5 ∧ w'.cell? a6 = some v6 := by
  obtain ⟨h0, h1, h2, h3, h4, h5, h6⟩ := h
  exact ⟨(hb.cell (cell_lt h0)).trans h0, (hb.cell (cell_lt h1)).trans h1, (hb.cell (cell_lt h2)).trans h2, (hb.cell (cell_lt h3)).trans h3, (hb.cell (cell_lt h4)).trans h4, (hb.cell (cell_lt h5)).trans h5, (hb.cell (cell_lt h6)).trans h6⟩
theorem set_far {w : World} {g b i j : Nat} {x v : Value} (hne : b ≠ g) (h : w.cell? ⟨b, i, none⟩ = some v) : (w.setCell ⟨g, j, none⟩ x).cell? ⟨b, i, none⟩ = some v :=
  (World.cell?_of_block (w := w) (a := ⟨b, i, none⟩) (Below.heap_setCell w ⟨g, j, none⟩ x b hne)).trans h
theorem keep7s {w : World} {g b c i0 i1 i2 i3 i4 i5 i6 : Nat} {x y z v0 v1 v2 v3 v4 v5 v6 : Value} (hb : b ≠ g) (hc : c ≠ g)
    (h : w.cell? ⟨b, i0, none⟩ = some v0 ∧ w.cell? ⟨c, i1, none⟩ = some v1 ∧ w.cell? ⟨c, i2, none⟩ = some v2 ∧ w.cell? ⟨c, i3, none⟩ = some v3 ∧ w.cell? ⟨c, i4, none⟩ = some v4 ∧ w.cell? ⟨c, i5, none⟩ = some v5 ∧ w.cell? ⟨c, i6, none⟩ = some v6) :
    (((w.setCell ⟨g, 0, none⟩ x).setCell ⟨g, 1, none⟩ y).setCell ⟨g, 2, none⟩ z).cell? ⟨b, i0, none⟩ = some v0 ∧ (((w.setCell ⟨g, 0, none⟩ x).setCell ⟨g, 1, none⟩ y).setCell ⟨g, 2, none⟩ z).cell? ⟨c, i1, none⟩ = some v1 ∧ (((w.setCell ⟨g, 0, none⟩ x).setCell ⟨g, 1, none⟩ y).setCell ⟨g, 2, none⟩ z).cell? ⟨c, i2, none⟩ = some v2 ∧ (((w.setCell ⟨g, 0, none⟩ x).setCell ⟨g, 1, none⟩ y).setCell ⟨g, 2, none⟩ z).cell? ⟨c, i3, none⟩ = some v3 ∧ (((w.setCell ⟨g, 0, none⟩ x).setCell ⟨g, 1, none⟩ y).setCell ⟨g, 2, none⟩ z).cell? ⟨c, i4, none⟩ = some v4 ∧ (((w.setCell ⟨g, 0, none⟩ x).setCell ⟨g, 1, none⟩ y).setCell ⟨g, 2, none⟩ z).cell? ⟨c, i5, none⟩ = some v5 ∧ (((w.setCell ⟨g, 0, none⟩ x).setCell ⟨g, 1, none⟩ y).setCell ⟨g, 2, none⟩ z).cell? ⟨c, i6, none⟩ = some v6 := by
  obtain ⟨h0, h1, h2, h3, h4, h5, h6⟩ := h
  exact ⟨set_far hb (set_far hb (set_far hb h0)), set_far hc (set_far hc (set_far hc h1)), set_far hc (set_far hc (set_far hc h2)), set_far hc (set_far hc (set_far hc h3)), set_far hc (set_far hc (set_far hc h4)), set_far hc (set_far hc (set_far hc h5)), set_far hc (set_far hc (set_far hc h6))⟩

set_option maxRecDepth 100000 in
set_option maxHeartbeats 1000000 in
theorem specL2Eval (A R : Option Addr) (n m cap capR : Nat) (ts : List Tk) (row : List Vl) (w : World) (h : Toks w A n ts) (hr : Vals w R m row) (hn : n ≤ maxLen) (hm : m ≤ maxLen) (hrow : rowB row = true) (hex : exprB ts row.length = true) :
    Calls Try.prog 34 #[.slice A n cap, .slice R m capR] w (EvalPost (evalB ts row) w) := by
  obtain rfl : n = ts.length := h.len.symm
  obtain rfl : m = row.length := hr.len.symm
  have HR := Lib.hid hrow
  have HE := Lib.hid hex
  have h16 : row.length ≤ 16 := by simp [rowB] at hrow; exact hrow.1
  clear hrow hex
  obtain ⟨hgo, h24⟩ := exprB_go HE.out
  have HGO := Lib.hid hgo
  have hok : ∀ v ∈ row, v.ok = true := by have := HR.out; simp [rowB] at this; exact this.2
  have HOK := Lib.hid hok
  clear hgo hok
  go_enter Try.func34, Try.ntmps34
  go_wp2
  have rz := (Row.new w 30 #[.int .i64 0, .int .i64 0, .string ⟨#[]⟩]).alloc (.cells #[] 30)
  have hb0 := ((Below.refl w.heap.size w).alloc (Nat.le_refl _) (.cells #[.int .i64 0, .int .i64 0, .string ⟨#[]⟩] 30)).alloc (by simp only [size1]; omega) (.cells #[] 30)
  generalize (w.alloc (.cells #[.int .i64 0, .int .i64 0, .string ⟨#[]⟩] 30)).alloc (.cells #[] 30) = x0 at *
  go_loopw [6, 7] (fun s i wr => ∃ (k : Nat) (st : List Vl) (a : Addr) (c : Nat), k ≤ ts.length ∧ i = .int .i64 k ∧ s = .slice (some a) st.length c ∧ st.length ≤ c ∧ c ≤ maxLen ∧ st.length ≤ k ∧ Hid (a.spot = none) ∧ Hid (exprGo row.length (ts.take k) 0 = some st.length) ∧ Hid (evalGo row (ts.take k) [] = some st) ∧ Hid (∀ v ∈ st, v.ok = true) ∧
      Vals wr (some a) st.length st ∧ Row wr w.heap.size 30 #[.int .i64 0, .int .i64 0, .string ⟨#[]⟩] ∧ Below w.heap.size w wr) (fun _ i _ => ts.length - (intOf i).toNat)
  case atStart => exact ⟨0, [], ⟨w.heap.size + 1, 0, none⟩, 0, by omega, rfl, rfl, by simp, by simp [maxLen], by simp, Lib.hid rfl, Lib.hid (by simp [exprGo]), Lib.hid (by simp [evalGo]), Lib.hid (by simp), ⟨rfl, by simp, fun h => absurd h (by simp)⟩, rz, hb0⟩
  case round =>
    obtain ⟨k, st, a, c, hk, rfl, rfl, hlc, hcm, hlk, hasp, hexp, hev, hstok, hvals, hrz, hb⟩ := hrel
    by_cases hlt : k < ts.length
    · obtain ⟨b, off, rfl, c0, c1, c2, c3, c4⟩ := (h.below hb).at_ hlt
      obtain ⟨htok, htk, hexp2⟩ := right_at HGO.out hlt hexp.out
      have hev2 := evalGo_snoc row ts k hlt [] st hev.out
      have HEXP := Lib.hid hexp2
      have HEV := Lib.hid hev2
      have HTOK := Lib.hid htok
      clear hexp2 hev2 hexp hev htok
      generalize ts[k] = t at *
      obtain ⟨k0, tc, tvk, tvn, tvs⟩ := t
      simp only at c0 c1 c2 c3 c4 htk HEXP HEV HTOK
      by_cases hk2 : k0 = 2
      · skip
        subst hk2
        unfold maxLen at hcm
        have bl : b < wr.heap.size := cell_lt c0
        have bz0 := (Below.refl wr.heap.size wr).alloc (Nat.le_refl _) (.cells #[.int .i64 0, .int .i64 0, .string ⟨#[]⟩] 30)
        have e0 := (bz0.cell bl).trans c0
        have e2 := (bz0.cell bl).trans c2
        have e3 := (bz0.cell bl).trans c3
        have e4 := (bz0.cell bl).trans c4
        clear bz0
        go_wp2_with fail
        have rvx := Row.new wr 30 #[.int .i64 tvk, .int .i64 tvn, .string tvs]
        have bv := (Below.refl wr.heap.size wr).alloc (Nat.le_refl _) (.cells #[.int .i64 tvk, .int .i64 tvn, .string tvs] 30)
        have hv := hvals.below bv
        have hzx : wr.heap.size < (wr.alloc (.cells #[.int .i64 tvk, .int .i64 tvn, .string tvs] 30)).heap.size := by simp
        have hbx := hb.trans (bv.mono hb.size)
        have rzx := hrz.below bv
        generalize wr.alloc (.cells #[.int .i64 tvk, .int .i64 tvn, .string tvs] 30) = xt at *
        have hfr : st.length ≤ st.length := Nat.le_refl _
        have HFR := Lib.hid (show st.length = st.length - takes 2 by simp [takes])
        have HTV := Lib.hid (show tokVal row ⟨2, tc, tvk, tvn, tvs⟩ (st.drop (st.length - takes 2)) = some ⟨tvk, tvn, tvs⟩ by simp [tokVal])
        have i2 : IntKind.i64.wrap (st.length : Int) = st.length := IntWalk.i64_in _ (by omega)
        obtain ⟨⟨v0, v1, v2⟩, -⟩ := rvx.three
        have i1 : (st.length : Int) ≤ c := by omega
        have hbs : wr.heap.size ≤ xt.heap.size := by omega
        have Ra : Row (xt.alloc (.cells #[] 30)).drew xt.heap.size 30 #[] := Row.new xt 30 #[]
        have Rb : Row ((xt.alloc (.cells #[] 30)).alloc (.cells #[.int .i64 tvk, .int .i64 tvn, .string tvs] 30)).drew xt.heap.size 30 #[] := (Row.new xt 30 #[]).alloc _
        have Rc : Row ((xt.alloc (.cells #[.int .i64 tvk, .int .i64 tvn, .string tvs] 30)).alloc (.cells #[] 30)).drew (xt.heap.size + 1) 30 #[] := Row.newAt _ _ _ _ (by simp)
        have Sb : Row ((xt.alloc (.cells #[] 30)).alloc (.cells #[.int .i64 tvk, .int .i64 tvn, .string tvs] 30)).drew (xt.heap.size + 1) 30 #[.int .i64 tvk, .int .i64 tvn, .string tvs] := Row.newAt _ _ _ _ (by simp)
        have Sc : Row ((xt.alloc (.cells #[.int .i64 tvk, .int .i64 tvn, .string tvs] 30)).alloc (.cells #[] 30)).drew xt.heap.size 30 #[.int .i64 tvk, .int .i64 tvn, .string tvs] := (Row.new _ _ _).alloc _
        have Va : Vals (xt.alloc (.cells #[] 30)).drew (some a) st.length (st.take st.length) := (hv.below ((Below.refl _ xt).alloc (Nat.le_refl _) _)).take hfr
        have Vb : Vals ((xt.alloc (.cells #[] 30)).alloc (.cells #[.int .i64 tvk, .int .i64 tvn, .string tvs] 30)).drew (some a) st.length (st.take st.length) := (hv.below (((Below.refl _ xt).alloc (Nat.le_refl _) _).alloc (by simp) _)).take hfr
        have Vc : Vals ((xt.alloc (.cells #[.int .i64 tvk, .int .i64 tvn, .string tvs] 30)).alloc (.cells #[] 30)).drew (some a) st.length (st.take st.length) := (hv.below (((Below.refl _ xt).alloc (Nat.le_refl _) _).alloc (by simp) _)).take hfr
        have hlen24 : st.length ≤ 1000 := by omega
        go_region_held3 (fun w' => w'.cell? ⟨wr.heap.size, 0, none⟩ = some (.int .i64 tvk) ∧ w'.cell? ⟨wr.heap.size, 1, none⟩ = some (.int .i64 tvn) ∧ w'.cell? ⟨wr.heap.size, 2, none⟩ = some (.string tvs))
          (first | go_keep | ((with_reducible refine keep3 ?_ ((Below.refl _ _).alloc (Nat.le_refl _) _)); assumption) | ((with_reducible refine keep3g ?_ hg2 ?_ ?_ ?_) <;> first | assumption | (simp only; omega)) | ((with_reducible refine keep3g ?_ hg1 ?_ ?_ ?_) <;> first | assumption | (simp only; omega)))
          (first
            | ((with_reducible refine step_app_vals0 rfl _ _ rfl xt.heap.size xt.heap.size rfl Ra (by omega) a st.length c (st.take st.length) rfl hasp.out Va (by omega) (by first | (simp; done) | (simp; omega)) ?_); intro g1 cap1 w1 ho1 hg1 hb1)
            | ((with_reducible refine step_app_vals0 rfl _ _ rfl xt.heap.size xt.heap.size rfl Rb (by omega) a st.length c (st.take st.length) rfl hasp.out Vb (by omega) (by first | (simp; done) | (simp; omega)) ?_); intro g1 cap1 w1 ho1 hg1 hb1)
            | ((with_reducible refine step_app_vals0 rfl _ _ rfl xt.heap.size (xt.heap.size + 1) rfl Rc (by omega) a st.length c (st.take st.length) rfl hasp.out Vc (by omega) (by first | (simp; done) | (simp; omega)) ?_); intro g1 cap1 w1 ho1 hg1 hb1)
            | ((with_reducible refine step_app_vals rfl _ _ rfl xt.heap.size g1 _ cap1 _ rfl (ho1.alloc _) _ 1 1 [(⟨tvk, tvn, tvs⟩ : Vl)] rfl rfl (vals_one (Row.new _ _ _)) (by omega) (by have := hg1.size; simp at this ⊢; omega) ?_); intro g2 cap2 w2 ho2 hg2 hb2)
            | ((with_reducible refine step_app_vals rfl _ _ rfl xt.heap.size g1 _ cap1 _ rfl ho1 _ 1 1 [(⟨tvk, tvn, tvs⟩ : Vl)] rfl rfl (vals_one (grown_row hg1 Sb (by omega))) (by omega) (by have := hg1.size; simp at this ⊢; omega) ?_); intro g2 cap2 w2 ho2 hg2 hb2)
            | ((with_reducible refine step_app_vals rfl _ _ rfl xt.heap.size g1 _ cap1 _ rfl ho1 _ 1 1 [(⟨tvk, tvn, tvs⟩ : Vl)] rfl rfl (vals_one (grown_row hg1 Sc (by omega))) (by omega) (by have := hg1.size; simp at this ⊢; omega) ?_); intro g2 cap2 w2 ho2 hg2 hb2))
        all_goals
          have bz : Below xt.heap.size xt w2 := by
            have hs1 := hg1.size
            simp at hs1
            first
            | exact ((Below.refl _ xt).alloc (Nat.le_refl _) _).drew.trans ((grown_below hg1 (by omega) (by simp)).trans (((Below.refl _ w1).alloc (by omega) _).trans (grown_below hg2 (by omega) (by simp; omega))))
            | exact (((Below.refl _ xt).alloc (Nat.le_refl _) _).alloc (by simp) _).drew.trans ((grown_below hg1 (by omega) (by simp; omega)).trans (grown_below hg2 (by omega) (by omega)))
          have hbz := hbx.trans (bz.mono hbx.size)
          have rzz := rzx.below bz
          have hl1 : (st.take st.length).length = st.length := by rw [List.length_take]; omega
          have hl2 : (st.take st.length ++ [(⟨tvk, tvn, tvs⟩ : Vl)]).length = st.length + 1 := by rw [List.length_append, hl1]; rfl
          obtain ⟨hvz, hcz, hcz2⟩ := ho2.vals hl2
          have HL := Lib.hid hl2
          have hsz := bz.size
          clear hl1 hl2 ho2 ho1 hg1 hg2 hv rvx Ra Rb Rc Sb Sc Va Vb Vc v0 v1 v2 c0 c1 c2 c3 c4 i1 i2
          go_wp2_with fail
          go_roundw
          case rel =>
            refine ⟨k + 1, st.take st.length ++ [(⟨tvk, tvn, tvs⟩ : Vl)], ⟨g2, 0, none⟩, cap2, by omega, by go_num, by rw [HL.out], by rw [HL.out]; exact hcz, hcz2, by rw [HL.out]; omega, Lib.hid rfl, Lib.hid ?_, Lib.hid ?_, Lib.hid ?_, by rw [HL.out]; exact hvz, rzz, hbz⟩
            · rw [HL.out, HFR.out]; exact HEXP.out
            · rw [HEV.out, evalStep_some HTV.out]; exact congrArg (fun m => some (List.take m st ++ [(⟨tvk, tvn, tvs⟩ : Vl)])) HFR.out.symm
            · intro u hu
              rw [List.mem_append, List.mem_singleton] at hu
              rcases hu with hu | rfl
              · exact hstok.out u (List.mem_of_mem_take hu)
              · exact tokVal_ok HOK.out HTOK.out HTV.out
          case measure => simp [intOf]; omega
      have d2 : (k0 == 2) = false := by simpa using hk2
      by_cases hk1 : k0 = 1
      · skip
        subst hk1
        unfold maxLen at hcm
        have bl : b < wr.heap.size := cell_lt c0
        have bz0 := (Below.refl wr.heap.size wr).alloc (Nat.le_refl _) (.cells #[.int .i64 0, .int .i64 0, .string ⟨#[]⟩] 30)
        have e0 := (bz0.cell bl).trans c0
        have e1 := (bz0.cell bl).trans c1
        obtain ⟨hj0, hj1⟩ : 0 ≤ tc ∧ tc < row.length := by have := HTOK.out; simp [tokB] at this; exact ⟨this.1, this.2.1⟩
        obtain ⟨j, rfl⟩ : ∃ j : Nat, tc = (j : Int) := ⟨tc.toNat, by omega⟩
        have hjr : j < row.length := by omega
        obtain ⟨br, ofr, rfl, r0, r1, r2⟩ := ((hr.below hb).below bz0).at_ hjr
        clear bz0
        go_wp2_with fail
        have rvx := Row.new wr 30 #[.int .i64 row[j].k, .int .i64 row[j].n, .string row[j].s]
        have bv := (Below.refl wr.heap.size wr).alloc (Nat.le_refl _) (.cells #[.int .i64 row[j].k, .int .i64 row[j].n, .string row[j].s] 30)
        have hv := hvals.below bv
        have hzx : wr.heap.size < (wr.alloc (.cells #[.int .i64 row[j].k, .int .i64 row[j].n, .string row[j].s] 30)).heap.size := by simp
        have hbx := hb.trans (bv.mono hb.size)
        have rzx := hrz.below bv
        generalize wr.alloc (.cells #[.int .i64 row[j].k, .int .i64 row[j].n, .string row[j].s] 30) = xt at *
        have hfr : st.length ≤ st.length := Nat.le_refl _
        have HFR := Lib.hid (show st.length = st.length - takes 1 by simp [takes])
        have HTV := Lib.hid (show tokVal row ⟨1, j, tvk, tvn, tvs⟩ (st.drop (st.length - takes 1)) = some row[j] by simp [tokVal, List.getElem?_eq_getElem hjr])
        have i2 : IntKind.i64.wrap (st.length : Int) = st.length := IntWalk.i64_in _ (by omega)
        generalize row[j] = v at *
        clear r0 r1 r2
        obtain ⟨⟨v0, v1, v2⟩, -⟩ := rvx.three
        have i1 : (st.length : Int) ≤ c := by omega
        have hbs : wr.heap.size ≤ xt.heap.size := by omega
        have Ra : Row (xt.alloc (.cells #[] 30)).drew xt.heap.size 30 #[] := Row.new xt 30 #[]
        have Rb : Row ((xt.alloc (.cells #[] 30)).alloc (.cells #[.int .i64 v.k, .int .i64 v.n, .string v.s] 30)).drew xt.heap.size 30 #[] := (Row.new xt 30 #[]).alloc _
        have Rc : Row ((xt.alloc (.cells #[.int .i64 v.k, .int .i64 v.n, .string v.s] 30)).alloc (.cells #[] 30)).drew (xt.heap.size + 1) 30 #[] := Row.newAt _ _ _ _ (by simp)
        have Sb : Row ((xt.alloc (.cells #[] 30)).alloc (.cells #[.int .i64 v.k, .int .i64 v.n, .string v.s] 30)).drew (xt.heap.size + 1) 30 #[.int .i64 v.k, .int .i64 v.n, .string v.s] := Row.newAt _ _ _ _ (by simp)
        have Sc : Row ((xt.alloc (.cells #[.int .i64 v.k, .int .i64 v.n, .string v.s] 30)).alloc (.cells #[] 30)).drew xt.heap.size 30 #[.int .i64 v.k, .int .i64 v.n, .string v.s] := (Row.new _ _ _).alloc _
        have Va : Vals (xt.alloc (.cells #[] 30)).drew (some a) st.length (st.take st.length) := (hv.below ((Below.refl _ xt).alloc (Nat.le_refl _) _)).take hfr
        have Vb : Vals ((xt.alloc (.cells #[] 30)).alloc (.cells #[.int .i64 v.k, .int .i64 v.n, .string v.s] 30)).drew (some a) st.length (st.take st.length) := (hv.below (((Below.refl _ xt).alloc (Nat.le_refl _) _).alloc (by simp) _)).take hfr
        have Vc : Vals ((xt.alloc (.cells #[.int .i64 v.k, .int .i64 v.n, .string v.s] 30)).alloc (.cells #[] 30)).drew (some a) st.length (st.take st.length) := (hv.below (((Below.refl _ xt).alloc (Nat.le_refl _) _).alloc (by simp) _)).take hfr
        have hlen24 : st.length ≤ 1000 := by omega
        go_region_held3 (fun w' => w'.cell? ⟨wr.heap.size, 0, none⟩ = some (.int .i64 v.k) ∧ w'.cell? ⟨wr.heap.size, 1, none⟩ = some (.int .i64 v.n) ∧ w'.cell? ⟨wr.heap.size, 2, none⟩ = some (.string v.s))
          (first | go_keep | ((with_reducible refine keep3 ?_ ((Below.refl _ _).alloc (Nat.le_refl _) _)); assumption) | ((with_reducible refine keep3g ?_ hg2 ?_ ?_ ?_) <;> first | assumption | (simp only; omega)) | ((with_reducible refine keep3g ?_ hg1 ?_ ?_ ?_) <;> first | assumption | (simp only; omega)))
          (first
            | ((with_reducible refine step_app_vals0 rfl _ _ rfl xt.heap.size xt.heap.size rfl Ra (by omega) a st.length c (st.take st.length) rfl hasp.out Va (by omega) (by first | (simp; done) | (simp; omega)) ?_); intro g1 cap1 w1 ho1 hg1 hb1)
            | ((with_reducible refine step_app_vals0 rfl _ _ rfl xt.heap.size xt.heap.size rfl Rb (by omega) a st.length c (st.take st.length) rfl hasp.out Vb (by omega) (by first | (simp; done) | (simp; omega)) ?_); intro g1 cap1 w1 ho1 hg1 hb1)
            | ((with_reducible refine step_app_vals0 rfl _ _ rfl xt.heap.size (xt.heap.size + 1) rfl Rc (by omega) a st.length c (st.take st.length) rfl hasp.out Vc (by omega) (by first | (simp; done) | (simp; omega)) ?_); intro g1 cap1 w1 ho1 hg1 hb1)
            | ((with_reducible refine step_app_vals rfl _ _ rfl xt.heap.size g1 _ cap1 _ rfl (ho1.alloc _) _ 1 1 [v] rfl rfl (vals_one (Row.new _ _ _)) (by omega) (by have := hg1.size; simp at this ⊢; omega) ?_); intro g2 cap2 w2 ho2 hg2 hb2)
            | ((with_reducible refine step_app_vals rfl _ _ rfl xt.heap.size g1 _ cap1 _ rfl ho1 _ 1 1 [v] rfl rfl (vals_one (grown_row hg1 Sb (by omega))) (by omega) (by have := hg1.size; simp at this ⊢; omega) ?_); intro g2 cap2 w2 ho2 hg2 hb2)
            | ((with_reducible refine step_app_vals rfl _ _ rfl xt.heap.size g1 _ cap1 _ rfl ho1 _ 1 1 [v] rfl rfl (vals_one (grown_row hg1 Sc (by omega))) (by omega) (by have := hg1.size; simp at this ⊢; omega) ?_); intro g2 cap2 w2 ho2 hg2 hb2))
        all_goals
          have bz : Below xt.heap.size xt w2 := by
            have hs1 := hg1.size
            simp at hs1
            first
            | exact ((Below.refl _ xt).alloc (Nat.le_refl _) _).drew.trans ((grown_below hg1 (by omega) (by simp)).trans (((Below.refl _ w1).alloc (by omega) _).trans (grown_below hg2 (by omega) (by simp; omega))))
            | exact (((Below.refl _ xt).alloc (Nat.le_refl _) _).alloc (by simp) _).drew.trans ((grown_below hg1 (by omega) (by simp; omega)).trans (grown_below hg2 (by omega) (by omega)))
          have hbz := hbx.trans (bz.mono hbx.size)
          have rzz := rzx.below bz
          have hl1 : (st.take st.length).length = st.length := by rw [List.length_take]; omega
          have hl2 : (st.take st.length ++ [v]).length = st.length + 1 := by rw [List.length_append, hl1]; rfl
          obtain ⟨hvz, hcz, hcz2⟩ := ho2.vals hl2
          have HL := Lib.hid hl2
          have hsz := bz.size
          clear hl1 hl2 ho2 ho1 hg1 hg2 hv rvx Ra Rb Rc Sb Sc Va Vb Vc v0 v1 v2 c0 c1 c2 c3 c4 i1 i2
          go_wp2_with fail
          go_roundw
          case rel =>
            refine ⟨k + 1, st.take st.length ++ [v], ⟨g2, 0, none⟩, cap2, by omega, by go_num, by rw [HL.out], by rw [HL.out]; exact hcz, hcz2, by rw [HL.out]; omega, Lib.hid rfl, Lib.hid ?_, Lib.hid ?_, Lib.hid ?_, by rw [HL.out]; exact hvz, rzz, hbz⟩
            · rw [HL.out, HFR.out]; exact HEXP.out
            · rw [HEV.out, evalStep_some HTV.out]; exact congrArg (fun m => some (List.take m st ++ [v])) HFR.out.symm
            · intro u hu
              rw [List.mem_append, List.mem_singleton] at hu
              rcases hu with hu | rfl
              · exact hstok.out u (List.mem_of_mem_take hu)
              · exact tokVal_ok HOK.out HTOK.out HTV.out
          case measure => simp [intOf]; omega
      have d1 : (k0 == 1) = false := by simpa using hk1
      by_cases hk8 : k0 = 8
      · skip
        subst hk8
        unfold maxLen at hcm
        have ht1 : 1 ≤ st.length := by simpa [takes] using htk
        obtain ⟨fr, hfr1⟩ : ∃ fr, fr = st.length - 1 := ⟨_, rfl⟩
        have hfrl : fr < st.length := by omega
        have bl : b < wr.heap.size := cell_lt c0
        have bz0 := (Below.refl wr.heap.size wr).alloc (Nat.le_refl _) (.cells #[.int .i64 0, .int .i64 0, .string ⟨#[]⟩] 30)
        have e0 := (bz0.cell bl).trans c0
        obtain ⟨bs, ofs, ea, s0, s1, s2⟩ := (hvals.below bz0).at_ hfrl
        obtain rfl : a = ⟨bs, ofs, none⟩ := by simpa using ea
        clear ea
        have HFR := Lib.hid (show fr = st.length - takes 8 by rw [hfr1]; simp [takes])
        have hfr : fr ≤ st.length := by omega
        have i2 : IntKind.i64.wrap ((st.length : Int) - 1) = (fr : Int) := by rw [IntWalk.i64_in _ (by omega)]; omega
        have i3 : (0 : Int) ≤ fr := by omega
        have i4 : (fr : Int) < st.length := by omega
        have hdr : st.drop (st.length - takes 8) = [st[fr]] := by
          rw [← HFR.out, List.drop_eq_getElem_cons hfrl, List.drop_eq_nil_of_le (by omega)]
        have HTV := Lib.hid (show tokVal row ⟨8, tc, tvk, tvn, tvs⟩ (st.drop (st.length - takes 8)) = some ⟨1, yes (st[fr].k == 0), ⟨#[]⟩⟩ by
          rw [hdr]; rcases yes01 (st[fr].k == 0) with h | h <;> simp [tokVal, opOf, op1, asOpt, asVl, h])
        clear hdr hfr1
        have HS := Lib.hid hfrl
        generalize st[fr] = q at *
        have rz1 := Row.new wr 30 #[.int .i64 0, .int .i64 0, .string ⟨#[]⟩]
        go_wp2_with fail
        refine (specYes _ _).mono ?_
        rintro e y1 ⟨rfl, rfl⟩
        generalize yes (q.k == 0) = yq at *
        go_wp2_with fail
        refine (specInt _ _).mono ?_
        rintro e y2 ⟨rfl, o, rfl⟩
        go_wp2_with fail
        have rvx := (Row.new wr 30 #[.int .i64 1, .int .i64 yq, .string ⟨#[]⟩]).alloc o
        have bv := ((Below.refl wr.heap.size wr).alloc (Nat.le_refl _) (.cells #[.int .i64 1, .int .i64 yq, .string ⟨#[]⟩] 30)).alloc (by simp) o
        have hv := hvals.below bv
        have hzx : wr.heap.size < ((wr.alloc (.cells #[.int .i64 1, .int .i64 yq, .string ⟨#[]⟩] 30)).alloc o).heap.size := by simp; try omega
        have hbx := hb.trans (bv.mono hb.size)
        have rzx := hrz.below bv
        generalize (wr.alloc (.cells #[.int .i64 1, .int .i64 yq, .string ⟨#[]⟩] 30)).alloc o = xt at *
        clear rz1 s0 s1 s2 e0 bz0
        obtain ⟨⟨v0, v1, v2⟩, -⟩ := rvx.three
        have i1 : (fr : Int) ≤ c := by omega
        have hbs : wr.heap.size ≤ xt.heap.size := by omega
        have Ra : Row (xt.alloc (.cells #[] 30)).drew xt.heap.size 30 #[] := Row.new xt 30 #[]
        have Rb : Row ((xt.alloc (.cells #[] 30)).alloc (.cells #[.int .i64 1, .int .i64 yq, .string ⟨#[]⟩] 30)).drew xt.heap.size 30 #[] := (Row.new xt 30 #[]).alloc _
        have Rc : Row ((xt.alloc (.cells #[.int .i64 1, .int .i64 yq, .string ⟨#[]⟩] 30)).alloc (.cells #[] 30)).drew (xt.heap.size + 1) 30 #[] := Row.newAt _ _ _ _ (by simp)
        have Sb : Row ((xt.alloc (.cells #[] 30)).alloc (.cells #[.int .i64 1, .int .i64 yq, .string ⟨#[]⟩] 30)).drew (xt.heap.size + 1) 30 #[.int .i64 1, .int .i64 yq, .string ⟨#[]⟩] := Row.newAt _ _ _ _ (by simp)
        have Sc : Row ((xt.alloc (.cells #[.int .i64 1, .int .i64 yq, .string ⟨#[]⟩] 30)).alloc (.cells #[] 30)).drew xt.heap.size 30 #[.int .i64 1, .int .i64 yq, .string ⟨#[]⟩] := (Row.new _ _ _).alloc _
        have Va : Vals (xt.alloc (.cells #[] 30)).drew (some ⟨bs, ofs, none⟩) fr (st.take fr) := (hv.below ((Below.refl _ xt).alloc (Nat.le_refl _) _)).take hfr
        have Vb : Vals ((xt.alloc (.cells #[] 30)).alloc (.cells #[.int .i64 1, .int .i64 yq, .string ⟨#[]⟩] 30)).drew (some ⟨bs, ofs, none⟩) fr (st.take fr) := (hv.below (((Below.refl _ xt).alloc (Nat.le_refl _) _).alloc (by simp) _)).take hfr
        have Vc : Vals ((xt.alloc (.cells #[.int .i64 1, .int .i64 yq, .string ⟨#[]⟩] 30)).alloc (.cells #[] 30)).drew (some ⟨bs, ofs, none⟩) fr (st.take fr) := (hv.below (((Below.refl _ xt).alloc (Nat.le_refl _) _).alloc (by simp) _)).take hfr
        have hlen24 : fr ≤ 1000 := by omega
        go_region_held3 (fun w' => w'.cell? ⟨wr.heap.size, 0, none⟩ = some (.int .i64 1) ∧ w'.cell? ⟨wr.heap.size, 1, none⟩ = some (.int .i64 yq) ∧ w'.cell? ⟨wr.heap.size, 2, none⟩ = some (.string ⟨#[]⟩))
          (first | go_keep | ((with_reducible refine keep3 ?_ ((Below.refl _ _).alloc (Nat.le_refl _) _)); assumption) | ((with_reducible refine keep3g ?_ hg2 ?_ ?_ ?_) <;> first | assumption | (simp only; omega)) | ((with_reducible refine keep3g ?_ hg1 ?_ ?_ ?_) <;> first | assumption | (simp only; omega)))
          (first
            | ((with_reducible refine step_app_vals0 rfl _ _ rfl xt.heap.size xt.heap.size rfl Ra (by omega) ⟨bs, ofs, none⟩ fr c (st.take fr) rfl rfl Va (by omega) (by first | (simp; done) | (simp; omega)) ?_); intro g1 cap1 w1 ho1 hg1 hb1)
            | ((with_reducible refine step_app_vals0 rfl _ _ rfl xt.heap.size xt.heap.size rfl Rb (by omega) ⟨bs, ofs, none⟩ fr c (st.take fr) rfl rfl Vb (by omega) (by first | (simp; done) | (simp; omega)) ?_); intro g1 cap1 w1 ho1 hg1 hb1)
            | ((with_reducible refine step_app_vals0 rfl _ _ rfl xt.heap.size (xt.heap.size + 1) rfl Rc (by omega) ⟨bs, ofs, none⟩ fr c (st.take fr) rfl rfl Vc (by omega) (by first | (simp; done) | (simp; omega)) ?_); intro g1 cap1 w1 ho1 hg1 hb1)
            | ((with_reducible refine step_app_vals rfl _ _ rfl xt.heap.size g1 _ cap1 _ rfl (ho1.alloc _) _ 1 1 [(⟨1, yq, ⟨#[]⟩⟩ : Vl)] rfl rfl (vals_one (Row.new _ _ _)) (by omega) (by have := hg1.size; simp at this ⊢; omega) ?_); intro g2 cap2 w2 ho2 hg2 hb2)
            | ((with_reducible refine step_app_vals rfl _ _ rfl xt.heap.size g1 _ cap1 _ rfl ho1 _ 1 1 [(⟨1, yq, ⟨#[]⟩⟩ : Vl)] rfl rfl (vals_one (grown_row hg1 Sb (by omega))) (by omega) (by have := hg1.size; simp at this ⊢; omega) ?_); intro g2 cap2 w2 ho2 hg2 hb2)
            | ((with_reducible refine step_app_vals rfl _ _ rfl xt.heap.size g1 _ cap1 _ rfl ho1 _ 1 1 [(⟨1, yq, ⟨#[]⟩⟩ : Vl)] rfl rfl (vals_one (grown_row hg1 Sc (by omega))) (by omega) (by have := hg1.size; simp at this ⊢; omega) ?_); intro g2 cap2 w2 ho2 hg2 hb2))
        all_goals
          have bz : Below xt.heap.size xt w2 := by
            have hs1 := hg1.size
            simp at hs1
            first
            | exact ((Below.refl _ xt).alloc (Nat.le_refl _) _).drew.trans ((grown_below hg1 (by omega) (by simp)).trans (((Below.refl _ w1).alloc (by omega) _).trans (grown_below hg2 (by omega) (by simp; omega))))
            | exact (((Below.refl _ xt).alloc (Nat.le_refl _) _).alloc (by simp) _).drew.trans ((grown_below hg1 (by omega) (by simp; omega)).trans (grown_below hg2 (by omega) (by omega)))
          have hbz := hbx.trans (bz.mono hbx.size)
          have rzz := rzx.below bz
          have hl1 : (st.take fr).length = fr := by rw [List.length_take]; omega
          have hl2 : (st.take fr ++ [(⟨1, yq, ⟨#[]⟩⟩ : Vl)]).length = fr + 1 := by rw [List.length_append, hl1]; rfl
          obtain ⟨hvz, hcz, hcz2⟩ := ho2.vals hl2
          have HL := Lib.hid hl2
          have hsz := bz.size
          clear hl1 hl2 ho2 ho1 hg1 hg2 hv rvx Ra Rb Rc Sb Sc Va Vb Vc v0 v1 v2 c0 c1 c2 c3 c4 i1 i2
          go_wp2_with fail
          go_roundw
          case rel =>
            refine ⟨k + 1, st.take fr ++ [(⟨1, yq, ⟨#[]⟩⟩ : Vl)], ⟨g2, 0, none⟩, cap2, by omega, by go_num, by rw [HL.out], by rw [HL.out]; exact hcz, hcz2, by rw [HL.out]; omega, Lib.hid rfl, Lib.hid ?_, Lib.hid ?_, Lib.hid ?_, by rw [HL.out]; exact hvz, rzz, hbz⟩
            · rw [HL.out, HFR.out]; exact HEXP.out
            · rw [HEV.out, evalStep_some HTV.out]; exact congrArg (fun m => some (List.take m st ++ [(⟨1, yq, ⟨#[]⟩⟩ : Vl)])) HFR.out.symm
            · intro u hu
              rw [List.mem_append, List.mem_singleton] at hu
              rcases hu with hu | rfl
              · exact hstok.out u (List.mem_of_mem_take hu)
              · exact tokVal_ok HOK.out HTOK.out HTV.out
          case measure => simp [intOf]; omega
      have d8 : (k0 == 8) = false := by simpa using hk8
      by_cases hk7 : k0 = 7
      · skip
        subst hk7
        unfold maxLen at hcm
        have ht1 : 1 ≤ st.length := by simpa [takes] using htk
        obtain ⟨fr, hfr1⟩ : ∃ fr, fr = st.length - 1 := ⟨_, rfl⟩
        have hfrl : fr < st.length := by omega
        have bl : b < wr.heap.size := cell_lt c0
        have bz0 := (Below.refl wr.heap.size wr).alloc (Nat.le_refl _) (.cells #[.int .i64 0, .int .i64 0, .string ⟨#[]⟩] 30)
        have e0 := (bz0.cell bl).trans c0
        obtain ⟨bs, ofs, ea, s0, s1, s2⟩ := (hvals.below bz0).at_ hfrl
        obtain rfl : a = ⟨bs, ofs, none⟩ := by simpa using ea
        clear ea
        have HFR := Lib.hid (show fr = st.length - takes 7 by rw [hfr1]; simp [takes])
        have hfr : fr ≤ st.length := by omega
        have i2 : IntKind.i64.wrap ((st.length : Int) - 1) = (fr : Int) := by rw [IntWalk.i64_in _ (by omega)]; omega
        have i3 : (0 : Int) ≤ fr := by omega
        have i4 : (fr : Int) < st.length := by omega
        have hdr : st.drop (st.length - takes 7) = [st[fr]] := by
          rw [← HFR.out, List.drop_eq_getElem_cons hfrl, List.drop_eq_nil_of_le (by omega)]
        have hqok := hstok.out _ (List.getElem_mem hfrl)
        have HDR := Lib.hid hdr
        have HQ := Lib.hid hqok
        clear hdr hfr1 hqok
        have HS := Lib.hid hfrl
        generalize st[fr] = q at *
        have rz1 := Row.new wr 30 #[.int .i64 0, .int .i64 0, .string ⟨#[]⟩]
        cases htr : truS q
        · have HT := Lib.hid htr
          clear htr
          have HTV := Lib.hid (show tokVal row ⟨7, tc, tvk, tvn, tvs⟩ (st.drop (st.length - takes 7)) = none by
            have h1 : truOf q = -1 := by simpa [truS] using HT.out
            rw [HDR.out]; simp [tokVal, opOf, op1, h1, not3, asOpt])
          go_wp2_with fail
          refine (specOf q _).mono ?_
          rintro e y1 ⟨rfl, hb1⟩
          rw [HT.out]
          have rz2 := rz1.below hb1
          have bz1 := bz0.trans (hb1.mono bz0.size)
          go_wp2_with fail
          refine (specNot3 _ _).mono ?_
          rintro e y2 ⟨rfl, rfl⟩
          go_wp2_with fail
          refine (specAs _ _).mono ?_
          rintro e y3 ⟨rfl, hb3⟩
          have rz3 := rz2.below hb3
          have bz3 := bz1.trans (hb3.mono bz1.size)
          obtain ⟨⟨g0, g1, g2⟩, ⟨g3, g4, g5⟩⟩ := rz3.three
          generalize asVl (not3 (truN q)) = v at *
          have rzf := hrz.below bz3
          obtain ⟨⟨f0, f1, f2⟩, ⟨f3, f4, f5⟩⟩ := rzf.three
          have hne : w.heap.size ≠ wr.heap.size := by have := lt_of_block hrz; omega
          go_wp2_with fail
          have rzz : Row ((((((y3.setCell ⟨wr.heap.size, 0, none⟩ (.int .i64 v.k)).setCell ⟨wr.heap.size, 1, none⟩ (.int .i64 v.n)).setCell ⟨wr.heap.size, 2, none⟩ (.string v.s)).setCell ⟨w.heap.size, 0, none⟩ (.int .i64 0)).setCell ⟨w.heap.size, 1, none⟩ (.int .i64 0)).setCell ⟨w.heap.size, 2, none⟩ (.string ⟨#[]⟩)) w.heap.size 30 #[.int .i64 0, .int .i64 0, .string ⟨#[]⟩] := (((((rzf.far hne _).far hne _).far hne _).set 0 _).set 1 _).set 2 _
          obtain ⟨⟨z0, z1, z2⟩, -⟩ := rzz.three
          have hz := hb.trans (bz3.mono hb.size)
          have HN := evalB_dead (row := row) (ts := ts) (k := k + 1) (by rw [HEV.out, evalStep_none HTV.out])
          have HNN := Lib.hid HN
          clear HN
          refine bodyPost_ret (v := .tuple #[.agg #[.int .i64 0, .int .i64 0, .string ⟨#[]⟩], .bool false]) (by simp [results, Try.results34, go_sem, z0, z1, z2]) rfl ⟨by rw [HNN.out]; rfl, ?_⟩
          have hq := hb.size
          repeat (first | with_reducible exact hz | with_reducible refine Below.drew ?_ | with_reducible refine Below.setCell ?_ (by simp; omega) _ | with_reducible refine Below.setCell ?_ (by simp) _)
        · have HT := Lib.hid htr
          clear htr
          have HTV := Lib.hid (show tokVal row ⟨7, tc, tvk, tvn, tvs⟩ (st.drop (st.length - takes 7)) = some (asVl (not3 (truN q))) by
            have h1 : ¬ truOf q = -1 := by simpa [truS] using HT.out
            have h2 : truN q = truOf q := by simp [truN, h1]
            have h3 : ¬ not3 (truOf q) = -1 := by rcases truOf_cases HQ.out with ⟨_, h⟩ | ⟨_, h | h⟩ | ⟨_, h⟩ <;> rw [h] <;> first | decide | exact absurd h h1
            rw [HDR.out, h2]; simp [tokVal, opOf, op1, asOpt, h3])
          go_wp2_with fail
          refine (specOf q _).mono ?_
          rintro e y1 ⟨rfl, hb1⟩
          rw [HT.out]
          have rz2 := rz1.below hb1
          have bz1 := bz0.trans (hb1.mono bz0.size)
          go_wp2_with fail
          refine (specNot3 _ _).mono ?_
          rintro e y2 ⟨rfl, rfl⟩
          go_wp2_with fail
          refine (specAs _ _).mono ?_
          rintro e y3 ⟨rfl, hb3⟩
          have rz3 := rz2.below hb3
          have bz3 := bz1.trans (hb3.mono bz1.size)
          obtain ⟨⟨g0, g1, g2⟩, ⟨g3, g4, g5⟩⟩ := rz3.three
          generalize asVl (not3 (truN q)) = v at *
          go_wp2_with fail
          have rvx := ((rz3.set 0 (.int .i64 v.k)).set 1 (.int .i64 v.n)).set 2 (.string v.s)
          have bv := ((bz3.setCell (p := ⟨wr.heap.size, 0, none⟩) (Nat.le_refl _) (.int .i64 v.k)).setCell (p := ⟨wr.heap.size, 1, none⟩) (Nat.le_refl _) (.int .i64 v.n)).setCell (p := ⟨wr.heap.size, 2, none⟩) (Nat.le_refl _) (.string v.s)
          have hv := hvals.below bv
          have hzx : wr.heap.size < (((y3.setCell ⟨wr.heap.size, 0, none⟩ (.int .i64 v.k)).setCell ⟨wr.heap.size, 1, none⟩ (.int .i64 v.n)).setCell ⟨wr.heap.size, 2, none⟩ (.string v.s)).heap.size := by have := lt_of_block rz3; simp; exact this
          have hbx := hb.trans (bv.mono hb.size)
          have rzx := hrz.below bv
          generalize ((y3.setCell ⟨wr.heap.size, 0, none⟩ (.int .i64 v.k)).setCell ⟨wr.heap.size, 1, none⟩ (.int .i64 v.n)).setCell ⟨wr.heap.size, 2, none⟩ (.string v.s) = xt at *
          clear rz1 rz2 rz3 g0 g1 g2 g3 g4 g5 s0 s1 s2 e0 bz0 bz1 bz3
          obtain ⟨⟨v0, v1, v2⟩, -⟩ := rvx.three
          have i1 : (fr : Int) ≤ c := by omega
          have hbs : wr.heap.size ≤ xt.heap.size := by omega
          have Ra : Row (xt.alloc (.cells #[] 30)).drew xt.heap.size 30 #[] := Row.new xt 30 #[]
          have Rb : Row ((xt.alloc (.cells #[] 30)).alloc (.cells #[.int .i64 v.k, .int .i64 v.n, .string v.s] 30)).drew xt.heap.size 30 #[] := (Row.new xt 30 #[]).alloc _
          have Rc : Row ((xt.alloc (.cells #[.int .i64 v.k, .int .i64 v.n, .string v.s] 30)).alloc (.cells #[] 30)).drew (xt.heap.size + 1) 30 #[] := Row.newAt _ _ _ _ (by simp)
          have Sb : Row ((xt.alloc (.cells #[] 30)).alloc (.cells #[.int .i64 v.k, .int .i64 v.n, .string v.s] 30)).drew (xt.heap.size + 1) 30 #[.int .i64 v.k, .int .i64 v.n, .string v.s] := Row.newAt _ _ _ _ (by simp)
          have Sc : Row ((xt.alloc (.cells #[.int .i64 v.k, .int .i64 v.n, .string v.s] 30)).alloc (.cells #[] 30)).drew xt.heap.size 30 #[.int .i64 v.k, .int .i64 v.n, .string v.s] := (Row.new _ _ _).alloc _
          have Va : Vals (xt.alloc (.cells #[] 30)).drew (some ⟨bs, ofs, none⟩) fr (st.take fr) := (hv.below ((Below.refl _ xt).alloc (Nat.le_refl _) _)).take hfr
          have Vb : Vals ((xt.alloc (.cells #[] 30)).alloc (.cells #[.int .i64 v.k, .int .i64 v.n, .string v.s] 30)).drew (some ⟨bs, ofs, none⟩) fr (st.take fr) := (hv.below (((Below.refl _ xt).alloc (Nat.le_refl _) _).alloc (by simp) _)).take hfr
          have Vc : Vals ((xt.alloc (.cells #[.int .i64 v.k, .int .i64 v.n, .string v.s] 30)).alloc (.cells #[] 30)).drew (some ⟨bs, ofs, none⟩) fr (st.take fr) := (hv.below (((Below.refl _ xt).alloc (Nat.le_refl _) _).alloc (by simp) _)).take hfr
          have hlen24 : fr ≤ 1000 := by omega
          go_region_held3 (fun w' => w'.cell? ⟨wr.heap.size, 0, none⟩ = some (.int .i64 v.k) ∧ w'.cell? ⟨wr.heap.size, 1, none⟩ = some (.int .i64 v.n) ∧ w'.cell? ⟨wr.heap.size, 2, none⟩ = some (.string v.s))
            (first | go_keep | ((with_reducible refine keep3 ?_ ((Below.refl _ _).alloc (Nat.le_refl _) _)); assumption) | ((with_reducible refine keep3g ?_ hg2 ?_ ?_ ?_) <;> first | assumption | (simp only; omega)) | ((with_reducible refine keep3g ?_ hg1 ?_ ?_ ?_) <;> first | assumption | (simp only; omega)))
            (first
              | ((with_reducible refine step_app_vals0 rfl _ _ rfl xt.heap.size xt.heap.size rfl Ra (by omega) ⟨bs, ofs, none⟩ fr c (st.take fr) rfl rfl Va (by omega) (by first | (simp; done) | (simp; omega)) ?_); intro g1 cap1 w1 ho1 hg1 hb1)
              | ((with_reducible refine step_app_vals0 rfl _ _ rfl xt.heap.size xt.heap.size rfl Rb (by omega) ⟨bs, ofs, none⟩ fr c (st.take fr) rfl rfl Vb (by omega) (by first | (simp; done) | (simp; omega)) ?_); intro g1 cap1 w1 ho1 hg1 hb1)
              | ((with_reducible refine step_app_vals0 rfl _ _ rfl xt.heap.size (xt.heap.size + 1) rfl Rc (by omega) ⟨bs, ofs, none⟩ fr c (st.take fr) rfl rfl Vc (by omega) (by first | (simp; done) | (simp; omega)) ?_); intro g1 cap1 w1 ho1 hg1 hb1)
              | ((with_reducible refine step_app_vals rfl _ _ rfl xt.heap.size g1 _ cap1 _ rfl (ho1.alloc _) _ 1 1 [v] rfl rfl (vals_one (Row.new _ _ _)) (by omega) (by have := hg1.size; simp at this ⊢; omega) ?_); intro g2 cap2 w2 ho2 hg2 hb2)
              | ((with_reducible refine step_app_vals rfl _ _ rfl xt.heap.size g1 _ cap1 _ rfl ho1 _ 1 1 [v] rfl rfl (vals_one (grown_row hg1 Sb (by omega))) (by omega) (by have := hg1.size; simp at this ⊢; omega) ?_); intro g2 cap2 w2 ho2 hg2 hb2)
              | ((with_reducible refine step_app_vals rfl _ _ rfl xt.heap.size g1 _ cap1 _ rfl ho1 _ 1 1 [v] rfl rfl (vals_one (grown_row hg1 Sc (by omega))) (by omega) (by have := hg1.size; simp at this ⊢; omega) ?_); intro g2 cap2 w2 ho2 hg2 hb2))
          all_goals
            have bz : Below xt.heap.size xt w2 := by
              have hs1 := hg1.size
              simp at hs1
              first
              | exact ((Below.refl _ xt).alloc (Nat.le_refl _) _).drew.trans ((grown_below hg1 (by omega) (by simp)).trans (((Below.refl _ w1).alloc (by omega) _).trans (grown_below hg2 (by omega) (by simp; omega))))
              | exact (((Below.refl _ xt).alloc (Nat.le_refl _) _).alloc (by simp) _).drew.trans ((grown_below hg1 (by omega) (by simp; omega)).trans (grown_below hg2 (by omega) (by omega)))
            have hbz := hbx.trans (bz.mono hbx.size)
            have rzz := rzx.below bz
            have hl1 : (st.take fr).length = fr := by rw [List.length_take]; omega
            have hl2 : (st.take fr ++ [v]).length = fr + 1 := by rw [List.length_append, hl1]; rfl
            obtain ⟨hvz, hcz, hcz2⟩ := ho2.vals hl2
            have HL := Lib.hid hl2
            have hsz := bz.size
            clear hl1 hl2 ho2 ho1 hg1 hg2 hv rvx Ra Rb Rc Sb Sc Va Vb Vc v0 v1 v2 c0 c1 c2 c3 c4 i1 i2
            go_wp2_with fail
            go_roundw
            case rel =>
              refine ⟨k + 1, st.take fr ++ [v], ⟨g2, 0, none⟩, cap2, by omega, by go_num, by rw [HL.out], by rw [HL.out]; exact hcz, hcz2, by rw [HL.out]; omega, Lib.hid rfl, Lib.hid ?_, Lib.hid ?_, Lib.hid ?_, by rw [HL.out]; exact hvz, rzz, hbz⟩
              · rw [HL.out, HFR.out]; exact HEXP.out
              · rw [HEV.out, evalStep_some HTV.out]; exact congrArg (fun m => some (List.take m st ++ [v])) HFR.out.symm
              · intro u hu
                rw [List.mem_append, List.mem_singleton] at hu
                rcases hu with hu | rfl
                · exact hstok.out u (List.mem_of_mem_take hu)
                · exact tokVal_ok HOK.out HTOK.out HTV.out
            case measure => simp [intOf]; omega
      have d7 : (k0 == 7) = false := by simpa using hk7
      unfold maxLen at hcm
      have hkk : k0 = 3 ∨ k0 = 4 ∨ k0 = 5 ∨ k0 = 6 ∨ k0 = 9 ∨ k0 = 10 := by
        have := HTOK.out; unfold tokB isOpB at this; simp only [hk1, hk2, if_false] at this; split at this
        · rename_i h; simp at h; omega
        · cases this
      have htk2 : takes k0 = 2 := by unfold takes; rw [if_neg (by omega), if_pos hkk]
      have ht1 : 2 ≤ st.length := by rw [htk2] at htk; exact htk
      obtain ⟨f2, hf2⟩ : ∃ f2, f2 = st.length - 2 := ⟨_, rfl⟩
      obtain ⟨f1, hf1⟩ : ∃ f1, f1 = st.length - 1 := ⟨_, rfl⟩
      have hf2l : f2 < st.length := by omega
      have hf1l : f1 < st.length := by omega
      have bl : b < wr.heap.size := cell_lt c0
      have bz0 := (Below.refl wr.heap.size wr).alloc (Nat.le_refl _) (.cells #[.int .i64 0, .int .i64 0, .string ⟨#[]⟩] 30)
      have e0 := (bz0.cell bl).trans c0
      obtain ⟨bs, ofs, ea, s0, s1, s2⟩ := (hvals.below bz0).at_ hf2l
      obtain rfl : a = ⟨bs, ofs, none⟩ := by simpa using ea
      clear ea
      obtain ⟨bs', ofs', ea, s3, s4, s5⟩ := (hvals.below bz0).at_ hf1l
      obtain ⟨rfl, rfl⟩ : bs = bs' ∧ ofs = ofs' := by simpa using ea
      clear ea
      have HFR := Lib.hid (show f2 = st.length - takes k0 by rw [htk2]; exact hf2)
      have hfr : f2 ≤ st.length := by omega
      have i2 : IntKind.i64.wrap ((st.length : Int) - 2) = (f2 : Int) := by rw [IntWalk.i64_in _ (by omega)]; omega
      have i2b : IntKind.i64.wrap ((st.length : Int) - 1) = (f1 : Int) := by rw [IntWalk.i64_in _ (by omega)]; omega
      have i3 : (0 : Int) ≤ f2 := by omega
      have i4 : (f2 : Int) < st.length := by omega
      have i5 : (0 : Int) ≤ f1 := by omega
      have i6 : (f1 : Int) < st.length := by omega
      have i7 : (0 : Int) ≤ k := by omega
      have i8 : (k : Int) < ts.length := by omega
      have hdr : st.drop (st.length - takes k0) = [st[f2], st[f1]] := by
        have e1 : f1 = f2 + 1 := by omega
        subst e1
        rw [← HFR.out, List.drop_eq_getElem_cons hf2l, List.drop_eq_getElem_cons hf1l, List.drop_eq_nil_of_le (by omega)]
      have hpok := hstok.out _ (List.getElem_mem hf2l)
      have hqok := hstok.out _ (List.getElem_mem hf1l)
      have HT0 := Lib.hid (show tokVal row ⟨k0, tc, tvk, tvn, tvs⟩ (st.drop (st.length - takes k0)) = op2 k0 st[f2] st[f1] by rw [hdr]; simp [tokVal, opOf, hk1, hk2])
      clear hdr hf1 hf2 htk2
      have HPK := Lib.hid hpok
      have HQK := Lib.hid hqok
      clear hpok hqok
      generalize st[f2] = p at *
      generalize st[f1] = q at *
      have rz1 := Row.new wr 30 #[.int .i64 0, .int .i64 0, .string ⟨#[]⟩]
      have hbs : bs < wr.heap.size := by
        obtain ⟨b', o', e', hc'⟩ := hvals.2.2 (by omega)
        cases e'
        have := hc' 0 (by simp; omega) 0 (by simp [Vl.cells])
        exact cell_lt this
      have hnb : b ≠ wr.heap.size := by omega
      have hns : bs ≠ wr.heap.size := by omega
      have HKK := Lib.hid hkk
      clear hkk
      cases hop : op2 k0 p q
      · have HOP := Lib.hid hop
        clear hop
        have HTV := Lib.hid (HT0.out.trans HOP.out)
        go_wp2_with fail
        have rzf0 := hrz.below bz0
        generalize wr.alloc (.cells #[.int .i64 0, .int .i64 0, .string ⟨#[]⟩] 30) = y0 at *
        go_region_held3 (fun w' => w'.cell? ⟨b, off + k * 5, none⟩ = some (.int .i64 k0) ∧ w'.cell? ⟨bs, ofs + f2 * 3, none⟩ = some (.int .i64 p.k) ∧ w'.cell? ⟨bs, ofs + f2 * 3 + 1, none⟩ = some (.int .i64 p.n) ∧ w'.cell? ⟨bs, ofs + f2 * 3 + 2, none⟩ = some (.string p.s) ∧ w'.cell? ⟨bs, ofs + f1 * 3, none⟩ = some (.int .i64 q.k) ∧ w'.cell? ⟨bs, ofs + f1 * 3 + 1, none⟩ = some (.int .i64 q.n) ∧ w'.cell? ⟨bs, ofs + f1 * 3 + 2, none⟩ = some (.string q.s))
          (first | go_keep | exact keep7 (by assumption) hbA | ((with_reducible refine keep7s hnb hns ?_); assumption))
          (first | (go_at_call 61; refine (specTwoNone k0 HKK.out p q _ HPK.out HQK.out HOP.out).mono ?_; rintro e yA ⟨v, rfl, hbA⟩; have rzA := rz1.drew.below hbA; have rfA := rzf0.drew.below hbA; obtain ⟨⟨g0, g1, g2⟩, ⟨g3, g4, g5⟩⟩ := rzA.three; obtain ⟨⟨f0, f1', f2'⟩, ⟨f3, f4, f5⟩⟩ := rfA.three))
        have hne : w.heap.size ≠ wr.heap.size := by have := lt_of_block hrz; omega
        have bzA := bz0.drew.trans (hbA.mono bz0.size)
        go_wp2_with fail
        have rzz : Row ((((((yA.setCell ⟨wr.heap.size, 0, none⟩ (.int .i64 v.k)).setCell ⟨wr.heap.size, 1, none⟩ (.int .i64 v.n)).setCell ⟨wr.heap.size, 2, none⟩ (.string v.s)).setCell ⟨w.heap.size, 0, none⟩ (.int .i64 0)).setCell ⟨w.heap.size, 1, none⟩ (.int .i64 0)).setCell ⟨w.heap.size, 2, none⟩ (.string ⟨#[]⟩)) w.heap.size 30 #[.int .i64 0, .int .i64 0, .string ⟨#[]⟩] := (((((rfA.far hne _).far hne _).far hne _).set 0 _).set 1 _).set 2 _
        obtain ⟨⟨z0, z1, z2⟩, -⟩ := rzz.three
        have hz := hb.trans (bzA.mono hb.size)
        have HN := evalB_dead (row := row) (ts := ts) (k := k + 1) (by rw [HEV.out, evalStep_none HTV.out])
        have HNN := Lib.hid HN
        clear HN
        refine bodyPost_ret (v := .tuple #[.agg #[.int .i64 0, .int .i64 0, .string ⟨#[]⟩], .bool false]) (by simp [results, Try.results34, go_sem, z0, z1, z2]) rfl ⟨by rw [HNN.out]; rfl, ?_⟩
        have hq := hb.size
        repeat (first | with_reducible exact hz | with_reducible refine Below.drew ?_ | with_reducible refine Below.setCell ?_ (by simp; omega) _ | with_reducible refine Below.setCell ?_ (by simp) _)
      · rename_i v
        have HOP := Lib.hid hop
        clear hop
        have HTV := Lib.hid (HT0.out.trans HOP.out)
        go_wp2_with fail
        have rzf0 := hrz.below bz0
        generalize wr.alloc (.cells #[.int .i64 0, .int .i64 0, .string ⟨#[]⟩] 30) = y0 at *
        go_region_held3 (fun w' => w'.cell? ⟨b, off + k * 5, none⟩ = some (.int .i64 k0) ∧ w'.cell? ⟨bs, ofs + f2 * 3, none⟩ = some (.int .i64 p.k) ∧ w'.cell? ⟨bs, ofs + f2 * 3 + 1, none⟩ = some (.int .i64 p.n) ∧ w'.cell? ⟨bs, ofs + f2 * 3 + 2, none⟩ = some (.string p.s) ∧ w'.cell? ⟨bs, ofs + f1 * 3, none⟩ = some (.int .i64 q.k) ∧ w'.cell? ⟨bs, ofs + f1 * 3 + 1, none⟩ = some (.int .i64 q.n) ∧ w'.cell? ⟨bs, ofs + f1 * 3 + 2, none⟩ = some (.string q.s))
          (first | go_keep | exact keep7 (by assumption) hbA | ((with_reducible refine keep7s hnb hns ?_); assumption))
          (first | (go_at_call 61; refine (specTwoSome k0 HKK.out p q v _ HPK.out HQK.out HOP.out).mono ?_; rintro e yA ⟨rfl, hbA⟩; have rzA := rz1.drew.below hbA; have rfA := rzf0.drew.below hbA; obtain ⟨⟨g0, g1, g2⟩, ⟨g3, g4, g5⟩⟩ := rzA.three; obtain ⟨⟨f0, f1', f2'⟩, ⟨f3, f4, f5⟩⟩ := rfA.three))
        have bzA := bz0.drew.trans (hbA.mono bz0.size)
        go_wp2_with fail
        have rvx := ((rzA.set 0 (.int .i64 v.k)).set 1 (.int .i64 v.n)).set 2 (.string v.s)
        have bv := ((bzA.setCell (p := ⟨wr.heap.size, 0, none⟩) (Nat.le_refl _) (.int .i64 v.k)).setCell (p := ⟨wr.heap.size, 1, none⟩) (Nat.le_refl _) (.int .i64 v.n)).setCell (p := ⟨wr.heap.size, 2, none⟩) (Nat.le_refl _) (.string v.s)
        have hv := hvals.below bv
        have hzx : wr.heap.size < (((yA.setCell ⟨wr.heap.size, 0, none⟩ (.int .i64 v.k)).setCell ⟨wr.heap.size, 1, none⟩ (.int .i64 v.n)).setCell ⟨wr.heap.size, 2, none⟩ (.string v.s)).heap.size := by have := lt_of_block rzA; simp; exact this
        have hbx := hb.trans (bv.mono hb.size)
        have rzx := hrz.below bv
        generalize ((yA.setCell ⟨wr.heap.size, 0, none⟩ (.int .i64 v.k)).setCell ⟨wr.heap.size, 1, none⟩ (.int .i64 v.n)).setCell ⟨wr.heap.size, 2, none⟩ (.string v.s) = xt at *
        clear rz1 rzA rfA rzf0 g0 g1 g2 g3 g4 g5 f0 f1' f2' f3 f4 f5 s0 s1 s2 s3 s4 s5 e0 bz0 bzA
        obtain ⟨⟨v0, v1, v2⟩, -⟩ := rvx.three
        have i1 : (f2 : Int) ≤ c := by omega
        have hbs : wr.heap.size ≤ xt.heap.size := by omega
        have Ra : Row (xt.alloc (.cells #[] 30)).drew xt.heap.size 30 #[] := Row.new xt 30 #[]
        have Rb : Row ((xt.alloc (.cells #[] 30)).alloc (.cells #[.int .i64 v.k, .int .i64 v.n, .string v.s] 30)).drew xt.heap.size 30 #[] := (Row.new xt 30 #[]).alloc _
        have Rc : Row ((xt.alloc (.cells #[.int .i64 v.k, .int .i64 v.n, .string v.s] 30)).alloc (.cells #[] 30)).drew (xt.heap.size + 1) 30 #[] := Row.newAt _ _ _ _ (by simp)
        have Sb : Row ((xt.alloc (.cells #[] 30)).alloc (.cells #[.int .i64 v.k, .int .i64 v.n, .string v.s] 30)).drew (xt.heap.size + 1) 30 #[.int .i64 v.k, .int .i64 v.n, .string v.s] := Row.newAt _ _ _ _ (by simp)
        have Sc : Row ((xt.alloc (.cells #[.int .i64 v.k, .int .i64 v.n, .string v.s] 30)).alloc (.cells #[] 30)).drew xt.heap.size 30 #[.int .i64 v.k, .int .i64 v.n, .string v.s] := (Row.new _ _ _).alloc _
        have Va : Vals (xt.alloc (.cells #[] 30)).drew (some ⟨bs, ofs, none⟩) f2 (st.take f2) := (hv.below ((Below.refl _ xt).alloc (Nat.le_refl _) _)).take hfr
        have Vb : Vals ((xt.alloc (.cells #[] 30)).alloc (.cells #[.int .i64 v.k, .int .i64 v.n, .string v.s] 30)).drew (some ⟨bs, ofs, none⟩) f2 (st.take f2) := (hv.below (((Below.refl _ xt).alloc (Nat.le_refl _) _).alloc (by simp) _)).take hfr
        have Vc : Vals ((xt.alloc (.cells #[.int .i64 v.k, .int .i64 v.n, .string v.s] 30)).alloc (.cells #[] 30)).drew (some ⟨bs, ofs, none⟩) f2 (st.take f2) := (hv.below (((Below.refl _ xt).alloc (Nat.le_refl _) _).alloc (by simp) _)).take hfr
        have hlen24 : f2 ≤ 1000 := by omega
        go_region_held3 (fun w' => w'.cell? ⟨wr.heap.size, 0, none⟩ = some (.int .i64 v.k) ∧ w'.cell? ⟨wr.heap.size, 1, none⟩ = some (.int .i64 v.n) ∧ w'.cell? ⟨wr.heap.size, 2, none⟩ = some (.string v.s))
          (first | go_keep | ((with_reducible refine keep3 ?_ ((Below.refl _ _).alloc (Nat.le_refl _) _)); assumption) | ((with_reducible refine keep3g ?_ hg2 ?_ ?_ ?_) <;> first | assumption | (simp only; omega)) | ((with_reducible refine keep3g ?_ hg1 ?_ ?_ ?_) <;> first | assumption | (simp only; omega)))
          (first
            | ((with_reducible refine step_app_vals0 rfl _ _ rfl xt.heap.size xt.heap.size rfl Ra (by omega) ⟨bs, ofs, none⟩ f2 c (st.take f2) rfl rfl Va (by omega) (by first | (simp; done) | (simp; omega)) ?_); intro g1 cap1 w1 ho1 hg1 hb1)
            | ((with_reducible refine step_app_vals0 rfl _ _ rfl xt.heap.size xt.heap.size rfl Rb (by omega) ⟨bs, ofs, none⟩ f2 c (st.take f2) rfl rfl Vb (by omega) (by first | (simp; done) | (simp; omega)) ?_); intro g1 cap1 w1 ho1 hg1 hb1)
            | ((with_reducible refine step_app_vals0 rfl _ _ rfl xt.heap.size (xt.heap.size + 1) rfl Rc (by omega) ⟨bs, ofs, none⟩ f2 c (st.take f2) rfl rfl Vc (by omega) (by first | (simp; done) | (simp; omega)) ?_); intro g1 cap1 w1 ho1 hg1 hb1)
            | ((with_reducible refine step_app_vals rfl _ _ rfl xt.heap.size g1 _ cap1 _ rfl (ho1.alloc _) _ 1 1 [v] rfl rfl (vals_one (Row.new _ _ _)) (by omega) (by have := hg1.size; simp at this ⊢; omega) ?_); intro g2 cap2 w2 ho2 hg2 hb2)
            | ((with_reducible refine step_app_vals rfl _ _ rfl xt.heap.size g1 _ cap1 _ rfl ho1 _ 1 1 [v] rfl rfl (vals_one (grown_row hg1 Sb (by omega))) (by omega) (by have := hg1.size; simp at this ⊢; omega) ?_); intro g2 cap2 w2 ho2 hg2 hb2)
            | ((with_reducible refine step_app_vals rfl _ _ rfl xt.heap.size g1 _ cap1 _ rfl ho1 _ 1 1 [v] rfl rfl (vals_one (grown_row hg1 Sc (by omega))) (by omega) (by have := hg1.size; simp at this ⊢; omega) ?_); intro g2 cap2 w2 ho2 hg2 hb2))
        all_goals
          have bz : Below xt.heap.size xt w2 := by
            have hs1 := hg1.size
            simp at hs1
            first
            | exact ((Below.refl _ xt).alloc (Nat.le_refl _) _).drew.trans ((grown_below hg1 (by omega) (by simp)).trans (((Below.refl _ w1).alloc (by omega) _).trans (grown_below hg2 (by omega) (by simp; omega))))
            | exact (((Below.refl _ xt).alloc (Nat.le_refl _) _).alloc (by simp) _).drew.trans ((grown_below hg1 (by omega) (by simp; omega)).trans (grown_below hg2 (by omega) (by omega)))
          have hbz := hbx.trans (bz.mono hbx.size)
          have rzz := rzx.below bz
          have hl1 : (st.take f2).length = f2 := by rw [List.length_take]; omega
          have hl2 : (st.take f2 ++ [v]).length = f2 + 1 := by rw [List.length_append, hl1]; rfl
          obtain ⟨hvz, hcz, hcz2⟩ := ho2.vals hl2
          have HL := Lib.hid hl2
          have hsz := bz.size
          clear hl1 hl2 ho2 ho1 hg1 hg2 hv rvx Ra Rb Rc Sb Sc Va Vb Vc v0 v1 v2 c0 c1 c2 c3 c4 i1 i2
          go_wp2_with fail
          go_roundw
          case rel =>
            refine ⟨k + 1, st.take f2 ++ [v], ⟨g2, 0, none⟩, cap2, by omega, by go_num, by rw [HL.out], by rw [HL.out]; exact hcz, hcz2, by rw [HL.out]; omega, Lib.hid rfl, Lib.hid ?_, Lib.hid ?_, Lib.hid ?_, by rw [HL.out]; exact hvz, rzz, hbz⟩
            · rw [HL.out, HFR.out]; exact HEXP.out
            · rw [HEV.out, evalStep_some HTV.out]; exact congrArg (fun m => some (List.take m st ++ [v])) HFR.out.symm
            · intro u hu
              rw [List.mem_append, List.mem_singleton] at hu
              rcases hu with hu | rfl
              · exact hstok.out u (List.mem_of_mem_take hu)
              · exact tokVal_ok HOK.out HTOK.out HTV.out
          case measure => simp [intOf]; omega
    · have e : ts.take k = ts := List.take_of_length_le (by omega)
      have hx := hexp.out
      rw [e] at hx
      have hl1 : st.length = 1 := by have := HGO.out; rw [hx] at this; simpa using this
      have hev' := hev.out
      rw [e] at hev'
      have h0 : 0 < st.length := by omega
      obtain ⟨bs, ofs, ea, s0, s1, s2⟩ := hvals.at_ h0
      obtain rfl : a = ⟨bs, ofs, none⟩ := by simpa using ea
      have hB : evalB ts row = some st[0] := by
        unfold evalB
        rw [if_pos (by rw [Bool.and_eq_true]; exact ⟨HR.out, HE.out⟩), hev']
        simp [h0]
      have HB := Lib.hid hB
      clear hB hev' hx e hl1 ea
      generalize st[0] = v at *
      rw [Nat.zero_mul, Nat.add_zero] at s0 s1 s2
      obtain ⟨⟨f0, f1, f2⟩, ⟨f3, f4, f5⟩⟩ := hrz.three
      have rzz : Row (((wr.setCell ⟨w.heap.size, 0, none⟩ (.int .i64 v.k)).setCell ⟨w.heap.size, 1, none⟩ (.int .i64 v.n)).setCell ⟨w.heap.size, 2, none⟩ (.string v.s)) w.heap.size 30 #[.int .i64 v.k, .int .i64 v.n, .string v.s] := ((hrz.set 0 _).set 1 _).set 2 _
      obtain ⟨⟨z0, z1, z2⟩, -⟩ := rzz.three
      clear rzz
      go_wp2_with fail
      refine bodyPost_ret (v := .tuple #[.agg #[.int .i64 v.k, .int .i64 v.n, .string v.s], .bool true]) (by simp [results, Try.results34, go_sem, z0, z1, z2]) rfl ⟨by rw [HB.out]; rfl, ?_⟩
      repeat (first | with_reducible exact hb | with_reducible refine Below.drew ?_ | with_reducible refine Below.setCell ?_ (by simp; omega) _ | with_reducible refine Below.setCell ?_ (by simp) _)
end Go.Proofs.Ytkoihpejkcnokaa
