/-
  Contracts on the value of an expression, in the program.
-/
import Derived.Test.YtakhcgkhjmfndaaGreatEval2
import Derived.Deep.DeepMust
namespace Go.Proofs.YtakhcgkhjmfndaaGreat
open Go.RowKit

theorem keep8 {w w' : World} {a0 a1 a2 a3 a4 a5 a6 a7 : Addr} {v0 v1 v2 v3 v4 v5 v6 v7 : Value} (h : w.cell? a0 = some v0 ∧ w.cell? a1 = some v1 ∧ w.cell? a2 = some v2 ∧ w.cell? a3 = some v3 ∧ w.cell? a4 = some v4 ∧ w.cell? a5 = some v5 ∧ w.cell? a6 = some v6 ∧ w.cell? a7 = some v7) (hb : Below w.heap.size w w') : w'.cell? a0 = some v0 ∧ w'.cell? a1 = some v1 ∧ w'.cell? a2 = some v2 ∧ w'.cell? a3 = some v3 ∧ w'.cell? a4 = some v4 ∧ w'.cell? a5 = some v5 ∧ w'.cell? a6 = some v6 ∧ w'.cell? a7 = some v7 := by
  obtain ⟨h0, h1, h2, h3, h4, h5, h6, h7⟩ := h
  exact ⟨(hb.cell (cell_lt h0)).trans h0, (hb.cell (cell_lt h1)).trans h1, (hb.cell (cell_lt h2)).trans h2, (hb.cell (cell_lt h3)).trans h3, (hb.cell (cell_lt h4)).trans h4, (hb.cell (cell_lt h5)).trans h5, (hb.cell (cell_lt h6)).trans h6, (hb.cell (cell_lt h7)).trans h7⟩

theorem keep8s {w : World} {g b c i0 i1 i2 i3 i4 i5 i6 i7 : Nat} {x y z v0 v1 v2 v3 v4 v5 v6 v7 : Value} (hne : g ≠ b) (hne2 : g ≠ c)
    (h : w.cell? ⟨b, i0, none⟩ = some v0 ∧ w.cell? ⟨b, i1, none⟩ = some v1 ∧ w.cell? ⟨b, i2, none⟩ = some v2 ∧ w.cell? ⟨c, i3, none⟩ = some v3 ∧ w.cell? ⟨c, i4, none⟩ = some v4 ∧ w.cell? ⟨c, i5, none⟩ = some v5 ∧ w.cell? ⟨c, i6, none⟩ = some v6 ∧ w.cell? ⟨c, i7, none⟩ = some v7) :
    (((w.setCell ⟨g, 0, none⟩ x).setCell ⟨g, 1, none⟩ y).setCell ⟨g, 2, none⟩ z).cell? ⟨b, i0, none⟩ = some v0 ∧ (((w.setCell ⟨g, 0, none⟩ x).setCell ⟨g, 1, none⟩ y).setCell ⟨g, 2, none⟩ z).cell? ⟨b, i1, none⟩ = some v1 ∧
    (((w.setCell ⟨g, 0, none⟩ x).setCell ⟨g, 1, none⟩ y).setCell ⟨g, 2, none⟩ z).cell? ⟨b, i2, none⟩ = some v2 ∧ (((w.setCell ⟨g, 0, none⟩ x).setCell ⟨g, 1, none⟩ y).setCell ⟨g, 2, none⟩ z).cell? ⟨c, i3, none⟩ = some v3 ∧
    (((w.setCell ⟨g, 0, none⟩ x).setCell ⟨g, 1, none⟩ y).setCell ⟨g, 2, none⟩ z).cell? ⟨c, i4, none⟩ = some v4 ∧ (((w.setCell ⟨g, 0, none⟩ x).setCell ⟨g, 1, none⟩ y).setCell ⟨g, 2, none⟩ z).cell? ⟨c, i5, none⟩ = some v5 ∧
    (((w.setCell ⟨g, 0, none⟩ x).setCell ⟨g, 1, none⟩ y).setCell ⟨g, 2, none⟩ z).cell? ⟨c, i6, none⟩ = some v6 ∧ (((w.setCell ⟨g, 0, none⟩ x).setCell ⟨g, 1, none⟩ y).setCell ⟨g, 2, none⟩ z).cell? ⟨c, i7, none⟩ = some v7 :=
  ⟨stayThree hne h.1, stayThree hne h.2.1, stayThree hne h.2.2.1, stayThree hne2 h.2.2.2.1, stayThree hne2 h.2.2.2.2.1, stayThree hne2 h.2.2.2.2.2.1, stayThree hne2 h.2.2.2.2.2.2.1, stayThree hne2 h.2.2.2.2.2.2.2⟩

theorem ops_at (k : Nat) (h : k < 11) : ∃ o0 o2, opsCells[k * 3]? = some o0 ∧ opsCells[k * 3 + 2]? = some o2 := by
  have hs : opsCells.size = 33 := rfl
  exact ⟨opsCells[k * 3], opsCells[k * 3 + 2], Array.getElem?_eq_getElem (by omega), Array.getElem?_eq_getElem (by omega)⟩

theorem Vals.drew {w : World} {A : Option Addr} {n : Nat} {vs : List Vl} (h : Vals w A n vs) : Vals w.drew A n vs := h

theorem implTokValueM (kk : Nat) (hk : 1 ≤ kk ∧ kk ≤ 10) (a0 a1 a2 : Value) (h2 : opsCells[kk * 3 + 2]? = some a2) (c vk vn : Int) (vs : ByteArray) (A B : Option Addr) (cap capB m : Nat) (hm : m = takes kk) (row xs : List Vl) (w : World)
    (htok : tokB ⟨kk, c, vk, vn, vs⟩ row.length = true) (hr : Vals w A row.length row) (hx : Vals w B m xs) (hok : ∀ v ∈ xs, v.ok = true) :
    Calls Tryz.prog 101 #[.agg #[a0, a1, a2], .agg #[.int .i64 kk, .int .i64 c, .int .i64 vk, .int .i64 vn, .string vs], .slice A row.length cap, .slice B m capB] w (OptPost (tokVal row ⟨kk, c, vk, vn, vs⟩ xs) w) := by
  subst hm
  exact implTokValue kk hk a0 a1 a2 h2 ⟨kk, c, vk, vn, vs⟩ rfl A B cap capB row xs w htok hr hx hok

/-- The answer of a value, zero where there is none. -/
def EvalPost (o : Option Vl) (w : World) (e : Ending) (w' : World) : Prop := e = .returned (.tuple #[.agg #[.int .i64 (o.getD Vl.zero).k, .int .i64 (o.getD Vl.zero).n, .string (o.getD Vl.zero).s], .bool o.isSome]) ∧ Below w.heap.size w w'

set_option maxRecDepth 100000 in
set_option maxHeartbeats 1000000 in
theorem implEval (A R : Option Addr) (n m cap capR : Nat) (ts : List Tk) (row : List Vl) (w : World) (h : Toks w A n ts) (hr : Vals w R m row) (hn : n ≤ maxLen) (hm : m ≤ maxLen) :
    Calls Tryz.prog 85 #[.slice A n cap, .slice R m capR] w (EvalPost (evalB ts row) w) := by
  obtain rfl : n = ts.length := h.len.symm
  obtain rfl : m = row.length := hr.len.symm
  have rr := Row.new w 57 #[.int .i64 0, .int .i64 0, .string ⟨#[]⟩]
  have hb0 := (Below.refl w.heap.size w).alloc (Nat.le_refl _) (.cells #[.int .i64 0, .int .i64 0, .string ⟨#[]⟩] 57)
  have h0 := h.below hb0
  have hr0 := hr.below hb0
  cases hrow : rowB row
  · have HR := Lib.hid hrow
    have HV := Lib.hid (show evalB ts row = none by simp [evalB, hrow])
    clear hrow
    go_enter Tryz.func85, Tryz.ntmps85
    go_wp2_with fail
    generalize w.alloc (.cells #[.int .i64 0, .int .i64 0, .string ⟨#[]⟩] 57) = x at *
    refine (implSeenOk _ _ _ row _ hr0 hm).mono ?_
    rintro e w1 ⟨rfl, hb1⟩
    rw [HR.out]
    obtain ⟨⟨z0, z1, z2⟩, ⟨z3, z4, z5⟩⟩ := (rr.below hb1).three
    have hz := hb0.trans (hb1.mono hb0.size)
    clear rr
    go_wp2_with fail
    refine bodyPost_ret (v := .tuple #[.agg #[.int .i64 0, .int .i64 0, .string ⟨#[]⟩], .bool false]) (by simp [results, Tryz.results85, go_sem, z0, z1, z2]) rfl ⟨by rw [HV.out]; rfl, ?_⟩
    repeat (first | with_reducible exact hz | with_reducible refine Below.setCell ?_ (by simp) _)
  have HR := Lib.hid hrow
  have h16 : row.length ≤ 16 := by simp [rowB] at hrow; exact hrow.1
  cases hex : exprB ts row.length
  · have HE := Lib.hid hex
    have HV := Lib.hid (show evalB ts row = none by simp [evalB, hex])
    clear hrow hex
    go_enter Tryz.func85, Tryz.ntmps85
    go_wp2_with fail
    generalize w.alloc (.cells #[.int .i64 0, .int .i64 0, .string ⟨#[]⟩] 57) = x at *
    refine (implSeenOk _ _ _ row _ hr0 hm).mono ?_
    rintro e w1 ⟨rfl, hb1⟩
    rw [HR.out]
    have hz1 := hb0.trans (hb1.mono hb0.size)
    have rr1 := rr.below hb1
    clear rr
    go_wp2_with fail
    refine (implExprOk _ _ _ ts _ _ (h0.below hb1) hn).mono ?_
    rintro e w2 ⟨rfl, hb2⟩
    rw [HE.out]
    obtain ⟨⟨z0, z1, z2⟩, ⟨z3, z4, z5⟩⟩ := (rr1.below hb2).three
    have hz := hz1.trans (hb2.mono hz1.size)
    clear rr1
    go_wp2_with fail
    refine bodyPost_ret (v := .tuple #[.agg #[.int .i64 0, .int .i64 0, .string ⟨#[]⟩], .bool false]) (by simp [results, Tryz.results85, go_sem, z0, z1, z2]) rfl ⟨by rw [HV.out]; rfl, ?_⟩
    repeat (first | with_reducible exact hz | with_reducible refine Below.setCell ?_ (by simp) _)
  have HE := Lib.hid hex
  clear hrow hex
  go_enter Tryz.func85, Tryz.ntmps85
  go_wp2_with fail
  generalize w.alloc (.cells #[.int .i64 0, .int .i64 0, .string ⟨#[]⟩] 57) = x at *
  refine (implSeenOk _ _ _ row _ hr0 hm).mono ?_
  rintro e w1 ⟨rfl, hb1⟩
  rw [HR.out]
  have hz1 := hb0.trans (hb1.mono hb0.size)
  have rr1 := rr.below hb1
  clear rr
  go_wp2_with fail
  refine (implExprOk _ _ _ ts _ _ (h0.below hb1) hn).mono ?_
  rintro e w2 ⟨rfl, hb2⟩
  rw [HE.out]
  have rr2 := rr1.below hb2
  have hz2 := hz1.trans (hb2.mono hz1.size)
  clear rr1 hb1 hb2 h0 hr0 hz1 hb0
  go_wp2_with fail
  refine (implOpTable _).mono ?_
  rintro e w3 ⟨rfl, hb3⟩
  have rr3 := rr2.below hb3
  have hz3 := hz2.trans (hb3.mono hz2.size)
  clear rr2 hb3 hz2
  have hs1 : (Tryz.prog.info? 120).map (·.size) = some opsCells.size := by kernel_rfl
  have hs2 : opsCells.all (·.oneCell') = true := by simp [opsCells, Value.oneCell']
  have S1 := Lib.hid hs1
  have S2 := Lib.hid hs2
  clear hs1 hs2
  go_wp2_with (refine wpList_store_row rfl 120 (.tmp 6) (.tmp 25) rfl w3.heap.size opsCells rfl rfl 120 opsZero (Go.heap_alloc_last w3 (.cells opsZero 120)) S1.out rfl S2.out ?_)
  rw [World.setRow_alloc_new]
  obtain ⟨hgo, h24⟩ := exprB_go HE.out
  have HGO := Lib.hid hgo
  have hok : ∀ v ∈ row, v.ok = true := by have := HR.out; simp [rowB] at this; exact this.2
  have HOK := Lib.hid hok
  have ro := (Row.new w3 120 opsCells).alloc (.cells Tryz.zeroCells153 153)
  have rl := Row.newAt (w3.alloc (.cells opsCells 120)) 153 Tryz.zeroCells153 (w3.heap.size + 1) (by simp only [size1])
  have rz := (rr3.alloc (.cells opsCells 120)).alloc (.cells Tryz.zeroCells153 153)
  have hb4 := (hz3.alloc hz3.size (.cells opsCells 120)).alloc (by have := hz3.size; simp only [size1]; omega) (.cells Tryz.zeroCells153 153)
  have hw3 : w.heap.size < w3.heap.size := lt_of_block rr3
  have hzs : (Tryz.zeroCells153).size = 72 := by kernel_rfl
  have HZS := Lib.hid hzs
  clear hgo hok S1 S2 rr3 hzs
  generalize (w3.alloc (.cells opsCells 120)).alloc (.cells Tryz.zeroCells153 153) = x4 at *
  generalize Tryz.zeroCells153 = cs0 at *
  go_loopw [8, 28] (fun nn i wr => ∃ (k : Nat) (st : List Vl) (cs : Array Value), k ≤ ts.length ∧ i = .int .i64 k ∧ nn = .int .i64 st.length ∧ st.length ≤ k ∧ Hid (exprGo row.length (ts.take k) 0 = some st.length) ∧ Hid (evalGo row (ts.take k) [] = some st) ∧ Hid (∀ v ∈ st, v.ok = true) ∧
      Row wr w3.heap.size 120 opsCells ∧ Row wr (w3.heap.size + 1) 153 cs ∧ Hid (cs.size = 72) ∧ Hid (Laid cs 3 st.length (st.map Vl.cells)) ∧ Row wr w.heap.size 57 #[.int .i64 0, .int .i64 0, .string ⟨#[]⟩] ∧ Below w.heap.size w wr) (fun _ i _ => ts.length - (intOf i).toNat)
  case atStart => exact ⟨0, [], cs0, by omega, rfl, rfl, by simp, Lib.hid (by simp [exprGo]), Lib.hid (by simp [evalGo]), Lib.hid (by simp), ro, rl, HZS, Lib.hid (Laid.zero _ _ _), rz, hb4⟩
  case round =>
    obtain ⟨k, st, cs, hk, rfl, rfl, hlk, hexp, hev, hstok, hro, hrl, hcs, hlaid, hrz, hb⟩ := hrel
    by_cases hlt : k < ts.length
    · obtain ⟨b, off, rfl, c0, c1, c2, c3, c4⟩ := (h.below hb).at_ hlt
      obtain ⟨htok, htk, hexp2⟩ := right_at HGO.out hlt hexp.out
      have hev2 := evalGo_snoc row ts k hlt [] st hev.out
      have HEXP := Lib.hid hexp2
      have HEV := Lib.hid hev2
      have HTOK := Lib.hid htok
      clear hexp2 hev2
      clear hexp hev htok
      generalize ts[k] = t at *
      obtain ⟨k0, tc, tvk, tvn, tvs⟩ := t
      simp only at c0 c1 c2 c3 c4 htk HEXP HEV HTOK
      obtain ⟨k1, k10⟩ := tokB_kind HTOK.out
      simp only at k1 k10
      obtain ⟨kk, rfl⟩ := Int.eq_ofNat_of_zero_le (show 0 ≤ k0 by omega)
      have hk11 : kk < 11 := by omega
      have hq2 := takes_le kk
      obtain ⟨fr, hfr⟩ : ∃ fr, fr + takes kk = st.length := ⟨st.length - takes kk, by omega⟩
      have hsub : (st.length : Int) - (takes kk : Int) = (fr : Int) := by omega
      have hfr2 : fr ≤ st.length := by omega
      have HFR := Lib.hid hfr
      clear hfr
      obtain ⟨o0, o2, e0, e2⟩ := ops_at kk hk11
      have E2 := Lib.hid e2
      have ro5 := hro.alloc (.cells #[.int .i64 kk, .int .i64 tc, .int .i64 tvk, .int .i64 tvn, .string tvs] 65)
      have d0 := (ro5.cell (kk * 3)).trans e0
      have d1 := (ro5.cell (kk * 3 + 1)).trans (ops_takes kk hk11)
      have d2 := (ro5.cell (kk * 3 + 2)).trans e2
      have RO := Lib.hid ro5
      have RL := Lib.hid (hrl.alloc (.cells #[.int .i64 kk, .int .i64 tc, .int .i64 tvk, .int .i64 tvn, .string tvs] 65))
      have RZ := Lib.hid (hrz.alloc (.cells #[.int .i64 kk, .int .i64 tc, .int .i64 tvk, .int .i64 tvn, .string tvs] 65))
      have HB := Lib.hid (hb.alloc hb.size (.cells #[.int .i64 kk, .int .i64 tc, .int .i64 tvk, .int .i64 tvn, .string tvs] 65))
      clear e0 e2 ro5 hro hrl hrz
      have vals := Lib.hid (hr.below HB.out)
      obtain ⟨⟨t0, t1, t2, t3, t4⟩, -⟩ := (Row.new wr 65 #[.int .i64 kk, .int .i64 tc, .int .i64 tvk, .int .i64 tvn, .string tvs]).five
      go_wp2_with fail
      generalize wr.alloc (.cells #[.int .i64 kk, .int .i64 tc, .int .i64 tvk, .int .i64 tvn, .string tvs] 65) = x5 at *
      have j0 : (0 : Int) ≤ fr := by omega
      have j1 : (fr : Int) ≤ st.length := by omega
      have j2 : (st.length : Int) ≤ 24 := by omega
      have j3 : (0 : Int) ≤ kk := by omega
      have j5 : ¬ 24 = fr := by omega
      have j4 : (kk : Int) < 11 := by omega
      have OKX := Lib.hid (show ∀ v ∈ st.drop fr, v.ok = true from fun v hv => hstok.out v (List.mem_of_mem_drop hv))
      have args := Lib.hid (show Vals x5.drew (some ⟨w3.heap.size + 1, fr * 3, none⟩) (st.length - fr) (st.drop fr) by
        unfold Vals
        rw [List.map_drop]
        exact cellz_of_mid RL.out.drew hlaid.out (by simp) (by simp [Vl.cells]) hfr2)
      have vals' := Lib.hid (Vals.drew vals.out)
      have bz := (Below.refl x5.heap.size x5).alloc (Nat.le_refl _) (.cells #[.int .i64 0, .int .i64 0, .string ⟨#[]⟩] 57)
      have valsB := Lib.hid (Vals.drew (vals.out.below bz))
      have argsB := Lib.hid (show Vals (x5.alloc (.cells #[.int .i64 0, .int .i64 0, .string ⟨#[]⟩] 57)).drew (some ⟨w3.heap.size + 1, fr * 3, none⟩) (st.length - fr) (st.drop fr) from Vals.below (w := x5.drew) (w' := (x5.alloc (.cells #[.int .i64 0, .int .i64 0, .string ⟨#[]⟩] 57)).drew) args.out ⟨bz.os, bz.tape, bz.output, bz.size, bz.block⟩)
      have KB := Lib.hid (keep8 (w := x5) ⟨d0, d1, d2, t0, t1, t2, t3, t4⟩ bz)
      have ne1 : x5.heap.size ≠ w3.heap.size := Nat.ne_of_gt (cell_lt d0)
      have ne2 : x5.heap.size ≠ wr.heap.size := Nat.ne_of_gt (cell_lt t0)
      clear bz
      have HML := Lib.hid (show st.length - fr = takes kk by have := HFR.out; omega)
      clear vals
      go_region_held3 (fun w' => w'.cell? ⟨w3.heap.size, kk * 3, none⟩ = some o0 ∧ w'.cell? ⟨w3.heap.size, kk * 3 + 1, none⟩ = some (.int .i64 (takes kk)) ∧ w'.cell? ⟨w3.heap.size, kk * 3 + 2, none⟩ = some o2 ∧ w'.cell? ⟨wr.heap.size, 0, none⟩ = some (.int .i64 kk) ∧ w'.cell? ⟨wr.heap.size, 1, none⟩ = some (.int .i64 tc) ∧ w'.cell? ⟨wr.heap.size, 2, none⟩ = some (.int .i64 tvk) ∧ w'.cell? ⟨wr.heap.size, 3, none⟩ = some (.int .i64 tvn) ∧ w'.cell? ⟨wr.heap.size, 4, none⟩ = some (.string tvs))
        (first | go_keep | ((with_reducible refine keep8 ?_ hbA); assumption) | (with_reducible exact keep8 HK8.out ((Below.refl _ _).alloc (Nat.le_refl _) _)) | (with_reducible exact keep8s ne1 ne2 HK8.out))
        (first | (go_at_call 101; (with_reducible refine (implTokValueM kk ⟨by omega, by omega⟩ o0 _ o2 E2.out tc tvk tvn tvs R _ capR _ _ HML.out row (st.drop fr) _ HTOK.out vals'.out args.out OKX.out).mono ?_); rintro e yA ⟨v, rfl, hv, hbA⟩; have HK8 := Lib.hid (keep8 (w := x5.drew) ⟨d0, d1, d2, t0, t1, t2, t3, t4⟩ hbA); have HW := Lib.hid hv; clear hv) | (go_at_call 101; (with_reducible refine (implTokValueM kk ⟨by omega, by omega⟩ o0 _ o2 E2.out tc tvk tvn tvs R _ capR _ _ HML.out row (st.drop fr) _ HTOK.out valsB.out argsB.out OKX.out).mono ?_); rintro e yA ⟨v, rfl, hv, hbA⟩; have HK8 := Lib.hid (keep8 (w := (x5.alloc (.cells #[.int .i64 0, .int .i64 0, .string ⟨#[]⟩] 57)).drew) KB.out hbA); have HW := Lib.hid hv; clear hv; obtain ⟨⟨y0, y1, y2⟩, ⟨y3, y4, y5⟩⟩ := ((Row.new x5 57 #[.int .i64 0, .int .i64 0, .string ⟨#[]⟩]).drew.below hbA).three))
      · have hz0 := HB.out.drew.trans (hbA.mono HB.out.size)
        have hz := hz0.alloc hz0.size (.cells #[.int .i64 v.k, .int .i64 v.n, .string v.s] 57)
        have ro6 := (RO.out.drew.below hbA).alloc (.cells #[.int .i64 v.k, .int .i64 v.n, .string v.s] 57)
        have rl6 := (RL.out.drew.below hbA).alloc (.cells #[.int .i64 v.k, .int .i64 v.n, .string v.s] 57)
        have rz6 := (RZ.out.drew.below hbA).alloc (.cells #[.int .i64 v.k, .int .i64 v.n, .string v.s] 57)
        have rv6 := Row.new yA 57 #[.int .i64 v.k, .int .i64 v.n, .string v.s]
        clear HK8 hz0 hbA
        generalize yA.alloc (.cells #[.int .i64 v.k, .int .i64 v.n, .string v.s] 57) = x6 at *
        generalize yA.heap.size = gv at *
        have HFR' : st.length - takes kk = fr := by have := HFR.out; omega
        have hd : st.drop (st.length - takes (⟨kk, tc, tvk, tvn, tvs⟩ : Tk).k) = st.drop fr := by rw [← HFR']
        have hstep := HEV.out
        cases htv : tokVal row ⟨kk, tc, tvk, tvn, tvs⟩ (st.drop fr) with
        | none =>
          have HV := Lib.hid (show evalB ts row = none by
            rw [evalStep_none (by rw [hd]; exact htv)] at hstep
            have := evalGo_dead row ts (k + 1) [] hstep
            simp [evalB, this])
          obtain ⟨⟨z0, z1, z2⟩, ⟨z3, z4, z5⟩⟩ := rz6.three
          clear hstep htv hd HFR' hsub ro6 rl6 rz6 rv6
          go_wp2_with fail
          refine bodyPost_ret (v := .tuple #[.agg #[.int .i64 0, .int .i64 0, .string ⟨#[]⟩], .bool false]) (by simp [results, Tryz.results85, go_sem, z0, z1, z2]) rfl ⟨by rw [HV.out]; rfl, ?_⟩
          repeat (first | with_reducible exact hz | with_reducible refine Below.drew ?_ | with_reducible refine Below.setCell ?_ (by simp) _)
        | some v' =>
          obtain rfl : v = v' := HW.out v' htv
          have hvok := tokVal_ok HOK.out HTOK.out htv
          rw [evalStep_some (by rw [hd]; exact htv)] at hstep
          have htake : st.take (st.length - takes (⟨kk, tc, tvk, tvn, tvs⟩ : Tk).k) = st.take fr := by rw [← HFR']
          rw [htake] at hstep
          have HST := Lib.hid hstep
          have HLEN := Lib.hid (show (st.take fr ++ [v]).length = fr + 1 by simp; omega)
          have HEX := Lib.hid (show exprGo row.length (ts.take (k + 1)) 0 = some (st.take fr ++ [v]).length by rw [HEXP.out, HFR', HLEN.out])
          have HOKS := Lib.hid (show ∀ u ∈ st.take fr ++ [v], u.ok = true from fun u hu => by
            rw [List.mem_append, List.mem_singleton] at hu
            rcases hu with hu | rfl
            · exact hstok.out u (List.mem_of_mem_take hu)
            · exact hvok)
          have hsz1 : fr * 3 + 3 ≤ cs.size := by rw [hcs.out]; omega
          have HLAID := Lib.hid (hlaid.out.snoc3 (by simp) (by simp [Vl.cells]) hfr2 (.int .i64 v.k) (.int .i64 v.n) (.string v.s) hsz1)
          have hq : ∀ j, j < 3 → x6.cell? ⟨w3.heap.size + 1, fr * 3 + j, none⟩ = some (cs[fr * 3 + j]?.getD undef) := fun j hj => by
            rw [rl6.cell, Array.getElem?_eq_getElem (by omega)]; rfl
          have q0 : x6.cell? ⟨w3.heap.size + 1, fr * 3, none⟩ = some (cs[fr * 3]?.getD undef) := hq 0 (by omega)
          have q1 := hq 1 (by omega)
          have q2 := hq 2 (by omega)
          have f0 := rl6.free (fr * 3)
          have f1 := rl6.free (fr * 3 + 1)
          have f2 := rl6.free (fr * 3 + 2)
          obtain ⟨⟨v0, v1, v2⟩, -⟩ := rv6.three
          have RO6 := Lib.hid ro6
          have RL6 := Lib.hid rl6
          have RZ6 := Lib.hid rz6
          have HZ6 := Lib.hid hz
          clear hstep htv hd HFR' hsub ro6 rl6 rz6 rv6 hq htake hvok hz
          go_wp2_with fail
          go_roundw
          case rel => exact ⟨k + 1, st.take fr ++ [v], _, by omega, by go_num, by rw [HLEN.out]; go_num, by rw [HLEN.out]; omega, HEX, HST, HOKS,
            ((RO6.out.far (by simp) _).far (by simp) _).far (by simp) _, ((RL6.out.set _ _).set _ _).set _ _, Lib.hid (by simp [hcs.out]), Lib.hid (by rw [HLEN.out, List.map_append, List.map_take]; exact HLAID.out),
            ((RZ6.out.far (by simp; omega) _).far (by simp; omega) _).far (by simp; omega) _, ((HZ6.out.setCell (by simp; omega) _).setCell (by simp; omega) _).setCell (by simp; omega) _⟩
          case measure => simp [intOf]; omega
      · have bz := HB.out.alloc HB.out.size (.cells #[.int .i64 0, .int .i64 0, .string ⟨#[]⟩] 57)
        have hz0 := bz.drew.trans (hbA.mono bz.size)
        have hx5 := HB.out.size
        have lt1 : w3.heap.size + 1 < x5.heap.size := lt_of_block RL.out
        have m0 : w3.heap.size ≠ x5.heap.size := ne1.symm
        have m1 : w3.heap.size + 1 ≠ x5.heap.size := Nat.ne_of_lt lt1
        have m2 : w.heap.size ≠ x5.heap.size := by omega
        have hz := ((hz0.setCell (p := ⟨x5.heap.size, 0, none⟩) hx5 (.int .i64 v.k)).setCell (p := ⟨x5.heap.size, 1, none⟩) hx5 (.int .i64 v.n)).setCell (p := ⟨x5.heap.size, 2, none⟩) hx5 (.string v.s)
        have ro6 := ((((RO.out.alloc (.cells #[.int .i64 0, .int .i64 0, .string ⟨#[]⟩] 57)).drew.below hbA).far (p := ⟨x5.heap.size, 0, none⟩) m0 (.int .i64 v.k)).far (p := ⟨x5.heap.size, 1, none⟩) m0 (.int .i64 v.n)).far (p := ⟨x5.heap.size, 2, none⟩) m0 (.string v.s)
        have rl6 := ((((RL.out.alloc (.cells #[.int .i64 0, .int .i64 0, .string ⟨#[]⟩] 57)).drew.below hbA).far (p := ⟨x5.heap.size, 0, none⟩) m1 (.int .i64 v.k)).far (p := ⟨x5.heap.size, 1, none⟩) m1 (.int .i64 v.n)).far (p := ⟨x5.heap.size, 2, none⟩) m1 (.string v.s)
        have rz6 := ((((RZ.out.alloc (.cells #[.int .i64 0, .int .i64 0, .string ⟨#[]⟩] 57)).drew.below hbA).far (p := ⟨x5.heap.size, 0, none⟩) m2 (.int .i64 v.k)).far (p := ⟨x5.heap.size, 1, none⟩) m2 (.int .i64 v.n)).far (p := ⟨x5.heap.size, 2, none⟩) m2 (.string v.s)
        have rv6 : Row (((yA.setCell ⟨x5.heap.size, 0, none⟩ (.int .i64 v.k)).setCell ⟨x5.heap.size, 1, none⟩ (.int .i64 v.n)).setCell ⟨x5.heap.size, 2, none⟩ (.string v.s)) x5.heap.size 57 #[.int .i64 v.k, .int .i64 v.n, .string v.s] := ((((Row.new x5 57 #[.int .i64 0, .int .i64 0, .string ⟨#[]⟩]).drew.below hbA).set 0 _).set 1 _).set 2 _
        clear HK8 hz0 hbA bz y0 y1 y2 y3 y4 y5
        generalize ((yA.setCell ⟨x5.heap.size, 0, none⟩ (.int .i64 v.k)).setCell ⟨x5.heap.size, 1, none⟩ (.int .i64 v.n)).setCell ⟨x5.heap.size, 2, none⟩ (.string v.s) = x6 at *
        clear vals' valsB args argsB KB RO RL RZ HB d0 d1 d2 t0 t1 t2 t3 t4
        generalize x5.heap.size = gv at *
        have HFR' : st.length - takes kk = fr := by have := HFR.out; omega
        have hd : st.drop (st.length - takes (⟨kk, tc, tvk, tvn, tvs⟩ : Tk).k) = st.drop fr := by rw [← HFR']
        have hstep := HEV.out
        cases htv : tokVal row ⟨kk, tc, tvk, tvn, tvs⟩ (st.drop fr) with
        | none =>
          have HV := Lib.hid (show evalB ts row = none by
            rw [evalStep_none (by rw [hd]; exact htv)] at hstep
            have := evalGo_dead row ts (k + 1) [] hstep
            simp [evalB, this])
          obtain ⟨⟨z0, z1, z2⟩, ⟨z3, z4, z5⟩⟩ := rz6.three
          clear hstep htv hd HFR' hsub ro6 rl6 rz6 rv6
          go_wp2_with fail
          refine bodyPost_ret (v := .tuple #[.agg #[.int .i64 0, .int .i64 0, .string ⟨#[]⟩], .bool false]) (by simp [results, Tryz.results85, go_sem, z0, z1, z2]) rfl ⟨by rw [HV.out]; rfl, ?_⟩
          repeat (first | with_reducible exact hz | with_reducible refine Below.drew ?_ | with_reducible refine Below.setCell ?_ (by simp) _)
        | some v' =>
          obtain rfl : v = v' := HW.out v' htv
          have hvok := tokVal_ok HOK.out HTOK.out htv
          rw [evalStep_some (by rw [hd]; exact htv)] at hstep
          have htake : st.take (st.length - takes (⟨kk, tc, tvk, tvn, tvs⟩ : Tk).k) = st.take fr := by rw [← HFR']
          rw [htake] at hstep
          have HST := Lib.hid hstep
          have HLEN := Lib.hid (show (st.take fr ++ [v]).length = fr + 1 by simp; omega)
          have HEX := Lib.hid (show exprGo row.length (ts.take (k + 1)) 0 = some (st.take fr ++ [v]).length by rw [HEXP.out, HFR', HLEN.out])
          have HOKS := Lib.hid (show ∀ u ∈ st.take fr ++ [v], u.ok = true from fun u hu => by
            rw [List.mem_append, List.mem_singleton] at hu
            rcases hu with hu | rfl
            · exact hstok.out u (List.mem_of_mem_take hu)
            · exact hvok)
          have hsz1 : fr * 3 + 3 ≤ cs.size := by rw [hcs.out]; omega
          have HLAID := Lib.hid (hlaid.out.snoc3 (by simp) (by simp [Vl.cells]) hfr2 (.int .i64 v.k) (.int .i64 v.n) (.string v.s) hsz1)
          have hq : ∀ j, j < 3 → x6.cell? ⟨w3.heap.size + 1, fr * 3 + j, none⟩ = some (cs[fr * 3 + j]?.getD undef) := fun j hj => by
            rw [rl6.cell, Array.getElem?_eq_getElem (by omega)]; rfl
          have q0 : x6.cell? ⟨w3.heap.size + 1, fr * 3, none⟩ = some (cs[fr * 3]?.getD undef) := hq 0 (by omega)
          have q1 := hq 1 (by omega)
          have q2 := hq 2 (by omega)
          have f0 := rl6.free (fr * 3)
          have f1 := rl6.free (fr * 3 + 1)
          have f2 := rl6.free (fr * 3 + 2)
          obtain ⟨⟨v0, v1, v2⟩, -⟩ := rv6.three
          have RO6 := Lib.hid ro6
          have RL6 := Lib.hid rl6
          have RZ6 := Lib.hid rz6
          have HZ6 := Lib.hid hz
          clear hstep htv hd HFR' hsub ro6 rl6 rz6 rv6 hq htake hvok hz
          go_wp2_with fail
          go_roundw
          case rel => exact ⟨k + 1, st.take fr ++ [v], _, by omega, by go_num, by rw [HLEN.out]; go_num, by rw [HLEN.out]; omega, HEX, HST, HOKS,
            ((RO6.out.far (by simp) _).far (by simp) _).far (by simp) _, ((RL6.out.set _ _).set _ _).set _ _, Lib.hid (by simp [hcs.out]), Lib.hid (by rw [HLEN.out, List.map_append, List.map_take]; exact HLAID.out),
            ((RZ6.out.far (by simp; omega) _).far (by simp; omega) _).far (by simp; omega) _, ((HZ6.out.setCell (by simp; omega) _).setCell (by simp; omega) _).setCell (by simp; omega) _⟩
          case measure => simp [intOf]; omega
    · have e : ts.take k = ts := List.take_of_length_le (by omega)
      have h1 := hexp.out
      rw [e, HGO.out] at h1
      have h2 := hev.out
      rw [e] at h2
      match st, (Option.some.inj h1).symm with
      | [v], _ =>
        have HV := Lib.hid (show evalB ts row = some v by simp [evalB, HR.out, HE.out, h2])
        have g := hlaid.out
        have q0 := (hrl.cell 0).trans (g 0 0 _ _ (by simp) rfl rfl)
        have q1 := (hrl.cell 1).trans (g 0 1 _ _ (by simp) rfl rfl)
        have q2 := (hrl.cell 2).trans (g 0 2 _ _ (by simp) rfl rfl)
        obtain ⟨⟨z0, z1, z2⟩, ⟨z3, z4, z5⟩⟩ := hrz.three
        have hz := hb
        clear h1 h2 e g hexp hev hlaid hro hrl hrz hstok
        go_wp2
        refine bodyPost_ret (v := .tuple #[.agg #[.int .i64 v.k, .int .i64 v.n, .string v.s], .bool true]) (by simp [results, Tryz.results85, go_sem, z0, z1, z2]) rfl ⟨by rw [HV.out]; rfl, ?_⟩
        repeat (first | with_reducible exact hz | with_reducible refine Below.drew ?_ | with_reducible refine Below.setCell ?_ (by simp) _)
end Go.Proofs.YtakhcgkhjmfndaaGreat
