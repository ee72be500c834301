/-
  Contracts of what the exact laws do with parts of expressions: their size, their copy, and whether two are one.
-/
import Derived.Test.YtbdbealabffccaaGreatLawVals
import Derived.Test.YtbdbealabffccaaGreatExprOk2
import Derived.Deep.RegionHeld3
namespace Go.Proofs.YtbdbealabffccaaGreat
open Go.RowKit

theorem lawsSzTok (t : Tk) (left : Int) (w : World) (h0 : 0 ≤ left) (h1 : left ≤ 1048576) (hs : t.vs.size ≤ maxLen) :
    Calls Tryz.prog 47 #[.agg #[.int .i64 t.k, .int .i64 t.c, .int .i64 t.vk, .int .i64 t.vn, .string t.vs], .int .i64 left] w fun e w' => e = .returned (.int .i64 (szN left t.vs)) ∧ Below w.heap.size w w' := by
  have HB := Lib.hid ((Below.refl w.heap.size w).alloc (Nat.le_refl _) (.cells #[.int .i64 t.k, .int .i64 t.c, .int .i64 t.vk, .int .i64 t.vn, .string t.vs] 99))
  by_cases hn : szN left t.vs < 0
  · have HN := Lib.hid (show szN left t.vs = -1 by unfold szN at hn ⊢; split at hn <;> simp_all)
    clear hn
    go_enter Tryz.func47, Tryz.ntmps47
    go_wp2_with fail
    refine (lawsSzVal _ _ _ _ _ h0 h1 hs).mono ?_
    rintro e w1 ⟨rfl, hb1⟩
    rw [HN.out]
    go_wp2
    go_ret
    exact ⟨retI (by rw [HN.out]), HB.out.trans (hb1.mono HB.out.size)⟩
  · have hn' : decide (szN left t.vs < 0) = false := by simpa using hn
    go_enter Tryz.func47, Tryz.ntmps47
    go_wp2_with fail
    refine (lawsSzVal _ _ _ _ _ h0 h1 hs).mono ?_
    rintro e w1 ⟨rfl, hb1⟩
    go_wp2
    go_ret
    exact ⟨rfl, HB.out.trans (hb1.mono HB.out.size)⟩

/-- An answer of a size: less than 0, or no more than what was left, and then no part is larger. -/
def SzToks (left : Int) (ts : List Tk) (w : World) (e : Ending) (w' : World) : Prop :=
  ∃ m : Int, e = .returned (.int .i64 m) ∧ m ≤ left ∧ (0 ≤ m → ts.length ≤ left ∧ ∀ t ∈ ts, (t.vs.size : Int) ≤ left) ∧ Below w.heap.size w w'

set_option maxHeartbeats 400000 in
theorem lawsSzToks (A : Option Addr) (n cap : Nat) (ts : List Tk) (left : Int) (w : World) (h : Toks w A n ts) (hn : n ≤ maxLen) (h0 : 0 ≤ left) (h1 : left ≤ 1048576) (hs : ∀ t ∈ ts, t.vs.size ≤ maxLen) :
    Calls Tryz.prog 20 #[.slice A n cap, .int .i64 left] w (SzToks left ts w) := by
  unfold maxLen at hn
  obtain rfl : n = ts.length := h.len.symm
  by_cases hlt : left - ts.length < 0
  · go_enter Tryz.func20, Tryz.ntmps20
    go_wp2
    go_ret
    exact ⟨-1, rfl, by omega, fun h => by omega, Below.refl _ _⟩
  have hlt' : decide (left - (ts.length : Int) < 0) = false := by simpa using hlt
  go_enter Tryz.func20, Tryz.ntmps20
  go_wp2
  go_loopw [1, 5] (fun m i wr => ∃ (k : Nat) (l : Int), k ≤ ts.length ∧ i = .int .i64 k ∧ m = .int .i64 l ∧ 0 ≤ l ∧ l ≤ left - ts.length ∧ Hid (∀ t ∈ ts.take k, (t.vs.size : Int) ≤ left) ∧ Below w.heap.size w wr) (fun _ i _ => ts.length - (intOf i).toNat)
  case atStart => exact ⟨0, _, by omega, rfl, rfl, by omega, by omega, Lib.hid (by simp), Below.refl _ _⟩
  case round =>
    obtain ⟨k, l, hk, rfl, rfl, hl0, hl1, hall, hb⟩ := hrel
    by_cases hlt2 : k < ts.length
    · obtain ⟨b, off, rfl, c0, c1, c2, c3, c4⟩ := (h.below hb).at_ hlt2
      have hsz := hs _ (List.getElem_mem hlt2)
      have HS := Lib.hid hsz
      clear hsz
      by_cases hneg : szN l ts[k].vs < 0
      · go_wp2_with fail
        refine (lawsSzTok ts[k] l _ hl0 (by omega) HS.out).mono ?_
        rintro e w1 ⟨rfl, hb1⟩
        go_wp2_with fail
        go_ret
        exact ⟨-1, rfl, by omega, fun h => by omega, hb.trans (hb1.mono hb.size)⟩
      · have hneg' : decide (szN l ts[k].vs < 0) = false := by simpa using hneg
        have hle : szN l ts[k].vs ≤ l := by unfold szN; split <;> omega
        have hv : (ts[k].vs.size : Int) ≤ left := by unfold szN at hneg; split at hneg <;> omega
        have hall2 := Lib.hid (show ∀ t ∈ ts.take (k + 1), (t.vs.size : Int) ≤ left by
          rw [List.take_succ_eq_append_getElem hlt2]
          intro t ht
          rw [List.mem_append, List.mem_singleton] at ht
          rcases ht with ht | rfl
          · exact hall.out t ht
          · exact hv)
        clear hall hv
        go_wp2_with fail
        refine (lawsSzTok ts[k] l _ hl0 (by omega) HS.out).mono ?_
        rintro e w1 ⟨rfl, hb1⟩
        go_wp2_with fail
        go_roundw
        case rel => exact ⟨k + 1, _, by omega, by go_num, rfl, by omega, by omega, hall2, hb.trans (hb1.mono hb.size)⟩
        case measure => simp [intOf]; omega
    · have e : ts.take k = ts := List.take_of_length_le (by omega)
      have hall2 := hall.out
      rw [e] at hall2
      have HA := Lib.hid hall2
      clear hall2 hall e
      go_wp2
      go_ret
      exact ⟨l, rfl, by omega, fun _ => ⟨by omega, HA.out⟩, hb⟩

set_option maxHeartbeats 400000 in
theorem lawsToTok (t : Tk) (w : World) :
    Calls Tryz.prog 58 #[.agg #[.int .i64 t.k, .int .i64 t.c, .int .i64 t.vk, .int .i64 t.vn, .string t.vs]] w fun e w' => e = .returned (.agg #[.int .i64 t.k, .int .i64 t.c, .int .i64 t.vk, .int .i64 t.vn, .string t.vs]) ∧ Below w.heap.size w w' := by
  go_enter Tryz.func58, Tryz.ntmps58
  go_wp2_with fail
  have r2 := Row.new ((w.alloc (.cells #[.int .i64 t.k, .int .i64 t.c, .int .i64 t.vk, .int .i64 t.vn, .string t.vs] 99)).alloc (.cells #[.int .i64 0, .int .i64 0, .int .i64 0, .int .i64 0, .string ⟨#[]⟩] 117)) 117 #[.int .i64 t.k, .int .i64 t.c, .int .i64 0, .int .i64 0, .string ⟨#[]⟩]
  have r1 := (Row.new (w.alloc (.cells #[.int .i64 t.k, .int .i64 t.c, .int .i64 t.vk, .int .i64 t.vn, .string t.vs] 99)) 117 #[.int .i64 0, .int .i64 0, .int .i64 0, .int .i64 0, .string ⟨#[]⟩]).alloc (.cells #[.int .i64 t.k, .int .i64 t.c, .int .i64 0, .int .i64 0, .string ⟨#[]⟩] 117)
  have hb0 := (((Below.refl w.heap.size w).alloc (Nat.le_refl _) (.cells #[.int .i64 t.k, .int .i64 t.c, .int .i64 t.vk, .int .i64 t.vn, .string t.vs] 99)).alloc (by simp) (.cells #[.int .i64 0, .int .i64 0, .int .i64 0, .int .i64 0, .string ⟨#[]⟩] 117)).alloc (by simp; omega) (.cells #[.int .i64 t.k, .int .i64 t.c, .int .i64 0, .int .i64 0, .string ⟨#[]⟩] 117)
  rw [show ((w.alloc (.cells #[.int .i64 t.k, .int .i64 t.c, .int .i64 t.vk, .int .i64 t.vn, .string t.vs] 99)).alloc (.cells #[.int .i64 0, .int .i64 0, .int .i64 0, .int .i64 0, .string ⟨#[]⟩] 117)).heap.size = w.heap.size + 1 + 1 by simp] at r2
  rw [show (w.alloc (.cells #[.int .i64 t.k, .int .i64 t.c, .int .i64 t.vk, .int .i64 t.vn, .string t.vs] 99)).heap.size = w.heap.size + 1 by simp] at r1
  generalize ((w.alloc (.cells #[.int .i64 t.k, .int .i64 t.c, .int .i64 t.vk, .int .i64 t.vn, .string t.vs] 99)).alloc (.cells #[.int .i64 0, .int .i64 0, .int .i64 0, .int .i64 0, .string ⟨#[]⟩] 117)).alloc (.cells #[.int .i64 t.k, .int .i64 t.c, .int .i64 0, .int .i64 0, .string ⟨#[]⟩] 117) = x at *
  refine (lawsToVal _ _ _ _).mono ?_
  rintro e w1 ⟨rfl, hb1⟩
  obtain ⟨⟨c0, c1, c2, c3, c4⟩, ⟨f0, f1, f2, f3, f4⟩⟩ := (r1.below hb1).five
  obtain ⟨⟨d0, d1, d2, d3, d4⟩, ⟨g0, g1, g2, g3, g4⟩⟩ := (r2.below hb1).five
  have hz := hb0.trans (hb1.mono hb0.size)
  clear r1 r2 hb1 hb0
  go_wp2_with fail
  refine bodyPost_ret (v := .agg #[.int .i64 t.k, .int .i64 t.c, .int .i64 t.vk, .int .i64 t.vn, .string t.vs]) (by simp [results, Tryz.results58, go_sem, c0, c1, c2, c3, c4]) rfl ⟨rfl, ?_⟩
  repeat (first | with_reducible exact hz | with_reducible refine Below.drew ?_ | with_reducible refine Below.setCell ?_ (by simp; omega) _ | with_reducible refine Below.setCell ?_ (by simp) _)

theorem mk_rows {P : Program} {t e : TypeId} {sz bs : Nat} {z : Value} (ht : P.underlying t = some (.slice e)) (hi : (P.info? e).map (fun i => (i.zero, i.size, i.bytes)) = some (some z, sz, bs)) (hbs : bs ≤ 100000) (n : Nat) (hn : n ≤ 1048576) (w : World) :
    (Instr.makeSlice t (.int .i64 (n : Int)) (.int .i64 (n : Int))).run P w = .ok (.slice (some ⟨w.heap.size, 0, none⟩) n n) (w.alloc (.cells (madeCells z.cells (n * sz)) e)) := by
  obtain ⟨i, h1, h2, h3, h4⟩ := info_parts hi
  have hb : (i.bytes : Int) * n ≤ 281474976710656 := by
    rw [h4]
    have h5 : bs * n ≤ 100000 * 1048576 := Nat.mul_le_mul hbs hn
    have h6 : ((bs * n : Nat) : Int) ≤ 104857600000 := by omega
    rw [Int.natCast_mul] at h6
    omega
  have hr := run_make (P := P) w t e i z ht h1 h2 .i64 .i64 n n (by omega) (by omega) hb (by omega)
  simp only [Int.toNat_natCast, h3] at hr
  exact hr

/-- A slice that a call has made. -/
def MadeToks (n : Nat) (ts : List Tk) (w : World) (e : Ending) (w' : World) : Prop := ∃ A c, e = .returned (.slice A n c) ∧ Toks w' A n ts ∧ Below w.heap.size w w'

theorem infoTok : (Tryz.prog.info? 117).map (fun i => (i.zero, i.size, i.bytes)) = some (some (.agg #[.int .i64 0, .int .i64 0, .int .i64 0, .int .i64 0, .string ⟨#[]⟩]), 5, 48) := by kernel_rfl

set_option maxRecDepth 100000 in
theorem lawsToToks (A : Option Addr) (n cap : Nat) (ts : List Tk) (w : World) (h : Toks w A n ts) (hn : n ≤ 1048576) :
    Calls Tryz.prog 26 #[.slice A n cap] w (MadeToks n ts w) := by
  obtain rfl : n = ts.length := h.len.symm
  have hmk := fun w => mk_rows (P := Tryz.prog) Tryz.underlying34 infoTok (by omega) ts.length hn w
  go_enter Tryz.func26, Tryz.ntmps26
  go_wp2
  have row := Row.new w 117 (madeCells #[.int .i64 0, .int .i64 0, .int .i64 0, .int .i64 0, .string ⟨#[]⟩] (ts.length * 5))
  have hb0 := (Below.refl w.heap.size w).alloc (Nat.le_refl _) (.cells (madeCells #[.int .i64 0, .int .i64 0, .int .i64 0, .int .i64 0, .string ⟨#[]⟩] (ts.length * 5)) 117)
  have hsz := size_madeCells #[.int .i64 0, .int .i64 0, .int .i64 0, .int .i64 0, .string ⟨#[]⟩] (ts.length * 5)
  generalize w.alloc (.cells (madeCells #[.int .i64 0, .int .i64 0, .int .i64 0, .int .i64 0, .string ⟨#[]⟩] (ts.length * 5)) 117) = x at *
  generalize madeCells #[.int .i64 0, .int .i64 0, .int .i64 0, .int .i64 0, .string ⟨#[]⟩] (ts.length * 5) = cs0 at *
  have HZ := Lib.hid hsz
  clear hmk hsz
  go_loopw [4] (fun i wr => ∃ (k : Nat) (cs : Array Value), k ≤ ts.length ∧ i = .int .i64 k ∧ Row wr w.heap.size 117 cs ∧ Hid (cs.size = ts.length * 5) ∧ Hid (Laid cs 5 k (ts.map Tk.cells)) ∧ Below w.heap.size w wr) (fun i _ => ts.length - (intOf i).toNat)
  case atStart => exact ⟨0, cs0, by omega, rfl, row, HZ, Lib.hid (Laid.zero _ _ _), hb0⟩
  case round =>
    obtain ⟨k, cs, hk, rfl, hrow, hcs, hlaid, hb⟩ := hrel
    by_cases hlt : k < ts.length
    · obtain ⟨b, off, rfl, c0, c1, c2, c3, c4⟩ := (h.below hb).at_ hlt
      go_wp2_with fail
      refine (lawsToTok ts[k] _).mono ?_
      rintro e w1 ⟨rfl, hb1⟩
      have hrow1 := hrow.below hb1
      have hsz1 : k * 5 + 5 ≤ cs.size := by rw [hcs.out]; omega
      have q : ∀ j, j < 5 → w1.cell? ⟨w.heap.size, k * 5 + j, none⟩ = some (cs[k * 5 + j]?.getD undef) := fun j hj => by
        rw [hrow1.cell, Array.getElem?_eq_getElem (by omega)]; rfl
      have q0 := q 0 (by omega)
      have q1 := q 1 (by omega)
      have q2 := q 2 (by omega)
      have q3 := q 3 (by omega)
      have q4 := q 4 (by omega)
      rw [Nat.add_zero] at q0
      have f0 := hrow1.free (k * 5)
      have f1 := hrow1.free (k * 5 + 1)
      have f2 := hrow1.free (k * 5 + 2)
      have f3 := hrow1.free (k * 5 + 3)
      have f4 := hrow1.free (k * 5 + 4)
      clear q
      have HR := Lib.hid hrow1
      clear hrow1 hrow c0 c1 c2 c3 c4
      go_wp2_with fail
      go_roundw
      case rel => exact ⟨k + 1, _, by omega, by go_num, ((((HR.out.set _ _).set _ _).set _ _).set _ _).set _ _, Lib.hid (by simp [hcs.out]), Lib.hid (hlaid.out.snoc5 (by simp [Tk.cells]) (by simp [hlt, Tk.cells]) hsz1),
        (((((hb.trans (hb1.mono hb.size)).setCell (by simp) _).setCell (by simp) _).setCell (by simp) _).setCell (by simp) _).setCell (by simp) _⟩
      case measure => simp [intOf]; omega
    · obtain rfl : k = ts.length := by omega
      go_wp2
      go_ret
      exact ⟨_, _, rfl, cellz_of_laid hrow hlaid.out (by simp) (by simp [Tk.cells]), hb⟩

theorem lawsEqVal (k n : Int) (s : ByteArray) (w : World) :
    Calls Tryz.prog 103 #[.agg #[.int .i64 k, .int .i64 n, .string s], .agg #[.int .i64 k, .int .i64 n, .string s]] w fun e w' => e = .returned (.bool true) ∧ Below w.heap.size w w' := by
  go_enter Tryz.func103, Tryz.ntmps103
  go_wp2
  go_ret
  exact ⟨rfl, ((Below.refl _ _).alloc (Nat.le_refl _) _).alloc (by simp) _⟩

theorem lawsEqTok (t : Tk) (w : World) :
    Calls Tryz.prog 71 #[.agg #[.int .i64 t.k, .int .i64 t.c, .int .i64 t.vk, .int .i64 t.vn, .string t.vs], .agg #[.int .i64 t.k, .int .i64 t.c, .int .i64 t.vk, .int .i64 t.vn, .string t.vs]] w fun e w' => e = .returned (.bool true) ∧ Below w.heap.size w w' := by
  have hb0 := ((Below.refl w.heap.size w).alloc (Nat.le_refl _) (.cells #[.int .i64 t.k, .int .i64 t.c, .int .i64 t.vk, .int .i64 t.vn, .string t.vs] 117)).alloc (by simp) (.cells #[.int .i64 t.k, .int .i64 t.c, .int .i64 t.vk, .int .i64 t.vn, .string t.vs] 117)
  have HB := Lib.hid hb0
  clear hb0
  go_enter Tryz.func71, Tryz.ntmps71
  go_wp2_with fail
  first | (refine (lawsEqVal _ _ _ _).mono ?_; rintro e w1 ⟨rfl, hb1⟩) | skip
  go_wp2
  go_ret
  exact ⟨rfl, HB.out.trans (hb1.mono HB.out.size)⟩

theorem keep10 {w w' : World} {a0 a1 a2 a3 a4 a5 a6 a7 a8 a9 : Addr} {v0 v1 v2 v3 v4 v5 v6 v7 v8 v9 : Value} (h : w.cell? a0 = some v0 ∧ w.cell? a1 = some v1 ∧ w.cell? a2 = some v2 ∧ w.cell? a3 = some v3 ∧ w.cell? a4 = some v4 ∧ w.cell? a5 = some v5 ∧ w.cell? a6 = some v6 ∧ w.cell? a7 = some v7 ∧ w.cell? a8 = some v8 ∧ w.cell? a9 = some v9) (hb : Below w.heap.size w w') : w'.cell? a0 = some v0 ∧ w'.cell? a1 = some v1 ∧ w'.cell? a2 = some v2 ∧ w'.cell? a3 = some v3 ∧ w'.cell? a4 = some v4 ∧ w'.cell? a5 = some v5 ∧ w'.cell? a6 = some v6 ∧ w'.cell? a7 = some v7 ∧ w'.cell? a8 = some v8 ∧ w'.cell? a9 = some v9 := by
  obtain ⟨h0, h1, h2, h3, h4, h5, h6, h7, h8, h9⟩ := h
  exact ⟨(hb.cell (cell_lt h0)).trans h0, (hb.cell (cell_lt h1)).trans h1, (hb.cell (cell_lt h2)).trans h2, (hb.cell (cell_lt h3)).trans h3, (hb.cell (cell_lt h4)).trans h4, (hb.cell (cell_lt h5)).trans h5, (hb.cell (cell_lt h6)).trans h6, (hb.cell (cell_lt h7)).trans h7, (hb.cell (cell_lt h8)).trans h8, (hb.cell (cell_lt h9)).trans h9⟩

set_option maxRecDepth 100000 in
theorem lawsEqToks (A A' : Option Addr) (n cap cap' : Nat) (ts : List Tk) (w : World) (h : Toks w A n ts) (h' : Toks w A' n ts) (hn : n ≤ 1048576) :
    Calls Tryz.prog 35 #[.slice A n cap, .slice A' n cap'] w fun e w' => e = .returned (.bool true) ∧ Below w.heap.size w w' := by
  obtain rfl : n = ts.length := h.len.symm
  go_enter Tryz.func35, Tryz.ntmps35
  go_wp2
  go_loopw [5] (fun i wr => ∃ k : Nat, k ≤ ts.length ∧ i = .int .i64 k ∧ Below w.heap.size w wr) (fun i _ => ts.length - (intOf i).toNat)
  case atStart => exact ⟨0, by omega, rfl, Below.refl _ _⟩
  case round =>
    obtain ⟨k, hk, rfl, hb⟩ := hrel
    by_cases hlt : k < ts.length
    · obtain ⟨b, off, rfl, c0, c1, c2, c3, c4⟩ := (h.below hb).at_ hlt
      obtain ⟨b', off', rfl, d0, d1, d2, d3, d4⟩ := (h'.below hb).at_ hlt
      have i0 : (0 : Int) ≤ k := by omega
      have i1 : (k : Int) < ts.length := by omega
      go_wp2_with fail
      go_region_held3 (fun w' => w'.cell? ⟨b, off + k * 5, none⟩ = some (.int .i64 ts[k].k) ∧ w'.cell? ⟨b, off + k * 5 + 1, none⟩ = some (.int .i64 ts[k].c) ∧ w'.cell? ⟨b, off + k * 5 + 2, none⟩ = some (.int .i64 ts[k].vk) ∧ w'.cell? ⟨b, off + k * 5 + 3, none⟩ = some (.int .i64 ts[k].vn) ∧ w'.cell? ⟨b, off + k * 5 + 4, none⟩ = some (.string ts[k].vs) ∧ w'.cell? ⟨b', off' + k * 5, none⟩ = some (.int .i64 ts[k].k) ∧ w'.cell? ⟨b', off' + k * 5 + 1, none⟩ = some (.int .i64 ts[k].c) ∧ w'.cell? ⟨b', off' + k * 5 + 2, none⟩ = some (.int .i64 ts[k].vk) ∧ w'.cell? ⟨b', off' + k * 5 + 3, none⟩ = some (.int .i64 ts[k].vn) ∧ w'.cell? ⟨b', off' + k * 5 + 4, none⟩ = some (.string ts[k].vs))
        (first | go_keep | exact keep10 (by assumption) hb1)
        (first | (go_at_call 71; refine (lawsEqTok ts[k] _).mono ?_; rintro e w1 ⟨rfl, hb1⟩))
      go_wp2
      go_roundw
      case rel => exact ⟨k + 1, by omega, by go_num, hb.drew.trans (hb1.mono hb.size)⟩
      case measure => simp [intOf]; omega
    · go_wp2
      go_ret
      exact ⟨rfl, hb⟩

theorem list_of_cells {α : Type} {f : α → List Value} {p : α → Prop} : ∀ xss : List (List Value), (∀ c ∈ xss, ∃ x, c = f x ∧ p x) → ∃ xs : List α, xs.map f = xss ∧ ∀ x ∈ xs, p x
  | [], _ => ⟨[], rfl, by simp⟩
  | c :: cs, h => by
    obtain ⟨x, rfl, hp⟩ := h c (by simp)
    obtain ⟨xs, rfl, hq⟩ := list_of_cells cs fun d hd => h d (by simp [hd])
    exact ⟨x :: xs, rfl, by simpa using ⟨hp, hq⟩⟩

/-- A slice of parts among the arguments. -/
def IsToks (w : World) (a : Option Addr) (n : Nat) (ts : List Tk) : Prop := Toks w a n ts ∧ n ≤ maxLen ∧ ∀ t ∈ ts, t.vs.size ≤ maxLen

theorem toks_of_trod {H : Type} {enc : TypeId × Value → H} {W : World} {a : Option Addr} {len cap : Nat} {d : DataW H} {p : List MemPlace}
    (h : DataW.Trod enc Tryz.prog W 0 (fun _ => true) true 24 (.slice a len cap) d p) : ∃ ts, IsToks W a len ts := by
  obtain ⟨fuel, hf⟩ := h
  obtain ⟨xss, hc, hl, ht⟩ := cellz_of_trod (sz := 5) Tryz.underlying24 (by kernel_rfl) (by omega) hf
  obtain ⟨ts, rfl, hp⟩ := list_of_cells (f := Tk.cells) (p := fun t => t.vs.size ≤ maxLen) xss fun c hc => by
    obtain ⟨n, y, hy⟩ := ht c hc
    obtain ⟨k, cc, vk, vn, vs, rfl, -, -, -, -, h5⟩ := tok_of_trod Tryz.underlying99 (by kernel_rfl) ⟨rfl, rfl, rfl⟩ (by kernel_rfl) (by kernel_rfl) (by kernel_rfl) Tryz.underlying2 Tryz.underlying2
      Tryz.underlying97 ⟨rfl, rfl, rfl⟩ (by kernel_rfl) (by kernel_rfl) (by kernel_rfl) Tryz.underlying2 Tryz.underlying2 Tryz.underlying9 hy
    exact ⟨⟨k, cc, vk, vn, vs⟩, rfl, h5⟩
  exact ⟨ts, hc, hl, hp⟩
end Go.Proofs.YtbdbealabffccaaGreat
