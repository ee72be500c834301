/-
  Several texts in one: what the proof leans on, part 3.
-/
import Derived.Test.YtjhhamlnlalkoaaGreatSa
import Derived.Test.YtjhhamlnlalkoaaGreatPa
import Derived.Test.YtjhhamlnlalkoaaGreatPb
import Derived.Test.YtjhhamlnlalkoaaGreatPc
import Derived.Test.YtjhhamlnlalkoaaGreatPd
import Derived.Test.YtjhhamlnlalkoaaGreatPe
import Derived.Test.YtjhhamlnlalkoaaGreatPf
import Derived.Test.YtjhhamlnlalkoaaGreatPg
import Derived.Test.YtjhhamlnlalkoaaGreatPh
import Derived.Test.YtjhhamlnlalkoaaGreatPi
import Derived.Test.YtjhhamlnlalkoaaGreatQa
import Derived.Test.YtjhhamlnlalkoaaGreatQb
set_option linter.unusedVariables false
set_option linter.unusedSimpArgs false
namespace Go.Proofs.YtjhhamlnlalkoaaGreat
open Go.RowKit Go.Maps
set_option maxRecDepth 100000 in
set_option maxHeartbeats 1000000 in
theorem specRowOk (x : Tb) (A1 : Option Addr) (n1 c1 : Nat) (A2 : Option Addr) (n2 c2 : Nat) (A3 : Option Addr) (n3 c3 : Nat) (A4 : Option Addr) (n4 c4 : Nat) (A5 : Option Addr) (n5 c5 : Nat) (AR : Option Addr) (nR cR : Nat) (row : List Vl) (ok : Nat → Prop) (w : World)
  (h1 : Sl ClR 6 ok w A1 n1 x.cols) (h2 : Sl IntR 1 ok w A2 n2 x.key) (h3 : Sl UqR 1 ok w A3 n3 x.uniqs) (h4 : Sl CkR 1 ok w A4 n4 x.checks) (h5 : Sl FkR 5 ok w A5 n5 x.fks) (hv : Vals w AR nR row) (hcp : n1 ≤ c1 ∧ n2 ≤ c2 ∧ n3 ≤ c3 ∧ n4 ≤ c4 ∧ n5 ≤ c5) (hs : x.sz ≤ 1048576) (hn2 : nR ≤ 1048576) :
  Calls Tryz.prog 26 #[.agg #[.string x.name, .slice A1 n1 c1, .slice A2 n2 c2, .slice A3 n3 c3, .slice A4 n4 c4, .slice A5 n5 c5], .slice AR nR cR] w fun e w' => e = .returned (.bool (rowOkB x row)) ∧ Below w.heap.size w w' := by
 have HS1 := Lib.hid (show n1 ≤ 1048576 by have := h1.1; unfold Tb.sz szL at hs; omega)
 have HS4 := Lib.hid (show szL Ck.sz x.checks ≤ 1048576 by unfold Tb.sz at hs; omega)
 have HN2 := Lib.hid hn2
 have hb0 := (Below.refl w.heap.size w).alloc (Nat.le_refl _) (.cells #[.string x.name, .slice A1 n1 c1, .slice A2 n2 c2, .slice A3 n3 c3, .slice A4 n4 c4, .slice A5 n5 c5] 45)
 have r0 := Row.new w 45 #[.string x.name, .slice A1 n1 c1, .slice A2 n2 c2, .slice A3 n3 c3, .slice A4 n4 c4, .slice A5 n5 c5]
 have HCT := Lib.hid (specTableOk x A1 n1 c1 A2 n2 c2 A3 n3 c3 A4 n4 c4 A5 n5 c5 ok _ (h1.below ClR.stays hb0) (h2.below IntR.stays hb0) (h3.below UqR.stays hb0) (h4.below CkR.stays hb0) (h5.below FkR.stays hb0) hcp hs)
 clear hs hn2
 cases hT : tableB x
 ·have HF := Lib.hid (show rowOkB x row = false by unfold rowOkB; rw [hT]; rfl)
  have HT := Lib.hid hT
  clear hT
  go_enter Tryz.func26, Tryz.ntmps26
  go_wp2_with fail
  refine HCT.out.mono ?_
  rintro e w1 ⟨rfl, hq1⟩
  rw [HT.out]
  clear HCT
  go_wp2_with fail
  go_ret
  exact ⟨retB HF.out.symm, hb0.trans (hq1.mono hb0.size)⟩
 have HT := Lib.hid hT
 cases hK : kindsB x.cols row
 ·have HF := Lib.hid (show rowOkB x row = false by unfold rowOkB; rw [hT, hK]; rfl)
  have HK := Lib.hid hK
  clear hT hK
  go_enter Tryz.func26, Tryz.ntmps26
  go_wp2_with fail
  refine HCT.out.mono ?_
  rintro e w1 ⟨rfl, hq1⟩
  have hb1 := hb0.trans (hq1.mono hb0.size)
  have r1 := r0.below hq1
  obtain ⟨⟨a0, a1, a2, a3, a4, a5⟩, -⟩ := r1.all6
  rw [HT.out]
  clear HCT
  go_wp2_with fail
  refine (specKinds A1 AR n1 c1 nR cR _ _ _ _ _ x.cols row ok _ (h1.below ClR.stays hb1) (hv.below hb1) HS1.out HN2.out).mono ?_
  rintro e w2 ⟨rfl, hq2⟩
  rw [HK.out]
  go_wp2_with fail
  go_ret
  exact ⟨retB HF.out.symm, hb1.trans (hq2.mono hb1.size)⟩
 have HK := Lib.hid hK
 have HLEN := Lib.hid (show row.length = x.cols.length by unfold kindsB at hK; simp only [Bool.and_eq_true, decide_eq_true_eq] at hK; exact hK.1)
 cases hU : nullsB x.cols row
 ·have HF := Lib.hid (show rowOkB x row = false by unfold rowOkB; rw [hT, hK, hU]; rfl)
  have HU := Lib.hid hU
  clear hT hK hU
  go_enter Tryz.func26, Tryz.ntmps26
  go_wp2_with fail
  refine HCT.out.mono ?_
  rintro e w1 ⟨rfl, hq1⟩
  have hb1 := hb0.trans (hq1.mono hb0.size)
  have r1 := r0.below hq1
  obtain ⟨⟨a0, a1, a2, a3, a4, a5⟩, -⟩ := r1.all6
  rw [HT.out]
  clear HCT
  go_wp2_with fail
  refine (specKinds A1 AR n1 c1 nR cR _ _ _ _ _ x.cols row ok _ (h1.below ClR.stays hb1) (hv.below hb1) HS1.out HN2.out).mono ?_
  rintro e w2 ⟨rfl, hq2⟩
  have hb2 := hb1.trans (hq2.mono hb1.size)
  have r2 := r1.below hq2
  clear a0 a1 a2 a3 a4 a5
  obtain ⟨⟨a0, a1, a2, a3, a4, a5⟩, -⟩ := r2.all6
  rw [HK.out]
  go_wp2_with fail
  refine (specNulls A1 AR n1 c1 nR cR _ _ _ _ _ x.cols row ok _ (h1.below ClR.stays hb2) (hv.below hb2) HS1.out HN2.out HLEN.out).mono ?_
  rintro e w3 ⟨rfl, hq3⟩
  rw [HU.out]
  go_wp2_with fail
  go_ret
  exact ⟨retB HF.out.symm, hb2.trans (hq3.mono hb2.size)⟩
 have HU := Lib.hid hU
 have HRB := Lib.hid (show rowB row = true from rowB_of hT hK)
 have HEX := Lib.hid (show ∀ u ∈ x.checks, exprB u.expr row.length = true from exprs_of hT HLEN.out)
 have HF := Lib.hid (show rowOkB x row = checksB x.checks row by unfold rowOkB; rw [hT, hK, hU]; rfl)
 clear hT hK hU
 go_enter Tryz.func26, Tryz.ntmps26
 go_wp2_with fail
 refine HCT.out.mono ?_
 rintro e w1 ⟨rfl, hq1⟩
 have hb1 := hb0.trans (hq1.mono hb0.size)
 have r1 := r0.below hq1
 obtain ⟨⟨a0, a1, a2, a3, a4, a5⟩, -⟩ := r1.all6
 rw [HT.out]
 clear HCT
 go_wp2_with fail
 refine (specKinds A1 AR n1 c1 nR cR _ _ _ _ _ x.cols row ok _ (h1.below ClR.stays hb1) (hv.below hb1) HS1.out HN2.out).mono ?_
 rintro e w2 ⟨rfl, hq2⟩
 have hb2 := hb1.trans (hq2.mono hb1.size)
 have r2 := r1.below hq2
 clear a0 a1 a2 a3 a4 a5
 obtain ⟨⟨a0, a1, a2, a3, a4, a5⟩, -⟩ := r2.all6
 rw [HK.out]
 go_wp2_with fail
 refine (specNulls A1 AR n1 c1 nR cR _ _ _ _ _ x.cols row ok _ (h1.below ClR.stays hb2) (hv.below hb2) HS1.out HN2.out HLEN.out).mono ?_
 rintro e w3 ⟨rfl, hq3⟩
 have hb3 := hb2.trans (hq3.mono hb2.size)
 have r3 := r2.below hq3
 clear a0 a1 a2 a3 a4 a5
 obtain ⟨⟨a0, a1, a2, a3, a4, a5⟩, -⟩ := r3.all6
 rw [HU.out]
 go_wp2_with fail
 refine (specChecks A4 AR n4 c4 nR cR _ _ _ _ _ x.checks row ok _ (h4.below CkR.stays hb3) (hv.below hb3) HS4.out HN2.out HRB.out HEX.out).mono ?_
 rintro e w4 ⟨rfl, hq4⟩
 go_wp2_with fail
 go_ret
 exact ⟨retB (by rw [HF.out]), hb3.trans (hq4.mono hb3.size)⟩
end Go.Proofs.YtjhhamlnlalkoaaGreat
namespace Go.Proofs.YtjhhamlnlalkoaaGreat
open Go.RowKit
theorem ids_in : ∀ {cols : List Cl} {last : Int} {l : List Rw}, idsGo cols last l = true → ∀ r ∈ l, last < r.id ∧ r.id ≤ 1000000000
 | _, _, [], _ => fun r hr => by cases hr
 | cols, last, r :: rs, h => by
  rw [idsGo] at h
  simp only [Bool.and_eq_true, decide_eq_true_eq] at h
  obtain ⟨h1, h2, h3, h4⟩ := h
  have i1 := ids_in h4
  intro x hx
  rcases List.mem_cons.1 hx with rfl | hx
  ·exact ⟨h1, h2⟩
  ·have := i1 x hx; omega
theorem fw_iff {s : List Tb} {db : List Dt} (hB : dbB s db = true) {x : Fw} : x ∈ flawsB s db false ↔ ∃ j, ∃ (h : j < s.length) (h' : j < db.length), ∃ y ∈ db[j].rows, x ∈ rowFw s db s[j] db[j].rows false j y := by
 have hl := dbB_len hB
 unfold flawsB
 rw [if_pos hB]
 unfold dbFw
 rw [List.mem_flatMap]
 constructor
 ·rintro ⟨j, hj, hx⟩
  have h1 := List.mem_range.1 hj
  have h2 : j < db.length := by omega
  rw [tabFw_at _ h1 h2, List.mem_flatMap] at hx
  exact ⟨j, h1, h2, hx⟩
 ·rintro ⟨j, h1, h2, hx⟩
  refine ⟨j, List.mem_range.2 h1, ?_⟩
  rw [tabFw_at _ h1 h2, List.mem_flatMap]
  exact hx
def oneD (n i : Nat) (r : Rw) : List Dt := (List.replicate n (⟨[]⟩ : Dt)).set i ⟨[r]⟩
theorem oneD_len (n i : Nat) (r : Rw) : (oneD n i r).length = n := by unfold oneD; rw [List.length_set, List.length_replicate]
theorem oneD_at {n i j : Nat} {r : Rw} (hj : j < (oneD n i r).length) : (oneD n i r)[j].rows = if i = j then [r] else [] := by
 have hn := oneD_len n i r
 have h1 : (oneD n i r)[j]? = some (if i = j then (⟨[r]⟩ : Dt) else ⟨[]⟩) := by
  unfold oneD
  rw [List.getElem?_set, List.length_replicate]
  by_cases e : i = j
  ·subst e; rw [if_pos rfl, if_pos (by omega), if_pos rfl]
  ·rw [if_neg e, if_neg e, List.getElem?_replicate, if_pos (by omega)]
 rw [List.getElem?_eq_getElem hj] at h1
 rw [Option.some.inj h1]
 split <;> rfl
theorem one_db {s : List Tb} {db : List Dt} (hB : dbB s db = true) {i : Nat} (h : i < s.length) (h' : i < db.length) {r : Rw} (hr : r ∈ db[i].rows) : dbB s (oneD s.length i r) = true := by
 have hl := oneD_len s.length i r
 unfold dbB
 rw [dbB_schema hB, decide_eq_true hl, Bool.true_and, Bool.true_and, List.all_eq_true]
 intro p hp
 obtain ⟨j, hj, rfl⟩ := List.mem_iff_getElem.1 hp
 rw [List.length_zip] at hj
 rw [List.getElem_zip]
 unfold dbV
 show dataB s[j].cols (oneD s.length i r)[j].rows = true
 rw [oneD_at (by omega)]
 split
 ·next e =>
  subst e
  have hd := dbB_data hB h h'
  have hk := dbB_kinds hB h h' r hr
  unfold dataB at hd ⊢
  rw [Bool.and_eq_true] at hd
  have hi := ids_in hd.2 r hr
  rw [idsGo, idsGo, decide_eq_true hi.1, decide_eq_true hi.2, hk]; rfl
 ·rfl
theorem twice_one {cols : List Int} {r : Rw} : twiceB cols [r] r = false := by
 unfold twiceB
 rw [Bool.and_eq_false_iff]
 right
 rw [List.any_eq_false]
 intro x hx
 obtain ⟨y, hy, -, e⟩ := findL_mem.1 hx
 rw [List.mem_singleton] at hy
 subst hy
 subst e
 simp
theorem unique_one {t : Tb} {r : Rw} : uniqueB t [r] r = true := by
 unfold uniqueB
 rw [twice_one, Bool.not_false, Bool.true_and, List.all_eq_true]
 intro u hu
 rw [twice_one]; rfl
theorem one_bad {s : List Tb} {db : List Dt} (hB : dbB s db = true) {i : Nat} (h : i < s.length) (h' : i < db.length) {r : Rw} (hr : r ∈ db[i].rows) : (flawsB s (oneD s.length i r) false).any (fun x => x.k != 4) = !(rowOkB s[i] r.vals) := by
 have hB1 := one_db hB h h' hr
 have hl := oneD_len s.length i r
 have hro : rowOkB s[i] r.vals = (nullsB s[i].cols r.vals && checksB s[i].checks r.vals) := by
  unfold rowOkB
  rw [(schemaB_at (dbB_schema hB) h).1, dbB_kinds hB h h' r hr, Bool.true_and, Bool.true_and]
 have hmem : ∀ x, x ∈ flawsB s (oneD s.length i r) false ↔ x ∈ rowFw s (oneD s.length i r) s[i] [r] false i r := fun x => by
  rw [fw_iff hB1]
  constructor
  ·rintro ⟨j, h1, h2, y, hy, hx⟩
   rw [oneD_at h2] at hy hx
   by_cases e : i = j
   ·subst e
    rw [if_pos rfl] at hy hx
    rw [List.mem_singleton] at hy
    subst hy
    exact hx
   ·rw [if_neg e] at hy
    cases hy
  ·intro hx
   refine ⟨i, h, by omega, ?_⟩
   rw [oneD_at (by omega), if_pos rfl]
   exact ⟨r, by simp, hx⟩
 rw [hro]
 cases hn : nullsB s[i].cols r.vals
 ·rw [Bool.false_and, Bool.not_false, List.any_eq_true]
  refine ⟨⟨1, i, r.id⟩, (hmem _).2 ?_, by simp⟩
  unfold rowFw oneFw
  rw [hn]
  simp
 ·cases hc : checksB s[i].checks r.vals
  ·rw [Bool.and_false, Bool.not_false, List.any_eq_true]
   refine ⟨⟨2, i, r.id⟩, (hmem _).2 ?_, by simp⟩
   unfold rowFw oneFw
   rw [hc]
   simp
  ·rw [Bool.and_true, Bool.not_true, List.any_eq_false]
   intro x hx
   have h1 := (hmem _).1 hx
   unfold rowFw oneFw at h1
   rw [hn, hc, unique_one] at h1
   simp only [if_true, List.nil_append] at h1
   split at h1
   ·cases h1
   ·rw [List.mem_singleton] at h1
    subst h1
    simp
theorem made_repO (x : Value) (n : Nat) : madeCells #[x] n = Array.replicate n x := by
 apply Array.ext
 ·simp [madeCells]
 ·intro i h1 h2
  simp [madeCells, Nat.mod_one]
theorem mk_data (n : Nat) (hn : n ≤ 1048576) (w : World) : (Instr.makeSlice 25 (.int .i64 (n : Int)) (.int .i64 (n : Int))).run Tryz.prog w = .ok (.slice (some ⟨w.heap.size, 0, none⟩) n n) (w.alloc (.cells (Array.replicate n (Value.slice none 0 0)) 33)) := by
 have h := mk_rows (P := Tryz.prog) Tryz.underlying25 infoDataR (by omega) n hn w
 rw [Nat.mul_one] at h
 rw [← made_repO]
 exact h
theorem made_owns (w : World) {base : Nat} (hb : base ≤ w.heap.size) (T : TypeId) (x : Value) (n : Nat) (hn : n ≤ 1048576) : (w.alloc (.cells (Array.replicate n x) T)).ownsRow base T 1 (.slice (some ⟨w.heap.size, 0, none⟩) n n) n (List.replicate n x) :=
 ⟨by simp, .inr ⟨w.heap.size, n, Array.replicate n x, rfl, hb, Go.heap_alloc_last w _, Nat.le_refl _, by unfold maxLen; omega, by simp, by simp⟩⟩
theorem made_sets (w : World) {base : Nat} (hb : base ≤ w.heap.size) (T : TypeId) (x v : Value) (n k : Nat) (hn : n ≤ 1048576) : (w.alloc (.cells ((Array.replicate n x).setIfInBounds k v) T)).ownsRow base T 1 (.slice (some ⟨w.heap.size, 0, none⟩) n n) n ((List.replicate n x).set k v) :=
 ⟨by simp, .inr ⟨w.heap.size, n, (Array.replicate n x).setIfInBounds k v, rfl, hb, Go.heap_alloc_last w _, Nat.le_refl _, by unfold maxLen; omega, by simp, by rw [Array.toList_setIfInBounds, Array.toList_replicate]; exact List.take_of_length_le (by simp)⟩⟩
theorem row_mid {ok : Nat → Prop} {w : World} {b off n m c : Nat} {l : List Rw} (h : Sl RwR 2 ok w (some ⟨b, off, none⟩) n l) (hm : m < l.length) (hc : 1 ≤ c) : DtV ok w (.slice (some ⟨b, off + m * 2, none⟩) 1 c) ⟨[l[m]]⟩ := by
 refine ⟨_, 1, c, rfl, hc, rfl, fun _ => ?_⟩
 obtain ⟨b', off', e, hb, hcs⟩ := h.2 (by have := h.1; omega)
 cases e
 refine ⟨b, off + m * 2, rfl, hb, fun i hi => ?_⟩
 have hi0 : i = 0 := by simpa using hi
 subst hi0
 obtain ⟨cs, h1, h2, h3⟩ := hcs m hm
 refine ⟨cs, h1, h2, fun j v hj => ?_⟩
 have := h3 j v hj
 rwa [show off + m * 2 + 0 * 2 + j = off + m * 2 + j by omega]
theorem one_dtv {ok : Nat → Prop} {w : World} {n k : Nat} {r : Rw} {v : Value} (hv : DtV ok w v ⟨[r]⟩) : ((List.replicate n (Value.slice none 0 0)).set k v).length = (oneD n k r).length ∧ ∀ i (hi : i < (oneD n k r).length) (hi' : i < ((List.replicate n (Value.slice none 0 0)).set k v).length), DtV ok w ((List.replicate n (Value.slice none 0 0)).set k v)[i] (oneD n k r)[i] := by
 have hl := oneD_len n k r
 refine ⟨by rw [List.length_set, List.length_replicate]; omega, fun i hi hi' => ?_⟩
 have hr := oneD_at hi
 rw [List.getElem_set]
 split
 ·next e =>
  subst e
  rw [if_pos rfl] at hr
  obtain ⟨A, n', c, h1, h2, h3⟩ := hv
  exact ⟨A, n', c, h1, h2, by rw [hr]; exact h3⟩
 ·next e =>
  rw [if_neg e] at hr
  rw [List.getElem_replicate]
  exact ⟨none, 0, 0, rfl, Nat.le_refl _, by rw [hr]; exact ⟨rfl, fun h => by omega⟩⟩
theorem one_sz {ds : List Dt} {k m : Nat} (hk : k < ds.length) (hm : m < ds[k].rows.length) (h : szL Dt.sz ds ≤ 1048576) : szL Dt.sz (oneD ds.length k ds[k].rows[m]) ≤ 1048576 := by
 have h0 : ∀ n, ((List.replicate n (⟨[]⟩ : Dt)).map Dt.sz).sum = 0 := fun n => by
  induction n with
  | zero => rfl
  | succ n ih => rw [List.replicate_succ, List.map_cons, List.sum_cons, ih]; rfl
 have hs : ∀ (l : List Dt) (k : Nat) (d : Dt), ((l.set k d).map Dt.sz).sum ≤ (l.map Dt.sz).sum + d.sz := fun l => by
  induction l with
  | nil => intro k d; simp
  | cons x l ih =>
   intro k d
   cases k with
   | zero => simp only [List.set_cons_zero, List.map_cons, List.sum_cons]; omega
   | succ k => have := ih k d; simp only [List.set_cons_succ, List.map_cons, List.sum_cons]; omega
 have h1 := sum_mem_le Dt.sz ds k hk
 have h2 := sum_mem_le Rw.sz ds[k].rows m hm
 have h3 := hs (List.replicate ds.length ⟨[]⟩) k ⟨[ds[k].rows[m]]⟩
 rw [h0] at h3
 have h4 : ∀ d : Dt, d.sz = szL Rw.sz d.rows := fun d => rfl
 rw [h4] at h1 h3
 unfold szL at h h1 h3 ⊢
 rw [oneD_len]
 unfold oneD
 simp only [List.map_cons, List.map_nil, List.sum_cons, List.sum_nil, List.length_cons, List.length_nil] at h3
 omega
theorem any_take {α : Type} (f : α → Bool) {l : List α} {p : Nat} (h : p < l.length) : (l.take (p + 1)).any f = ((l.take p).any f || f l[p]) := by
 rw [List.take_succ_eq_append_getElem h, List.any_append]; simp
theorem keep8R {w w' : World} {p0 p1 p2 p3 p4 p5 p6 p7 : Addr} {a0 a1 a2 a3 a4 a5 a6 a7 : Value} (h : w.cell? p0 = some a0 ∧ w.cell? p1 = some a1 ∧ w.cell? p2 = some a2 ∧ w.cell? p3 = some a3 ∧ w.cell? p4 = some a4 ∧ w.cell? p5 = some a5 ∧ w.cell? p6 = some a6 ∧ w.cell? p7 = some a7) (hb : Below w.heap.size w w') : w'.cell? p0 = some a0 ∧ w'.cell? p1 = some a1 ∧ w'.cell? p2 = some a2 ∧ w'.cell? p3 = some a3 ∧ w'.cell? p4 = some a4 ∧ w'.cell? p5 = some a5 ∧ w'.cell? p6 = some a6 ∧ w'.cell? p7 = some a7 :=
 ⟨below_keep hb _ _ h.1, below_keep hb _ _ h.2.1, below_keep hb _ _ h.2.2.1, below_keep hb _ _ h.2.2.2.1, below_keep hb _ _ h.2.2.2.2.1, below_keep hb _ _ h.2.2.2.2.2.1, below_keep hb _ _ h.2.2.2.2.2.2.1, below_keep hb _ _ h.2.2.2.2.2.2.2⟩
end Go.Proofs.YtjhhamlnlalkoaaGreat
