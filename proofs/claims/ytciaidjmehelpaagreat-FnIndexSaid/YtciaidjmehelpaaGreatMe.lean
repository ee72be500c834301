/-
  Several texts in one: what the proof leans on, part 5.
-/
import Derived.Test.YtciaidjmehelpaaGreatMd
import Derived.Test.YtciaidjmehelpaaGreatMc
import Derived.Test.YtciaidjmehelpaaGreatMb
set_option linter.unusedVariables false
set_option linter.unusedSimpArgs false
namespace Go.Proofs.YtciaidjmehelpaaGreat
open Go.RowKit
def isMatArgs (base : Nat) (v : Value) (w : World) : Prop := ∃ (ok : Nat → Prop) (A1 : Option Addr) (c1 : Nat) (ts : List Tb) (A2 : Option Addr) (c2 : Nat) (ds : List Dt) (t : Int) (v3 : Value) (wh : List Tk),
 v = .tuple #[.slice A1 ts.length c1, .slice A2 ds.length c2, .int .i64 t, v3] ∧ ts.length ≤ c1 ∧ Sl TbR 6 ok w A1 ts.length ts ∧ Sl DtR 1 ok w A2 ds.length ds ∧ OwnT w base v3 wh ∧ schOk ts ∧ baseOk 5 ts ds ∧ ds.length ≤ ts.length ∧ 1 ≤ wh.length ∧ wh.length ≤ 7
set_option maxRecDepth 100000 in
set_option maxHeartbeats 2000000 in
theorem drawMatching (a : Option Addr) (len cap : Nat) (zs : List Int) (w : World) (h : IsRow .u8 w a len cap zs) :
  Calls Tryz.prog 10 #[.slice a len cap] w (Drawn (isMatArgs w.heap.size) w) := by
 have h0 := Rdr.new h 116
 have b0 := (Below.refl w.heap.size w).alloc (Nat.le_refl _) (.cells #[.slice a len cap, .int .i64 0] 116)
 go_enter Tryz.func10, Tryz.ntmps10
 go_wp2_with fail
 refine (specOpen _ _ _ _).mono ?_
 rintro e w1 ⟨rfl, rfl⟩
 have hRlt : w.heap.size < (w.alloc (.cells #[.slice a len cap, .int .i64 0] 116)).heap.size := by simp
 generalize w.alloc (.cells #[.slice a len cap, .int .i64 0] 116) = u at *
 go_wp2_with fail
 refine (rdSchema _ _ a len cap zs h0).mono ?_
 rintro e w2 ⟨v, rfl, hsch, hb2, hr2⟩
 obtain ⟨A1, c1, ts, rfl, hc1, hsl, hsk⟩ := hsch.full
 have hS := okF.weak TbR.stays hsl (Nat.le_refl _)
 have hok : ∀ b, u.heap.size ≤ b → b ≠ w.heap.size := fun b hb => by omega
 clear hsl hsch
 go_wp2_with fail
 refine (rdBase 5 (by omega) (by omega) A1 ts.length c1 ts _ _ _ a len cap zs hr2 hS hok hc1 hsk).mono ?_
 rintro e w3 ⟨v, rfl, ⟨A2, c2, ds, rfl, hc2, hdl, hn2, hrw⟩, hb3, hr3⟩
 have hD := okF.weak DtR.stays hdl hb2.size
 have hS3 := hS.butY TbR.stays hb3 hok
 have hlt1 := hsk.1
 have hlt3 := hsk.2.1
 clear hdl hS hr2
 go_wp2_with fail
 refine (rdPlace A1 A2 ts.length c1 ds.length c2 _ _ a len cap zs hr3 hlt1 (by omega)).mono ?_
 rintro e w4 ⟨v, rfl, ⟨t, rfl, t0, t1⟩, hb4, hr4⟩
 go_wp2_with fail
 refine (rdCond _ _ a len cap zs hr4).mono ?_
 rintro e w5 ⟨v, rfl, ⟨wh, hwh, hl, h1⟩, hb5, hr5⟩
 have hb45 := hb4.trans hb5
 have HB := Lib.hid ((hb2.trans hb3).trans hb45)
 have hS5 := hS3.butY TbR.stays hb45 hok
 have hD5 := hD.butY DtR.stays hb45 hok
 have HT := Lib.hid (OwnG.mono hwh (Nat.le_trans (Nat.le_of_lt hRlt) (hb2.trans (hb3.trans hb4)).size))
 have hl7 : wh.length ≤ 7 := hl
 clear hwh hb2 hb3 hb4 hb5 hb45 hS3 hD hr3 hr4 hr5
 go_wp2_with fail
 refine bodyPost_ret (v := .tuple #[.slice A1 ts.length c1, .slice A2 ds.length c2, .int .i64 t, v]) ?_ rfl ?_
 ·simp [results, Tryz.results10, go_sem]
 ·exact ⟨_, rfl, ⟨_, A1, c1, ts, A2, c2, ds, t, v, wh, rfl, hc1, hS5, hD5, HT.out, hsk, hrw, hn2, h1, hl7⟩, b0.trans (HB.out.below (Nat.le_refl _) (Nat.le_of_lt hRlt))⟩
def SrcT (w : World) (g : Nat) (ts : List Tk) : Prop := ∀ j u, ((ts.map Tk.cells).flatten)[j]? = some u → w.cell? ((⟨g, 0, none⟩ : Addr).add j) = some u
theorem SrcT.below {w w' : World} {g : Nat} {ts : List Tk} (h : SrcT w g ts) (hb : Below w.heap.size w w') : SrcT w' g ts := fun j u hj => below_keep hb _ _ (h j u hj)
def truW (wh : List Tk) (vals : List Vl) : Int := if wh.length = 0 then 1 else truthB wh vals
def truD (wh : List Tk) (r : Rw) : Bool := decide (0 ≤ truW wh r.vals)
def truY (wh : List Tk) (r : Rw) : Bool := truW wh r.vals == 1
def matL (wh : List Tk) (rows : List Rw) : List Int := (rows.filter (truY wh)).map Rw.id
theorem matL_yes {wh : List Tk} {rows : List Rw} {k : Nat} (h : k < rows.length) (hr : truW wh rows[k].vals = 1) : matL wh (rows.take (k + 1)) = matL wh (rows.take k) ++ [rows[k].id] := by
 have e : truY wh rows[k] = true := by simp [truY, hr]
 rw [List.take_succ_eq_append_getElem h]
 unfold matL
 rw [List.filter_append, List.map_append, List.filter_cons, if_pos e]
 rfl
theorem matL_no {wh : List Tk} {rows : List Rw} {k : Nat} (h : k < rows.length) (hr : truW wh rows[k].vals ≠ 1) : matL wh (rows.take (k + 1)) = matL wh (rows.take k) := by
 have e : ¬ (truY wh rows[k] = true) := by simp [truY, hr]
 rw [List.take_succ_eq_append_getElem h]
 unfold matL
 rw [List.filter_append, List.map_append, List.filter_cons, if_neg e]
 simp
theorem matL_len (wh : List Tk) (rows : List Rw) : (matL wh rows).length ≤ rows.length := by
 unfold matL; rw [List.length_map]; exact List.length_filter_le _ _
theorem truD_take {wh : List Tk} {rows : List Rw} {k : Nat} (h : k < rows.length) : (rows.take (k + 1)).all (truD wh) = ((rows.take k).all (truD wh) && truD wh rows[k]) := by
 rw [List.take_succ_eq_append_getElem h, List.all_append]; simp
theorem truD_no {wh : List Tk} {rows : List Rw} {k : Nat} (h : k < rows.length) (hr : truW wh rows[k].vals = -1) : rows.all (truD wh) = false := by
 rw [List.all_eq_false]
 exact ⟨rows[k], List.getElem_mem h, by simp [truD, hr]⟩
def matchO (s : List Tb) (db : List Dt) (t : Int) (wh : List Tk) : Option (List Int) :=
 match s[t.toNat]?, db[t.toNat]? with
 | some x, some d => if dbB s db && (decide (0 ≤ t) && (whereB x.cols wh && d.rows.all (truD wh))) then some (matL wh d.rows) else none
 | _, _ => none
def matchB (s : List Tb) (db : List Dt) (t : Int) (wh : List Tk) : List Int := (matchO s db t wh).getD []
def matchF (s : List Tb) (db : List Dt) (t : Int) (wh : List Tk) : Bool := (matchO s db t wh).isSome
theorem matchB_len (s : List Tb) (db : List Dt) (t : Int) (wh : List Tk) (h : szL Dt.sz db ≤ 1048576) : (matchB s db t wh).length ≤ 1048576 := by
 unfold matchB matchO
 split
 ·next x d hx hd =>
  split
  ·have h1 := matL_len wh d.rows
   obtain ⟨hi, rfl⟩ := List.getElem?_eq_some_iff.1 hd
   have h2 := sum_mem_le Dt.sz db _ hi
   unfold szL at h
   have h3 : (db[t.toNat]).rows.length ≤ (db[t.toNat]).sz := by unfold Dt.sz szL; omega
   simp only [Option.getD_some]
   omega
  ·simp
 ·simp
theorem matchO_bad {s : List Tb} {db : List Dt} {t : Int} {wh : List Tk} (h : dbB s db = false) : matchO s db t wh = none := by
 unfold matchO
 split
 ·rw [h]; rfl
 ·rfl
theorem matchO_out {s : List Tb} {db : List Dt} {t : Int} {wh : List Tk} (h : (decide (0 ≤ t) && decide (t < (s.length : Int))) = false) : matchO s db t wh = none := by
 unfold matchO
 split
 ·next x d hx hd =>
  have h1 := (List.getElem?_eq_some_iff.1 hx).1
  by_cases h0 : 0 ≤ t
  ·rw [decide_eq_true h0, decide_eq_true (by omega)] at h; cases h
  ·rw [decide_eq_false h0]; simp
 ·rfl
theorem matchO_in {s : List Tb} {db : List Dt} {m : Nat} {wh : List Tk} (h1 : m < s.length) (h2 : m < db.length) (hB : dbB s db = true) : matchO s db (m : Int) wh = if whereB s[m].cols wh && db[m].rows.all (truD wh) then some (matL wh db[m].rows) else none := by
 unfold matchO
 rw [Int.toNat_natCast, List.getElem?_eq_getElem h1, List.getElem?_eq_getElem h2]
 simp only [hB]
 simp
theorem match_none {s : List Tb} {db : List Dt} {t : Int} {wh : List Tk} (h : matchO s db t wh = none) : matchB s db t wh = [] ∧ matchF s db t wh = false := by
 unfold matchB matchF; rw [h]; exact ⟨rfl, rfl⟩
theorem match_some {s : List Tb} {db : List Dt} {t : Int} {wh : List Tk} {l : List Int} (h : matchO s db t wh = some l) : matchB s db t wh = l ∧ matchF s db t wh = true := by
 unfold matchB matchF; rw [h]; exact ⟨rfl, rfl⟩
theorem dbB_rowB {s : List Tb} {db : List Dt} (h : dbB s db = true) {m : Nat} (h1 : m < s.length) (h2 : m < db.length) : ∀ r ∈ db[m].rows, rowB r.vals = true := fun r hr => by
 have hB := h
 simp only [dbB, Bool.and_eq_true, decide_eq_true_eq] at h
 have h3 := List.all_eq_true.1 h.2.2 (s[m], db[m]) (by rw [List.mem_iff_getElem]; exact ⟨m, by rw [List.length_zip]; omega, by simp⟩)
 simp only [dbV, dataB, Bool.and_eq_true] at h3
 have h4 := idsGo_mem h3.2 r hr
 have hT : tableB s[m] = true := by
  have h5 := h.1
  simp only [schemaB, Bool.and_eq_true] at h5
  exact List.all_eq_true.1 h5.2.1 _ (List.getElem_mem h1)
 exact rowB_of hT h4
theorem dbB_cols {s : List Tb} {db : List Dt} (h : dbB s db = true) {m : Nat} (h1 : m < s.length) : s[m].cols.length ≤ 8 := by
 simp only [dbB, Bool.and_eq_true, decide_eq_true_eq, schemaB] at h
 have h5 := List.all_eq_true.1 h.1.2.1 _ (List.getElem_mem h1)
 simp only [tableB, Bool.and_eq_true, colsB, decide_eq_true_eq] at h5
 exact h5.2.1.2.1
theorem expr_parts {ts : List Tk} {n : Int} (h : exprB ts n = true) : 0 ≤ n ∧ n ≤ 16 ∧ ts.length ≤ 24 ∧ exprGo n ts 0 = some 1 := by
 simpa [exprB, and_assoc] using h
theorem expr_of {ts : List Tk} {n : Int} (h0 : 0 ≤ n) (h1 : n ≤ 16) (h2 : ts.length ≤ 24) (h3 : exprGo n ts 0 = some 1) : exprB ts n = true := by
 simp [exprB, h0, h1, h2, h3]
theorem expr_not {ts : List Tk} {n : Int} (h : exprB ts n = true) (hl : 2 * ts.length + 2 ≤ 24) : exprB (ts ++ [opTk 7]) n = true := by
 obtain ⟨h0, h1, -, h3⟩ := expr_parts h
 exact expr_of h0 h1 (by rw [List.length_append]; simp; omega) ((exprGo_one1 (.inl rfl)).2 h3)
theorem expr_and {ts : List Tk} {n : Int} (h : exprB ts n = true) (hl : 2 * ts.length + 2 ≤ 24) : exprB ((ts ++ ts) ++ [opTk 5]) n = true := by
 obtain ⟨h0, h1, -, h3⟩ := expr_parts h
 refine expr_of h0 h1 (by simp; omega) ?_
 rw [exprGo_append, exprGo_two h3]
 simp only [Option.bind_some, exprGo]
 rw [if_pos ⟨tokB_op (by omega) (by omega), by decide⟩]; rfl
theorem expr_or {ts : List Tk} {n : Int} (h : exprB ts n = true) (hl : 2 * ts.length + 2 ≤ 24) : exprB ((ts ++ ts) ++ [opTk 7, opTk 6]) n = true := by
 obtain ⟨h0, h1, -, h3⟩ := expr_parts h
 refine expr_of h0 h1 (by simp; omega) ?_
 rw [exprGo_append, exprGo_two h3]
 simp only [Option.bind_some, exprGo]
 rw [if_pos ⟨tokB_op (by omega) (by omega), by decide⟩, if_pos ⟨tokB_op (by omega) (by omega), by decide⟩]; rfl
theorem match_parts {s : List Tb} {db : List Dt} {t : Int} {wh : List Tk} (hf : matchF s db t wh = true) : ∃ m : Nat, t = m ∧ ∃ (h1 : m < s.length) (h2 : m < db.length), dbB s db = true ∧ whereB s[m].cols wh = true ∧ (∀ r ∈ db[m].rows, 0 ≤ truW wh r.vals) ∧ matchB s db t wh = matL wh db[m].rows := by
 unfold matchF at hf
 cases ho : matchO s db t wh with
 | none => rw [ho] at hf; cases hf
 | some l =>
  have ho' := ho
  unfold matchO at ho
  split at ho
  ·next x d hx hd =>
   split at ho
   ·next hc =>
    simp only [Bool.and_eq_true, decide_eq_true_eq] at hc
    obtain ⟨hB, h0, hw, ha⟩ := hc
    obtain ⟨h1, rfl⟩ := List.getElem?_eq_some_iff.1 hx
    obtain ⟨h2, rfl⟩ := List.getElem?_eq_some_iff.1 hd
    refine ⟨t.toNat, by omega, h1, h2, hB, hw, fun r hr => ?_, ?_⟩
    ·have := List.all_eq_true.1 ha r hr
     simpa [truD] using this
    ·rw [(match_some ho').1]; simpa using ho.symm
   ·cases ho
  ·cases ho
theorem match_all {s : List Tb} {db : List Dt} {m : Nat} {wh : List Tk} (h1 : m < s.length) (h2 : m < db.length) (hB : dbB s db = true) (hw : whereB s[m].cols wh = true) (ht : ∀ r ∈ db[m].rows, 0 ≤ truW wh r.vals) : matchF s db m wh = true ∧ matchB s db m wh = matL wh db[m].rows := by
 have ho : matchO s db (m : Int) wh = some (matL wh db[m].rows) := by
  rw [matchO_in h1 h2 hB, hw, if_pos]
  rw [Bool.true_and, List.all_eq_true]
  intro r hr
  simpa [truD] using ht r hr
 exact ⟨(match_some ho).2, (match_some ho).1⟩
theorem truW_pos {wh : List Tk} (h : 1 ≤ wh.length) (vals : List Vl) : truW wh vals = truthB wh vals := by
 unfold truW; rw [if_neg (by omega)]
theorem whereB_pos {wh : List Tk} (h : 1 ≤ wh.length) (cols : List Cl) : whereB cols wh = exprB wh cols.length := by
 unfold whereB; rw [decide_eq_false (by omega)]; rfl
theorem ids_apart {cols : List Cl} : ∀ {l : List Rw} {a : Int}, idsGo cols a l = true → ∀ r ∈ l, ∀ q ∈ l, r.id = q.id → r = q
 | [], _, _, r, hr, _, _, _ => by cases hr
 | x :: l, a, h, r, hr, q, hq, e => by
  simp only [idsGo, Bool.and_eq_true, decide_eq_true_eq] at h
  obtain ⟨-, -, -, h'⟩ := h
  have hlt : ∀ y ∈ l, x.id < y.id := fun y hy => ((idsGo_le h').2 y hy).1
  rcases List.mem_cons.1 hr with rfl | hr'
  ·rcases List.mem_cons.1 hq with rfl | hq'
   ·rfl
   ·have := hlt q hq'; omega
  ·rcases List.mem_cons.1 hq with rfl | hq'
   ·have := hlt r hr'; omega
   ·exact ids_apart h' r hr' q hq' e
theorem dbB_ids {s : List Tb} {db : List Dt} (h : dbB s db = true) {m : Nat} (h1 : m < s.length) (h2 : m < db.length) : ∀ r ∈ db[m].rows, ∀ q ∈ db[m].rows, r.id = q.id → r = q := by
 have h3 := dbB_data h h1 h2
 simp only [dataB, Bool.and_eq_true] at h3
 exact ids_apart h3.2
theorem match_not {s : List Tb} {db : List Dt} {t : Int} {wh : List Tk} (hf : matchF s db t wh = true) (hl : 1 ≤ wh.length) (h24 : 2 * wh.length + 2 ≤ 24) : matchF s db t (wh ++ [opTk 7]) = true ∧ ∀ x ∈ matchB s db t wh, ∀ y ∈ matchB s db t (wh ++ [opTk 7]), x ≠ y := by
 obtain ⟨m, rfl, h1, h2, hB, hw, ht, hm⟩ := match_parts hf
 rw [whereB_pos hl] at hw
 have hl' : 1 ≤ (wh ++ [opTk 7]).length := by simp
 have hlt : wh.length < 24 := by omega
 have ht' : ∀ r ∈ db[m].rows, truW (wh ++ [opTk 7]) r.vals = not3 (truthB wh r.vals) := fun r hr => by rw [truW_pos hl', truthB_not hlt]
 obtain ⟨f, e⟩ := match_all h1 h2 hB (wh := wh ++ [opTk 7]) (by rw [whereB_pos hl']; exact expr_not hw h24) (fun r hr => by
  rw [ht' r hr]
  have h0 := ht r hr
  rw [truW_pos hl] at h0
  obtain ⟨v, -, -, h3⟩ := truthB_some h0
  have := not3_in h3
  omega)
 refine ⟨f, fun x hx y hy hxy => ?_⟩
 rw [hm] at hx
 rw [e] at hy
 unfold matL at hx hy
 obtain ⟨r, hr, rfl⟩ := List.mem_map.1 hx
 obtain ⟨q, hq, rfl⟩ := List.mem_map.1 hy
 obtain ⟨hr1, hr2⟩ := List.mem_filter.1 hr
 obtain ⟨hq1, hq2⟩ := List.mem_filter.1 hq
 obtain rfl := dbB_ids hB h1 h2 r hr1 q hq1 hxy
 simp only [truY, beq_iff_eq] at hr2 hq2
 rw [ht' r hr1] at hq2
 rw [truW_pos hl] at hr2
 rw [hr2] at hq2
 exact absurd hq2 (by decide)
theorem match_both {s : List Tb} {db : List Dt} {t : Int} {wh : List Tk} (hf : matchF s db t wh = true) (hl : 1 ≤ wh.length) (h24 : 2 * wh.length + 2 ≤ 24) : matchF s db t ((wh ++ wh) ++ [opTk 5]) = true ∧ matchB s db t ((wh ++ wh) ++ [opTk 5]) = matchB s db t wh := by
 obtain ⟨m, rfl, h1, h2, hB, hw, ht, hm⟩ := match_parts hf
 rw [whereB_pos hl] at hw
 have hl' : 1 ≤ ((wh ++ wh) ++ [opTk 5]).length := by simp; omega
 have ht' : ∀ r ∈ db[m].rows, truW ((wh ++ wh) ++ [opTk 5]) r.vals = truW wh r.vals := fun r hr => by
  have h0 := ht r hr
  rw [truW_pos hl] at h0 ⊢
  rw [truW_pos hl', truthB_both h24 h0]
 obtain ⟨f, e⟩ := match_all h1 h2 hB (wh := (wh ++ wh) ++ [opTk 5]) (by rw [whereB_pos hl']; exact expr_and hw h24) (fun r hr => by rw [ht' r hr]; exact ht r hr)
 refine ⟨f, ?_⟩
 rw [e, hm]
 unfold matL
 rw [List.filter_congr (q := truY wh) (fun r hr => by unfold truY; rw [ht' r hr])]
theorem match_or {s : List Tb} {db : List Dt} {t : Int} {wh : List Tk} (hf : matchF s db t wh = true) (hl : 1 ≤ wh.length) (h24 : 2 * wh.length + 2 ≤ 24) : matchF s db t ((wh ++ (wh ++ [opTk 7])) ++ [opTk 6]) = true ∧ (matchB s db t ((wh ++ (wh ++ [opTk 7])) ++ [opTk 6])).length = (matchB s db t wh).length + (matchB s db t (wh ++ [opTk 7])).length := by
 rw [show (wh ++ (wh ++ [opTk 7])) ++ [opTk 6] = (wh ++ wh) ++ [opTk 7, opTk 6] by simp]
 obtain ⟨m, rfl, h1, h2, hB, hw, ht, hm⟩ := match_parts hf
 rw [whereB_pos hl] at hw
 have hl1 : 1 ≤ (wh ++ [opTk 7]).length := by simp
 have hl' : 1 ≤ ((wh ++ wh) ++ [opTk 7, opTk 6]).length := by simp; omega
 have hlt : wh.length < 24 := by omega
 have h3 : ∀ r ∈ db[m].rows, truthB wh r.vals = 0 ∨ truthB wh r.vals = 1 ∨ truthB wh r.vals = 2 := fun r hr => by
  have h0 := ht r hr
  rw [truW_pos hl] at h0
  obtain ⟨v, -, -, h3⟩ := truthB_some h0
  exact h3
 have ht1 : ∀ r ∈ db[m].rows, truW (wh ++ [opTk 7]) r.vals = not3 (truthB wh r.vals) := fun r hr => by rw [truW_pos hl1, truthB_not hlt]
 have ht2 : ∀ r ∈ db[m].rows, truW ((wh ++ wh) ++ [opTk 7, opTk 6]) r.vals = or3 (truthB wh r.vals) (not3 (truthB wh r.vals)) := fun r hr => by
  have h0 := ht r hr
  rw [truW_pos hl] at h0
  rw [truW_pos hl', truthB_or h24 h0]
 obtain ⟨f1, e1⟩ := match_all h1 h2 hB (wh := wh ++ [opTk 7]) (by rw [whereB_pos hl1]; exact expr_not hw h24) (fun r hr => by
  rw [ht1 r hr]
  rcases h3 r hr with h | h | h <;> rw [h] <;> decide)
 obtain ⟨f2, e2⟩ := match_all h1 h2 hB (wh := (wh ++ wh) ++ [opTk 7, opTk 6]) (by rw [whereB_pos hl']; exact expr_or hw h24) (fun r hr => by
  rw [ht2 r hr]
  rcases h3 r hr with h | h | h <;> rw [h] <;> decide)
 refine ⟨f2, ?_⟩
 rw [e2, e1, hm]
 unfold matL
 simp only [List.length_map]
 have key : ∀ l : List Rw, (∀ r ∈ l, truthB wh r.vals = 0 ∨ truthB wh r.vals = 1 ∨ truthB wh r.vals = 2) → (∀ r ∈ l, truW (wh ++ [opTk 7]) r.vals = not3 (truthB wh r.vals)) → (∀ r ∈ l, truW ((wh ++ wh) ++ [opTk 7, opTk 6]) r.vals = or3 (truthB wh r.vals) (not3 (truthB wh r.vals))) →
   (l.filter (truY ((wh ++ wh) ++ [opTk 7, opTk 6]))).length = (l.filter (truY wh)).length + (l.filter (truY (wh ++ [opTk 7]))).length := by
  intro l
  induction l with
  | nil => intro _ _ _; rfl
  | cons x l ih =>
   intro g1 g2 g3
   have i := ih (fun r hr => g1 r (List.mem_cons_of_mem _ hr)) (fun r hr => g2 r (List.mem_cons_of_mem _ hr)) (fun r hr => g3 r (List.mem_cons_of_mem _ hr))
   have x1 := g1 x (List.mem_cons_self ..)
   have x2 := g2 x (List.mem_cons_self ..)
   have x3 := g3 x (List.mem_cons_self ..)
   have x4 : truW wh x.vals = truthB wh x.vals := truW_pos hl _
   simp only [List.filter_cons]
   have y1 : truY wh x = (truthB wh x.vals == 1) := by unfold truY; rw [x4]
   have y2 : truY (wh ++ [opTk 7]) x = (not3 (truthB wh x.vals) == 1) := by unfold truY; rw [x2]
   have y3 : truY ((wh ++ wh) ++ [opTk 7, opTk 6]) x = (or3 (truthB wh x.vals) (not3 (truthB wh x.vals)) == 1) := by unfold truY; rw [x3]
   rw [y1, y2, y3]
   rcases x1 with h | h | h <;> rw [h]
   ·rw [if_pos (by decide), if_neg (by decide), if_pos (by decide)]; simp only [List.length_cons]; omega
   ·rw [if_pos (by decide), if_pos (by decide), if_neg (by decide)]; simp only [List.length_cons]; omega
   ·rw [if_neg (by decide), if_neg (by decide), if_neg (by decide)]; omega
 exact key _ h3 ht1 ht2
end Go.Proofs.YtciaidjmehelpaaGreat
namespace Go.Proofs.YtciaidjmehelpaaGreat
open Go.RowKit Go.Maps
def MadeM (s : List Tb) (db : List Dt) (t : Int) (wh : List Tk) (w : World) : Ending → World → Prop := MadeF IntR 1 (matchB s db t wh) (matchF s db t wh) w
theorem made_none {s : List Tb} {db : List Dt} {t : Int} {wh : List Tk} {w w' : World} (h : matchO s db t wh = none) (hb : Below w.heap.size w w') : MadeM s db t wh w (.returned (.tuple #[.slice none 0 0, .bool false])) w' := by
 obtain ⟨h1, h2⟩ := match_none h
 exact ⟨none, 0, by rw [h1, h2]; rfl, by rw [h1]; exact Nat.le_refl _, by rw [h1]; exact ⟨rfl, fun h => by simp at h⟩, hb⟩
set_option maxRecDepth 100000 in
set_option maxHeartbeats 4000000 in
theorem implMatching (AS AD AW : Option Addr) (nS cS nD cD nW cW : Nat) (s : List Tb) (db : List Dt) (t : Int) (wh : List Tk) (ok ok' okw : Nat → Prop) (w : World)
  (hs : Sl TbR 6 ok w AS nS s) (hd : Sl DtR 1 ok' w AD nD db) (hw : Sl TkR 5 okw w AW nW wh) (hsz : szL Tb.sz s ≤ 1048576) (hdz : szL Dt.sz db ≤ 1048576) (hwn : nW ≤ 1048576) :
  Calls Tryz.prog 11 #[.slice AS nS cS, .slice AD nD cD, .int .i64 t, .slice AW nW cW] w (MadeM s db t wh w) := by
 obtain rfl : s.length = nS := hs.1
 obtain rfl : db.length = nD := hd.1
 obtain rfl : wh.length = nW := hw.1
 have hn1 : s.length ≤ 1048576 := by unfold szL at hsz; omega
 have hn2 : db.length ≤ 1048576 := by unfold szL at hdz; omega
 have HDZ := Lib.hid hdz
 have HVS := Lib.hid (rows_le hdz)
 have HDB := Lib.hid (implDbOk' AS AD s.length cS db.length cD s db ok ok' w hs hd hsz hdz)
 clear hsz hdz
 cases hB : dbB s db
 ·have HB := Lib.hid hB
  have HR := Lib.hid (matchO_bad (t := t) (wh := wh) hB)
  clear hB
  go_enter Tryz.func11, Tryz.ntmps11
  go_wp2_with fail
  refine HDB.out.mono ?_
  rintro e w1 ⟨rfl, hb1⟩
  rw [HB.out]
  go_wp2_with fail
  go_ret2
  exact made_none HR.out hb1
 have HB := Lib.hid hB
 have HLEN := Lib.hid (dbB_len hB)
 clear hB
 cases hin : (decide (0 ≤ t) && decide (t < (s.length : Int)))
 ·have HI := Lib.hid hin
  have HR := Lib.hid (matchO_out (db := db) (wh := wh) hin)
  clear hin
  go_enter Tryz.func11, Tryz.ntmps11
  go_wp2_with fail
  refine HDB.out.mono ?_
  rintro e w1 ⟨rfl, hb1⟩
  rw [HB.out]
  go_wp2_with fail
  refine (implPlaceK HI.out _).mono ?_
  rintro e w2 ⟨rfl, rfl⟩
  go_wp2_with fail
  go_ret2
  exact made_none HR.out hb1
 have HI := Lib.hid hin
 obtain ⟨m, rfl, hm⟩ : ∃ m : Nat, t = m ∧ m < s.length := by
  simp only [Bool.and_eq_true, decide_eq_true_eq] at hin
  exact ⟨t.toNat, by omega, by omega⟩
 have hmd : m < db.length := by have := HLEN.out; omega
 have m0 : (0 : Int) ≤ m := by omega
 have m1 : (m : Int) < s.length := by omega
 have m2 : (m : Int) < db.length := by omega
 have HO := Lib.hid (matchO_in (wh := wh) hm hmd HB.out)
 clear hin
 cases hwo : whereB s[m].cols wh
 ·have HW := Lib.hid hwo
  have HR := Lib.hid (show matchO s db (m : Int) wh = none by rw [HO.out, hwo]; rfl)
  clear hwo
  go_enter Tryz.func11, Tryz.ntmps11
  go_wp2_with fail
  refine HDB.out.mono ?_
  rintro e w1 ⟨rfl, hb1⟩
  rw [HB.out]
  go_wp2_with fail
  refine (implPlaceK HI.out _).mono ?_
  rintro e w2 ⟨rfl, rfl⟩
  obtain ⟨b, off, A1, n1, c1, A2, n2, c2, A3, n3, c3, A4, n4, c4, A5, n5, c5, -, rfl, q0, q1, q2, q3, q4, q5, s1, -⟩ := TbR.at_ (hs.below TbR.stays hb1) hm
  obtain rfl : s[m].cols.length = n1 := s1.1
  have HWC := Lib.hid (implWhereOk b (off + m * 6) A1 AW c1 wh.length cW s[m].cols wh _ w1 q1 (hw.below TkR.stays hb1) hwn)
  go_wp2_with fail
  refine HWC.out.mono ?_
  rintro e w3 ⟨rfl, hb3⟩
  rw [HW.out]
  go_wp2_with fail
  go_ret2
  exact made_none HR.out (hb1.trans (hb3.mono hb1.size))
 have HW := Lib.hid hwo
 have HRB := Lib.hid (fun (r : Rw) (hr : r ∈ db[m].rows) => (by have h1 := dbB_row HB.out hm hmd r hr; have h2 := dbB_cols HB.out hm; omega : r.vals.length ≤ 1048576))
 have HRN := Lib.hid (show db[m].rows.length ≤ 1048576 by have h1 := HDZ.out; have := sum_mem_le Dt.sz db m hmd; simp only [szL, Dt.sz] at *; omega)
 obtain ⟨i0, hi, hz0, hz1, hz2⟩ := info_parts infoIntI
 have H1 := Lib.hid hi
 have H2 := Lib.hid hz0
 have H3 := Lib.hid hz1
 have H4 := Lib.hid hz2
 clear hwo hi hz0 hz1 hz2
 go_enter Tryz.func11, Tryz.ntmps11
 go_wp2_with fail
 refine HDB.out.mono ?_
 rintro e w1 ⟨rfl, hb1⟩
 rw [HB.out]
 go_wp2_with fail
 refine (implPlaceK HI.out _).mono ?_
 rintro e w2 ⟨rfl, rfl⟩
 obtain ⟨b, off, A1, n1, c1, A2, n2, c2, A3, n3, c3, A4, n4, c4, A5, n5, c5, -, rfl, q0, q1, q2, q3, q4, q5, s1, -⟩ := TbR.at_ (hs.below TbR.stays hb1) hm
 obtain rfl : s[m].cols.length = n1 := s1.1
 have HWC := Lib.hid (implWhereOk b (off + m * 6) A1 AW c1 wh.length cW s[m].cols wh _ w1 q1 (hw.below TkR.stays hb1) hwn)
 go_wp2_with fail
 refine HWC.out.mono ?_
 rintro e w3 ⟨rfl, hb3⟩
 rw [HW.out]
 have hbz := hb1.trans (hb3.mono hb1.size)
 clear q0 q1 q2 q3 q4 q5 hb1 hb3 HWC
 obtain ⟨bd, offd, AL, nL, cL, -, rfl, y0, hrs, -⟩ := DtR.at_ (hd.below DtR.stays hbz) hmd
 obtain rfl : db[m].rows.length = nL := hrs.1
 have hwz := hw.below TkR.stays hbz
 have HO2 := Lib.hid (show matchO s db (m : Int) wh = if db[m].rows.all (truD wh) then some (matL wh db[m].rows) else none by rw [HO.out, HW.out]; rfl)
 clear HO
 generalize hrg : db[m].rows = rows at *
 have HRG := Lib.hid hrg
 clear hrg
 have hrnn : rows.length ≤ 1048576 := HRN.out
 go_wp2_with fail
 clear y0
 go_loopw [10, 39] (fun v i wr => ∃ k : Nat, k ≤ rows.length ∧ i = .int .i64 k ∧ Hid (OwnI wr w3.heap.size v (matL wh (rows.take k))) ∧ Hid ((rows.take k).all (truD wh) = true) ∧ Below w3.heap.size w3 wr) (fun _ i _ => rows.length - (intOf i).toNat)
 case atStart => exact ⟨0, by omega, rfl, Lib.hid (OwnI.nil _ _), Lib.hid (by simp), Below.refl _ _⟩
 case round =>
  obtain ⟨k, hk', rfl, hown, hall, hb⟩ := hrel
  by_cases hlt : k < rows.length
  ·obtain ⟨bl, ol, B1, k1, d1, -, rfl, z0, z1, hv, -⟩ := RwR.at_ (hrs.below RwR.stays hb) hlt
   obtain rfl : rows[k].vals.length = k1 := hv.1
   have i0' : (0 : Int) ≤ k := by omega
   have i1 : (k : Int) < rows.length := by omega
   have hbx := hb.alloc hb.size (.cells #[.int .i64 rows[k].id, .slice B1 rows[k].vals.length d1] 57)
   have hlb := (Below.refl wr.heap.size wr).alloc (Nat.le_refl _) (.cells #[.int .i64 rows[k].id, .slice B1 rows[k].vals.length d1] 57)
   have rb := Row.new wr 57 #[.int .i64 rows[k].id, .slice B1 rows[k].vals.length d1]
   have hown' := Lib.hid (hown.out.below hlb)
   have HLEN2 := Lib.hid (show (matL wh (rows.take k)).length ≤ k by have := matL_len wh (rows.take k); rw [List.length_take] at this; omega)
   have HRB2 := Lib.hid rb
   have hvb := hv.below VlR.stays hlb
   have hwb := (hwz.below TkR.stays hb).below TkR.stays hlb
   have HTD := Lib.hid (truD_take (wh := wh) hlt)
   clear hown hv hlb rb
   by_cases h0 : wh.length = 0
   ·have HN := Lib.hid (matL_yes (wh := wh) hlt (by unfold truW; rw [if_pos h0]))
    have HA := Lib.hid (show (rows.take (k + 1)).all (truD wh) = true by rw [HTD.out, hall.out]; simp [truD, truW, h0])
    have e0 : decide ((0 : Int) < (wh.length : Int)) = false := decide_eq_false (by omega)
    have e0n : decide (0 < wh.length) = false := decide_eq_false (by omega)
    clear h0 hvb hwb
    generalize hgv : matL wh (rows.take k) = ys at *
    have HGV := Lib.hid hgv
    clear hgv
    go_wp2_with (at_builtin; refine wpList_append_own _ rfl _ _ 29 rfl w3.heap.size 2 i0 (.int .i64 0) 1 8 Tryz.underlying29 H1.out H2.out H3.out H4.out rfl (by decide) _ _ _ rfl (World.ownsRow.alloc hown'.out _) ⟨_, 0, none⟩ 1 1 [.int .i64 rows[k].id] rfl rfl ?c1 ?c2 ?c3 ?c4 ?c5 ?_)
    case c1 => exact cells_newAt _ [.int .i64 rows[k].id] _ (by simp)
    case c2 => intro u hu; simp at hu; subst hu; rfl
    case c3 => have := HLEN2.out; have := HRN.out; unfold maxLen; omega
    case c4 => have := HLEN2.out; have := HRN.out; omega
    case c5 => have := hbx.size; simp at this ⊢; omega
    intro v' w5 hown5 hgrow _
    have R := Lib.hid (OwnI.app hown'.out hbx.size hown5 hgrow)
    clear hown5 hgrow hown'
    go_wp2_with fail
    go_roundw
    case rel => exact ⟨k + 1, by omega, by go_num, Lib.hid (by rw [HN.out]; exact R.out.1), HA, hbx.trans R.out.2⟩
    case measure => simp [intOf]; omega
   ·have HT0 := Lib.hid (show truW wh rows[k].vals = truthB wh rows[k].vals by unfold truW; rw [if_neg h0])
    have HC := Lib.hid (implTruth AW B1 wh.length rows[k].vals.length cW d1 wh rows[k].vals _ (Sl.cellz (fun _ => rfl) hwb) (Sl.cellz (fun _ => rfl) hvb) (by unfold maxLen; omega) (by have := HRB.out _ (List.getElem_mem hlt); unfold maxLen; omega))
    have e0 : decide ((0 : Int) < (wh.length : Int)) = true := decide_eq_true (by omega)
    have e0n : decide (0 < wh.length) = true := decide_eq_true (by omega)
    have hr4 := truthB_rng wh rows[k].vals
    clear h0 hvb hwb
    by_cases hm1 : truthB wh rows[k].vals = -1
    ·have HF := Lib.hid (show matchO s db (m : Int) wh = none by rw [HO2.out, truD_no hlt (HT0.out.trans hm1)]; rfl)
     have HV := Lib.hid hm1
     clear hm1 hr4
     go_wp2_with fail
     refine HC.out.mono ?_
     rintro e w4 ⟨rfl, hb4⟩
     rw [HV.out]
     go_wp2_with fail
     go_ret2
     exact made_none HF.out (hbz.trans ((hbx.trans (hb4.mono hbx.size)).mono hbz.size))
    ·by_cases hy : truthB wh rows[k].vals = 1
     ·have HN := Lib.hid (matL_yes (wh := wh) hlt (HT0.out.trans hy))
      have HA := Lib.hid (show (rows.take (k + 1)).all (truD wh) = true by rw [HTD.out, hall.out]; simp [truD, HT0.out, hy])
      have HV := Lib.hid hy
      clear hm1 hy hr4
      go_wp2_with fail
      refine HC.out.mono ?_
      rintro e w4 ⟨rfl, hb4⟩
      rw [HV.out]
      have hoz := Lib.hid (hown'.out.below hb4)
      have rb4 := HRB2.out.below hb4
      have hbw := hbx.trans (hb4.mono hbx.size)
      obtain ⟨⟨x0, x1⟩, -⟩ := rb4.all2
      clear hown' HC HRB2 hb4 rb4
      generalize hgv : matL wh (rows.take k) = ys at *
      have HGV := Lib.hid hgv
      clear hgv
      go_wp2_with (at_builtin; refine wpList_append_own _ rfl _ _ 29 rfl w3.heap.size 2 i0 (.int .i64 0) 1 8 Tryz.underlying29 H1.out H2.out H3.out H4.out rfl (by decide) _ _ _ rfl (World.ownsRow.alloc hoz.out _) ⟨_, 0, none⟩ 1 1 [.int .i64 rows[k].id] rfl rfl ?d1 ?d2 ?d3 ?d4 ?d5 ?_)
      case d1 => exact cell_one_new _ _ _
      case d2 => intro u hu; simp at hu; subst hu; rfl
      case d3 => have := HLEN2.out; have := HRN.out; unfold maxLen; omega
      case d4 => have := HLEN2.out; have := HRN.out; omega
      case d5 => have := hbw.size; simp; omega
      intro v' w5 hown5 hgrow _
      have R := Lib.hid (OwnI.app hoz.out hbw.size hown5 hgrow)
      clear hown5 hgrow hoz
      go_wp2_with fail
      go_roundw
      case rel => exact ⟨k + 1, by omega, by go_num, Lib.hid (by rw [HN.out]; exact R.out.1), HA, hbw.trans R.out.2⟩
      case measure => simp [intOf]; omega
     ·have HN := Lib.hid (matL_no (wh := wh) hlt (by rw [HT0.out]; exact hy))
      have HA := Lib.hid (show (rows.take (k + 1)).all (truD wh) = true by rw [HTD.out, hall.out]; simp [truD, HT0.out]; omega)
      rcases (by omega : truthB wh rows[k].vals = 0 ∨ truthB wh rows[k].vals = 2) with hv2 | hv2
      ·have HV := Lib.hid hv2
       clear hm1 hy hr4 hv2
       go_wp2_with fail
       refine HC.out.mono ?_
       rintro e w4 ⟨rfl, hb4⟩
       rw [HV.out]
       have hoz := Lib.hid (hown'.out.below hb4)
       go_wp2_with fail
       go_roundw
       case rel => exact ⟨k + 1, by omega, by go_num, Lib.hid (by rw [HN.out]; exact hoz.out), HA, hbx.trans (hb4.mono hbx.size)⟩
       case measure => simp [intOf]; omega
      ·have HV := Lib.hid hv2
       clear hm1 hy hr4 hv2
       go_wp2_with fail
       refine HC.out.mono ?_
       rintro e w4 ⟨rfl, hb4⟩
       rw [HV.out]
       have hoz := Lib.hid (hown'.out.below hb4)
       go_wp2_with fail
       go_roundw
       case rel => exact ⟨k + 1, by omega, by go_num, Lib.hid (by rw [HN.out]; exact hoz.out), HA, hbx.trans (hb4.mono hbx.size)⟩
       case measure => simp [intOf]; omega
  ·obtain rfl : k = rows.length := by omega
   have ho := hown.out
   have ha := hall.out
   rw [List.take_of_length_le (Nat.le_refl _)] at ho ha
   obtain ⟨AO, cO, rfl, hcO, hcm, hsl⟩ := OwnI.sl ho
   have HSL := Lib.hid hsl
   have HF := Lib.hid (match_some (show matchO s db (m : Int) wh = some (matL wh rows) by rw [HO2.out, ha]; rfl))
   clear hown hall ho ha hsl
   have hbw := hbz.trans (hb.mono hbz.size)
   go_wp2_with fail
   go_ret2
   exact ⟨AO, cO, by rw [HF.out.1, HF.out.2]; rfl, by rw [HF.out.1]; exact hcO, by rw [HF.out.1]; exact HSL.out.stays IntR.stays (fun b hb => hb.mono hbz.size) (fun _ _ _ h => h), hbw⟩
set_option maxRecDepth 100000 in
set_option maxHeartbeats 1000000 in
theorem specL6Ok (AS AD : Option Addr) (nS cS nD cD : Nat) (s : List Tb) (db : List Dt) (t : Int) (ok ok' : Nat → Prop) (w : World) (hs : Sl TbR 6 ok w AS nS s) (hd : Sl DtR 1 ok' w AD nD db) (hcp : nS ≤ cS) (hsz : szL Tb.sz s ≤ 1048576) (hdz : szL Dt.sz db ≤ 1048576) :
  Calls Tryz.prog 45 #[.slice AS nS cS, .slice AD nD cD, .int .i64 t] w fun e w' => e = .returned (.bool (dbB s db && (decide (0 ≤ t) && decide (t < (s.length : Int))))) ∧ Below w.heap.size w w' := by
 obtain rfl : s.length = nS := hs.1
 have hn1 : s.length ≤ 1048576 := by unfold szL at hsz; omega
 have HDB := Lib.hid (specDbOk AS AD s.length cS nD cD s db ok ok' w hs hd hcp hsz hdz)
 have i2 : IntKind.i64.wrap ((s.length : Int) - 1) = (s.length : Int) - 1 := IntWalk.i64_in _ (by omega)
 have HI := Lib.hid (show (decide (0 ≤ t) && decide (t ≤ (s.length : Int) - 1)) = (decide (0 ≤ t) && decide (t < (s.length : Int))) by congr 1; rw [decide_eq_decide]; omega)
 clear hsz hdz hs hd
 cases hB : dbB s db
 ·have HB := Lib.hid hB
  clear hB
  go_enter Tryz.func45, Tryz.ntmps45
  go_wp2_with fail
  refine HDB.out.mono ?_
  rintro e w1 ⟨rfl, hb1⟩
  rw [HB.out]
  go_wp2_with fail
  go_ret
  exact ⟨rfl, hb1⟩
 ·have HB := Lib.hid hB
  clear hB
  go_enter Tryz.func45, Tryz.ntmps45
  go_wp2_with fail
  refine HDB.out.mono ?_
  rintro e w1 ⟨rfl, hb1⟩
  rw [HB.out]
  go_wp2_with fail
  refine (specInK HI.out _).mono ?_
  rintro e w2 ⟨rfl, rfl⟩
  go_wp2_with fail
  go_ret
  exact ⟨retB (by simp), hb1⟩
def MadeL7 (wh : List Tk) (rows : List Rw) (w : World) : Ending → World → Prop := MadeF IntR 1 (if rows.all (truD wh) then matL wh rows else []) (rows.all (truD wh)) w
set_option maxRecDepth 100000 in
set_option maxHeartbeats 4000000 in
theorem specL7Matching (AL AW : Option Addr) (nL cL nW cW : Nat) (rows : List Rw) (wh : List Tk) (n : Nat) (ok okw : Nat → Prop) (w : World)
  (hr : Sl RwR 2 ok w AL nL rows) (hw : Sl TkR 5 okw w AW nW wh) (hrn : nL ≤ 1048576) (hwn : nW ≤ 1048576) (hrb : ∀ r ∈ rows, rowB r.vals = true ∧ r.vals.length = n) (hwo : wh.length ≠ 0 → exprB wh n = true) :
  Calls Tryz.prog 47 #[.agg #[.slice AL nL cL], .slice AW nW cW] w (MadeL7 wh rows w) := by
 obtain rfl : rows.length = nL := hr.1
 obtain rfl : wh.length = nW := hw.1
 have HRB := Lib.hid hrb
 have HWO := Lib.hid hwo
 obtain ⟨i0, hi, hz0, hz1, hz2⟩ := info_parts infoIntI
 have H1 := Lib.hid hi
 have H2 := Lib.hid hz0
 have H3 := Lib.hid hz1
 have H4 := Lib.hid hz2
 clear hrb hwo hi hz0 hz1 hz2
 have rb := (Row.new w 55 #[.slice AL rows.length cL]).alloc (.cells #[] 2)
 have hb0 := (((Below.refl w.heap.size w).alloc (Nat.le_refl _) (.cells #[.slice AL rows.length cL] 55)).alloc (by simp) (.cells #[] 2))
 have ho0 : Hid (OwnI ((w.alloc (.cells #[.slice AL rows.length cL] 55)).alloc (.cells #[] 2)) (w.heap.size + 1) (.slice (some ⟨w.heap.size + 1, 0, none⟩) 0 0) []) := by
  have h := OwnI.lit (w.alloc (.cells #[.slice AL rows.length cL] 55)) (base := w.heap.size + 1) (by simp)
  have e : (w.alloc (.cells #[.slice AL rows.length cL] 55)).heap.size = w.heap.size + 1 := by simp
  rw [e] at h
  exact Lib.hid h
 go_enter Tryz.func47, Tryz.ntmps47
 go_wp2_with fail
 have hsz0 : w.heap.size + 1 ≤ ((w.alloc (.cells #[.slice AL rows.length cL] 55)).alloc (.cells #[] 2)).heap.size := by simp
 have HSZ0 := Lib.hid hsz0
 clear hsz0
 generalize (w.alloc (.cells #[.slice AL rows.length cL] 55)).alloc (.cells #[] 2) = z0 at *
 go_loopw [6, 7] (fun v i wr => ∃ k : Nat, k ≤ rows.length ∧ i = .int .i64 k ∧ Hid (OwnI wr (w.heap.size + 1) v (matL wh (rows.take k))) ∧ Hid ((rows.take k).all (truD wh) = true) ∧ Row wr w.heap.size 55 #[.slice AL rows.length cL] ∧ Hid (w.heap.size + 1 ≤ wr.heap.size) ∧ Below w.heap.size w wr) (fun _ i _ => rows.length - (intOf i).toNat)
 case atStart => exact ⟨0, by omega, rfl, by exact ho0, Lib.hid (by simp), rb, HSZ0, hb0⟩
 case round =>
  clear hb0 ho0 rb
  obtain ⟨k, hk', rfl, hown, hall, rb, hsz, hb⟩ := hrel
  obtain ⟨c0, -⟩ := rb.all1
  by_cases hlt : k < rows.length
  ·obtain ⟨bl, ol, B1, k1, d1, -, rfl, z0, z1, hv, -⟩ := RwR.at_ (hr.below RwR.stays hb) hlt
   obtain rfl : rows[k].vals.length = k1 := hv.1
   have i0' : (0 : Int) ≤ k := by omega
   have i1 : (k : Int) < rows.length := by omega
   have HLEN2 := Lib.hid (show (matL wh (rows.take k)).length ≤ k by have := matL_len wh (rows.take k); rw [List.length_take] at this; omega)
   have HTD := Lib.hid (truD_take (wh := wh) hlt)
   have HRR := Lib.hid (HRB.out _ (List.getElem_mem hlt))
   have HRB2 := Lib.hid rb
   have hne := Lib.hid (fun j hj => Nat.ne_of_gt (show w.heap.size < j from (OwnI.block_lt hown.out j hj).1))
   have hszN : w.heap.size + 1 ≤ wr.heap.size := hsz.out
   by_cases h0 : wh.length = 0
   ·have HN := Lib.hid (matL_yes (wh := wh) hlt (by unfold truW; rw [if_pos h0]))
    have HA := Lib.hid (show (rows.take (k + 1)).all (truD wh) = true by rw [HTD.out, hall.out]; simp [truD, truW, h0])
    have e0 : decide ((0 : Int) < (wh.length : Int)) = false := decide_eq_false (by omega)
    have e0n : decide (0 < wh.length) = false := decide_eq_false (by omega)
    have hoz := hown
    clear h0 hv hown rb hsz
    generalize hgv : matL wh (rows.take k) = ys at *
    have HGV := Lib.hid hgv
    clear hgv
    go_wp2_with (at_builtin; refine wpList_append_own _ rfl _ _ 29 rfl (w.heap.size + 1) 2 i0 (.int .i64 0) 1 8 Tryz.underlying29 H1.out H2.out H3.out H4.out rfl (by decide) _ _ _ rfl (World.ownsRow.alloc hoz.out _) ⟨_, 0, none⟩ 1 1 [.int .i64 rows[k].id] rfl rfl ?c1 ?c2 ?c3 ?c4 ?c5 ?_)
    case c1 => exact cell_one_new _ _ _
    case c2 => intro u hu; simp at hu; subst hu; rfl
    case c3 => have := HLEN2.out; unfold maxLen; omega
    case c4 => have := HLEN2.out; omega
    case c5 => simp; omega
    intro v' w5 hown5 hgrow _
    have R := Lib.hid (OwnI.app hoz.out hszN hown5 hgrow)
    have rb5 := grown_rowK hgrow (HRB2.out.alloc _) hne.out
    have HS5 := Lib.hid (Nat.le_trans hszN R.out.2.size)
    clear hown5 hgrow hoz HRB2 c0
    go_wp2_with fail
    go_roundw
    case rel => exact ⟨k + 1, by omega, by go_num, Lib.hid (by rw [HN.out]; exact R.out.1), HA, rb5, HS5, hb.trans (R.out.2.mono (Nat.le_succ _))⟩
    case measure => simp [intOf]; omega
   ·have HT0 := Lib.hid (show truW wh rows[k].vals = truthB wh rows[k].vals by unfold truW; rw [if_neg h0])
    have HC := Lib.hid (specL2Truth AW B1 wh.length rows[k].vals.length cW d1 wh rows[k].vals wr (Sl.cellz (fun _ => rfl) (hw.below TkR.stays hb)) (Sl.cellz (fun _ => rfl) hv) (by unfold maxLen; omega) (by have := rowB_le HRR.out.1; unfold maxLen; omega) HRR.out.1 (by rw [HRR.out.2]; exact HWO.out h0))
    have e0 : decide ((0 : Int) < (wh.length : Int)) = true := decide_eq_true (by omega)
    have e0n : decide (0 < wh.length) = true := decide_eq_true (by omega)
    have hr4 := truthB_rng wh rows[k].vals
    have Z0 := Lib.hid z0
    clear h0 hv
    by_cases hm1 : truthB wh rows[k].vals = -1
    ·have HF := Lib.hid (truD_no hlt (HT0.out.trans hm1))
     have HV := Lib.hid hm1
     clear hm1 hr4
     go_wp2_with fail
     refine HC.out.mono ?_
     rintro e w4 ⟨rfl, hb4⟩
     rw [HV.out]
     have hbz := hb.trans (hb4.mono hb.size)
     go_wp2_with fail
     go_ret2
     exact ⟨none, 0, by rw [HF.out]; rfl, by rw [HF.out]; exact Nat.le_refl _, by rw [HF.out]; exact ⟨rfl, fun h => by simp at h⟩, hbz⟩
    ·by_cases hy : truthB wh rows[k].vals = 1
     ·have HN := Lib.hid (matL_yes (wh := wh) hlt (HT0.out.trans hy))
      have HA := Lib.hid (show (rows.take (k + 1)).all (truD wh) = true by rw [HTD.out, hall.out]; simp [truD, HT0.out, hy])
      have HV := Lib.hid hy
      clear hm1 hy hr4
      go_wp2_with fail
      refine HC.out.mono ?_
      rintro e w4 ⟨rfl, hb4⟩
      rw [HV.out]
      have hoz := Lib.hid (hown.out.below hb4)
      have rb4 := HRB2.out.below hb4
      have hbw := hb.trans (hb4.mono hb.size)
      have hszM : w.heap.size + 1 ≤ w4.heap.size := Nat.le_trans hszN hb4.size
      have z0 := below_keep hb4 _ _ Z0.out
      obtain ⟨c0, -⟩ := rb4.all1
      have HRB4 := Lib.hid rb4
      clear hown HC HRB2 hb4 rb4 rb hsz hszN z1
      generalize hgv : matL wh (rows.take k) = ys at *
      have HGV := Lib.hid hgv
      clear hgv
      go_wp2_with (at_builtin; refine wpList_append_own _ rfl _ _ 29 rfl (w.heap.size + 1) 2 i0 (.int .i64 0) 1 8 Tryz.underlying29 H1.out H2.out H3.out H4.out rfl (by decide) _ _ _ rfl (World.ownsRow.alloc hoz.out _) ⟨_, 0, none⟩ 1 1 [.int .i64 rows[k].id] rfl rfl ?d1 ?d2 ?d3 ?d4 ?d5 ?_)
      case d1 => exact cell_one_new _ _ _
      case d2 => intro u hu; simp at hu; subst hu; rfl
      case d3 => have := HLEN2.out; unfold maxLen; omega
      case d4 => have := HLEN2.out; omega
      case d5 => simp; omega
      intro v' w5 hown5 hgrow _
      have R := Lib.hid (OwnI.app hoz.out hszM hown5 hgrow)
      have rb5 := grown_rowK hgrow (HRB4.out.alloc _) (fun j hj => Nat.ne_of_gt (show w.heap.size < j from (OwnI.block_lt hoz.out j hj).1))
      have HS5 := Lib.hid (Nat.le_trans hszM R.out.2.size)
      clear hown5 hgrow hoz HRB4 c0 z0 hne
      go_wp2_with fail
      go_roundw
      case rel => exact ⟨k + 1, by omega, by go_num, Lib.hid (by rw [HN.out]; exact R.out.1), HA, rb5, HS5, hbw.trans (R.out.2.mono (Nat.le_succ _))⟩
      case measure => simp [intOf]; omega
     ·have HN := Lib.hid (matL_no (wh := wh) hlt (by rw [HT0.out]; exact hy))
      have HA := Lib.hid (show (rows.take (k + 1)).all (truD wh) = true by rw [HTD.out, hall.out]; simp [truD, HT0.out]; omega)
      rcases (by omega : truthB wh rows[k].vals = 0 ∨ truthB wh rows[k].vals = 2) with hv2 | hv2
      ·have HV := Lib.hid hv2
       clear hm1 hy hr4 hv2
       go_wp2_with fail
       refine HC.out.mono ?_
       rintro e w4 ⟨rfl, hb4⟩
       rw [HV.out]
       have hoz := Lib.hid (hown.out.below hb4)
       go_wp2_with fail
       go_roundw
       case rel => exact ⟨k + 1, by omega, by go_num, Lib.hid (by rw [HN.out]; exact hoz.out), HA, HRB2.out.below hb4, Lib.hid (Nat.le_trans hszN hb4.size), hb.trans (hb4.mono hb.size)⟩
       case measure => simp [intOf]; omega
      ·have HV := Lib.hid hv2
       clear hm1 hy hr4 hv2
       go_wp2_with fail
       refine HC.out.mono ?_
       rintro e w4 ⟨rfl, hb4⟩
       rw [HV.out]
       have hoz := Lib.hid (hown.out.below hb4)
       go_wp2_with fail
       go_roundw
       case rel => exact ⟨k + 1, by omega, by go_num, Lib.hid (by rw [HN.out]; exact hoz.out), HA, HRB2.out.below hb4, Lib.hid (Nat.le_trans hszN hb4.size), hb.trans (hb4.mono hb.size)⟩
       case measure => simp [intOf]; omega
  ·obtain rfl : k = rows.length := by omega
   have ho := hown.out
   have ha := hall.out
   rw [List.take_of_length_le (Nat.le_refl _)] at ho ha
   obtain ⟨AO, cO, rfl, hcO, hcm, hsl⟩ := OwnI.sl ho
   have HSL := Lib.hid hsl
   have HA := Lib.hid ha
   clear hown hall ho ha hsl
   go_wp2_with fail
   go_ret2
   exact ⟨AO, cO, by rw [HA.out]; rfl, by rw [HA.out]; exact hcO, by rw [HA.out]; exact HSL.out.stays IntR.stays (fun b hb => hb.mono (Nat.le_succ _)) (fun _ _ _ h => h), hb⟩
theorem match_l7 {s : List Tb} {db : List Dt} {m : Nat} {wh : List Tk} {rows : List Rw} (h : matchO s db (m : Int) wh = if rows.all (truD wh) then some (matL wh rows) else none) : (if rows.all (truD wh) then matL wh rows else []) = matchB s db (m : Int) wh ∧ rows.all (truD wh) = matchF s db (m : Int) wh := by
 unfold matchB matchF
 rw [h]
 cases rows.all (truD wh) <;> exact ⟨rfl, rfl⟩
set_option maxRecDepth 100000 in
set_option maxHeartbeats 4000000 in
theorem specMatching (AS AD AW : Option Addr) (nS cS nD cD nW cW : Nat) (s : List Tb) (db : List Dt) (t : Int) (wh : List Tk) (ok ok' okw : Nat → Prop) (w : World)
  (hs : Sl TbR 6 ok w AS nS s) (hd : Sl DtR 1 ok' w AD nD db) (hw : Sl TkR 5 okw w AW nW wh) (hcp : nS ≤ cS) (hsz : szL Tb.sz s ≤ 1048576) (hdz : szL Dt.sz db ≤ 1048576) (hwn : nW ≤ 1048576) :
  Calls Tryz.prog 12 #[.slice AS nS cS, .slice AD nD cD, .int .i64 t, .slice AW nW cW] w (MadeM s db t wh w) := by
 obtain rfl : s.length = nS := hs.1
 obtain rfl : db.length = nD := hd.1
 obtain rfl : wh.length = nW := hw.1
 have HDZ := Lib.hid hdz
 have HDB := Lib.hid (specL6Ok AS AD s.length cS db.length cD s db t ok ok' w hs hd hcp hsz hdz)
 clear hsz hdz
 cases hB : (dbB s db && (decide (0 ≤ t) && decide (t < (s.length : Int))))
 ·have HB := Lib.hid hB
  have HR := Lib.hid (show matchO s db t wh = none by
   rcases Bool.and_eq_false_iff.1 hB with h | h
   ·exact matchO_bad h
   ·exact matchO_out h)
  clear hB
  go_enter Tryz.func12, Tryz.ntmps12
  go_wp2_with fail
  refine HDB.out.mono ?_
  rintro e w1 ⟨rfl, hb1⟩
  rw [HB.out]
  go_wp2_with fail
  go_ret2
  exact made_none HR.out hb1
 have HB := Lib.hid hB
 rw [Bool.and_eq_true] at hB
 obtain ⟨hB1, hin⟩ := hB
 have HB1 := Lib.hid hB1
 have HLEN := Lib.hid (dbB_len hB1)
 obtain ⟨m, rfl, hm⟩ : ∃ m : Nat, t = m ∧ m < s.length := by
  simp only [Bool.and_eq_true, decide_eq_true_eq] at hin
  exact ⟨t.toNat, by omega, by omega⟩
 have hmd : m < db.length := by have := HLEN.out; omega
 have m0 : (0 : Int) ≤ m := by omega
 have m1 : (m : Int) < s.length := by omega
 have m2 : (m : Int) < db.length := by omega
 have HO := Lib.hid (matchO_in (wh := wh) hm hmd hB1)
 have HC8 := Lib.hid (dbB_cols hB1 hm)
 have HRR := Lib.hid (fun r hr => And.intro (dbB_rowB hB1 hm hmd r hr) (dbB_row hB1 hm hmd r hr))
 have HRN := Lib.hid (show db[m].rows.length ≤ 1048576 by have h1 := HDZ.out; have := sum_mem_le Dt.sz db m hmd; simp only [szL, Dt.sz] at *; omega)
 clear hin hB1
 by_cases h0 : wh.length = 0
 ·have e0 : decide ((0 : Int) < (wh.length : Int)) = false := decide_eq_false (by omega)
  have e0n : decide (0 < wh.length) = false := decide_eq_false (by omega)
  have HW := Lib.hid (show whereB s[m].cols wh = true by unfold whereB; rw [decide_eq_true h0]; rfl)
  have HWX := Lib.hid (show wh.length ≠ 0 → exprB wh s[m].cols.length = true from fun h => absurd h0 h)
  clear h0
  go_enter Tryz.func12, Tryz.ntmps12
  go_wp2_with fail
  refine HDB.out.mono ?_
  rintro e w1 ⟨rfl, hb1⟩
  rw [HB.out]
  obtain ⟨bd, offd, AL, nL, cL, -, rfl, y0, hrs, -⟩ := DtR.at_ (hd.below DtR.stays hb1) hmd
  obtain rfl : db[m].rows.length = nL := hrs.1
  have hp := specL7Matching AL AW db[m].rows.length cL wh.length cW db[m].rows wh s[m].cols.length _ _ w1 hrs (hw.below TkR.stays hb1) HRN.out hwn HRR.out HWX.out
  have hml := match_l7 (show matchO s db (m : Int) wh = if db[m].rows.all (truD wh) then some (matL wh db[m].rows) else none by rw [HO.out, HW.out]; rfl)
  unfold MadeL7 at hp
  rw [hml.1, hml.2] at hp
  have HP := Lib.hid hp
  clear hrs hp hml
  go_wp2_with fail
  refine HP.out.mono ?_
  rintro e w4 ⟨AO, cO, rfl, hcO, hsl, hb4⟩
  have HSL := Lib.hid hsl
  have hbz := hb1.trans (hb4.mono hb1.size)
  have HSZ := Lib.hid hb1.size
  clear hsl HP y0
  go_wp2_with fail
  go_ret2
  exact ⟨AO, cO, rfl, hcO, HSL.out.stays IntR.stays (fun b hb => hb.mono HSZ.out) (fun _ _ _ h => h), hbz⟩
 ·have e0 : decide ((0 : Int) < (wh.length : Int)) = true := decide_eq_true (by omega)
  have e0n : decide (0 < wh.length) = true := decide_eq_true (by omega)
  have hwe : whereB s[m].cols wh = l2B wh s[m].cols.length := by unfold whereB; rw [decide_eq_false h0, exprB_l2n (by have := HC8.out; omega)]; rfl
  have HLX := Lib.hid (show exprB wh s[m].cols.length = l2B wh s[m].cols.length from exprB_l2n (by have := HC8.out; omega))
  have hcl : s[m].cols.length ≤ 8 := HC8.out
  clear h0
  cases hl : l2B wh s[m].cols.length
  ·have HL := Lib.hid hl
   have HR := Lib.hid (show matchO s db (m : Int) wh = none by rw [HO.out, hwe, hl]; rfl)
   clear hl hwe
   go_enter Tryz.func12, Tryz.ntmps12
   go_wp2_with fail
   refine HDB.out.mono ?_
   rintro e w1 ⟨rfl, hb1⟩
   rw [HB.out]
   obtain ⟨b, off, A1, n1, c1, A2, n2, c2, A3, n3, c3, A4, n4, c4, A5, n5, c5, -, rfl, q0, q1, q2, q3, q4, q5, s1, -⟩ := TbR.at_ (hs.below TbR.stays hb1) hm
   obtain rfl : s[m].cols.length = n1 := s1.1
   go_wp2_with fail
   refine (specL2Expr AW wh.length cW wh (s[m].cols.length : Int) _ (Sl.cellz (fun _ => rfl) (hw.below TkR.stays hb1)) (by unfold maxLen; omega) (by omega) (by omega)).mono ?_
   rintro e w3 ⟨rfl, hb3⟩
   rw [HL.out]
   go_wp2_with fail
   go_ret2
   exact made_none HR.out (hb1.trans (hb3.mono hb1.size))
  ·have HL := Lib.hid hl
   have HW := Lib.hid (hwe.trans hl)
   have HWX := Lib.hid (show wh.length ≠ 0 → exprB wh s[m].cols.length = true from fun _ => HLX.out.trans hl)
   clear hl hwe
   go_enter Tryz.func12, Tryz.ntmps12
   go_wp2_with fail
   refine HDB.out.mono ?_
   rintro e w1 ⟨rfl, hb1⟩
   rw [HB.out]
   obtain ⟨b, off, A1, n1, c1, A2, n2, c2, A3, n3, c3, A4, n4, c4, A5, n5, c5, -, rfl, q0, q1, q2, q3, q4, q5, s1, -⟩ := TbR.at_ (hs.below TbR.stays hb1) hm
   obtain rfl : s[m].cols.length = n1 := s1.1
   go_wp2_with fail
   refine (specL2Expr AW wh.length cW wh (s[m].cols.length : Int) _ (Sl.cellz (fun _ => rfl) (hw.below TkR.stays hb1)) (by unfold maxLen; omega) (by omega) (by omega)).mono ?_
   rintro e w3 ⟨rfl, hb3⟩
   rw [HL.out]
   have hby := hb1.trans (hb3.mono hb1.size)
   clear q0 q1 q2 q3 q4 q5 hb1 hb3
   obtain ⟨bd, offd, AL, nL, cL, -, rfl, y0, hrs, -⟩ := DtR.at_ (hd.below DtR.stays hby) hmd
   obtain rfl : db[m].rows.length = nL := hrs.1
   have hp := specL7Matching AL AW db[m].rows.length cL wh.length cW db[m].rows wh s[m].cols.length _ _ w3 hrs (hw.below TkR.stays hby) HRN.out hwn HRR.out HWX.out
   have hml := match_l7 (show matchO s db (m : Int) wh = if db[m].rows.all (truD wh) then some (matL wh db[m].rows) else none by rw [HO.out, HW.out]; rfl)
   unfold MadeL7 at hp
   rw [hml.1, hml.2] at hp
   have HP := Lib.hid hp
   clear hrs hp hml
   go_wp2_with fail
   refine HP.out.mono ?_
   rintro e w4 ⟨AO, cO, rfl, hcO, hsl, hb4⟩
   have HSL := Lib.hid hsl
   have hbz := hby.trans (hb4.mono hby.size)
   have HSZ := Lib.hid hby.size
   clear hsl HP y0
   go_wp2_with fail
   go_ret2
   exact ⟨AO, cO, rfl, hcO, HSL.out.stays IntR.stays (fun b hb => hb.mono HSZ.out) (fun _ _ _ h => h), hbz⟩
end Go.Proofs.YtciaidjmehelpaaGreat
