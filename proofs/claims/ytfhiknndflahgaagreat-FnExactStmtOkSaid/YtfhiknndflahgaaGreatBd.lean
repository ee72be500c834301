/-
  Several texts in one: StmtMath, StmtImpl, StmtImpl2, StmtSpec, StmtSpec2.
-/
import Derived.Test.YtfhiknndflahgaaGreatBb
import Derived.Test.YtfhiknndflahgaaGreatTableAt
namespace Go.Proofs.YtfhiknndflahgaaGreat
open Go.RowKit
set_option linter.unusedVariables false
set_option linter.unusedSimpArgs false

def rowS (cols : List Cl) (r : Rw) : Bool := (r.id == 0) && kindsB cols r.vals
def setE (n : Nat) (z : Se) : Bool := exprB z.expr n
def setsB (n : Nat) (l : List Se) : Bool := l.all (setE n) && colsGo n [] (l.map Se.col)
def polB (p : Int) : Bool := decide (0 ≤ p) && decide (p ≤ 4)
def insB (cols : List Cl) (rows : List Rw) : Bool := decide (rows.length ≤ 8) && rows.all (rowS cols)
def stmtT (t : Tb) (x : Sq) : Bool :=
  if x.kind = 1 then insB t.cols x.rows && (decide (x.wher.length = 0) && decide (x.sets.length = 0))
  else if x.kind = 2 then decide (x.rows.length = 0) && (whereB t.cols x.wher && setsB t.cols.length x.sets)
  else if x.kind = 3 then decide (x.rows.length = 0) && (whereB t.cols x.wher && decide (x.sets.length = 0))
  else false
def stmtA (s : List Tb) (x : Sq) : Bool := match s[(atN (s.map Tb.name) x.table).toNat]? with
  | some t => decide (atN (s.map Tb.name) x.table ≠ -1) && stmtT t x
  | none => false
def stmtB (s : List Tb) (x : Sq) : Bool := schemaB s && (polB x.policy && stmtA s x)
theorem stmtA_no {s : List Tb} {x : Sq} (h : atN (s.map Tb.name) x.table = -1) : stmtA s x = false := by
  unfold stmtA
  split
  · rw [decide_eq_false (by simp [h])]; rfl
  · rfl
theorem stmtA_at {s : List Tb} {x : Sq} {m : Nat} (h : atN (s.map Tb.name) x.table = m) (hm : m < s.length) : stmtA s x = stmtT s[m] x := by
  unfold stmtA
  rw [h, Int.toNat_natCast, List.getElem?_eq_getElem hm]
  simp only
  rw [decide_eq_true (by omega)]
  rfl
theorem atN_nat {s : List Tb} {nm : ByteArray} : atN (s.map Tb.name) nm = -1 ∨ ∃ m : Nat, atN (s.map Tb.name) nm = m ∧ m < s.length := by
  rcases atN_rng (s.map Tb.name) nm with h | ⟨h1, h2⟩
  · exact .inl h
  · rw [List.length_map] at h2
    exact .inr ⟨(atN (s.map Tb.name) nm).toNat, by omega, by omega⟩
theorem setsB_nil (n : Nat) : setsB n [] = true := rfl
theorem setsB_no {n : Nat} {l : List Se} {k : Nat} (h : k < l.length) (hf : exprB l[k].expr n = false) : setsB n l = false := by
  unfold setsB
  rw [Bool.and_eq_false_iff]
  refine Or.inl ?_
  rw [List.all_eq_false]
  exact ⟨l[k], List.getElem_mem h, by simp [setE, hf]⟩
theorem insB_no {cols : List Cl} {rows : List Rw} {k : Nat} (h : k < rows.length) (hf : rowS cols rows[k] = false) : insB cols rows = false := by
  unfold insB
  rw [Bool.and_eq_false_iff]
  refine Or.inr ?_
  rw [List.all_eq_false]
  exact ⟨rows[k], List.getElem_mem h, by simp [hf]⟩
theorem all_take_succ {α : Type} (f : α → Bool) (l : List α) (k : Nat) (h : k < l.length) : (l.take (k + 1)).all f = ((l.take k).all f && f l[k]) := by
  rw [List.take_succ_eq_append_getElem h, List.all_append]; simp
end Go.Proofs.YtfhiknndflahgaaGreat
namespace Go.Proofs.YtfhiknndflahgaaGreat
open Go.RowKit Go.Maps
set_option linter.unusedVariables false
set_option linter.unusedSimpArgs false

set_option maxRecDepth 100000 in
set_option maxHeartbeats 2000000 in
theorem implInsertedOk (g o : Nat) (A1 AR : Option Addr) (c1 nR cR : Nat) (cols : List Cl) (rows : List Rw) (ok okr : Nat → Prop) (w : World)
    (x1 : w.cell? ⟨g, o + 1, none⟩ = some (.slice A1 cols.length c1)) (h : Sl ClR 6 ok w A1 cols.length cols) (hr : Sl RwR 2 okr w AR nR rows) (hn : cols.length ≤ 1048576) (hrn : nR ≤ 1048576) (hvn : ∀ r ∈ rows, r.vals.length ≤ 1048576) :
    Calls Tryz.prog 38 #[.pointer (some ⟨g, o, none⟩), .slice AR nR cR] w fun e w' => e = .returned (.bool (insB cols rows)) ∧ Below w.heap.size w w' := by
  obtain rfl : rows.length = nR := hr.1
  have HVN := Lib.hid hvn
  have X1 := Lib.hid x1
  clear hvn
  by_cases h8 : (8 : Int) < rows.length
  · have HF := Lib.hid (show insB cols rows = false by unfold insB; rw [decide_eq_false (by omega)]; rfl)
    go_enter Tryz.func38, Tryz.ntmps38
    go_wp2_with fail
    go_ret
    exact ⟨retB HF.out.symm, Below.refl _ _⟩
  have h8' : decide ((8 : Int) < rows.length) = false := by simpa using h8
  have H8 := Lib.hid (show rows.length ≤ 8 by omega)
  clear h8 x1
  go_enter Tryz.func38, Tryz.ntmps38
  go_wp2_with fail
  clear h8'
  go_loopw [12] (fun i wr => ∃ k : Nat, k ≤ rows.length ∧ i = .int .i64 k ∧ Hid ((rows.take k).all (rowS cols) = true) ∧ Below w.heap.size w wr) (fun i _ => rows.length - (intOf i).toNat)
  case atStart => exact ⟨0, by omega, rfl, Lib.hid (by simp), Below.refl _ _⟩
  case round =>
    obtain ⟨k, hk', rfl, hall, hb⟩ := hrel
    by_cases hlt : k < rows.length
    · obtain ⟨bl, ol, B1, k1, d1, -, rfl, z0, z1, hv, -⟩ := RwR.at_ (hr.below RwR.stays hb) hlt
      obtain rfl : rows[k].vals.length = k1 := hv.1
      have i0' : (0 : Int) ≤ k := by omega
      have i1 : (k : Int) < rows.length := by omega
      have hst := all_take_succ (rowS cols) rows k hlt
      rw [hall.out, Bool.true_and] at hst
      have hno := fun hf => insB_no (cols := cols) hlt hf
      have hrs : rowS cols rows[k] = ((rows[k].id == 0) && kindsB cols rows[k].vals) := rfl
      rw [hrs] at hst
      simp only [hrs] at hno
      have HST := Lib.hid hst
      have HNO := Lib.hid hno
      clear hst hno hrs
      generalize rows[k].id = iv at *
      have hbx := hb.alloc hb.size (.cells #[.int .i64 iv, .slice B1 rows[k].vals.length d1] 109)
      have hlb := (Below.refl wr.heap.size wr).alloc (Nat.le_refl _) (.cells #[.int .i64 iv, .slice B1 rows[k].vals.length d1] 109)
      have HC := Lib.hid (implFitsAt g o A1 B1 cols.length c1 rows[k].vals.length d1 cols rows[k].vals _ _ (below_keep hbx _ _ X1.out) (h.below ClR.stays hbx) (Sl.cellz (fun _ => rfl) (hv.below VlR.stays hlb)) hn (HVN.out _ (List.getElem_mem hlt)))
      by_cases he : iv = 0
      case neg =>
        have he1 : (iv == 0) = false := by rw [beq_eq_false_iff_ne]; exact he
        have he2 : (iv != 0) = true := by simpa using he
        have HF := Lib.hid (HNO.out (by rw [he1]; rfl))
        clear hv hlb he
        go_wp2_with fail
        go_ret
        exact ⟨retB HF.out.symm, hbx⟩
      case pos =>
        subst he
        cases hf : kindsB cols rows[k].vals
        · have HF := Lib.hid (HNO.out (by rw [hf]; rfl))
          have HK := Lib.hid hf
          clear hv hlb hf
          go_wp2_with fail
          refine HC.out.mono ?_
          rintro e w2 ⟨rfl, hb2⟩
          rw [HK.out]
          go_wp2_with fail
          go_ret
          exact ⟨retB HF.out.symm, hbx.trans (hb2.mono hbx.size)⟩
        · have HA := Lib.hid (show (rows.take (k + 1)).all (rowS cols) = true by rw [HST.out, hf]; rfl)
          have HK := Lib.hid hf
          clear hv hlb hf
          go_wp2_with fail
          refine HC.out.mono ?_
          rintro e w2 ⟨rfl, hb2⟩
          rw [HK.out]
          go_wp2_with fail
          go_roundw
          case rel => exact ⟨k + 1, by omega, by go_num, HA, hbx.trans (hb2.mono hbx.size)⟩
          case measure => simp [intOf]; omega
    · obtain rfl : k = rows.length := by omega
      have ha := hall.out
      rw [List.take_of_length_le (Nat.le_refl _)] at ha
      have HF := Lib.hid (show insB cols rows = true by unfold insB; rw [decide_eq_true H8.out, ha]; rfl)
      clear hall ha
      go_wp2_with fail
      go_ret
      exact ⟨retB HF.out.symm, hb⟩

set_option maxRecDepth 100000 in
set_option maxHeartbeats 2000000 in
theorem implSetsOk (g o : Nat) (A1 AE : Option Addr) (c1 nE cE : Nat) (cols : List Cl) (l : List Se) (oks : Nat → Prop) (w : World)
    (x1 : w.cell? ⟨g, o + 1, none⟩ = some (.slice A1 cols.length c1)) (hs : Sl SeR 2 oks w AE nE l) (hn : cols.length ≤ 1048576) (hln : nE ≤ 1048576) (hen : ∀ z ∈ l, z.expr.length ≤ 1048576) :
    Calls Tryz.prog 40 #[.pointer (some ⟨g, o, none⟩), .slice AE nE cE] w fun e w' => e = .returned (.bool (setsB cols.length l)) ∧ Below w.heap.size w w' := by
  obtain rfl : l.length = nE := hs.1
  have HEN := Lib.hid hen
  have X1 := Lib.hid x1
  clear hen
  by_cases h0 : l.length = 0
  · have HF := Lib.hid (show setsB cols.length l = true by rw [List.eq_nil_of_length_eq_zero h0]; rfl)
    have h0' : ((l.length : Int) == 0) = true := by simpa using h0
    clear h0
    go_enter Tryz.func40, Tryz.ntmps40
    go_wp2_with fail
    go_ret
    exact ⟨retB HF.out.symm, Below.refl _ _⟩
  have h0' : ((l.length : Int) == 0) = false := by simpa using h0
  have H0 := Lib.hid (show 0 < l.length by omega)
  have hmk := fun w => mk_rows (P := Tryz.prog) Tryz.underlying45 infoIntI (by omega) l.length hln w
  simp only [Nat.mul_one] at hmk
  simp only [Value.cells] at hmk
  clear h0 x1
  go_enter Tryz.func40, Tryz.ntmps40
  go_wp2_with fail
  have row := Row.new w 2 (madeCells #[.int .i64 0] (l.length))
  have hb0 := (Below.refl w.heap.size w).alloc (Nat.le_refl _) (.cells (madeCells #[.int .i64 0] (l.length)) 2)
  have hsz := size_madeCells #[.int .i64 0] (l.length)
  generalize w.alloc (.cells (madeCells #[.int .i64 0] (l.length)) 2) = x at *
  generalize madeCells #[.int .i64 0] (l.length) = cs0 at *
  have HZ := Lib.hid hsz
  have HL := Lib.hid (show (l.map Se.col).length = l.length by simp)
  clear hmk hsz h0'
  go_loopw [16] (fun i wr => ∃ (k : Nat) (cs : Array Value), k ≤ l.length ∧ i = .int .i64 k ∧ Row wr w.heap.size 2 cs ∧ Hid (cs.size = l.length * 1) ∧ Hid (LaidR IntR 1 (okF (w.heap.size + 1) wr) wr cs k (l.map Se.col)) ∧ Hid ((l.take k).all (setE cols.length) = true) ∧ Below w.heap.size w wr) (fun i _ => l.length - (intOf i).toNat)
  case atStart => exact ⟨0, cs0, by omega, rfl, row, Lib.hid (by rw [HZ.out]; exact (Nat.mul_one _).symm), Lib.hid (LaidR.zero _ _ _ _ _ _), Lib.hid (by simp), hb0⟩
  case round =>
    clear hb0 row
    obtain ⟨k, cs, hk, rfl, hrow, hcs, hlaid, hall, hb⟩ := hrel
    by_cases hlt : k < l.length
    · obtain ⟨b, off, B1, k1, d1, -, rfl, z0, z1, hv, -⟩ := SeR.at_ (hs.below SeR.stays hb) hlt
      obtain rfl : l[k].expr.length = k1 := hv.1
      have i0' : (0 : Int) ≤ k := by omega
      have i1 : (k : Int) < l.length := by omega
      have hbx := hb.alloc hb.size (.cells #[.int .i64 l[k].col, .slice B1 l[k].expr.length d1] 138)
      have hlb := (Below.refl wr.heap.size wr).alloc (Nat.le_refl _) (.cells #[.int .i64 l[k].col, .slice B1 l[k].expr.length d1] 138)
      have rbx := Row.new wr 138 #[.int .i64 l[k].col, .slice B1 l[k].expr.length d1]
      have hrx := hrow.below hlb
      have hlx := hlaid.out.belowF IntR.stays hlb
      have p1 := below_keep hbx _ _ X1.out
      have hst := all_take_succ (setE cols.length) l k hlt
      rw [hall.out, Bool.true_and] at hst
      obtain ⟨⟨yb0, yb1⟩, -⟩ := rbx.all2
      have HC := Lib.hid (implExprOk B1 l[k].expr.length d1 l[k].expr (cols.length : Int) (wr.alloc (.cells #[.int .i64 l[k].col, .slice B1 l[k].expr.length d1] 138)).drew (Sl.cellz (fun _ => rfl) ((hv.below TkR.stays hlb).drew TkR.stays)) (by have := HEN.out _ (List.getElem_mem hlt); unfold maxLen; omega))
      cases he : exprB l[k].expr cols.length
      · have HF := Lib.hid (setsB_no hlt he)
        have HE := Lib.hid he
        clear hst hv hlb he hrx hlx rbx hrow
        go_wp2_with fail
        go_region_held3 (fun w' => w'.cell? ⟨wr.heap.size, 1, none⟩ = some (.slice B1 l[k].expr.length d1) ∧ w'.cell? ⟨g, o + 1, none⟩ = some (.slice A1 cols.length c1))
          (first | go_keep | exact ⟨below_keep hb2 _ _ yb1, below_keep hb2 _ _ p1⟩)
          (first | (go_at_call 85; refine HC.out.mono ?_; rintro e w2 ⟨rfl, hb2⟩; rw [HE.out]))
        go_wp2_with fail
        go_ret
        exact ⟨retB HF.out.symm, hbx.drew.trans (hb2.mono hbx.drew.size)⟩
      · have HA := Lib.hid (show (l.take (k + 1)).all (setE cols.length) = true by rw [hst]; exact he)
        have HE := Lib.hid he
        have HRX := Lib.hid hrx
        have HLX := Lib.hid hlx
        have HRB := Lib.hid rbx
        clear hst hv hlb he hrx hlx rbx hrow
        go_wp2_with fail
        go_region_held3 (fun w' => w'.cell? ⟨wr.heap.size, 1, none⟩ = some (.slice B1 l[k].expr.length d1) ∧ w'.cell? ⟨g, o + 1, none⟩ = some (.slice A1 cols.length c1))
          (first | go_keep | exact ⟨below_keep hb2 _ _ yb1, below_keep hb2 _ _ p1⟩)
          (first | (go_at_call 85; refine HC.out.mono ?_; rintro e w2 ⟨rfl, hb2⟩; rw [HE.out]))
        have hrow1 := (HRX.out.drew).below hb2
        have hl1 := Lib.hid ((show LaidR IntR 1 (okF (w.heap.size + 1) _) _ cs k (l.map Se.col) from HLX.out.belowF IntR.stays ((Below.refl _ _).drew)).belowF IntR.stays hb2)
        have rb2 := (HRB.out.drew).below hb2
        obtain ⟨⟨y0, y1⟩, -⟩ := rb2.all2
        have hsz1 : k * 1 + 1 ≤ cs.size := by rw [hcs.out]; omega
        have q1 : w2.cell? ⟨w.heap.size, k, none⟩ = some (cs[k]?.getD undef) := by rw [hrow1.cell, Array.getElem?_eq_getElem (by omega)]; rfl
        have f0 := hrow1.free k
        have HR1 := Lib.hid hrow1
        have hbw := hbx.drew.trans (hb2.mono hbx.drew.size)
        have hLk : k < (l.map Se.col).length := by rw [HL.out]; exact hlt
        clear hrow1 rb2 hb2 hbx p1
        go_wp2_with fail
        go_roundw
        case rel => exact ⟨k + 1, _, by omega, by go_num, HR1.out.set _ _, Lib.hid (by simp [hcs.out]), Lib.hid (((hl1.out.setF IntR.stays (by simp) _).more hLk (c := [.int .i64 l[k].col]) rfl (by rw [List.getElem_map]; rfl) (hold1 cs k _) (fresh1 cs k _ hsz1))), HA, hbw.setCell (by simp) _⟩
        case measure => simp [intOf]; omega
    · obtain rfl : k = l.length := by omega
      have ha := hall.out
      rw [List.take_of_length_le (Nat.le_refl _)] at ha
      have hsl := sl_of_laid (ok := fun _ => True) hrow trivial (fun i hi hlt' => by
        obtain ⟨c', h1, h2, h3⟩ := hlaid.out i hi hlt'
        exact ⟨c', h1, IntR.stays _ _ _ _ _ _ h2 (fun b hb' => trivial) (fun p v _ hp => hp), h3⟩) (Nat.le_of_eq HL.out)
      rw [HL.out] at hsl
      have HC := Lib.hid (implAreColumns (some ⟨w.heap.size, 0, none⟩) l.length l.length (l.map Se.col) cols.length _ wr hsl hln hn)
      have HF := Lib.hid (show colsInB (l.map Se.col) cols.length = setsB cols.length l by unfold colsInB setsB; rw [ha, HL.out, decide_eq_true H0.out]; simp)
      have p1 := below_keep hb _ _ X1.out
      clear hall ha hsl hrow
      go_wp2_with fail
      refine HC.out.mono ?_
      rintro e w2 ⟨rfl, hb2⟩
      go_wp2_with fail
      go_ret
      exact ⟨retB HF.out, hb.trans (hb2.mono hb.size)⟩
end Go.Proofs.YtfhiknndflahgaaGreat
namespace Go.Proofs.YtfhiknndflahgaaGreat
open Go.RowKit Go.Maps
set_option linter.unusedVariables false
set_option linter.unusedSimpArgs false

theorem implPolicy {p : Int} {b : Bool} (h : polB p = b) (w : World) : Calls Tryz.prog 36 #[.int .i64 p] w fun e w' => e = .returned (.bool b) ∧ w = w' := by
  subst h
  unfold polB
  by_cases h0 : 0 ≤ p
  · have h0' : decide (0 ≤ p) = true := decide_eq_true h0
    go_enter Tryz.func36, Tryz.ntmps36
    go_wp2
    go_ret
    exact ⟨by simp [h0'], rfl⟩
  · have h0' : decide (0 ≤ p) = false := decide_eq_false h0
    go_enter Tryz.func36, Tryz.ntmps36
    go_wp2
    go_ret
    exact ⟨by simp [h0'], rfl⟩

set_option maxRecDepth 100000 in
set_option maxHeartbeats 8000000 in
theorem implStmtOk (AS AR AW AE : Option Addr) (nS cS nR cR nW cW nE cE : Nat) (s : List Tb) (x : Sq) (ok okr okw oke : Nat → Prop) (w : World)
    (hs : Sl TbR 6 ok w AS nS s) (hr : Sl RwR 2 okr w AR nR x.rows) (hw : Sl TkR 5 okw w AW nW x.wher) (he : Sl SeR 2 oke w AE nE x.sets) (hsz : szL Tb.sz s ≤ 1048576) (hx : x.sz ≤ 1048576) :
    Calls Tryz.prog 10 #[.slice AS nS cS, .agg #[.int .i64 x.kind, .string x.table, .slice AR nR cR, .slice AW nW cW, .slice AE nE cE, .int .i64 x.policy]] w fun e w' => e = .returned (.bool (stmtB s x)) ∧ Below w.heap.size w w' := by
  obtain rfl : s.length = nS := hs.1
  obtain rfl : x.rows.length = nR := hr.1
  obtain rfl : x.wher.length = nW := hw.1
  obtain rfl : x.sets.length = nE := he.1
  have hsn : s.length ≤ 1048576 := by unfold szL at hsz; omega
  have hrn : x.rows.length ≤ 1048576 := by unfold Sq.sz szL at hx; omega
  have hwn : x.wher.length ≤ 1048576 := by unfold Sq.sz szL at hx; omega
  have hen : x.sets.length ≤ 1048576 := by unfold Sq.sz szL at hx; omega
  have HNM := Lib.hid (show x.table.size ≤ maxLen by unfold Sq.sz at hx; unfold maxLen; omega)
  have HVN := Lib.hid (show ∀ r ∈ x.rows, r.vals.length ≤ 1048576 from fun r hr => by
    have h1 := szL_mem Rw.sz x.rows r hr
    have h2 : r.vals.length ≤ r.sz := by unfold Rw.sz szL; omega
    unfold Sq.sz at hx
    omega)
  have HEN := Lib.hid (show ∀ z ∈ x.sets, z.expr.length ≤ 1048576 from fun z hz => by
    have h1 := szL_mem Se.sz x.sets z hz
    have h2 : z.expr.length ≤ z.sz := by unfold Se.sz szL; omega
    unfold Sq.sz at hx
    omega)
  have HSZ := Lib.hid hsz
  clear hsz hx
  have hb0 := (Below.refl w.heap.size w).alloc (Nat.le_refl _) (.cells #[.int .i64 x.kind, .string x.table, .slice AR x.rows.length cR, .slice AW x.wher.length cW, .slice AE x.sets.length cE, .int .i64 x.policy] 37)
  have rb := Row.new w 37 #[.int .i64 x.kind, .string x.table, .slice AR x.rows.length cR, .slice AW x.wher.length cW, .slice AE x.sets.length cE, .int .i64 x.policy]
  have RB := Lib.hid rb
  clear rb
  cases hB : schemaB s
  · have HB := Lib.hid hB
    have HR := Lib.hid (show stmtB s x = false by unfold stmtB; rw [hB]; rfl)
    clear hB
    go_enter Tryz.func10, Tryz.ntmps10
    go_wp2_with fail
    generalize w.alloc (.cells #[.int .i64 x.kind, .string x.table, .slice AR x.rows.length cR, .slice AW x.wher.length cW, .slice AE x.sets.length cE, .int .i64 x.policy] 37) = z0 at *
    refine (implSchemaOk AS s.length cS s _ _ (hs.below TbR.stays hb0) HSZ.out).mono ?_
    rintro e w1 ⟨rfl, hb1⟩
    rw [HB.out]
    have hbz1 := hb0.trans (hb1.mono hb0.size)
    obtain ⟨⟨c0, c1, c2, c3, c4, c5⟩, -⟩ := (RB.out.below hb1).all6
    have RB1 := Lib.hid (RB.out.below hb1)
    go_wp2_with fail
    go_ret
    exact ⟨retB HR.out.symm, hbz1⟩
  have HB := Lib.hid hB
  cases hP : polB x.policy
  · have HP := Lib.hid hP
    have HR := Lib.hid (show stmtB s x = false by unfold stmtB; rw [hB, hP]; rfl)
    clear hB hP
    go_enter Tryz.func10, Tryz.ntmps10
    go_wp2_with fail
    generalize w.alloc (.cells #[.int .i64 x.kind, .string x.table, .slice AR x.rows.length cR, .slice AW x.wher.length cW, .slice AE x.sets.length cE, .int .i64 x.policy] 37) = z0 at *
    refine (implSchemaOk AS s.length cS s _ _ (hs.below TbR.stays hb0) HSZ.out).mono ?_
    rintro e w1 ⟨rfl, hb1⟩
    rw [HB.out]
    have hbz1 := hb0.trans (hb1.mono hb0.size)
    obtain ⟨⟨c0, c1, c2, c3, c4, c5⟩, -⟩ := (RB.out.below hb1).all6
    have RB1 := Lib.hid (RB.out.below hb1)
    go_wp2_with fail
    refine (implPolicy HP.out _).mono ?_
    rintro e w2 ⟨rfl, rfl⟩
    go_wp2_with fail
    go_ret
    exact ⟨retB HR.out.symm, hbz1⟩
  have HP := Lib.hid hP
  have HBP := Lib.hid (show stmtB s x = stmtA s x by unfold stmtB; rw [hB, hP]; rfl)
  clear hB hP
  rcases atN_nat (s := s) (nm := x.table) with hat | ⟨m, hat, hm⟩
  · have HAT := Lib.hid hat
    have HR := Lib.hid (HBP.out.trans (stmtA_no hat))
    clear hat
    go_enter Tryz.func10, Tryz.ntmps10
    go_wp2_with fail
    generalize w.alloc (.cells #[.int .i64 x.kind, .string x.table, .slice AR x.rows.length cR, .slice AW x.wher.length cW, .slice AE x.sets.length cE, .int .i64 x.policy] 37) = z0 at *
    refine (implSchemaOk AS s.length cS s _ _ (hs.below TbR.stays hb0) HSZ.out).mono ?_
    rintro e w1 ⟨rfl, hb1⟩
    rw [HB.out]
    have hbz1 := hb0.trans (hb1.mono hb0.size)
    obtain ⟨⟨c0, c1, c2, c3, c4, c5⟩, -⟩ := (RB.out.below hb1).all6
    have RB1 := Lib.hid (RB.out.below hb1)
    go_wp2_with fail
    refine (implPolicy HP.out _).mono ?_
    rintro e w2 ⟨rfl, rfl⟩
    go_wp2_with fail
    refine (implTableAt AS s.length cS s x.table _ _ (hs.below TbR.stays hbz1) HSZ.out HNM.out).mono ?_
    rintro e w3 ⟨rfl, hb3⟩
    rw [HAT.out]
    have hbz3 := hbz1.trans (hb3.mono hbz1.size)
    clear c0 c1 c2 c3 c4 c5
    obtain ⟨⟨c0, c1, c2, c3, c4, c5⟩, -⟩ := (RB1.out.below hb3).all6
    have RB3 := Lib.hid (RB1.out.below hb3)
    go_wp2_with fail
    go_ret
    exact ⟨retB HR.out.symm, hbz3⟩
  have HAT := Lib.hid hat
  have HT := Lib.hid (HBP.out.trans (stmtA_at hat hm))
  have i0 : (0 : Int) ≤ m := by omega
  have i1 : (m : Int) < s.length := by omega
  have i2 : ((m : Int) == -1) = false := by rw [beq_eq_false_iff_ne]; omega
  clear hat
  have hcl : s[m].cols.length ≤ 1048576 := by have h1 := HSZ.out; have := sum_mem_le Tb.sz s m hm; simp only [szL, Tb.sz] at *; omega
  by_cases k1 : x.kind = 1
  case pos =>
    have kk1 : (x.kind == 1) = true := by simpa using k1
    cases hI : insB s[m].cols x.rows
    · have HI := Lib.hid hI
      have HR := Lib.hid (show stmtB s x = false by rw [HT.out]; unfold stmtT; simp [k1, hI])
      clear k1 hI
      go_enter Tryz.func10, Tryz.ntmps10
      go_wp2_with fail
      generalize w.alloc (.cells #[.int .i64 x.kind, .string x.table, .slice AR x.rows.length cR, .slice AW x.wher.length cW, .slice AE x.sets.length cE, .int .i64 x.policy] 37) = z0 at *
      refine (implSchemaOk AS s.length cS s _ _ (hs.below TbR.stays hb0) HSZ.out).mono ?_
      rintro e w1 ⟨rfl, hb1⟩
      rw [HB.out]
      have hbz1 := hb0.trans (hb1.mono hb0.size)
      obtain ⟨⟨c0, c1, c2, c3, c4, c5⟩, -⟩ := (RB.out.below hb1).all6
      have RB1 := Lib.hid (RB.out.below hb1)
      go_wp2_with fail
      refine (implPolicy HP.out _).mono ?_
      rintro e w2 ⟨rfl, rfl⟩
      go_wp2_with fail
      refine (implTableAt AS s.length cS s x.table _ _ (hs.below TbR.stays hbz1) HSZ.out HNM.out).mono ?_
      rintro e w3 ⟨rfl, hb3⟩
      rw [HAT.out]
      have hbz3 := hbz1.trans (hb3.mono hbz1.size)
      clear c0 c1 c2 c3 c4 c5
      obtain ⟨⟨c0, c1, c2, c3, c4, c5⟩, -⟩ := (RB1.out.below hb3).all6
      have RB3 := Lib.hid (RB1.out.below hb3)
      obtain ⟨b, off, A1, n1, d1, A2, n2, d2, A3, n3, d3, A4, n4, d4, A5, n5, d5, -, rfl, q0, q1, q2, q3, q4, q5, s1, -⟩ := TbR.at_ (hs.below TbR.stays hbz3) hm
      obtain rfl : s[m].cols.length = n1 := s1.1
      go_wp2_with fail
      refine (implInsertedOk b (off + m * 6) A1 AR d1 x.rows.length cR s[m].cols x.rows _ _ _ q1 s1 (hr.below RwR.stays hbz3) hcl hrn HVN.out).mono ?_
      rintro e w4 ⟨rfl, hb4⟩
      rw [HI.out]
      have hbz4 := hbz3.trans (hb4.mono hbz3.size)
      obtain ⟨⟨e0', e1', e2', e3', e4', e5'⟩, -⟩ := (RB3.out.below hb4).all6
      go_wp2_with fail
      go_ret
      exact ⟨retB HR.out.symm, hbz4⟩
    have HI := Lib.hid hI
    by_cases w0 : x.wher.length = 0
    case neg =>
      have w0' : ((x.wher.length : Int) == 0) = false := by rw [beq_eq_false_iff_ne]; omega
      have HR := Lib.hid (show stmtB s x = false by rw [HT.out]; unfold stmtT; simp [k1, hI, w0])
      clear k1 hI w0
      go_enter Tryz.func10, Tryz.ntmps10
      go_wp2_with fail
      generalize w.alloc (.cells #[.int .i64 x.kind, .string x.table, .slice AR x.rows.length cR, .slice AW x.wher.length cW, .slice AE x.sets.length cE, .int .i64 x.policy] 37) = z0 at *
      refine (implSchemaOk AS s.length cS s _ _ (hs.below TbR.stays hb0) HSZ.out).mono ?_
      rintro e w1 ⟨rfl, hb1⟩
      rw [HB.out]
      have hbz1 := hb0.trans (hb1.mono hb0.size)
      obtain ⟨⟨c0, c1, c2, c3, c4, c5⟩, -⟩ := (RB.out.below hb1).all6
      have RB1 := Lib.hid (RB.out.below hb1)
      go_wp2_with fail
      refine (implPolicy HP.out _).mono ?_
      rintro e w2 ⟨rfl, rfl⟩
      go_wp2_with fail
      refine (implTableAt AS s.length cS s x.table _ _ (hs.below TbR.stays hbz1) HSZ.out HNM.out).mono ?_
      rintro e w3 ⟨rfl, hb3⟩
      rw [HAT.out]
      have hbz3 := hbz1.trans (hb3.mono hbz1.size)
      clear c0 c1 c2 c3 c4 c5
      obtain ⟨⟨c0, c1, c2, c3, c4, c5⟩, -⟩ := (RB1.out.below hb3).all6
      have RB3 := Lib.hid (RB1.out.below hb3)
      obtain ⟨b, off, A1, n1, d1, A2, n2, d2, A3, n3, d3, A4, n4, d4, A5, n5, d5, -, rfl, q0, q1, q2, q3, q4, q5, s1, -⟩ := TbR.at_ (hs.below TbR.stays hbz3) hm
      obtain rfl : s[m].cols.length = n1 := s1.1
      go_wp2_with fail
      refine (implInsertedOk b (off + m * 6) A1 AR d1 x.rows.length cR s[m].cols x.rows _ _ _ q1 s1 (hr.below RwR.stays hbz3) hcl hrn HVN.out).mono ?_
      rintro e w4 ⟨rfl, hb4⟩
      rw [HI.out]
      have hbz4 := hbz3.trans (hb4.mono hbz3.size)
      obtain ⟨⟨e0', e1', e2', e3', e4', e5'⟩, -⟩ := (RB3.out.below hb4).all6
      go_wp2_with fail
      go_ret
      exact ⟨retB HR.out.symm, hbz4⟩
    have w0' : ((x.wher.length : Int) == 0) = true := by rw [beq_iff_eq]; omega
    by_cases t0 : x.sets.length = 0
    case neg =>
      have t0' : ((x.sets.length : Int) == 0) = false := by rw [beq_eq_false_iff_ne]; omega
      have HR := Lib.hid (show stmtB s x = false by rw [HT.out]; unfold stmtT; simp [k1, hI, w0, t0])
      clear k1 hI w0 t0
      go_enter Tryz.func10, Tryz.ntmps10
      go_wp2_with fail
      generalize w.alloc (.cells #[.int .i64 x.kind, .string x.table, .slice AR x.rows.length cR, .slice AW x.wher.length cW, .slice AE x.sets.length cE, .int .i64 x.policy] 37) = z0 at *
      refine (implSchemaOk AS s.length cS s _ _ (hs.below TbR.stays hb0) HSZ.out).mono ?_
      rintro e w1 ⟨rfl, hb1⟩
      rw [HB.out]
      have hbz1 := hb0.trans (hb1.mono hb0.size)
      obtain ⟨⟨c0, c1, c2, c3, c4, c5⟩, -⟩ := (RB.out.below hb1).all6
      have RB1 := Lib.hid (RB.out.below hb1)
      go_wp2_with fail
      refine (implPolicy HP.out _).mono ?_
      rintro e w2 ⟨rfl, rfl⟩
      go_wp2_with fail
      refine (implTableAt AS s.length cS s x.table _ _ (hs.below TbR.stays hbz1) HSZ.out HNM.out).mono ?_
      rintro e w3 ⟨rfl, hb3⟩
      rw [HAT.out]
      have hbz3 := hbz1.trans (hb3.mono hbz1.size)
      clear c0 c1 c2 c3 c4 c5
      obtain ⟨⟨c0, c1, c2, c3, c4, c5⟩, -⟩ := (RB1.out.below hb3).all6
      have RB3 := Lib.hid (RB1.out.below hb3)
      obtain ⟨b, off, A1, n1, d1, A2, n2, d2, A3, n3, d3, A4, n4, d4, A5, n5, d5, -, rfl, q0, q1, q2, q3, q4, q5, s1, -⟩ := TbR.at_ (hs.below TbR.stays hbz3) hm
      obtain rfl : s[m].cols.length = n1 := s1.1
      go_wp2_with fail
      refine (implInsertedOk b (off + m * 6) A1 AR d1 x.rows.length cR s[m].cols x.rows _ _ _ q1 s1 (hr.below RwR.stays hbz3) hcl hrn HVN.out).mono ?_
      rintro e w4 ⟨rfl, hb4⟩
      rw [HI.out]
      have hbz4 := hbz3.trans (hb4.mono hbz3.size)
      obtain ⟨⟨e0', e1', e2', e3', e4', e5'⟩, -⟩ := (RB3.out.below hb4).all6
      go_wp2_with fail
      go_ret
      exact ⟨retB HR.out.symm, hbz4⟩
    case pos =>
      have t0' : ((x.sets.length : Int) == 0) = true := by rw [beq_iff_eq]; omega
      have HR := Lib.hid (show stmtB s x = true by rw [HT.out]; unfold stmtT; simp [k1, hI, w0, t0])
      clear k1 hI w0 t0
      go_enter Tryz.func10, Tryz.ntmps10
      go_wp2_with fail
      generalize w.alloc (.cells #[.int .i64 x.kind, .string x.table, .slice AR x.rows.length cR, .slice AW x.wher.length cW, .slice AE x.sets.length cE, .int .i64 x.policy] 37) = z0 at *
      refine (implSchemaOk AS s.length cS s _ _ (hs.below TbR.stays hb0) HSZ.out).mono ?_
      rintro e w1 ⟨rfl, hb1⟩
      rw [HB.out]
      have hbz1 := hb0.trans (hb1.mono hb0.size)
      obtain ⟨⟨c0, c1, c2, c3, c4, c5⟩, -⟩ := (RB.out.below hb1).all6
      have RB1 := Lib.hid (RB.out.below hb1)
      go_wp2_with fail
      refine (implPolicy HP.out _).mono ?_
      rintro e w2 ⟨rfl, rfl⟩
      go_wp2_with fail
      refine (implTableAt AS s.length cS s x.table _ _ (hs.below TbR.stays hbz1) HSZ.out HNM.out).mono ?_
      rintro e w3 ⟨rfl, hb3⟩
      rw [HAT.out]
      have hbz3 := hbz1.trans (hb3.mono hbz1.size)
      clear c0 c1 c2 c3 c4 c5
      obtain ⟨⟨c0, c1, c2, c3, c4, c5⟩, -⟩ := (RB1.out.below hb3).all6
      have RB3 := Lib.hid (RB1.out.below hb3)
      obtain ⟨b, off, A1, n1, d1, A2, n2, d2, A3, n3, d3, A4, n4, d4, A5, n5, d5, -, rfl, q0, q1, q2, q3, q4, q5, s1, -⟩ := TbR.at_ (hs.below TbR.stays hbz3) hm
      obtain rfl : s[m].cols.length = n1 := s1.1
      go_wp2_with fail
      refine (implInsertedOk b (off + m * 6) A1 AR d1 x.rows.length cR s[m].cols x.rows _ _ _ q1 s1 (hr.below RwR.stays hbz3) hcl hrn HVN.out).mono ?_
      rintro e w4 ⟨rfl, hb4⟩
      rw [HI.out]
      have hbz4 := hbz3.trans (hb4.mono hbz3.size)
      obtain ⟨⟨e0', e1', e2', e3', e4', e5'⟩, -⟩ := (RB3.out.below hb4).all6
      go_wp2_with fail
      go_ret
      exact ⟨retB HR.out.symm, hbz4⟩
  have kk1 : (x.kind == 1) = false := by simpa using k1
  by_cases k2 : x.kind = 2
  case pos =>
    have kk2 : (x.kind == 2) = true := by simpa using k2
    by_cases r0 : x.rows.length = 0
    case neg =>
      have r0' : ((x.rows.length : Int) == 0) = false := by rw [beq_eq_false_iff_ne]; omega
      have HR := Lib.hid (show stmtB s x = false by rw [HT.out]; unfold stmtT; simp [k2, r0])
      clear k1 k2 r0
      go_enter Tryz.func10, Tryz.ntmps10
      go_wp2_with fail
      generalize w.alloc (.cells #[.int .i64 x.kind, .string x.table, .slice AR x.rows.length cR, .slice AW x.wher.length cW, .slice AE x.sets.length cE, .int .i64 x.policy] 37) = z0 at *
      refine (implSchemaOk AS s.length cS s _ _ (hs.below TbR.stays hb0) HSZ.out).mono ?_
      rintro e w1 ⟨rfl, hb1⟩
      rw [HB.out]
      have hbz1 := hb0.trans (hb1.mono hb0.size)
      obtain ⟨⟨c0, c1, c2, c3, c4, c5⟩, -⟩ := (RB.out.below hb1).all6
      have RB1 := Lib.hid (RB.out.below hb1)
      go_wp2_with fail
      refine (implPolicy HP.out _).mono ?_
      rintro e w2 ⟨rfl, rfl⟩
      go_wp2_with fail
      refine (implTableAt AS s.length cS s x.table _ _ (hs.below TbR.stays hbz1) HSZ.out HNM.out).mono ?_
      rintro e w3 ⟨rfl, hb3⟩
      rw [HAT.out]
      have hbz3 := hbz1.trans (hb3.mono hbz1.size)
      clear c0 c1 c2 c3 c4 c5
      obtain ⟨⟨c0, c1, c2, c3, c4, c5⟩, -⟩ := (RB1.out.below hb3).all6
      have RB3 := Lib.hid (RB1.out.below hb3)
      obtain ⟨b, off, A1, n1, d1, A2, n2, d2, A3, n3, d3, A4, n4, d4, A5, n5, d5, -, rfl, q0, q1, q2, q3, q4, q5, s1, -⟩ := TbR.at_ (hs.below TbR.stays hbz3) hm
      obtain rfl : s[m].cols.length = n1 := s1.1
      go_wp2_with fail
      go_ret
      exact ⟨retB HR.out.symm, hbz3⟩
    have r0' : ((x.rows.length : Int) == 0) = true := by rw [beq_iff_eq]; omega
    cases hW : whereB s[m].cols x.wher
    · have HWO := Lib.hid hW
      have HR := Lib.hid (show stmtB s x = false by rw [HT.out]; unfold stmtT; simp [k2, r0, hW])
      clear k1 k2 r0 hW
      go_enter Tryz.func10, Tryz.ntmps10
      go_wp2_with fail
      generalize w.alloc (.cells #[.int .i64 x.kind, .string x.table, .slice AR x.rows.length cR, .slice AW x.wher.length cW, .slice AE x.sets.length cE, .int .i64 x.policy] 37) = z0 at *
      refine (implSchemaOk AS s.length cS s _ _ (hs.below TbR.stays hb0) HSZ.out).mono ?_
      rintro e w1 ⟨rfl, hb1⟩
      rw [HB.out]
      have hbz1 := hb0.trans (hb1.mono hb0.size)
      obtain ⟨⟨c0, c1, c2, c3, c4, c5⟩, -⟩ := (RB.out.below hb1).all6
      have RB1 := Lib.hid (RB.out.below hb1)
      go_wp2_with fail
      refine (implPolicy HP.out _).mono ?_
      rintro e w2 ⟨rfl, rfl⟩
      go_wp2_with fail
      refine (implTableAt AS s.length cS s x.table _ _ (hs.below TbR.stays hbz1) HSZ.out HNM.out).mono ?_
      rintro e w3 ⟨rfl, hb3⟩
      rw [HAT.out]
      have hbz3 := hbz1.trans (hb3.mono hbz1.size)
      clear c0 c1 c2 c3 c4 c5
      obtain ⟨⟨c0, c1, c2, c3, c4, c5⟩, -⟩ := (RB1.out.below hb3).all6
      have RB3 := Lib.hid (RB1.out.below hb3)
      obtain ⟨b, off, A1, n1, d1, A2, n2, d2, A3, n3, d3, A4, n4, d4, A5, n5, d5, -, rfl, q0, q1, q2, q3, q4, q5, s1, -⟩ := TbR.at_ (hs.below TbR.stays hbz3) hm
      obtain rfl : s[m].cols.length = n1 := s1.1
      go_wp2_with fail
      refine (implWhereOk b (off + m * 6) A1 AW d1 x.wher.length cW s[m].cols x.wher _ _ q1 (hw.below TkR.stays hbz3) hwn).mono ?_
      rintro e w4 ⟨rfl, hb4⟩
      rw [HWO.out]
      have hbz4 := hbz3.trans (hb4.mono hbz3.size)
      obtain ⟨⟨e0', e1', e2', e3', e4', e5'⟩, -⟩ := (RB3.out.below hb4).all6
      go_wp2_with fail
      go_ret
      exact ⟨retB HR.out.symm, hbz4⟩
    · have HWO := Lib.hid hW
      have HR := Lib.hid (show stmtB s x = setsB s[m].cols.length x.sets by rw [HT.out]; unfold stmtT; simp [k2, r0, hW])
      clear k1 k2 r0 hW
      go_enter Tryz.func10, Tryz.ntmps10
      go_wp2_with fail
      generalize w.alloc (.cells #[.int .i64 x.kind, .string x.table, .slice AR x.rows.length cR, .slice AW x.wher.length cW, .slice AE x.sets.length cE, .int .i64 x.policy] 37) = z0 at *
      refine (implSchemaOk AS s.length cS s _ _ (hs.below TbR.stays hb0) HSZ.out).mono ?_
      rintro e w1 ⟨rfl, hb1⟩
      rw [HB.out]
      have hbz1 := hb0.trans (hb1.mono hb0.size)
      obtain ⟨⟨c0, c1, c2, c3, c4, c5⟩, -⟩ := (RB.out.below hb1).all6
      have RB1 := Lib.hid (RB.out.below hb1)
      go_wp2_with fail
      refine (implPolicy HP.out _).mono ?_
      rintro e w2 ⟨rfl, rfl⟩
      go_wp2_with fail
      refine (implTableAt AS s.length cS s x.table _ _ (hs.below TbR.stays hbz1) HSZ.out HNM.out).mono ?_
      rintro e w3 ⟨rfl, hb3⟩
      rw [HAT.out]
      have hbz3 := hbz1.trans (hb3.mono hbz1.size)
      clear c0 c1 c2 c3 c4 c5
      obtain ⟨⟨c0, c1, c2, c3, c4, c5⟩, -⟩ := (RB1.out.below hb3).all6
      have RB3 := Lib.hid (RB1.out.below hb3)
      obtain ⟨b, off, A1, n1, d1, A2, n2, d2, A3, n3, d3, A4, n4, d4, A5, n5, d5, -, rfl, q0, q1, q2, q3, q4, q5, s1, -⟩ := TbR.at_ (hs.below TbR.stays hbz3) hm
      obtain rfl : s[m].cols.length = n1 := s1.1
      go_wp2_with fail
      refine (implWhereOk b (off + m * 6) A1 AW d1 x.wher.length cW s[m].cols x.wher _ _ q1 (hw.below TkR.stays hbz3) hwn).mono ?_
      rintro e w4 ⟨rfl, hb4⟩
      rw [HWO.out]
      have hbz4 := hbz3.trans (hb4.mono hbz3.size)
      obtain ⟨⟨e0', e1', e2', e3', e4', e5'⟩, -⟩ := (RB3.out.below hb4).all6
      go_wp2_with fail
      refine (implSetsOk b (off + m * 6) A1 AE d1 x.sets.length cE s[m].cols x.sets _ _ (below_keep hb4 _ _ q1) (he.below SeR.stays hbz4) hcl hen HEN.out).mono ?_
      rintro e w5 ⟨rfl, hb5⟩
      have hbz5 := hbz4.trans (hb5.mono hbz4.size)
      go_wp2_with fail
      go_ret
      exact ⟨retB HR.out.symm, hbz5⟩
  have kk2 : (x.kind == 2) = false := by simpa using k2
  by_cases k3 : x.kind = 3
  case pos =>
    have kk3 : (x.kind == 3) = true := by simpa using k3
    by_cases r0 : x.rows.length = 0
    case neg =>
      have r0' : ((x.rows.length : Int) == 0) = false := by rw [beq_eq_false_iff_ne]; omega
      have HR := Lib.hid (show stmtB s x = false by rw [HT.out]; unfold stmtT; simp [k3, r0])
      clear k1 k2 k3 r0
      go_enter Tryz.func10, Tryz.ntmps10
      go_wp2_with fail
      generalize w.alloc (.cells #[.int .i64 x.kind, .string x.table, .slice AR x.rows.length cR, .slice AW x.wher.length cW, .slice AE x.sets.length cE, .int .i64 x.policy] 37) = z0 at *
      refine (implSchemaOk AS s.length cS s _ _ (hs.below TbR.stays hb0) HSZ.out).mono ?_
      rintro e w1 ⟨rfl, hb1⟩
      rw [HB.out]
      have hbz1 := hb0.trans (hb1.mono hb0.size)
      obtain ⟨⟨c0, c1, c2, c3, c4, c5⟩, -⟩ := (RB.out.below hb1).all6
      have RB1 := Lib.hid (RB.out.below hb1)
      go_wp2_with fail
      refine (implPolicy HP.out _).mono ?_
      rintro e w2 ⟨rfl, rfl⟩
      go_wp2_with fail
      refine (implTableAt AS s.length cS s x.table _ _ (hs.below TbR.stays hbz1) HSZ.out HNM.out).mono ?_
      rintro e w3 ⟨rfl, hb3⟩
      rw [HAT.out]
      have hbz3 := hbz1.trans (hb3.mono hbz1.size)
      clear c0 c1 c2 c3 c4 c5
      obtain ⟨⟨c0, c1, c2, c3, c4, c5⟩, -⟩ := (RB1.out.below hb3).all6
      have RB3 := Lib.hid (RB1.out.below hb3)
      obtain ⟨b, off, A1, n1, d1, A2, n2, d2, A3, n3, d3, A4, n4, d4, A5, n5, d5, -, rfl, q0, q1, q2, q3, q4, q5, s1, -⟩ := TbR.at_ (hs.below TbR.stays hbz3) hm
      obtain rfl : s[m].cols.length = n1 := s1.1
      go_wp2_with fail
      go_ret
      exact ⟨retB HR.out.symm, hbz3⟩
    have r0' : ((x.rows.length : Int) == 0) = true := by rw [beq_iff_eq]; omega
    cases hW : whereB s[m].cols x.wher
    · have HWO := Lib.hid hW
      have HR := Lib.hid (show stmtB s x = false by rw [HT.out]; unfold stmtT; simp [k3, r0, hW])
      clear k1 k2 k3 r0 hW
      go_enter Tryz.func10, Tryz.ntmps10
      go_wp2_with fail
      generalize w.alloc (.cells #[.int .i64 x.kind, .string x.table, .slice AR x.rows.length cR, .slice AW x.wher.length cW, .slice AE x.sets.length cE, .int .i64 x.policy] 37) = z0 at *
      refine (implSchemaOk AS s.length cS s _ _ (hs.below TbR.stays hb0) HSZ.out).mono ?_
      rintro e w1 ⟨rfl, hb1⟩
      rw [HB.out]
      have hbz1 := hb0.trans (hb1.mono hb0.size)
      obtain ⟨⟨c0, c1, c2, c3, c4, c5⟩, -⟩ := (RB.out.below hb1).all6
      have RB1 := Lib.hid (RB.out.below hb1)
      go_wp2_with fail
      refine (implPolicy HP.out _).mono ?_
      rintro e w2 ⟨rfl, rfl⟩
      go_wp2_with fail
      refine (implTableAt AS s.length cS s x.table _ _ (hs.below TbR.stays hbz1) HSZ.out HNM.out).mono ?_
      rintro e w3 ⟨rfl, hb3⟩
      rw [HAT.out]
      have hbz3 := hbz1.trans (hb3.mono hbz1.size)
      clear c0 c1 c2 c3 c4 c5
      obtain ⟨⟨c0, c1, c2, c3, c4, c5⟩, -⟩ := (RB1.out.below hb3).all6
      have RB3 := Lib.hid (RB1.out.below hb3)
      obtain ⟨b, off, A1, n1, d1, A2, n2, d2, A3, n3, d3, A4, n4, d4, A5, n5, d5, -, rfl, q0, q1, q2, q3, q4, q5, s1, -⟩ := TbR.at_ (hs.below TbR.stays hbz3) hm
      obtain rfl : s[m].cols.length = n1 := s1.1
      go_wp2_with fail
      refine (implWhereOk b (off + m * 6) A1 AW d1 x.wher.length cW s[m].cols x.wher _ _ q1 (hw.below TkR.stays hbz3) hwn).mono ?_
      rintro e w4 ⟨rfl, hb4⟩
      rw [HWO.out]
      have hbz4 := hbz3.trans (hb4.mono hbz3.size)
      obtain ⟨⟨e0', e1', e2', e3', e4', e5'⟩, -⟩ := (RB3.out.below hb4).all6
      go_wp2_with fail
      go_ret
      exact ⟨retB HR.out.symm, hbz4⟩
    have HWO := Lib.hid hW
    by_cases t0 : x.sets.length = 0
    case neg =>
      have t0' : ((x.sets.length : Int) == 0) = false := by rw [beq_eq_false_iff_ne]; omega
      have HR := Lib.hid (show stmtB s x = false by rw [HT.out]; unfold stmtT; simp [k3, r0, hW, t0])
      clear k1 k2 k3 r0 hW t0
      go_enter Tryz.func10, Tryz.ntmps10
      go_wp2_with fail
      generalize w.alloc (.cells #[.int .i64 x.kind, .string x.table, .slice AR x.rows.length cR, .slice AW x.wher.length cW, .slice AE x.sets.length cE, .int .i64 x.policy] 37) = z0 at *
      refine (implSchemaOk AS s.length cS s _ _ (hs.below TbR.stays hb0) HSZ.out).mono ?_
      rintro e w1 ⟨rfl, hb1⟩
      rw [HB.out]
      have hbz1 := hb0.trans (hb1.mono hb0.size)
      obtain ⟨⟨c0, c1, c2, c3, c4, c5⟩, -⟩ := (RB.out.below hb1).all6
      have RB1 := Lib.hid (RB.out.below hb1)
      go_wp2_with fail
      refine (implPolicy HP.out _).mono ?_
      rintro e w2 ⟨rfl, rfl⟩
      go_wp2_with fail
      refine (implTableAt AS s.length cS s x.table _ _ (hs.below TbR.stays hbz1) HSZ.out HNM.out).mono ?_
      rintro e w3 ⟨rfl, hb3⟩
      rw [HAT.out]
      have hbz3 := hbz1.trans (hb3.mono hbz1.size)
      clear c0 c1 c2 c3 c4 c5
      obtain ⟨⟨c0, c1, c2, c3, c4, c5⟩, -⟩ := (RB1.out.below hb3).all6
      have RB3 := Lib.hid (RB1.out.below hb3)
      obtain ⟨b, off, A1, n1, d1, A2, n2, d2, A3, n3, d3, A4, n4, d4, A5, n5, d5, -, rfl, q0, q1, q2, q3, q4, q5, s1, -⟩ := TbR.at_ (hs.below TbR.stays hbz3) hm
      obtain rfl : s[m].cols.length = n1 := s1.1
      go_wp2_with fail
      refine (implWhereOk b (off + m * 6) A1 AW d1 x.wher.length cW s[m].cols x.wher _ _ q1 (hw.below TkR.stays hbz3) hwn).mono ?_
      rintro e w4 ⟨rfl, hb4⟩
      rw [HWO.out]
      have hbz4 := hbz3.trans (hb4.mono hbz3.size)
      obtain ⟨⟨e0', e1', e2', e3', e4', e5'⟩, -⟩ := (RB3.out.below hb4).all6
      go_wp2_with fail
      go_ret
      exact ⟨retB HR.out.symm, hbz4⟩
    case pos =>
      have t0' : ((x.sets.length : Int) == 0) = true := by rw [beq_iff_eq]; omega
      have HR := Lib.hid (show stmtB s x = true by rw [HT.out]; unfold stmtT; simp [k3, r0, hW, t0])
      clear k1 k2 k3 r0 hW t0
      go_enter Tryz.func10, Tryz.ntmps10
      go_wp2_with fail
      generalize w.alloc (.cells #[.int .i64 x.kind, .string x.table, .slice AR x.rows.length cR, .slice AW x.wher.length cW, .slice AE x.sets.length cE, .int .i64 x.policy] 37) = z0 at *
      refine (implSchemaOk AS s.length cS s _ _ (hs.below TbR.stays hb0) HSZ.out).mono ?_
      rintro e w1 ⟨rfl, hb1⟩
      rw [HB.out]
      have hbz1 := hb0.trans (hb1.mono hb0.size)
      obtain ⟨⟨c0, c1, c2, c3, c4, c5⟩, -⟩ := (RB.out.below hb1).all6
      have RB1 := Lib.hid (RB.out.below hb1)
      go_wp2_with fail
      refine (implPolicy HP.out _).mono ?_
      rintro e w2 ⟨rfl, rfl⟩
      go_wp2_with fail
      refine (implTableAt AS s.length cS s x.table _ _ (hs.below TbR.stays hbz1) HSZ.out HNM.out).mono ?_
      rintro e w3 ⟨rfl, hb3⟩
      rw [HAT.out]
      have hbz3 := hbz1.trans (hb3.mono hbz1.size)
      clear c0 c1 c2 c3 c4 c5
      obtain ⟨⟨c0, c1, c2, c3, c4, c5⟩, -⟩ := (RB1.out.below hb3).all6
      have RB3 := Lib.hid (RB1.out.below hb3)
      obtain ⟨b, off, A1, n1, d1, A2, n2, d2, A3, n3, d3, A4, n4, d4, A5, n5, d5, -, rfl, q0, q1, q2, q3, q4, q5, s1, -⟩ := TbR.at_ (hs.below TbR.stays hbz3) hm
      obtain rfl : s[m].cols.length = n1 := s1.1
      go_wp2_with fail
      refine (implWhereOk b (off + m * 6) A1 AW d1 x.wher.length cW s[m].cols x.wher _ _ q1 (hw.below TkR.stays hbz3) hwn).mono ?_
      rintro e w4 ⟨rfl, hb4⟩
      rw [HWO.out]
      have hbz4 := hbz3.trans (hb4.mono hbz3.size)
      obtain ⟨⟨e0', e1', e2', e3', e4', e5'⟩, -⟩ := (RB3.out.below hb4).all6
      go_wp2_with fail
      go_ret
      exact ⟨retB HR.out.symm, hbz4⟩
  case neg =>
    have kk3 : (x.kind == 3) = false := by simpa using k3
    have HR := Lib.hid (show stmtB s x = false by rw [HT.out]; unfold stmtT; simp [k1, k2, k3])
    clear k1 k2 k3
    go_enter Tryz.func10, Tryz.ntmps10
    go_wp2_with fail
    generalize w.alloc (.cells #[.int .i64 x.kind, .string x.table, .slice AR x.rows.length cR, .slice AW x.wher.length cW, .slice AE x.sets.length cE, .int .i64 x.policy] 37) = z0 at *
    refine (implSchemaOk AS s.length cS s _ _ (hs.below TbR.stays hb0) HSZ.out).mono ?_
    rintro e w1 ⟨rfl, hb1⟩
    rw [HB.out]
    have hbz1 := hb0.trans (hb1.mono hb0.size)
    obtain ⟨⟨c0, c1, c2, c3, c4, c5⟩, -⟩ := (RB.out.below hb1).all6
    have RB1 := Lib.hid (RB.out.below hb1)
    go_wp2_with fail
    refine (implPolicy HP.out _).mono ?_
    rintro e w2 ⟨rfl, rfl⟩
    go_wp2_with fail
    refine (implTableAt AS s.length cS s x.table _ _ (hs.below TbR.stays hbz1) HSZ.out HNM.out).mono ?_
    rintro e w3 ⟨rfl, hb3⟩
    rw [HAT.out]
    have hbz3 := hbz1.trans (hb3.mono hbz1.size)
    clear c0 c1 c2 c3 c4 c5
    obtain ⟨⟨c0, c1, c2, c3, c4, c5⟩, -⟩ := (RB1.out.below hb3).all6
    have RB3 := Lib.hid (RB1.out.below hb3)
    obtain ⟨b, off, A1, n1, d1, A2, n2, d2, A3, n3, d3, A4, n4, d4, A5, n5, d5, -, rfl, q0, q1, q2, q3, q4, q5, s1, -⟩ := TbR.at_ (hs.below TbR.stays hbz3) hm
    obtain rfl : s[m].cols.length = n1 := s1.1
    go_wp2_with fail
    go_ret
    exact ⟨retB HR.out.symm, hbz3⟩
end Go.Proofs.YtfhiknndflahgaaGreat
namespace Go.Proofs.YtfhiknndflahgaaGreat
open Go.RowKit Go.Maps
set_option linter.unusedVariables false
set_option linter.unusedSimpArgs false

/-- How the model asks the rest of a statement. -/
def finB (t : Tb) (x : Sq) : Bool :=
  if x.kind = 1 then decide (x.rows.length ≤ 8) && decide (x.wher.length + x.sets.length = 0)
  else if x.kind = 2 then whereB t.cols x.wher && decide (x.rows.length = 0)
  else if x.kind = 3 then whereB t.cols x.wher && decide (x.rows.length + x.sets.length = 0)
  else false
theorem stmtT_eq (t : Tb) (x : Sq) : stmtT t x = (x.rows.all (rowS t.cols) && (setsB t.cols.length x.sets && finB t x)) := by
  have hn : ∀ {α : Type} (l : List α), l.length = 0 → l = [] := fun l h => List.eq_nil_of_length_eq_zero h
  unfold stmtT finB insB
  by_cases k1 : x.kind = 1
  · simp only [k1, if_true]
    by_cases h : x.wher.length + x.sets.length = 0
    · have h1 : x.wher.length = 0 := by omega
      have h2 : x.sets.length = 0 := by omega
      rw [hn _ h2]
      simp [h1, setsB_nil, Bool.and_comm]
    · have h' : ¬ (x.wher.length = 0 ∧ x.sets.length = 0) := by omega
      rw [decide_eq_false h]
      by_cases h1 : x.wher.length = 0
      · have h2 : ¬ x.sets.length = 0 := by omega
        rw [decide_eq_false h2]; simp
      · rw [decide_eq_false h1]; simp
  · by_cases k2 : x.kind = 2
    · simp only [if_neg k1, k2, if_true]
      by_cases h : x.rows.length = 0
      · rw [hn _ h]; simp [Bool.and_comm]
      · rw [decide_eq_false h]; simp
    · by_cases k3 : x.kind = 3
      · simp only [if_neg k1, if_neg k2, k3, if_true]
        by_cases h : x.rows.length + x.sets.length = 0
        · have h1 : x.rows.length = 0 := by omega
          have h2 : x.sets.length = 0 := by omega
          rw [hn _ h1, hn _ h2]; simp [setsB_nil]
        · rw [decide_eq_false h]
          by_cases h1 : x.rows.length = 0
          · have h2 : ¬ x.sets.length = 0 := by omega
            rw [decide_eq_false h2]; simp
          · rw [decide_eq_false h1]; simp
      · simp only [if_neg k1, if_neg k2, if_neg k3]; simp

theorem setsB_col {n : Nat} {l : List Se} (h : colsGo n [] (l.map Se.col) = false) : setsB n l = false := by unfold setsB; rw [h]; simp

set_option maxRecDepth 100000 in
set_option maxHeartbeats 8000000 in
theorem specL7Stmt (AS AR AW AE : Option Addr) (nS cS nR cR nW cW nE cE : Nat) (s : List Tb) (x : Sq) (ok okr okw oke : Nat → Prop) (w : World)
    (hs : Sl TbR 6 ok w AS nS s) (hr : Sl RwR 2 okr w AR nR x.rows) (hw : Sl TkR 5 okw w AW nW x.wher) (he : Sl SeR 2 oke w AE nE x.sets) (hsz : szL Tb.sz s ≤ 1048576) (hx : x.sz ≤ 1048576) (hS : schemaB s = true) :
    Calls Tryz.prog 31 #[.slice AS nS cS, .agg #[.int .i64 x.kind, .string x.table, .slice AR nR cR, .slice AW nW cW, .slice AE nE cE, .int .i64 x.policy]] w fun e w' => e = .returned (.bool (stmtB s x)) ∧ Below w.heap.size w w' := by
  obtain rfl : s.length = nS := hs.1
  obtain rfl : x.rows.length = nR := hr.1
  obtain rfl : x.wher.length = nW := hw.1
  obtain rfl : x.sets.length = nE := he.1
  have hsn : s.length ≤ 1048576 := by unfold szL at hsz; omega
  have hrn : x.rows.length ≤ 1048576 := by unfold Sq.sz szL at hx; omega
  have hwn : x.wher.length ≤ 1048576 := by unfold Sq.sz szL at hx; omega
  have hen : x.sets.length ≤ 1048576 := by unfold Sq.sz szL at hx; omega
  have HVN := Lib.hid (show ∀ r ∈ x.rows, r.vals.length ≤ 1048576 from fun r hr => by
    have h1 := szL_mem Rw.sz x.rows r hr
    have h2 : r.vals.length ≤ r.sz := by unfold Rw.sz szL; omega
    unfold Sq.sz at hx
    omega)
  have HEN := Lib.hid (show ∀ z ∈ x.sets, z.expr.length ≤ 1048576 from fun z hz => by
    have h1 := szL_mem Se.sz x.sets z hz
    have h2 : z.expr.length ≤ z.sz := by unfold Se.sz szL; omega
    unfold Sq.sz at hx
    omega)
  have HSZ := Lib.hid hsz
  have HS := Lib.hid hS
  clear hsz hx hS
  have hb0 := (Below.refl w.heap.size w).alloc (Nat.le_refl _) (.cells #[.int .i64 x.kind, .string x.table, .slice AR x.rows.length cR, .slice AW x.wher.length cW, .slice AE x.sets.length cE, .int .i64 x.policy] 37)
  have RB := Lib.hid (Row.new w 37 #[.int .i64 x.kind, .string x.table, .slice AR x.rows.length cR, .slice AW x.wher.length cW, .slice AE x.sets.length cE, .int .i64 x.policy])
  obtain ⟨⟨b0, b1, b2, b3, b4, b5⟩, -⟩ := RB.out.all6
  rcases atN_nat (s := s) (nm := x.table) with hat | ⟨m, hat, hm⟩
  · have HAT := Lib.hid hat
    have HR := Lib.hid (show stmtB s x = false by unfold stmtB; rw [stmtA_no hat]; simp)
    clear hat
    go_enter Tryz.func31, Tryz.ntmps31
    go_wp2_with fail
    generalize w.alloc (.cells #[.int .i64 x.kind, .string x.table, .slice AR x.rows.length cR, .slice AW x.wher.length cW, .slice AE x.sets.length cE, .int .i64 x.policy] 37) = z0 at *
    refine (specL3At AS s.length cS s x.table _ _ (hs.below TbR.stays hb0) hsn).mono ?_
    rintro e w1 ⟨rfl, hb1⟩
    rw [HAT.out]
    go_wp2_with fail
    go_ret
    exact ⟨retB HR.out.symm, hb0.trans (hb1.mono hb0.size)⟩
  have HAT := Lib.hid hat
  have i0 : (0 : Int) ≤ m := by omega
  have i1 : (m : Int) < s.length := by omega
  have i2 : decide ((m : Int) < 0) = false := by rw [decide_eq_false_iff_not]; omega
  cases hP : polB x.policy
  · have HP := Lib.hid (show (decide (0 ≤ x.policy) && decide (x.policy ≤ 4)) = false from hP)
    have HR := Lib.hid (show stmtB s x = false by unfold stmtB; rw [hP]; simp)
    clear hP hat
    go_enter Tryz.func31, Tryz.ntmps31
    go_wp2_with fail
    generalize w.alloc (.cells #[.int .i64 x.kind, .string x.table, .slice AR x.rows.length cR, .slice AW x.wher.length cW, .slice AE x.sets.length cE, .int .i64 x.policy] 37) = z0 at *
    refine (specL3At AS s.length cS s x.table _ _ (hs.below TbR.stays hb0) hsn).mono ?_
    rintro e w1 ⟨rfl, hb1⟩
    rw [HAT.out]
    have hbz1 := hb0.trans (hb1.mono hb0.size)
    clear b0 b1 b2 b3 b4 b5
    obtain ⟨⟨b0, b1, b2, b3, b4, b5⟩, -⟩ := (RB.out.below hb1).all6
    go_wp2_with fail
    refine (specInK HP.out _).mono ?_
    rintro e w2 ⟨rfl, rfl⟩
    go_wp2_with fail
    go_ret
    exact ⟨retB HR.out.symm, hbz1⟩
  have HP := Lib.hid (show (decide (0 ≤ x.policy) && decide (x.policy ≤ 4)) = true from hP)
  have HT := Lib.hid (show stmtB s x = (x.rows.all (rowS s[m].cols) && (setsB s[m].cols.length x.sets && finB s[m] x)) by unfold stmtB; rw [HS.out, hP, stmtA_at hat hm, stmtT_eq]; rfl)
  have hc8 : s[m].cols.length ≤ 8 := by
    have h := HS.out
    simp only [schemaB, Bool.and_eq_true] at h
    have h5 := List.all_eq_true.1 h.2.1 _ (List.getElem_mem hm)
    simp only [tableB, Bool.and_eq_true, colsB, decide_eq_true_eq] at h5
    exact h5.2.1.2.1
  clear hP hat
  go_enter Tryz.func31, Tryz.ntmps31
  go_wp2_with fail
  generalize w.alloc (.cells #[.int .i64 x.kind, .string x.table, .slice AR x.rows.length cR, .slice AW x.wher.length cW, .slice AE x.sets.length cE, .int .i64 x.policy] 37) = z0 at *
  refine (specL3At AS s.length cS s x.table _ _ (hs.below TbR.stays hb0) hsn).mono ?_
  rintro e w1 ⟨rfl, hb1⟩
  rw [HAT.out]
  have hbz1 := hb0.trans (hb1.mono hb0.size)
  have RB1 := Lib.hid (RB.out.below hb1)
  clear b0 b1 b2 b3 b4 b5
  obtain ⟨⟨b0, b1, b2, b3, b4, b5⟩, -⟩ := RB1.out.all6
  go_wp2_with fail
  refine (specInK HP.out _).mono ?_
  rintro e w2 ⟨rfl, rfl⟩
  obtain ⟨b, off, A1, n1, d1, A2, n2, d2, A3, n3, d3, A4, n4, d4, A5, n5, d5, -, rfl, q0, q1, q2, q3, q4, q5, s1, -⟩ := TbR.at_ (hs.below TbR.stays hbz1) hm
  obtain rfl : s[m].cols.length = n1 := s1.1
  have hbt := hbz1.alloc hbz1.size (.cells #[.string s[m].name, .slice A1 s[m].cols.length d1, .slice A2 n2 d2, .slice A3 n3 d3, .slice A4 n4 d4, .slice A5 n5 d5] 74)
  have hlt1 := (Below.refl w1.heap.size w1).alloc (Nat.le_refl _) (.cells #[.string s[m].name, .slice A1 s[m].cols.length d1, .slice A2 n2 d2, .slice A3 n3 d3, .slice A4 n4 d4, .slice A5 n5 d5] 74)
  have RT := Lib.hid (Row.new w1 74 #[.string s[m].name, .slice A1 s[m].cols.length d1, .slice A2 n2 d2, .slice A3 n3 d3, .slice A4 n4 d4, .slice A5 n5 d5])
  have RX := Lib.hid (RB1.out.below hlt1)
  obtain ⟨⟨t0, t1, t2, t3, t4, t5⟩, -⟩ := RT.out.all6
  have s1b := (s1.below ClR.stays hlt1)
  have HG1 := Lib.hid hbz1.size
  have hrz := (hr.below RwR.stays hbz1).below RwR.stays hlt1
  have hwz := (hw.below TkR.stays hbz1).below TkR.stays hlt1
  have hez := (he.below SeR.stays hbz1).below SeR.stays hlt1
  clear b0 b1 b2 b3 b4 b5
  obtain ⟨⟨b0, b1, b2, b3, b4, b5⟩, -⟩ := RX.out.all6
  go_wp2_with fail
  generalize hgt : w1.heap.size = gt at *
  generalize w1.alloc (.cells #[.string s[m].name, .slice A1 s[m].cols.length d1, .slice A2 n2 d2, .slice A3 n3 d3, .slice A4 n4 d4, .slice A5 n5 d5] 74) = z1 at *
  clear hgt hlt1 q0 q1 q2 q3 q4 q5 hb1 hbz1 s1
  clear b0 b1 b2 b3 b4 b5 t0 t1 t2 t3 t4 t5
  go_loopw [8] (fun i wr => ∃ k : Nat, k ≤ x.rows.length ∧ i = .int .i64 k ∧ Hid ((x.rows.take k).all (rowS s[m].cols) = true) ∧ Row wr w.heap.size 37 #[.int .i64 x.kind, .string x.table, .slice AR x.rows.length cR, .slice AW x.wher.length cW, .slice AE x.sets.length cE, .int .i64 x.policy] ∧ Row wr gt 74 #[.string s[m].name, .slice A1 s[m].cols.length d1, .slice A2 n2 d2, .slice A3 n3 d3, .slice A4 n4 d4, .slice A5 n5 d5] ∧ Below z1.heap.size z1 wr) (fun i _ => x.rows.length - (intOf i).toNat)
  case atStart => exact ⟨0, by omega, rfl, Lib.hid (by simp), RX.out, RT.out, Below.refl _ _⟩
  case round =>
    obtain ⟨k, hk', rfl, hall, rx, rt, hb⟩ := hrel
    obtain ⟨⟨b0, b1, b2, b3, b4, b5⟩, -⟩ := rx.all6
    obtain ⟨⟨t0, t1, t2, t3, t4, t5⟩, -⟩ := rt.all6
    have HRX := Lib.hid rx
    have HRT := Lib.hid rt
    clear rx rt
    by_cases hlt : k < x.rows.length
    · obtain ⟨bl, ol, B1, k1, e1, -, rfl, z0', z1', hv, -⟩ := RwR.at_ (hrz.below RwR.stays hb) hlt
      obtain rfl : x.rows[k].vals.length = k1 := hv.1
      have i0' : (0 : Int) ≤ k := by omega
      have i1' : (k : Int) < x.rows.length := by omega
      have hst := all_take_succ (rowS s[m].cols) x.rows k hlt
      rw [hall.out, Bool.true_and] at hst
      have hno : rowS s[m].cols x.rows[k] = false → stmtB s x = false := fun hf => by
        rw [HT.out, show x.rows.all (rowS s[m].cols) = false by rw [List.all_eq_false]; exact ⟨x.rows[k], List.getElem_mem hlt, by simp [hf]⟩]; rfl
      have HC := Lib.hid (specKinds A1 B1 s[m].cols.length d1 x.rows[k].vals.length e1 (.string s[m].name) (.slice A2 n2 d2) (.slice A3 n3 d3) (.slice A4 n4 d4) (.slice A5 n5 d5) s[m].cols x.rows[k].vals _ wr.drew ((s1b.below ClR.stays hb).drew ClR.stays) (Sl.cellz (fun _ => rfl) (hv.drew VlR.stays)) (by omega) (HVN.out _ (List.getElem_mem hlt)))
      have hbk := hb.drew
      cases hf : kindsB s[m].cols x.rows[k].vals
      · have HF := Lib.hid (hno (by unfold rowS; rw [hf]; simp))
        have HK := Lib.hid hf
        clear hst hno hf
        go_wp2_with fail
        refine wp_region_noPanic ?_
        refine wp_region_held_drew (S := fun w' => w'.cell? ⟨w.heap.size, 2, none⟩ = some (.slice (some ⟨bl, ol, none⟩) x.rows.length cR) ∧ w'.cell? ⟨gt, 0, none⟩ = some (.string s[m].name) ∧ w'.cell? ⟨gt, 1, none⟩ = some (.slice A1 s[m].cols.length d1) ∧ w'.cell? ⟨gt, 2, none⟩ = some (.slice A2 n2 d2) ∧ w'.cell? ⟨gt, 3, none⟩ = some (.slice A3 n3 d3) ∧ w'.cell? ⟨gt, 4, none⟩ = some (.slice A4 n4 d4) ∧ w'.cell? ⟨gt, 5, none⟩ = some (.slice A5 n5 d5) ∧ w'.cell? ⟨bl, ol + k * 2, none⟩ = some (.int .i64 x.rows[k].id) ∧ w'.cell? ⟨bl, ol + k * 2 + 1, none⟩ = some (.slice B1 x.rows[k].vals.length e1)) (by kernel_rfl) ⟨b2, t0, t1, t2, t3, t4, t5, z0', z1'⟩ (fun hHeld => ?_)
        refine wpAnyH_take (i := 0) (v := ?v1) rfl (by kernel_rfl) (by kernel_rfl) (by kernel_rfl) (fun _ _ _ h => h) (Or.inl ⟨by rfl, ?hy1⟩) hHeld ?rest1
        case hy1 => (intro w' hSw; (try dsimp only at hSw); first | (go_simp; done) | (go_simp; with_reducible rfl))
        simp only [Act.put, List.getElem_toArray, List.getElem_cons_zero, List.getElem_cons_succ, List.setIfInBounds_toArray, List.set_cons_zero, List.set_cons_succ]
        refine wpAnyH_take (i := 1) (v := ?v2) rfl (by kernel_rfl) (by kernel_rfl) (by kernel_rfl) (fun _ _ _ h => h) (Or.inl ⟨by rfl, ?hy2⟩) hHeld ?rest2
        case hy2 => (intro w' hSw; (try dsimp only at hSw); first | (go_simp; done) | (go_simp; with_reducible rfl))
        simp only [Act.put, List.getElem_toArray, List.getElem_cons_zero, List.getElem_cons_succ, List.setIfInBounds_toArray, List.set_cons_zero, List.set_cons_succ]
        refine wpAnyH_take (i := 2) (v := ?v3) rfl (by kernel_rfl) (by kernel_rfl) (by kernel_rfl) (fun _ _ _ h => h) (Or.inl ⟨by rfl, ?hy3⟩) hHeld ?rest3
        case hy3 => (intro w' hSw; (try dsimp only at hSw); first | (go_simp; done) | (go_simp; with_reducible rfl))
        simp only [Act.put, List.getElem_toArray, List.getElem_cons_zero, List.getElem_cons_succ, List.setIfInBounds_toArray, List.set_cons_zero, List.set_cons_succ]
        refine wpAnyH_take (i := 3) (v := ?v4) rfl (by kernel_rfl) (by kernel_rfl) (by kernel_rfl) (fun _ _ _ h => h) (Or.inl ⟨by rfl, ?hy4⟩) hHeld ?rest4
        case hy4 => (intro w' hSw; (try dsimp only at hSw); first | (go_simp; done) | (go_simp; with_reducible rfl))
        simp only [Act.put, List.getElem_toArray, List.getElem_cons_zero, List.getElem_cons_succ, List.setIfInBounds_toArray, List.set_cons_zero, List.set_cons_succ]
        refine wpAnyH_take (i := 4) (v := ?v5) rfl (by kernel_rfl) (by kernel_rfl) (by kernel_rfl) (fun _ _ _ h => h) (Or.inl ⟨by rfl, ?hy5⟩) hHeld ?rest5
        case hy5 => (intro w' hSw; (try dsimp only at hSw); first | (go_simp; done) | (go_simp; with_reducible rfl))
        simp only [Act.put, List.getElem_toArray, List.getElem_cons_zero, List.getElem_cons_succ, List.setIfInBounds_toArray, List.set_cons_zero, List.set_cons_succ]
        refine wpAnyH_take (i := 5) (v := ?v6) rfl (by kernel_rfl) (by kernel_rfl) (by kernel_rfl) (fun _ _ _ h => h) (Or.inl ⟨by rfl, ?hy6⟩) hHeld ?rest6
        case hy6 => (intro w' hSw; (try dsimp only at hSw); first | (go_simp; done) | (go_simp; with_reducible rfl))
        simp only [Act.put, List.getElem_toArray, List.getElem_cons_zero, List.getElem_cons_succ, List.setIfInBounds_toArray, List.set_cons_zero, List.set_cons_succ]
        refine wpAnyH_take (i := 6) (v := ?v7) rfl (by kernel_rfl) (by kernel_rfl) (by kernel_rfl) (fun _ _ _ h => h) (Or.inl ⟨by rfl, ?hy7⟩) hHeld ?rest7
        case hy7 => (intro w' hSw; (try dsimp only at hSw); first | (go_simp; done) | (go_simp; with_reducible rfl))
        simp only [Act.put, List.getElem_toArray, List.getElem_cons_zero, List.getElem_cons_succ, List.setIfInBounds_toArray, List.set_cons_zero, List.set_cons_succ]
        refine wpAnyH_ready (rs := [7]) (by kernel_rfl) (by simp) ?_
        refine AllReadyH.cons rfl (fun K hK => ?_) AllReadyH.nil
        go_simp
        refine HC.out.mono ?_
        rintro e w9 ⟨rfl, hb9⟩
        rw [HK.out]
        go_wp2_with fail
        refine hK.out _ _ ⟨below_keep hb9 _ _ hHeld.1, below_keep hb9 _ _ hHeld.2.1, below_keep hb9 _ _ hHeld.2.2.1, below_keep hb9 _ _ hHeld.2.2.2.1, below_keep hb9 _ _ hHeld.2.2.2.2.1, below_keep hb9 _ _ hHeld.2.2.2.2.2.1, below_keep hb9 _ _ hHeld.2.2.2.2.2.2.1, below_keep hb9 _ _ hHeld.2.2.2.2.2.2.2.1, below_keep hb9 _ _ hHeld.2.2.2.2.2.2.2.2⟩ (fun hHeld => ?_)
        clear hK K
        (try simp only [Act.put, List.getElem_toArray, List.getElem_cons_zero, List.getElem_cons_succ, List.setIfInBounds_toArray, List.set_cons_zero, List.set_cons_succ])
        refine wpAnyH_take (i := 8) (v := ?v8) rfl (by kernel_rfl) (by kernel_rfl) (by kernel_rfl) (fun _ _ _ h => h) (Or.inl ⟨by rfl, ?hy8⟩) hHeld ?rest8
        case hy8 => (intro w' hSw; (try dsimp only at hSw); first | (go_simp; done) | (go_simp; with_reducible rfl))
        simp only [Act.put, List.getElem_toArray, List.getElem_cons_zero, List.getElem_cons_succ, List.setIfInBounds_toArray, List.set_cons_zero, List.set_cons_succ]
        refine wpAnyH_take (i := 9) (v := ?v9) rfl (by kernel_rfl) (by kernel_rfl) (by kernel_rfl) (fun _ _ _ h => h) (Or.inl ⟨by rfl, ?hy9⟩) hHeld ?rest9
        case hy9 => (intro w' hSw; (try dsimp only at hSw); first | (go_simp; done) | (go_simp; with_reducible rfl))
        simp only [Act.put, List.getElem_toArray, List.getElem_cons_zero, List.getElem_cons_succ, List.setIfInBounds_toArray, List.set_cons_zero, List.set_cons_succ]
        refine wpAnyH_take (i := 10) (v := undef) rfl (by kernel_rfl) (by kernel_rfl) (by kernel_rfl) (fun _ _ _ h => h) (Or.inr ⟨by rfl, rfl⟩) hHeld ?_
        simp only [Act.put, List.getElem_toArray, List.getElem_cons_zero, List.getElem_cons_succ, List.setIfInBounds_toArray, List.set_cons_zero, List.set_cons_succ]
        refine wpAnyH_take (i := 11) (v := undef) rfl (by kernel_rfl) (by kernel_rfl) (by kernel_rfl) (fun _ _ _ h => h) (Or.inr ⟨by rfl, rfl⟩) hHeld ?_
        simp only [Act.put, List.getElem_toArray, List.getElem_cons_zero, List.getElem_cons_succ, List.setIfInBounds_toArray, List.set_cons_zero, List.set_cons_succ]
        refine wpAnyH_take (i := 12) (v := undef) rfl (by kernel_rfl) (by kernel_rfl) (by kernel_rfl) (fun _ _ _ h => h) (Or.inr ⟨by rfl, rfl⟩) hHeld ?_
        simp only [Act.put, List.getElem_toArray, List.getElem_cons_zero, List.getElem_cons_succ, List.setIfInBounds_toArray, List.set_cons_zero, List.set_cons_succ]
        refine wpAnyH_take (i := 13) (v := undef) rfl (by kernel_rfl) (by kernel_rfl) (by kernel_rfl) (fun _ _ _ h => h) (Or.inr ⟨by rfl, rfl⟩) hHeld ?_
        simp only [Act.put, List.getElem_toArray, List.getElem_cons_zero, List.getElem_cons_succ, List.setIfInBounds_toArray, List.set_cons_zero, List.set_cons_succ]
        refine wpAnyH_take (i := 14) (v := undef) rfl (by kernel_rfl) (by kernel_rfl) (by kernel_rfl) (fun _ _ _ h => h) (Or.inr ⟨by rfl, rfl⟩) hHeld ?_
        simp only [Act.put, List.getElem_toArray, List.getElem_cons_zero, List.getElem_cons_succ, List.setIfInBounds_toArray, List.set_cons_zero, List.set_cons_succ]
        refine wpAnyH_take (i := 15) (v := undef) rfl (by kernel_rfl) (by kernel_rfl) (by kernel_rfl) (fun _ _ _ h => h) (Or.inr ⟨by rfl, rfl⟩) hHeld ?_
        simp only [Act.put, List.getElem_toArray, List.getElem_cons_zero, List.getElem_cons_succ, List.setIfInBounds_toArray, List.set_cons_zero, List.set_cons_succ]
        refine wpAnyH_take (i := 16) (v := undef) rfl (by kernel_rfl) (by kernel_rfl) (by kernel_rfl) (fun _ _ _ h => h) (Or.inr ⟨by rfl, rfl⟩) hHeld ?_
        simp only [Act.put, List.getElem_toArray, List.getElem_cons_zero, List.getElem_cons_succ, List.setIfInBounds_toArray, List.set_cons_zero, List.set_cons_succ]
        refine wpAnyH_take (i := 17) (v := ?v10) rfl (by kernel_rfl) (by kernel_rfl) (by kernel_rfl) (fun _ _ _ h => h) (Or.inl ⟨by rfl, ?hy10⟩) hHeld ?rest10
        case hy10 => (intro w' hSw; (try dsimp only at hSw); first | (go_simp; done) | (go_simp; with_reducible rfl))
        simp only [Act.put, List.getElem_toArray, List.getElem_cons_zero, List.getElem_cons_succ, List.setIfInBounds_toArray, List.set_cons_zero, List.set_cons_succ]
        refine wpAnyH_done (by kernel_rfl) ?_ _
        refine NoPanic.normal ?_
        clear hHeld
        go_wp2_with fail
        go_ret
        exact ⟨retB HF.out.symm, hbt.trans ((hbk.trans (hb9.mono hbk.size)).mono hbt.size)⟩
      · have HK := Lib.hid hf
        cases hid : (x.rows[k].id == 0)
        · have HF := Lib.hid (hno (by unfold rowS; rw [hid]; rfl))
          clear hst hno hf
          go_wp2_with fail
          first
          | (go_region_held3 (fun w' => w'.cell? ⟨w.heap.size, 2, none⟩ = some (.slice (some ⟨bl, ol, none⟩) x.rows.length cR) ∧ w'.cell? ⟨gt, 0, none⟩ = some (.string s[m].name) ∧ w'.cell? ⟨gt, 1, none⟩ = some (.slice A1 s[m].cols.length d1) ∧ w'.cell? ⟨gt, 2, none⟩ = some (.slice A2 n2 d2) ∧ w'.cell? ⟨gt, 3, none⟩ = some (.slice A3 n3 d3) ∧ w'.cell? ⟨gt, 4, none⟩ = some (.slice A4 n4 d4) ∧ w'.cell? ⟨gt, 5, none⟩ = some (.slice A5 n5 d5) ∧ w'.cell? ⟨bl, ol + k * 2, none⟩ = some (.int .i64 x.rows[k].id) ∧ w'.cell? ⟨bl, ol + k * 2 + 1, none⟩ = some (.slice B1 x.rows[k].vals.length e1))
              (first | go_keep | exact ⟨below_keep hb9 _ _ b2, below_keep hb9 _ _ t0, below_keep hb9 _ _ t1, below_keep hb9 _ _ t2, below_keep hb9 _ _ t3, below_keep hb9 _ _ t4, below_keep hb9 _ _ t5, below_keep hb9 _ _ z0', below_keep hb9 _ _ z1'⟩)
              (first | (go_at_call 72; refine HC.out.mono ?_; rintro e w9 ⟨rfl, hb9⟩; rw [HK.out])))
          | fail
          go_wp2_with fail
          go_ret
          exact ⟨retB HF.out.symm, hbt.trans ((hbk.trans (hb9.mono hbk.size)).mono hbt.size)⟩
        · have HA := Lib.hid (show (x.rows.take (k + 1)).all (rowS s[m].cols) = true by rw [hst]; unfold rowS; rw [hid, hf]; rfl)
          clear hst hno hf
          go_wp2_with fail
          first
          | (go_region_held3 (fun w' => w'.cell? ⟨w.heap.size, 2, none⟩ = some (.slice (some ⟨bl, ol, none⟩) x.rows.length cR) ∧ w'.cell? ⟨gt, 0, none⟩ = some (.string s[m].name) ∧ w'.cell? ⟨gt, 1, none⟩ = some (.slice A1 s[m].cols.length d1) ∧ w'.cell? ⟨gt, 2, none⟩ = some (.slice A2 n2 d2) ∧ w'.cell? ⟨gt, 3, none⟩ = some (.slice A3 n3 d3) ∧ w'.cell? ⟨gt, 4, none⟩ = some (.slice A4 n4 d4) ∧ w'.cell? ⟨gt, 5, none⟩ = some (.slice A5 n5 d5) ∧ w'.cell? ⟨bl, ol + k * 2, none⟩ = some (.int .i64 x.rows[k].id) ∧ w'.cell? ⟨bl, ol + k * 2 + 1, none⟩ = some (.slice B1 x.rows[k].vals.length e1))
              (first | go_keep | exact ⟨below_keep hb9 _ _ b2, below_keep hb9 _ _ t0, below_keep hb9 _ _ t1, below_keep hb9 _ _ t2, below_keep hb9 _ _ t3, below_keep hb9 _ _ t4, below_keep hb9 _ _ t5, below_keep hb9 _ _ z0', below_keep hb9 _ _ z1'⟩)
              (first | (go_at_call 72; refine HC.out.mono ?_; rintro e w9 ⟨rfl, hb9⟩; rw [HK.out])))
          | fail
          go_wp2_with fail
          go_roundw
          case rel => exact ⟨k + 1, by omega, by go_num, HA, (HRX.out.drew).below hb9, (HRT.out.drew).below hb9, hbk.trans (hb9.mono hbk.size)⟩
          case measure => simp [intOf]; omega
    · obtain rfl : k = x.rows.length := by omega
      have ha := hall.out
      rw [List.take_of_length_le (Nat.le_refl _)] at ha
      have HT2 := Lib.hid (show stmtB s x = (setsB s[m].cols.length x.sets && finB s[m] x) by rw [HT.out, ha]; rfl)
      clear hall ha
      have i3 : IntKind.i64.wrap ((s[m].cols.length : Int) - 1) = (s[m].cols.length : Int) - 1 := IntWalk.i64_in _ (by omega)
      have hbA := hb
      clear hb
      go_wp2_with fail
      go_loopw [9] (fun i wq => ∃ k : Nat, k ≤ x.sets.length ∧ i = .int .i64 k ∧ Hid ((x.sets.take k).all (setE s[m].cols.length) = true) ∧ Hid (colsGo s[m].cols.length [] (x.sets.map Se.col) = colsGo s[m].cols.length ((x.sets.map Se.col).take k) ((x.sets.map Se.col).drop k)) ∧ Row wq w.heap.size 37 #[.int .i64 x.kind, .string x.table, .slice AR x.rows.length cR, .slice AW x.wher.length cW, .slice AE x.sets.length cE, .int .i64 x.policy] ∧ Row wq gt 74 #[.string s[m].name, .slice A1 s[m].cols.length d1, .slice A2 n2 d2, .slice A3 n3 d3, .slice A4 n4 d4, .slice A5 n5 d5] ∧ Below z1.heap.size z1 wq) (fun i _ => x.sets.length - (intOf i).toNat)
      case atStart => exact ⟨0, by omega, rfl, Lib.hid (by simp), Lib.hid (by simp), HRX.out, HRT.out, hbA⟩
      case round =>
        clear hbA HRX HRT b0 b1 b2 b3 b4 b5 t0 t1 t2 t3 t4 t5
        obtain ⟨k, hk', rfl, hall, hgo, rx, rt, hb⟩ := hrel
        obtain ⟨⟨b0, b1, b2, b3, b4, b5⟩, -⟩ := rx.all6
        obtain ⟨⟨t0, t1, t2, t3, t4, t5⟩, -⟩ := rt.all6
        have HRX := Lib.hid rx
        have HRT := Lib.hid rt
        clear rx rt
        by_cases hlt : k < x.sets.length
        · obtain ⟨bl, ol, B1, k1, e1, -, rfl, z0', z1', hv, -⟩ := SeR.at_ (hez.below SeR.stays hb) hlt
          obtain rfl : x.sets[k].expr.length = k1 := hv.1
          have i0' : (0 : Int) ≤ k := by omega
          have i1' : (k : Int) < x.sets.length := by omega
          have hkL : k < (x.sets.map Se.col).length := by rw [List.length_map]; exact hlt
          have hst := all_take_succ (setE s[m].cols.length) x.sets k hlt
          rw [hall.out, Bool.true_and] at hst
          have hco := colsGo_at s[m].cols.length (x.sets.map Se.col) k hkL
          rw [List.getElem_map] at hco
          have hnoC : colsGo s[m].cols.length ((x.sets.map Se.col).take k) ((x.sets.map Se.col).drop k) = false → stmtB s x = false := fun hf => by rw [HT2.out, setsB_col (hgo.out.trans hf)]; rfl
          have hnoE : exprB x.sets[k].expr s[m].cols.length = false → stmtB s x = false := fun hf => by rw [HT2.out, setsB_no hlt hf]; rfl
          have HL2 := Lib.hid (exprB_l2n (ts := x.sets[k].expr) (n := s[m].cols.length) (by omega))
          cases hin : (decide (0 ≤ x.sets[k].col) && decide (x.sets[k].col ≤ (s[m].cols.length : Int) - 1))
          · have HI := Lib.hid hin
            have HF := Lib.hid (hnoC (by
              rw [hco, show (decide (0 ≤ x.sets[k].col) && decide (x.sets[k].col < (s[m].cols.length : Int))) = false by rw [← hin]; congr 1; rw [decide_eq_decide]; omega]
              simp))
            clear hst hco hnoC hnoE hin
            go_wp2_with fail
            refine (specInK HI.out _).mono ?_
            rintro e w4 ⟨rfl, rfl⟩
            go_wp2_with fail
            go_ret
            exact ⟨retB HF.out.symm, hbt.trans (hb.mono hbt.size)⟩
          · have HI := Lib.hid hin
            have HIn := Lib.hid (show (decide (0 ≤ x.sets[k].col) && decide (x.sets[k].col < (s[m].cols.length : Int))) = true by rw [← hin]; congr 1; rw [decide_eq_decide]; omega)
            have HC := Lib.hid (specL2Expr B1 x.sets[k].expr.length e1 x.sets[k].expr (s[m].cols.length : Int) wr (Sl.cellz (fun _ => rfl) hv) (by have := HEN.out _ (List.getElem_mem hlt); unfold maxLen; omega) (by omega) (by omega))
            clear hin
            cases he2 : l2B x.sets[k].expr s[m].cols.length
            · have HE := Lib.hid he2
              have HF := Lib.hid (hnoE (HL2.out.trans he2))
              clear hst hco hnoC hnoE he2
              go_wp2_with fail
              refine (specInK HI.out _).mono ?_
              rintro e w4 ⟨rfl, rfl⟩
              go_wp2_with fail
              refine HC.out.mono ?_
              rintro e w5 ⟨rfl, hb5⟩
              rw [HE.out]
              go_wp2_with fail
              go_ret
              exact ⟨retB HF.out.symm, hbt.trans ((hb.trans (hb5.mono hb.size)).mono hbt.size)⟩
            · have HE := Lib.hid he2
              have HA := Lib.hid (show (x.sets.take (k + 1)).all (setE s[m].cols.length) = true by rw [hst]; exact HL2.out.trans he2)
              have HCO := Lib.hid hco
              have HNC := Lib.hid hnoC
              clear hst hco hnoC hnoE he2
              go_wp2_with fail
              refine (specInK HI.out _).mono ?_
              rintro e w4 ⟨rfl, rfl⟩
              go_wp2_with fail
              refine HC.out.mono ?_
              rintro e w5 ⟨rfl, hb5⟩
              rw [HE.out]
              have hbq := hb.trans (hb5.mono hb.size)
              have HX5 := Lib.hid (HRX.out.below hb5)
              have HT5 := Lib.hid (HRT.out.below hb5)
              clear HRX HRT hb hb5 HC z0' z1' hv b0 b1 b2 b3 b4 b5 t0 t1 t2 t3 t4 t5
              go_wp2_with fail
              go_loopw [10] (fun i wp => ∃ j : Nat, j ≤ k ∧ i = .int .i64 j ∧ Hid (hasB ((x.sets.map Se.col).take j) x.sets[k].col = false) ∧ Row wp w.heap.size 37 #[.int .i64 x.kind, .string x.table, .slice AR x.rows.length cR, .slice AW x.wher.length cW, .slice (some ⟨bl, ol, none⟩) x.sets.length cE, .int .i64 x.policy] ∧ Row wp gt 74 #[.string s[m].name, .slice A1 s[m].cols.length d1, .slice A2 n2 d2, .slice A3 n3 d3, .slice A4 n4 d4, .slice A5 n5 d5] ∧ Below z1.heap.size z1 wp) (fun i _ => k - (intOf i).toNat)
              case atStart => exact ⟨0, by omega, rfl, Lib.hid rfl, HX5.out, HT5.out, hbq⟩
              case round =>
                clear hbq HX5 HT5
                obtain ⟨j, hj, rfl, hno, rx, rt, hb⟩ := hrel
                obtain ⟨⟨b0, b1, b2, b3, b4, b5⟩, -⟩ := rx.all6
                have HRX := Lib.hid rx
                have HRT := Lib.hid rt
                clear rx rt
                by_cases hjk : j < k
                · obtain ⟨bl, ol, B1, k1, e1, -, ea, y0, -⟩ := SeR.at_ (hez.below SeR.stays hb) (i := j) (by omega)
                  obtain ⟨bl', ol', B2, k2, e2', -, ea', y1, -⟩ := SeR.at_ (hez.below SeR.stays hb) hlt
                  cases ea
                  cases ea'
                  have j0 : (0 : Int) ≤ j := by omega
                  have j1 : (j : Int) < x.sets.length := by omega
                  have hct := contains_take (x.sets.map Se.col) x.sets[k].col j (by rw [List.length_map]; omega)
                  rw [hno.out, Bool.false_or, List.getElem_map] at hct
                  cases heq : (x.sets[j].col == x.sets[k].col)
                  · have HNO := Lib.hid (hct.trans heq)
                    clear hct
                    go_wp2_with fail
                    go_quiet (fail)
                    go_wp2_with fail
                    go_roundw
                    case rel => exact ⟨j + 1, by omega, by go_num, HNO, HRX.out.drewN _, HRT.out.drewN _, below_dN hb _⟩
                    case measure => simp [intOf]; omega
                  · have HF := Lib.hid (HNC.out (by
                      rw [HCO.out, show hasB ((x.sets.map Se.col).take k) x.sets[k].col = true by
                        have e : x.sets[j].col = x.sets[k].col := by simpa using heq
                        unfold hasB
                        rw [List.contains_iff_mem, ← e, List.mem_iff_getElem]
                        exact ⟨j, by rw [List.length_take, List.length_map]; omega, by simp⟩]
                      simp))
                    clear hct
                    go_wp2_with fail
                    go_quiet (fail)
                    go_wp2_with fail
                    go_ret
                    exact ⟨retB HF.out.symm, hbt.trans ((below_dN hb _).mono hbt.size)⟩
                · obtain rfl : j = k := by omega
                  have HG2 := Lib.hid (show colsGo s[m].cols.length [] (x.sets.map Se.col) = colsGo s[m].cols.length ((x.sets.map Se.col).take (j + 1)) ((x.sets.map Se.col).drop (j + 1)) by rw [hgo.out, HCO.out, HIn.out, hno.out]; simp)
                  go_wp2_with fail
                  go_roundw
                  case rel => exact ⟨j + 1, by omega, by go_num, HA, HG2, HRX.out, HRT.out, hb⟩
                  case measure => simp [intOf]; omega
        · obtain rfl : k = x.sets.length := by omega
          have ha := hall.out
          have hg := hgo.out
          rw [List.take_of_length_le (Nat.le_refl _)] at ha
          rw [List.drop_eq_nil_of_le (by rw [List.length_map]; exact Nat.le_refl _)] at hg
          have HT3 := Lib.hid (show stmtB s x = finB s[m] x by rw [HT2.out, show setsB s[m].cols.length x.sets = true by unfold setsB; rw [ha, hg]; rfl]; rfl)
          have hwq := hwz.below TkR.stays hb
          have HWE := Lib.hid (exprB_l2n (ts := x.wher) (n := s[m].cols.length) (by omega))
          clear hall hgo ha hg
          by_cases w0 : x.wher.length = 0
          case pos =>
            have w0' : ((x.wher.length : Int) == 0) = true := by rw [beq_iff_eq]; omega
            have hW : whereB s[m].cols x.wher = true := by unfold whereB; rw [decide_eq_true w0]; rfl
            by_cases k1 : x.kind = 1
            case pos =>
              have kk1 : (x.kind == 1) = true := by simpa using k1
              by_cases r8 : x.rows.length ≤ 8
              case neg =>
                have e8 : decide ((x.rows.length : Int) ≤ 8) = false := by rw [decide_eq_false_iff_not]; omega
                have HR := Lib.hid (show stmtB s x = false by rw [HT3.out]; unfold finB; rw [if_pos k1, decide_eq_false r8]; (try rfl))
                clear hW k1 r8 w0
                go_wp2_with fail
                go_ret
                exact ⟨retB HR.out.symm, hbt.trans (hb.mono hbt.size)⟩
              have e8 : decide ((x.rows.length : Int) ≤ 8) = true := by rw [decide_eq_true_iff]; omega
              have ew : IntKind.i64.wrap ((x.wher.length : Int) + x.sets.length) = (x.wher.length : Int) + x.sets.length := IntWalk.i64_in _ (by omega)
              by_cases s0 : x.wher.length + x.sets.length = 0
              case neg =>
                have es : ((x.wher.length : Int) + x.sets.length == 0) = false := by rw [beq_eq_false_iff_ne]; omega
                have s0' : ¬ (x.wher.length = 0 ∧ x.sets.length = 0) := by omega
                have HR := Lib.hid (show stmtB s x = false by rw [HT3.out]; unfold finB; rw [if_pos k1, decide_eq_true r8, decide_eq_false s0]; (try rfl))
                clear hW k1 r8 s0 w0
                go_wp2_with fail
                go_ret
                exact ⟨retB HR.out.symm, hbt.trans (hb.mono hbt.size)⟩
              case pos =>
                have es : ((x.wher.length : Int) + x.sets.length == 0) = true := by rw [beq_iff_eq]; omega
                have s1' : x.wher.length = 0 ∧ x.sets.length = 0 := by omega
                have HR := Lib.hid (show stmtB s x = true by rw [HT3.out]; unfold finB; rw [if_pos k1, decide_eq_true r8, decide_eq_true s0]; (try rfl))
                clear hW k1 r8 s0 w0
                go_wp2_with fail
                go_ret
                exact ⟨retB HR.out.symm, hbt.trans (hb.mono hbt.size)⟩
            have kk1 : (x.kind == 1) = false := by simpa using k1
            by_cases k2 : x.kind = 2
            case pos =>
              have kk2 : (x.kind == 2) = true := by simpa using k2
              by_cases r0 : x.rows.length = 0
              case neg =>
                have er : ((x.rows.length : Int) == 0) = false := by rw [beq_eq_false_iff_ne]; omega
                have HR := Lib.hid (show stmtB s x = false by rw [HT3.out]; unfold finB; rw [if_neg k1, if_pos k2, hW, decide_eq_false r0]; (try rfl))
                clear hW k1 k2 r0 w0
                go_wp2_with fail
                go_ret
                exact ⟨retB HR.out.symm, hbt.trans (hb.mono hbt.size)⟩
              case pos =>
                have er : ((x.rows.length : Int) == 0) = true := by rw [beq_iff_eq]; omega
                have HR := Lib.hid (show stmtB s x = true by rw [HT3.out]; unfold finB; rw [if_neg k1, if_pos k2, hW, decide_eq_true r0]; (try rfl))
                clear hW k1 k2 r0 w0
                go_wp2_with fail
                go_ret
                exact ⟨retB HR.out.symm, hbt.trans (hb.mono hbt.size)⟩
            have kk2 : (x.kind == 2) = false := by simpa using k2
            by_cases k3 : x.kind = 3
            case pos =>
              have kk3 : (x.kind == 3) = true := by simpa using k3
              have ew : IntKind.i64.wrap ((x.rows.length : Int) + x.sets.length) = (x.rows.length : Int) + x.sets.length := IntWalk.i64_in _ (by omega)
              by_cases s0 : x.rows.length + x.sets.length = 0
              case neg =>
                have es : ((x.rows.length : Int) + x.sets.length == 0) = false := by rw [beq_eq_false_iff_ne]; omega
                have s0' : ¬ (x.rows.length = 0 ∧ x.sets.length = 0) := by omega
                have HR := Lib.hid (show stmtB s x = false by rw [HT3.out]; unfold finB; rw [if_neg k1, if_neg k2, if_pos k3, hW, decide_eq_false s0]; (try rfl))
                clear hW k1 k2 k3 s0 w0
                go_wp2_with fail
                go_ret
                exact ⟨retB HR.out.symm, hbt.trans (hb.mono hbt.size)⟩
              case pos =>
                have es : ((x.rows.length : Int) + x.sets.length == 0) = true := by rw [beq_iff_eq]; omega
                have s1' : x.rows.length = 0 ∧ x.sets.length = 0 := by omega
                have HR := Lib.hid (show stmtB s x = true by rw [HT3.out]; unfold finB; rw [if_neg k1, if_neg k2, if_pos k3, hW, decide_eq_true s0]; (try rfl))
                clear hW k1 k2 k3 s0 w0
                go_wp2_with fail
                go_ret
                exact ⟨retB HR.out.symm, hbt.trans (hb.mono hbt.size)⟩
            case neg =>
              have kk3 : (x.kind == 3) = false := by simpa using k3
              have HR := Lib.hid (show stmtB s x = false by rw [HT3.out]; unfold finB; rw [if_neg k1, if_neg k2, if_neg k3]; (try rfl))
              clear hW k1 k2 k3 w0
              go_wp2_with fail
              go_ret
              exact ⟨retB HR.out.symm, hbt.trans (hb.mono hbt.size)⟩
          have w0' : ((x.wher.length : Int) == 0) = false := by rw [beq_eq_false_iff_ne]; omega
          cases hl : l2B x.wher s[m].cols.length
          · have HW2 := Lib.hid hl
            have hW : whereB s[m].cols x.wher = false := by unfold whereB; rw [decide_eq_false w0, HWE.out, hl]; rfl
            clear hl
            by_cases k1 : x.kind = 1
            case pos =>
              have kk1 : (x.kind == 1) = true := by simpa using k1
              by_cases r8 : x.rows.length ≤ 8
              case neg =>
                have e8 : decide ((x.rows.length : Int) ≤ 8) = false := by rw [decide_eq_false_iff_not]; omega
                have HR := Lib.hid (show stmtB s x = false by rw [HT3.out]; unfold finB; rw [if_pos k1, decide_eq_false r8]; (try rfl))
                clear hW k1 r8 w0
                go_wp2_with fail
                refine (specL2Expr AW x.wher.length cW x.wher (s[m].cols.length : Int) _ (Sl.cellz (fun _ => rfl) hwq) (by unfold maxLen; omega) (by omega) (by omega)).mono ?_
                rintro e w6 ⟨rfl, hb6⟩
                rw [HW2.out]
                obtain ⟨⟨g0, g1, g2, g3, g4, g5⟩, -⟩ := (HRX.out.below hb6).all6
                have hb := hb.trans (hb6.mono hb.size)
                clear hb6
                go_wp2_with fail
                go_ret
                exact ⟨retB HR.out.symm, hbt.trans (hb.mono hbt.size)⟩
              have e8 : decide ((x.rows.length : Int) ≤ 8) = true := by rw [decide_eq_true_iff]; omega
              have ew : IntKind.i64.wrap ((x.wher.length : Int) + x.sets.length) = (x.wher.length : Int) + x.sets.length := IntWalk.i64_in _ (by omega)
              by_cases s0 : x.wher.length + x.sets.length = 0
              case neg =>
                have es : ((x.wher.length : Int) + x.sets.length == 0) = false := by rw [beq_eq_false_iff_ne]; omega
                have s0' : ¬ (x.wher.length = 0 ∧ x.sets.length = 0) := by omega
                have HR := Lib.hid (show stmtB s x = false by rw [HT3.out]; unfold finB; rw [if_pos k1, decide_eq_true r8, decide_eq_false s0]; (try rfl))
                clear hW k1 r8 s0 w0
                go_wp2_with fail
                refine (specL2Expr AW x.wher.length cW x.wher (s[m].cols.length : Int) _ (Sl.cellz (fun _ => rfl) hwq) (by unfold maxLen; omega) (by omega) (by omega)).mono ?_
                rintro e w6 ⟨rfl, hb6⟩
                rw [HW2.out]
                obtain ⟨⟨g0, g1, g2, g3, g4, g5⟩, -⟩ := (HRX.out.below hb6).all6
                have hb := hb.trans (hb6.mono hb.size)
                clear hb6
                go_wp2_with fail
                go_ret
                exact ⟨retB HR.out.symm, hbt.trans (hb.mono hbt.size)⟩
              case pos =>
                exact absurd (by omega) w0
            have kk1 : (x.kind == 1) = false := by simpa using k1
            by_cases k2 : x.kind = 2
            case pos =>
              have kk2 : (x.kind == 2) = true := by simpa using k2
              by_cases r0 : x.rows.length = 0
              case neg =>
                have er : ((x.rows.length : Int) == 0) = false := by rw [beq_eq_false_iff_ne]; omega
                have HR := Lib.hid (show stmtB s x = false by rw [HT3.out]; unfold finB; rw [if_neg k1, if_pos k2, hW, decide_eq_false r0]; (try rfl))
                clear hW k1 k2 r0 w0
                go_wp2_with fail
                refine (specL2Expr AW x.wher.length cW x.wher (s[m].cols.length : Int) _ (Sl.cellz (fun _ => rfl) hwq) (by unfold maxLen; omega) (by omega) (by omega)).mono ?_
                rintro e w6 ⟨rfl, hb6⟩
                rw [HW2.out]
                obtain ⟨⟨g0, g1, g2, g3, g4, g5⟩, -⟩ := (HRX.out.below hb6).all6
                have hb := hb.trans (hb6.mono hb.size)
                clear hb6
                go_wp2_with fail
                go_ret
                exact ⟨retB HR.out.symm, hbt.trans (hb.mono hbt.size)⟩
              case pos =>
                have er : ((x.rows.length : Int) == 0) = true := by rw [beq_iff_eq]; omega
                have HR := Lib.hid (show stmtB s x = false by rw [HT3.out]; unfold finB; rw [if_neg k1, if_pos k2, hW, decide_eq_true r0]; (try rfl))
                clear hW k1 k2 r0 w0
                go_wp2_with fail
                refine (specL2Expr AW x.wher.length cW x.wher (s[m].cols.length : Int) _ (Sl.cellz (fun _ => rfl) hwq) (by unfold maxLen; omega) (by omega) (by omega)).mono ?_
                rintro e w6 ⟨rfl, hb6⟩
                rw [HW2.out]
                obtain ⟨⟨g0, g1, g2, g3, g4, g5⟩, -⟩ := (HRX.out.below hb6).all6
                have hb := hb.trans (hb6.mono hb.size)
                clear hb6
                go_wp2_with fail
                go_ret
                exact ⟨retB HR.out.symm, hbt.trans (hb.mono hbt.size)⟩
            have kk2 : (x.kind == 2) = false := by simpa using k2
            by_cases k3 : x.kind = 3
            case pos =>
              have kk3 : (x.kind == 3) = true := by simpa using k3
              have ew : IntKind.i64.wrap ((x.rows.length : Int) + x.sets.length) = (x.rows.length : Int) + x.sets.length := IntWalk.i64_in _ (by omega)
              by_cases s0 : x.rows.length + x.sets.length = 0
              case neg =>
                have es : ((x.rows.length : Int) + x.sets.length == 0) = false := by rw [beq_eq_false_iff_ne]; omega
                have s0' : ¬ (x.rows.length = 0 ∧ x.sets.length = 0) := by omega
                have HR := Lib.hid (show stmtB s x = false by rw [HT3.out]; unfold finB; rw [if_neg k1, if_neg k2, if_pos k3, hW, decide_eq_false s0]; (try rfl))
                clear hW k1 k2 k3 s0 w0
                go_wp2_with fail
                refine (specL2Expr AW x.wher.length cW x.wher (s[m].cols.length : Int) _ (Sl.cellz (fun _ => rfl) hwq) (by unfold maxLen; omega) (by omega) (by omega)).mono ?_
                rintro e w6 ⟨rfl, hb6⟩
                rw [HW2.out]
                obtain ⟨⟨g0, g1, g2, g3, g4, g5⟩, -⟩ := (HRX.out.below hb6).all6
                have hb := hb.trans (hb6.mono hb.size)
                clear hb6
                go_wp2_with fail
                go_ret
                exact ⟨retB HR.out.symm, hbt.trans (hb.mono hbt.size)⟩
              case pos =>
                have es : ((x.rows.length : Int) + x.sets.length == 0) = true := by rw [beq_iff_eq]; omega
                have s1' : x.rows.length = 0 ∧ x.sets.length = 0 := by omega
                have HR := Lib.hid (show stmtB s x = false by rw [HT3.out]; unfold finB; rw [if_neg k1, if_neg k2, if_pos k3, hW, decide_eq_true s0]; (try rfl))
                clear hW k1 k2 k3 s0 w0
                go_wp2_with fail
                refine (specL2Expr AW x.wher.length cW x.wher (s[m].cols.length : Int) _ (Sl.cellz (fun _ => rfl) hwq) (by unfold maxLen; omega) (by omega) (by omega)).mono ?_
                rintro e w6 ⟨rfl, hb6⟩
                rw [HW2.out]
                obtain ⟨⟨g0, g1, g2, g3, g4, g5⟩, -⟩ := (HRX.out.below hb6).all6
                have hb := hb.trans (hb6.mono hb.size)
                clear hb6
                go_wp2_with fail
                go_ret
                exact ⟨retB HR.out.symm, hbt.trans (hb.mono hbt.size)⟩
            case neg =>
              have kk3 : (x.kind == 3) = false := by simpa using k3
              have HR := Lib.hid (show stmtB s x = false by rw [HT3.out]; unfold finB; rw [if_neg k1, if_neg k2, if_neg k3]; (try rfl))
              clear hW k1 k2 k3 w0
              go_wp2_with fail
              refine (specL2Expr AW x.wher.length cW x.wher (s[m].cols.length : Int) _ (Sl.cellz (fun _ => rfl) hwq) (by unfold maxLen; omega) (by omega) (by omega)).mono ?_
              rintro e w6 ⟨rfl, hb6⟩
              rw [HW2.out]
              obtain ⟨⟨g0, g1, g2, g3, g4, g5⟩, -⟩ := (HRX.out.below hb6).all6
              have hb := hb.trans (hb6.mono hb.size)
              clear hb6
              go_wp2_with fail
              go_ret
              exact ⟨retB HR.out.symm, hbt.trans (hb.mono hbt.size)⟩
          · have HW2 := Lib.hid hl
            have hW : whereB s[m].cols x.wher = true := by unfold whereB; rw [decide_eq_false w0, HWE.out, hl]; rfl
            clear hl
            by_cases k1 : x.kind = 1
            case pos =>
              have kk1 : (x.kind == 1) = true := by simpa using k1
              by_cases r8 : x.rows.length ≤ 8
              case neg =>
                have e8 : decide ((x.rows.length : Int) ≤ 8) = false := by rw [decide_eq_false_iff_not]; omega
                have HR := Lib.hid (show stmtB s x = false by rw [HT3.out]; unfold finB; rw [if_pos k1, decide_eq_false r8]; (try rfl))
                clear hW k1 r8 w0
                go_wp2_with fail
                refine (specL2Expr AW x.wher.length cW x.wher (s[m].cols.length : Int) _ (Sl.cellz (fun _ => rfl) hwq) (by unfold maxLen; omega) (by omega) (by omega)).mono ?_
                rintro e w6 ⟨rfl, hb6⟩
                rw [HW2.out]
                obtain ⟨⟨g0, g1, g2, g3, g4, g5⟩, -⟩ := (HRX.out.below hb6).all6
                have hb := hb.trans (hb6.mono hb.size)
                clear hb6
                go_wp2_with fail
                go_ret
                exact ⟨retB HR.out.symm, hbt.trans (hb.mono hbt.size)⟩
              have e8 : decide ((x.rows.length : Int) ≤ 8) = true := by rw [decide_eq_true_iff]; omega
              have ew : IntKind.i64.wrap ((x.wher.length : Int) + x.sets.length) = (x.wher.length : Int) + x.sets.length := IntWalk.i64_in _ (by omega)
              by_cases s0 : x.wher.length + x.sets.length = 0
              case neg =>
                have es : ((x.wher.length : Int) + x.sets.length == 0) = false := by rw [beq_eq_false_iff_ne]; omega
                have s0' : ¬ (x.wher.length = 0 ∧ x.sets.length = 0) := by omega
                have HR := Lib.hid (show stmtB s x = false by rw [HT3.out]; unfold finB; rw [if_pos k1, decide_eq_true r8, decide_eq_false s0]; (try rfl))
                clear hW k1 r8 s0 w0
                go_wp2_with fail
                refine (specL2Expr AW x.wher.length cW x.wher (s[m].cols.length : Int) _ (Sl.cellz (fun _ => rfl) hwq) (by unfold maxLen; omega) (by omega) (by omega)).mono ?_
                rintro e w6 ⟨rfl, hb6⟩
                rw [HW2.out]
                obtain ⟨⟨g0, g1, g2, g3, g4, g5⟩, -⟩ := (HRX.out.below hb6).all6
                have hb := hb.trans (hb6.mono hb.size)
                clear hb6
                go_wp2_with fail
                go_ret
                exact ⟨retB HR.out.symm, hbt.trans (hb.mono hbt.size)⟩
              case pos =>
                exact absurd (by omega) w0
            have kk1 : (x.kind == 1) = false := by simpa using k1
            by_cases k2 : x.kind = 2
            case pos =>
              have kk2 : (x.kind == 2) = true := by simpa using k2
              by_cases r0 : x.rows.length = 0
              case neg =>
                have er : ((x.rows.length : Int) == 0) = false := by rw [beq_eq_false_iff_ne]; omega
                have HR := Lib.hid (show stmtB s x = false by rw [HT3.out]; unfold finB; rw [if_neg k1, if_pos k2, hW, decide_eq_false r0]; (try rfl))
                clear hW k1 k2 r0 w0
                go_wp2_with fail
                refine (specL2Expr AW x.wher.length cW x.wher (s[m].cols.length : Int) _ (Sl.cellz (fun _ => rfl) hwq) (by unfold maxLen; omega) (by omega) (by omega)).mono ?_
                rintro e w6 ⟨rfl, hb6⟩
                rw [HW2.out]
                obtain ⟨⟨g0, g1, g2, g3, g4, g5⟩, -⟩ := (HRX.out.below hb6).all6
                have hb := hb.trans (hb6.mono hb.size)
                clear hb6
                go_wp2_with fail
                go_ret
                exact ⟨retB HR.out.symm, hbt.trans (hb.mono hbt.size)⟩
              case pos =>
                have er : ((x.rows.length : Int) == 0) = true := by rw [beq_iff_eq]; omega
                have HR := Lib.hid (show stmtB s x = true by rw [HT3.out]; unfold finB; rw [if_neg k1, if_pos k2, hW, decide_eq_true r0]; (try rfl))
                clear hW k1 k2 r0 w0
                go_wp2_with fail
                refine (specL2Expr AW x.wher.length cW x.wher (s[m].cols.length : Int) _ (Sl.cellz (fun _ => rfl) hwq) (by unfold maxLen; omega) (by omega) (by omega)).mono ?_
                rintro e w6 ⟨rfl, hb6⟩
                rw [HW2.out]
                obtain ⟨⟨g0, g1, g2, g3, g4, g5⟩, -⟩ := (HRX.out.below hb6).all6
                have hb := hb.trans (hb6.mono hb.size)
                clear hb6
                go_wp2_with fail
                go_ret
                exact ⟨retB HR.out.symm, hbt.trans (hb.mono hbt.size)⟩
            have kk2 : (x.kind == 2) = false := by simpa using k2
            by_cases k3 : x.kind = 3
            case pos =>
              have kk3 : (x.kind == 3) = true := by simpa using k3
              have ew : IntKind.i64.wrap ((x.rows.length : Int) + x.sets.length) = (x.rows.length : Int) + x.sets.length := IntWalk.i64_in _ (by omega)
              by_cases s0 : x.rows.length + x.sets.length = 0
              case neg =>
                have es : ((x.rows.length : Int) + x.sets.length == 0) = false := by rw [beq_eq_false_iff_ne]; omega
                have s0' : ¬ (x.rows.length = 0 ∧ x.sets.length = 0) := by omega
                have HR := Lib.hid (show stmtB s x = false by rw [HT3.out]; unfold finB; rw [if_neg k1, if_neg k2, if_pos k3, hW, decide_eq_false s0]; (try rfl))
                clear hW k1 k2 k3 s0 w0
                go_wp2_with fail
                refine (specL2Expr AW x.wher.length cW x.wher (s[m].cols.length : Int) _ (Sl.cellz (fun _ => rfl) hwq) (by unfold maxLen; omega) (by omega) (by omega)).mono ?_
                rintro e w6 ⟨rfl, hb6⟩
                rw [HW2.out]
                obtain ⟨⟨g0, g1, g2, g3, g4, g5⟩, -⟩ := (HRX.out.below hb6).all6
                have hb := hb.trans (hb6.mono hb.size)
                clear hb6
                go_wp2_with fail
                go_ret
                exact ⟨retB HR.out.symm, hbt.trans (hb.mono hbt.size)⟩
              case pos =>
                have es : ((x.rows.length : Int) + x.sets.length == 0) = true := by rw [beq_iff_eq]; omega
                have s1' : x.rows.length = 0 ∧ x.sets.length = 0 := by omega
                have HR := Lib.hid (show stmtB s x = true by rw [HT3.out]; unfold finB; rw [if_neg k1, if_neg k2, if_pos k3, hW, decide_eq_true s0]; (try rfl))
                clear hW k1 k2 k3 s0 w0
                go_wp2_with fail
                refine (specL2Expr AW x.wher.length cW x.wher (s[m].cols.length : Int) _ (Sl.cellz (fun _ => rfl) hwq) (by unfold maxLen; omega) (by omega) (by omega)).mono ?_
                rintro e w6 ⟨rfl, hb6⟩
                rw [HW2.out]
                obtain ⟨⟨g0, g1, g2, g3, g4, g5⟩, -⟩ := (HRX.out.below hb6).all6
                have hb := hb.trans (hb6.mono hb.size)
                clear hb6
                go_wp2_with fail
                go_ret
                exact ⟨retB HR.out.symm, hbt.trans (hb.mono hbt.size)⟩
            case neg =>
              have kk3 : (x.kind == 3) = false := by simpa using k3
              have HR := Lib.hid (show stmtB s x = false by rw [HT3.out]; unfold finB; rw [if_neg k1, if_neg k2, if_neg k3]; (try rfl))
              clear hW k1 k2 k3 w0
              go_wp2_with fail
              refine (specL2Expr AW x.wher.length cW x.wher (s[m].cols.length : Int) _ (Sl.cellz (fun _ => rfl) hwq) (by unfold maxLen; omega) (by omega) (by omega)).mono ?_
              rintro e w6 ⟨rfl, hb6⟩
              rw [HW2.out]
              obtain ⟨⟨g0, g1, g2, g3, g4, g5⟩, -⟩ := (HRX.out.below hb6).all6
              have hb := hb.trans (hb6.mono hb.size)
              clear hb6
              go_wp2_with fail
              go_ret
              exact ⟨retB HR.out.symm, hbt.trans (hb.mono hbt.size)⟩
end Go.Proofs.YtfhiknndflahgaaGreat
namespace Go.Proofs.YtfhiknndflahgaaGreat
open Go.RowKit Go.Maps
set_option linter.unusedVariables false
set_option linter.unusedSimpArgs false

set_option maxRecDepth 100000 in
set_option maxHeartbeats 2000000 in
theorem specStmtOk (AS AR AW AE : Option Addr) (nS cS nR cR nW cW nE cE : Nat) (s : List Tb) (x : Sq) (ok okr okw oke : Nat → Prop) (w : World)
    (hs : Sl TbR 6 ok w AS nS s) (hr : Sl RwR 2 okr w AR nR x.rows) (hw : Sl TkR 5 okw w AW nW x.wher) (he : Sl SeR 2 oke w AE nE x.sets) (hcp : nS ≤ cS) (hsz : szL Tb.sz s ≤ 1048576) (hx : x.sz ≤ 1048576) :
    Calls Tryz.prog 7 #[.slice AS nS cS, .agg #[.int .i64 x.kind, .string x.table, .slice AR nR cR, .slice AW nW cW, .slice AE nE cE, .int .i64 x.policy]] w fun e w' => e = .returned (.bool (stmtB s x)) ∧ Below w.heap.size w w' := by
  have HSZ := Lib.hid hsz
  have HX := Lib.hid hx
  have HCP := Lib.hid hcp
  clear hsz hx hcp
  have hb0 := (Below.refl w.heap.size w).alloc (Nat.le_refl _) (.cells #[.int .i64 x.kind, .string x.table, .slice AR nR cR, .slice AW nW cW, .slice AE nE cE, .int .i64 x.policy] 37)
  have RB := Lib.hid (Row.new w 37 #[.int .i64 x.kind, .string x.table, .slice AR nR cR, .slice AW nW cW, .slice AE nE cE, .int .i64 x.policy])
  cases hB : schemaB s
  · have HB := Lib.hid hB
    have HR := Lib.hid (show stmtB s x = false by unfold stmtB; rw [hB]; rfl)
    clear hB
    go_enter Tryz.func7, Tryz.ntmps7
    go_wp2_with fail
    generalize w.alloc (.cells #[.int .i64 x.kind, .string x.table, .slice AR nR cR, .slice AW nW cW, .slice AE nE cE, .int .i64 x.policy] 37) = z0 at *
    refine (specSchemaOk AS nS cS s _ _ (hs.below TbR.stays hb0) HCP.out HSZ.out).mono ?_
    rintro e w1 ⟨rfl, hb1⟩
    rw [HB.out]
    go_wp2_with fail
    go_ret
    exact ⟨retB HR.out.symm, hb0.trans (hb1.mono hb0.size)⟩
  · have HB := Lib.hid hB
    clear hB
    go_enter Tryz.func7, Tryz.ntmps7
    go_wp2_with fail
    generalize w.alloc (.cells #[.int .i64 x.kind, .string x.table, .slice AR nR cR, .slice AW nW cW, .slice AE nE cE, .int .i64 x.policy] 37) = z0 at *
    refine (specSchemaOk AS nS cS s _ _ (hs.below TbR.stays hb0) HCP.out HSZ.out).mono ?_
    rintro e w1 ⟨rfl, hb1⟩
    rw [HB.out]
    have hbz := hb0.trans (hb1.mono hb0.size)
    obtain ⟨⟨b0, b1, b2, b3, b4, b5⟩, -⟩ := (RB.out.below hb1).all6
    go_wp2_with fail
    refine (specL7Stmt AS AR AW AE nS cS nR cR nW cW nE cE s x _ _ _ _ _ (hs.below TbR.stays hbz) (hr.below RwR.stays hbz) (hw.below TkR.stays hbz) (he.below SeR.stays hbz) HSZ.out HX.out HB.out).mono ?_
    rintro e w2 ⟨rfl, hb2⟩
    go_wp2_with fail
    go_ret
    exact ⟨rfl, hbz.trans (hb2.mono hbz.size)⟩
end Go.Proofs.YtfhiknndflahgaaGreat
