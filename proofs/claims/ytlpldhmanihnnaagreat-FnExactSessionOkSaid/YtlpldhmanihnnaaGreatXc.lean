/-
  Several texts in one: what the proof leans on, part 3.
-/
import Derived.Test.YtlpldhmanihnnaaGreatXb
import Derived.Test.YtlpldhmanihnnaaGreatXa
import Derived.Maps.AppendAt
import Derived.OwnWalk
import Derived.Deep.RegionLaw
import Derived.Deep.AppendLies
set_option linter.unusedVariables false
set_option linter.unusedSimpArgs false
namespace Go.Proofs.YtlpldhmanihnnaaGreat
open Go.RowKit Go.Maps
set_option maxRecDepth 100000 in
set_option maxHeartbeats 1000000 in
theorem implFitsAt (g o : Nat) (A1 AR : Option Addr) (n1 c1 nR cR : Nat) (cols : List Cl) (row : List Vl) (ok : Nat -> Prop) (w : World)
    (x1 : w.cell? ⟨g, o + 1, none⟩ = some (.slice A1 n1 c1)) (h : Sl ClR 6 ok w A1 n1 cols) (hv : Vals w AR nR row) (hn1 : n1 <= 1048576) (hn2 : nR <= 1048576) :
    Calls Tryz.prog 186 #[.pointer (some ⟨g, o, none⟩), .slice AR nR cR] w fun e w' => e = .returned (.bool (kindsB cols row)) /\ Below w.heap.size w w' := by
  obtain rfl : cols.length = n1 := h.1
  obtain rfl : row.length = nR := hv.len
  cases hl : (row.length == cols.length)
  · have hl' : ¬ ((row.length : Int) = cols.length) := by have := beq_eq_false_iff_ne.1 hl; omega
    have HF := Lib.hid (show kindsB cols row = false by unfold kindsB; rw [decide_eq_false (beq_eq_false_iff_ne.1 hl)]; rfl)
    clear hl
    go_enter Tryz.func186, Tryz.ntmps186
    go_wp2
    go_ret
    exact ⟨retB HF.out.symm, Below.refl _ _⟩
  have hlen : row.length = cols.length := by simpa using hl
  have hl' : (row.length : Int) = cols.length := by omega
  have hz : (cols.zip row).length = cols.length := by simp [hlen]
  have HZ := Lib.hid hz
  have HL := Lib.hid hlen
  have HE := Lib.hid (show kindsB cols row = fitAll cols row by unfold kindsB; rw [decide_eq_true hlen]; rfl)
  clear hl hz hlen
  go_enter Tryz.func186, Tryz.ntmps186
  go_wp2
  go_loopw [17] (fun i wr => ∃ k : Nat, k <= cols.length /\ i = .int .i64 k /\ Hid (((cols.zip row).take k).all fitV = true) /\ Below w.heap.size w wr) (fun i _ => cols.length - (intOf i).toNat)
  case atStart => exact ⟨0, by omega, rfl, Lib.hid (by simp), Below.refl _ _⟩
  case round =>
    obtain ⟨k, hk, rfl, hall, hb⟩ := hrel
    by_cases hlt : k < cols.length
    · have hlt2 : k < row.length := by have := HL.out; omega
      have hbx := (Below.refl wr.heap.size wr).alloc (Nat.le_refl _) (.cells #[.int .i64 row[k].k, .int .i64 row[k].n, .string row[k].s] 179)
      have hba := hb.trans (hbx.mono hb.size)
      have rv := Row.new wr 179 #[.int .i64 row[k].k, .int .i64 row[k].n, .string row[k].s]
      obtain ⟨b2, off2, rfl, p0, p1, p2⟩ := (hv.below hb).at_ hlt2
      obtain ⟨b, off, -, rfl, q0, q1, q2, q3, q4, q5⟩ := ClR.at_ (h.below ClR.stays hba) hlt
      have d1 := (hba.cell (cell_lt x1)).trans x1
      obtain ⟨⟨f0, f1, f2⟩, -⟩ := rv.three
      have hsn := all_take fitV (cols.zip row) k (by rw [HZ.out]; exact hlt)
      have hno := fun hf => all_no fitV (cols.zip row) k (by rw [HZ.out]; exact hlt) hf
      have eg : fitV ((cols.zip row)[k]'(by rw [HZ.out]; exact hlt)) = fitsB cols[k].kind row[k] := by rw [List.getElem_zip]; rfl
      rw [hall.out, Bool.true_and, eg] at hsn
      rw [eg] at hno
      have i0 : (0 : Int) <= k := by omega
      have i1 : (k : Int) < cols.length := by omega
      have i2 : (k : Int) < row.length := by have := HL.out; omega
      clear eg
      cases hc : fitsB cols[k].kind row[k]
      · have HC := Lib.hid hc
        have HF := Lib.hid (show kindsB cols row = false by rw [HE.out]; exact hno hc)
        clear hsn hno hc hall
        go_wp2_with fail
        go_region_held3 (fun w' => w'.cell? ⟨g, o + 1, none⟩ = some (.slice (some ⟨b, off, none⟩) cols.length c1) /\ w'.cell? ⟨b, off + k * 6 + 1, none⟩ = some (.int .i64 cols[k].kind) /\ w'.cell? ⟨wr.heap.size, 0, none⟩ = some (.int .i64 row[k].k) /\ w'.cell? ⟨wr.heap.size, 1, none⟩ = some (.int .i64 row[k].n) /\ w'.cell? ⟨wr.heap.size, 2, none⟩ = some (.string row[k].s))
          (first | go_keep | exact keepF (by assumption) hb1)
          (first | (go_at_call 230; refine (implValFits cols[k].kind row[k] _).mono ?_; rintro e w1 ⟨rfl, hb1⟩; rw [HC.out]))
        all_goals
          go_wp2
          go_ret
          exact ⟨retB HF.out.symm, hba.drew.trans (hb1.mono hba.size)⟩
      · have HC := Lib.hid hc
        have HA := Lib.hid (hsn.trans hc)
        clear hsn hno hc hall
        go_wp2_with fail
        go_region_held3 (fun w' => w'.cell? ⟨g, o + 1, none⟩ = some (.slice (some ⟨b, off, none⟩) cols.length c1) /\ w'.cell? ⟨b, off + k * 6 + 1, none⟩ = some (.int .i64 cols[k].kind) /\ w'.cell? ⟨wr.heap.size, 0, none⟩ = some (.int .i64 row[k].k) /\ w'.cell? ⟨wr.heap.size, 1, none⟩ = some (.int .i64 row[k].n) /\ w'.cell? ⟨wr.heap.size, 2, none⟩ = some (.string row[k].s))
          (first | go_keep | exact keepF (by assumption) hb1)
          (first | (go_at_call 230; refine (implValFits cols[k].kind row[k] _).mono ?_; rintro e w1 ⟨rfl, hb1⟩; rw [HC.out]))
        all_goals
          go_wp2
          go_roundw
          case rel => exact ⟨k + 1, by omega, by go_num, Lib.hid HA.out, hba.drew.trans (hb1.mono hba.size)⟩
          case measure => simp [intOf]; omega
    · have e : (cols.zip row).take k = cols.zip row := List.take_of_length_le (by rw [HZ.out]; omega)
      have h1 := hall.out
      rw [e] at h1
      have HF := Lib.hid (show kindsB cols row = true by rw [HE.out]; exact h1)
      clear e h1 hall
      go_wp2
      go_ret
      exact ⟨retB HF.out.symm, hb⟩
def idsGo (cols : List Cl) : Int -> List Rw -> Bool
  | _, [] => true
  | last, r :: rs => decide (last < r.id) && (decide (r.id <= 1000000000) && (kindsB cols r.vals && idsGo cols r.id rs))
def dataB (cols : List Cl) (l : List Rw) : Bool := decide (l.length <= 60) && idsGo cols 0 l
def dbV (p : Tb × Dt) : Bool := dataB p.1.cols p.2.rows
def dbB (s : List Tb) (db : List Dt) : Bool := schemaB s && (decide (db.length = s.length) && (s.zip db).all dbV)
theorem idsGo_at (cols : List Cl) (last : Int) (l : List Rw) (k : Nat) (h : k < l.length) : idsGo cols last (l.drop k) = (decide (last < l[k].id) && (decide (l[k].id <= 1000000000) && (kindsB cols l[k].vals && idsGo cols l[k].id (l.drop (k + 1))))) := by
  rw [List.drop_eq_getElem_cons h]; rfl
set_option maxRecDepth 100000 in
set_option maxHeartbeats 1000000 in
theorem implDataOk (g o gd od : Nat) (A1 AL : Option Addr) (n1 c1 nL cL : Nat) (cols : List Cl) (l : List Rw) (ok : Nat -> Prop) (w : World)
    (x1 : w.cell? ⟨g, o + 1, none⟩ = some (.slice A1 n1 c1)) (y0 : w.cell? ⟨gd, od, none⟩ = some (.slice AL nL cL)) (h : Sl ClR 6 ok w A1 n1 cols) (hl : Sl RwR 2 ok w AL nL l) (hn1 : n1 <= 1048576) (hvs : ∀ r ∈ l, r.vals.length <= 1048576) (hnL : nL <= 1048576) :
    Calls Tryz.prog 127 #[.pointer (some ⟨g, o, none⟩), .pointer (some ⟨gd, od, none⟩)] w fun e w' => e = .returned (.bool (dataB cols l)) /\ Below w.heap.size w w' := by
  obtain rfl : l.length = nL := hl.1
  have HVS := Lib.hid hvs
  clear hvs
  by_cases hbig : 60 < (l.length : Int)
  · have HF := Lib.hid (show dataB cols l = false by unfold dataB; rw [decide_eq_false (by omega)]; rfl)
    go_enter Tryz.func127, Tryz.ntmps127
    go_wp2
    go_ret
    exact ⟨retB HF.out.symm, Below.refl _ _⟩
  have hbig' : decide (60 < (l.length : Int)) = false := by simpa using hbig
  have HE := Lib.hid (show dataB cols l = idsGo cols 0 l by unfold dataB; rw [decide_eq_true (by omega)]; rfl)
  go_enter Tryz.func127, Tryz.ntmps127
  go_wp2_with fail
  go_loopw [5, 19] (fun m i wr => ∃ (k : Nat) (last : Int), k <= l.length /\ i = .int .i64 k /\ m = .int .i64 last /\ Hid (idsGo cols 0 l = idsGo cols last (l.drop k)) /\ Below w.heap.size w wr) (fun _ i _ => l.length - (intOf i).toNat)
  case atStart => exact ⟨0, 0, by omega, rfl, rfl, Lib.hid (by simp), Below.refl _ _⟩
  case round =>
    obtain ⟨k, last, hk, rfl, rfl, hgo, hb⟩ := hrel
    by_cases hlt : k < l.length
    · have d1 := (hb.cell (cell_lt x1)).trans x1
      have e0 := (hb.cell (cell_lt y0)).trans y0
      obtain ⟨b, off, A9, n9, c9, -, ea, q0, q1, hvl, -⟩ := RwR.at_ (hl.below RwR.stays hb) hlt
      rw [ea] at e0
      obtain rfl : l[k].vals.length = n9 := hvl.1
      have HN9 := Lib.hid (HVS.out _ (List.getElem_mem hlt))
      have hst := idsGo_at cols last l k hlt
      rw [<- hgo.out, <- HE.out] at hst
      have hst0 := HE.out
      have i0 : (0 : Int) <= k := by omega
      have i1 : (k : Int) < l.length := by omega
      clear ea hgo
      by_cases h1 : l[k].id <= last
      · have HF := Lib.hid (show dataB cols l = false by rw [hst, decide_eq_false (by omega)]; rfl)
        have h1' : decide (l[k].id <= last) = true := decide_eq_true h1
        clear hst hst0
        go_wp2_with fail
        go_ret
        exact ⟨retB HF.out.symm, hb⟩
      have h1' : decide (l[k].id <= last) = false := decide_eq_false h1
      by_cases h2 : 1000000000 < l[k].id
      · have HF := Lib.hid (show dataB cols l = false by rw [hst, decide_eq_false (p := l[k].id <= 1000000000) (by omega)]; simp)
        have h2' : decide (1000000000 < l[k].id) = true := decide_eq_true h2
        clear hst hst0
        go_wp2_with fail
        go_ret
        exact ⟨retB HF.out.symm, hb⟩
      have h2' : decide (1000000000 < l[k].id) = false := decide_eq_false h2
      rw [decide_eq_true (p := last < l[k].id) (by omega), decide_eq_true (p := l[k].id <= 1000000000) (by omega), Bool.true_and, Bool.true_and] at hst
      have hcall := implFitsAt g o A1 A9 n1 c1 l[k].vals.length c9 cols l[k].vals ok _ d1 (h.below ClR.stays hb) (Sl.cellz (fun _ => rfl) hvl) hn1 HN9.out
      have HC := Lib.hid hcall
      clear hcall
      cases hc : kindsB cols l[k].vals
      · have HCC := Lib.hid hc
        have HF := Lib.hid (show dataB cols l = false by rw [hst, hc]; rfl)
        clear hst hst0 hc
        go_wp2_with fail
        refine HC.out.mono ?_
        rintro e w1 ⟨rfl, hb1⟩
        rw [HCC.out]
        clear HC
        go_wp2_with fail
        go_ret
        exact ⟨retB HF.out.symm, hb.trans (hb1.mono hb.size)⟩
      · have HCC := Lib.hid hc
        have HG := Lib.hid (show idsGo cols 0 l = idsGo cols l[k].id (l.drop (k + 1)) by rw [<- hst0, hst, hc]; rfl)
        clear hst hst0 hc
        go_wp2_with fail
        refine HC.out.mono ?_
        rintro e w1 ⟨rfl, hb1⟩
        rw [HCC.out]
        clear HC
        have q0' := (hb1.cell (cell_lt q0)).trans q0
        go_wp2_with fail
        go_roundw
        case rel => exact ⟨k + 1, l[k].id, by omega, by go_num, rfl, Lib.hid HG.out, hb.trans (hb1.mono hb.size)⟩
        case measure => simp [intOf]; omega
    · have e : l.drop k = [] := List.drop_eq_nil_of_le (by omega)
      have g1 := hgo.out
      rw [e] at g1
      have HF := Lib.hid (show dataB cols l = true by rw [HE.out, g1]; rfl)
      clear e g1 hgo
      go_wp2_with fail
      go_ret
      exact ⟨retB HF.out.symm, hb⟩
set_option maxRecDepth 100000 in
set_option maxHeartbeats 1000000 in
theorem implDbOk (AS AD : Option Addr) (nS cS nD cD : Nat) (s : List Tb) (db : List Dt) (ok : Nat -> Prop) (w : World) (hs : Sl TbR 6 ok w AS nS s) (hd : Sl DtR 1 ok w AD nD db) (hsz : szL Tb.sz s <= 1048576) (hdz : szL Dt.sz db <= 1048576) (hvs : ∀ d ∈ db, ∀ r ∈ d.rows, r.vals.length <= 1048576) :
    Calls Tryz.prog 64 #[.slice AS nS cS, .slice AD nD cD] w fun e w' => e = .returned (.bool (dbB s db)) /\ Below w.heap.size w w' := by
  obtain rfl : s.length = nS := hs.1
  obtain rfl : db.length = nD := hd.1
  have hn1 : s.length <= 1048576 := by unfold szL at hsz; omega
  have hn2 : db.length <= 1048576 := by unfold szL at hdz; omega
  have HSZ := Lib.hid hsz
  have HDZ := Lib.hid hdz
  have HVS := Lib.hid hvs
  clear hsz hdz hvs
  cases hS : schemaB s
  · have HS := Lib.hid hS
    have HF := Lib.hid (show dbB s db = false by unfold dbB; rw [hS]; rfl)
    clear hS
    go_enter Tryz.func64, Tryz.ntmps64
    go_wp2_with fail
    refine (implSchemaOk AS s.length cS s ok _ hs HSZ.out).mono ?_
    rintro e w1 ⟨rfl, hb1⟩
    rw [HS.out]
    go_wp2_with fail
    go_ret
    exact ⟨retB HF.out.symm, hb1⟩
  have HS := Lib.hid hS
  clear hS
  cases hl : (db.length == s.length)
  · have hl' : ¬ ((db.length : Int) = s.length) := by have := beq_eq_false_iff_ne.1 hl; omega
    have HF := Lib.hid (show dbB s db = false by unfold dbB; rw [decide_eq_false (beq_eq_false_iff_ne.1 hl)]; simp)
    clear hl
    go_enter Tryz.func64, Tryz.ntmps64
    go_wp2_with fail
    refine (implSchemaOk AS s.length cS s ok _ hs HSZ.out).mono ?_
    rintro e w1 ⟨rfl, hb1⟩
    rw [HS.out]
    go_wp2_with fail
    go_ret
    exact ⟨retB HF.out.symm, hb1⟩
  have hlen : db.length = s.length := by simpa using hl
  have hl' : (db.length : Int) = s.length := by omega
  have hz : (s.zip db).length = db.length := by simp [hlen]
  have HZ := Lib.hid hz
  have HL := Lib.hid hlen
  have HE := Lib.hid (show dbB s db = (s.zip db).all dbV by unfold dbB; rw [HS.out, decide_eq_true hlen]; rfl)
  clear hl hz hlen
  go_enter Tryz.func64, Tryz.ntmps64
  go_wp2_with fail
  refine (implSchemaOk AS s.length cS s ok _ hs HSZ.out).mono ?_
  rintro e w1 ⟨rfl, hb1⟩
  rw [HS.out]
  go_wp2_with fail
  clear hl'
  go_loopw [18] (fun i wr => ∃ k : Nat, k <= db.length /\ i = .int .i64 k /\ Hid (((s.zip db).take k).all dbV = true) /\ Below w.heap.size w wr) (fun i _ => db.length - (intOf i).toNat)
  case atStart => exact ⟨0, by omega, rfl, Lib.hid (by simp), hb1⟩
  case round =>
    clear hb1
    obtain ⟨k, hk, rfl, hall, hb⟩ := hrel
    by_cases hlt : k < db.length
    · have hlt2 : k < s.length := by have := HL.out; omega
      obtain ⟨b, off, A1, n1, c1, A2, n2, c2, A3, n3, c3, A4, n4, c4, A5, n5, c5, -, ea, q0, q1, q2, q3, q4, q5, s1, s2, s3, s4, s5, -⟩ := TbR.at_ (hs.below TbR.stays hb) hlt2
      subst ea
      obtain ⟨bd, offd, A9, n9, c9, -, ed, y0, hrs, -⟩ := DtR.at_ (hd.below DtR.stays hb) hlt
      subst ed
      obtain rfl : db[k].rows.length = n9 := hrs.1
      obtain rfl : s[k].cols.length = n1 := s1.1
      have hcn : s[k].cols.length <= 1048576 := by have h1 := HSZ.out; have := sum_mem_le Tb.sz s k hlt2; simp only [szL, Tb.sz] at *; omega
      have hrn : db[k].rows.length <= 1048576 := by have h1 := HDZ.out; have := sum_mem_le Dt.sz db k hlt; simp only [szL, Dt.sz] at *; omega
      have HV := Lib.hid (HVS.out _ (List.getElem_mem hlt))
      have hsn := all_take dbV (s.zip db) k (by rw [HZ.out]; exact hlt)
      have hno := fun hf => all_no dbV (s.zip db) k (by rw [HZ.out]; exact hlt) hf
      have eg : dbV ((s.zip db)[k]'(by rw [HZ.out]; exact hlt)) = dataB s[k].cols db[k].rows := by rw [List.getElem_zip]; rfl
      rw [hall.out, Bool.true_and, eg] at hsn
      rw [eg] at hno
      have i0 : (0 : Int) <= k := by omega
      have i1 : (k : Int) < db.length := by omega
      have i2 : (k : Int) < s.length := by omega
      clear eg
      have HC := Lib.hid (implDataOk b (off + k * 6) bd (offd + k) A1 A9 s[k].cols.length c1 db[k].rows.length c9 s[k].cols db[k].rows ok wr.drew q1 y0 (s1.drew ClR.stays) (hrs.drew RwR.stays) hcn HV.out hrn)
      cases hc : dataB s[k].cols db[k].rows
      · have HCC := Lib.hid hc
        have HF := Lib.hid (show dbB s db = false by rw [HE.out]; exact hno hc)
        clear hsn hno hall hc
        go_wp2_with fail
        go_region_held3 (fun w' => w'.cell? ⟨b, off + k * 6 + 1, none⟩ = some (.slice A1 s[k].cols.length c1) /\ w'.cell? ⟨bd, offd + k, none⟩ = some (.slice A9 db[k].rows.length c9))
          (first | go_keep | exact ⟨below_keep hq _ _ q1, below_keep hq _ _ y0⟩)
          (first | (go_at_call 127; refine HC.out.mono ?_; rintro e w2 ⟨rfl, hq⟩; rw [HCC.out]))
        go_wp2_with fail
        go_ret
        exact ⟨retB HF.out.symm, hb.drew.trans (hq.mono hb.size)⟩
      · have HCC := Lib.hid hc
        have HA := Lib.hid (hsn.trans hc)
        clear hsn hno hall hc
        go_wp2_with fail
        go_region_held3 (fun w' => w'.cell? ⟨b, off + k * 6 + 1, none⟩ = some (.slice A1 s[k].cols.length c1) /\ w'.cell? ⟨bd, offd + k, none⟩ = some (.slice A9 db[k].rows.length c9))
          (first | go_keep | exact ⟨below_keep hq _ _ q1, below_keep hq _ _ y0⟩)
          (first | (go_at_call 127; refine HC.out.mono ?_; rintro e w2 ⟨rfl, hq⟩; rw [HCC.out]))
        go_wp2_with fail
        go_roundw
        case rel => exact ⟨k + 1, by omega, by go_num, Lib.hid HA.out, hb.drew.trans (hq.mono hb.size)⟩
        case measure => simp [intOf]; omega
    · have e : (s.zip db).take k = s.zip db := List.take_of_length_le (by rw [HZ.out]; omega)
      have g1 := hall.out
      rw [e] at g1
      have HF := Lib.hid (show dbB s db = true by rw [HE.out]; exact g1)
      have i3 : ¬ (k : Int) < s.length := by have := HL.out; omega
      clear e g1 hall
      go_wp2_with fail
      go_ret
      exact ⟨retB HF.out.symm, hb⟩
theorem keyL_get {cols : List Int} {vals : List Vl} {k m : Nat} (h : k < cols.length) (hm : cols[k] = m) (hv : m < vals.length) (h2 : k < (keyL cols vals).length) : (keyL cols vals)[k] = vals[m] := by
  simp [keyL, hm, hv]
set_option maxRecDepth 100000 in
set_option maxHeartbeats 2000000 in
theorem implHasKey (b off : Nat) (AC AK A1 : Option Addr) (nC cC nK cK n1 c1 : Nat) (id : Value) (cols : List Int) (key vals : List Vl) (ok ok' ok'' : Nat -> Prop) (w : World)
    (p1 : w.cell? ⟨b, off + 1, none⟩ = some (.slice A1 n1 c1)) (hc : Sl IntR 1 ok w AC nC cols) (hk : Sl VlR 3 ok' w AK nK key) (hv : Sl VlR 3 ok'' w A1 n1 vals) (hcn : nC <= 1048576) (hkn : nK <= 1048576) (hvn : n1 <= 1048576) (hall : cols.all (inV vals) = true) :
    Calls Tryz.prog 288 #[.pointer (some ⟨b, off, none⟩), .slice AC nC cC, .slice AK nK cK] w fun e w' => e = .returned (.bool (hitB cols key vals)) /\ Below w.heap.size w w' := by
  obtain rfl : cols.length = nC := hc.1
  obtain rfl : key.length = nK := hk.1
  obtain rfl : vals.length = n1 := hv.1
  have HALL := Lib.hid hall
  clear hall
  by_cases hl : (key.length : Int) = cols.length
  case neg =>
    have hl' : ((key.length : Int) == cols.length) = false := by simpa using hl
    have HF := Lib.hid (show hitB cols key vals = false by unfold hitB; rw [decide_eq_false (by omega)]; rfl)
    clear hl
    go_enter Tryz.func288, Tryz.ntmps288
    go_wp2_with fail
    go_ret
    exact ⟨retB HF.out.symm, Below.refl _ _⟩
  have hl' : ((key.length : Int) == cols.length) = true := by simpa using hl
  have HL := Lib.hid (show key.length = cols.length by omega)
  have HKL := Lib.hid (show (keyL cols vals).length = cols.length by simp [keyL])
  have P1 := Lib.hid p1
  clear hl p1
  go_enter Tryz.func288, Tryz.ntmps288
  go_wp2_with fail
  clear hl'
  go_loopw [17] (fun i wr => ∃ k : Nat, k <= cols.length /\ i = .int .i64 k /\ Hid ((((keyL cols vals).zip key).take k).all hitP = true) /\ Below w.heap.size w wr) (fun i _ => cols.length - (intOf i).toNat)
  case atStart => exact ⟨0, by omega, rfl, Lib.hid (by simp), Below.refl _ _⟩
  case round =>
    obtain ⟨k, hk', rfl, hall, hb⟩ := hrel
    by_cases hlt : k < cols.length
    · have hlk : k < key.length := by have := HL.out; omega
      have hlL : k < (keyL cols vals).length := by have := HKL.out; omega
      obtain ⟨bc, oc, -, rfl, q0⟩ := IntR.at_ (hc.below IntR.stays hb) hlt
      obtain ⟨m, hm, hmv⟩ := inV_nat (List.all_eq_true.1 HALL.out _ (List.getElem_mem hlt))
      have hst := zip_take (keyL cols vals) key k hlL hlk hitP
      rw [hall.out, Bool.true_and, keyL_get hlt hm hmv hlL] at hst
      have hno : hitP (vals[m], key[k]) = false -> hitB cols key vals = false := fun hf => by
        unfold hitB
        rw [zip_no (f := hitP) hlL hlk (by rw [keyL_get hlt hm hmv hlL]; exact hf)]; simp
      rw [hm] at q0
      obtain ⟨b1, o1, -, rfl, x0, x1, x2⟩ := VlR.at_ (hv.below VlR.stays hb) hmv
      obtain ⟨b2, o2, -, rfl, y0, y1, y2⟩ := VlR.at_ (hk.below VlR.stays hb) hlk
      have p1 := below_keep hb _ _ P1.out
      have i0 : (0 : Int) <= k := by omega
      have i1 : (k : Int) < cols.length := by omega
      have i2 : (k : Int) < key.length := by omega
      have j0 : (0 : Int) <= m := by omega
      have j1 : (m : Int) < vals.length := by omega
      clear hm
      generalize vals[m] = x at *
      generalize key[k] = y at *
      have hbx := hb.alloc hb.size (.cells #[.int .i64 x.k, .int .i64 x.n, .string x.s] 179)
      have hlb := (Below.refl wr.heap.size wr).alloc (Nat.le_refl _) (.cells #[.int .i64 x.k, .int .i64 x.n, .string x.s] 179)
      have y0' := below_keep hlb _ _ y0
      have y1' := below_keep hlb _ _ y1
      have y2' := below_keep hlb _ _ y2
      clear hlb
      cases hs : hitP (x, y)
      · have HF := Lib.hid (hno hs)
        have HS := Lib.hid hs
        clear hno hst hall hs
        cases e0 : (x.k == 0)
        · cases e1 : (x.k == y.k)
          · clear HS
            go_wp2_with fail
            go_quiet (fail)
            go_wp2_with fail
            go_ret
            exact ⟨retB HF.out.symm, below_dN hbx _⟩
          · cases e2 : (x.n == y.n)
            · clear HS
              go_wp2_with fail
              go_quiet (fail)
              go_wp2_with fail
              go_ret
              exact ⟨retB HF.out.symm, below_dN hbx _⟩
            · have e3 : (x.s.toList == y.s.toList) = false := by have := HS.out; simp only [hitP, eqlP, eqlV, e0, e1, e2, Bool.true_and, Bool.not_false] at this; exact this
              clear HS
              go_wp2_with fail
              go_quiet (fail)
              go_wp2_with fail
              go_ret
              exact ⟨retB HF.out.symm, below_dN hbx _⟩
        · clear HS
          go_wp2_with fail
          go_quiet (fail)
          go_wp2_with fail
          go_ret
          exact ⟨retB HF.out.symm, below_dN hbx _⟩
      · rw [hs] at hst
        have HA := Lib.hid hst
        simp only [hitP, eqlP, eqlV, Bool.and_eq_true, Bool.not_eq_true'] at hs
        obtain ⟨e0, e1, e2, e3⟩ := hs
        clear hno hst hall
        go_wp2_with fail
        go_quiet (fail)
        go_wp2_with fail
        go_roundw
        case rel => exact ⟨k + 1, by omega, by go_num, HA, below_dN hbx _⟩
        case measure => simp [intOf]; omega
    · have e : ((keyL cols vals).zip key).take k = (keyL cols vals).zip key := List.take_of_length_le (by rw [List.length_zip]; have := HKL.out; omega)
      have h1 := hall.out
      rw [e] at h1
      have HA := Lib.hid (show hitB cols key vals = true by unfold hitB; rw [decide_eq_true HL.out, h1]; rfl)
      clear e h1 hall
      go_wp2_with fail
      go_ret
      exact ⟨retB HA.out.symm, hb⟩
def MadeI (xs : List Int) (w : World) (e : Ending) (w' : World) : Prop := ∃ A c, e = .returned (.slice A xs.length c) /\ xs.length <= c /\ Sl IntR 1 (okF w.heap.size w') w' A xs.length xs /\ Below w.heap.size w w'
end Go.Proofs.YtlpldhmanihnnaaGreat
namespace Go.Proofs.YtlpldhmanihnnaaGreat
open Go.RowKit
theorem idsGo_mem {cols : List Cl} : ∀ {l : List Rw} {last : Int}, idsGo cols last l = true -> ∀ r ∈ l, kindsB cols r.vals = true
  | [], _, _, r, h => by cases h
  | x :: xs, last, h, r, hr => by
    simp only [idsGo, Bool.and_eq_true] at h
    rcases List.mem_cons.1 hr with rfl | hr
    · exact h.2.2.1
    · exact idsGo_mem h.2.2.2 r hr
theorem dbB_row {s : List Tb} {db : List Dt} (h : dbB s db = true) {m : Nat} (h1 : m < s.length) (h2 : m < db.length) : ∀ r ∈ db[m].rows, r.vals.length = s[m].cols.length := fun r hr => by
  simp only [dbB, Bool.and_eq_true, decide_eq_true_eq] at h
  have h3 := List.all_eq_true.1 h.2.2 (s[m], db[m]) (by rw [List.mem_iff_getElem]; exact ⟨m, by rw [List.length_zip]; omega, by simp⟩)
  simp only [dbV, dataB, Bool.and_eq_true] at h3
  have h4 := idsGo_mem h3.2 r hr
  simp only [kindsB, Bool.and_eq_true, decide_eq_true_eq] at h4
  exact h4.1
theorem dbB_len {s : List Tb} {db : List Dt} (h : dbB s db = true) : db.length = s.length := by
  simp only [dbB, Bool.and_eq_true, decide_eq_true_eq] at h
  exact h.2.1
theorem all_inV {cols : List Int} {vals : List Vl} {n : Nat} (h : colsInB cols n = true) (hv : vals.length = n) : cols.all (inV vals) = true := by
  rw [List.all_eq_true]
  intro c hc
  have := (colsInB_len h).2 c hc
  simp only [inV, Bool.and_eq_true, decide_eq_true_eq]
  omega
theorem rows_le {db : List Dt} {m : Nat} (h : szL Dt.sz db <= m) : ∀ d ∈ db, ∀ r ∈ d.rows, r.vals.length <= m := fun d hd r hr => by
  have h1 : d.sz <= m := by
    obtain ⟨i, hi, rfl⟩ := List.mem_iff_getElem.1 hd
    have := sum_mem_le Dt.sz db i hi
    unfold szL at h
    omega
  have h2 : r.sz <= m := by
    obtain ⟨i, hi, rfl⟩ := List.mem_iff_getElem.1 hr
    have := sum_mem_le Rw.sz d.rows i hi
    unfold Dt.sz szL at h1
    omega
  unfold Rw.sz szL at h2
  omega
theorem implDbOk' (AS AD : Option Addr) (nS cS nD cD : Nat) (s : List Tb) (db : List Dt) (ok ok' : Nat -> Prop) (w : World) (hs : Sl TbR 6 ok w AS nS s) (hd : Sl DtR 1 ok' w AD nD db) (hsz : szL Tb.sz s <= 1048576) (hdz : szL Dt.sz db <= 1048576) :
    Calls Tryz.prog 64 #[.slice AS nS cS, .slice AD nD cD] w fun e w' => e = .returned (.bool (dbB s db)) /\ Below w.heap.size w w' :=
  implDbOk AS AD nS cS nD cD s db (fun _ => True) w (hs.stays TbR.stays (fun _ _ => trivial) (fun _ _ _ h => h)) (hd.stays DtR.stays (fun _ _ => trivial) (fun _ _ _ h => h)) hsz hdz (rows_le hdz)
end Go.Proofs.YtlpldhmanihnnaaGreat
namespace Go.Proofs.YtlpldhmanihnnaaGreat
open Go.RowKit Go.Maps
set_option maxRecDepth 100000 in
set_option maxHeartbeats 2000000 in
theorem specKinds (A1 AR : Option Addr) (n1 c1 nR cR : Nat) (v0 v2 v3 v4 v5 : Value) (cols : List Cl) (row : List Vl) (ok : Nat -> Prop) (w : World)
    (h : Sl ClR 6 ok w A1 n1 cols) (hv : Vals w AR nR row) (hn1 : n1 <= 1048576) (hn2 : nR <= 1048576) :
    Calls Tryz.prog 177 #[.agg #[v0, .slice A1 n1 c1, v2, v3, v4, v5], .slice AR nR cR] w fun e w' => e = .returned (.bool (kindsB cols row)) /\ Below w.heap.size w w' := by
  obtain rfl : cols.length = n1 := h.1
  obtain rfl : row.length = nR := hv.len
  have hb0 := (Below.refl w.heap.size w).alloc (Nat.le_refl _) (.cells #[v0, .slice A1 cols.length c1, v2, v3, v4, v5] 86)
  have r0 := Row.new w 86 #[v0, .slice A1 cols.length c1, v2, v3, v4, v5]
  cases hl : (row.length == cols.length)
  · have hl' : ¬ ((row.length : Int) = cols.length) := by have := beq_eq_false_iff_ne.1 hl; omega
    have HF := Lib.hid (show kindsB cols row = false by unfold kindsB; rw [decide_eq_false (beq_eq_false_iff_ne.1 hl)]; rfl)
    clear hl
    go_enter Tryz.func177, Tryz.ntmps177
    go_wp2
    go_ret
    exact ⟨retB HF.out.symm, hb0⟩
  have hlen : row.length = cols.length := by simpa using hl
  have hl' : (row.length : Int) = cols.length := by omega
  have hz : (cols.zip row).length = cols.length := by simp [hlen]
  have HZ := Lib.hid hz
  have HL := Lib.hid hlen
  have HE := Lib.hid (show kindsB cols row = fitAll cols row by unfold kindsB; rw [decide_eq_true hlen]; rfl)
  clear hl hz hlen
  go_enter Tryz.func177, Tryz.ntmps177
  go_wp2_with fail
  generalize w.alloc (.cells #[v0, .slice A1 cols.length c1, v2, v3, v4, v5] 86) = x0 at *
  go_loopw [5] (fun i wr => ∃ k : Nat, k <= cols.length /\ i = .int .i64 k /\ Hid (((cols.zip row).take k).all fitV = true) /\ Row wr w.heap.size 86 #[v0, .slice A1 cols.length c1, v2, v3, v4, v5] /\ Below w.heap.size w wr) (fun i _ => cols.length - (intOf i).toNat)
  case atStart => exact ⟨0, by omega, rfl, Lib.hid (by simp), r0, hb0⟩
  case round =>
    obtain ⟨k, hk, rfl, hall, hr, hb⟩ := hrel
    by_cases hlt : k < cols.length
    · have hlt2 : k < row.length := by have := HL.out; omega
      obtain ⟨⟨d0, d1, d2, d3, d4, d5⟩, -⟩ := hr.all6
      obtain ⟨b2, off2, rfl, p0, p1, p2⟩ := (hv.below hb).at_ hlt2
      obtain ⟨b, off, -, rfl, q0, q1, q2, q3, q4, q5⟩ := ClR.at_ (h.below ClR.stays hb) hlt
      have hsn := all_take fitV (cols.zip row) k (by rw [HZ.out]; exact hlt)
      have hno := fun hf => all_no fitV (cols.zip row) k (by rw [HZ.out]; exact hlt) hf
      have eg : fitV ((cols.zip row)[k]'(by rw [HZ.out]; exact hlt)) = fitsB cols[k].kind row[k] := by rw [List.getElem_zip]; rfl
      rw [hall.out, Bool.true_and, eg] at hsn
      rw [eg] at hno
      have hsn := fun hf : fitsB cols[k].kind row[k] = true => hsn.trans hf
      have hno := fun hf : fitsB cols[k].kind row[k] = false => show kindsB cols row = false by rw [HE.out]; exact hno hf
      have i0 : (0 : Int) <= k := by omega
      have i1 : (k : Int) < cols.length := by omega
      have i2 : (k : Int) < row.length := by have := HL.out; omega
      clear eg
      cases hv1 : valOkB row[k].k row[k].n row[k].s
      · skip
        have HV := Lib.hid hv1
        have HF := Lib.hid (hno (by unfold fitsB; rw [hv1]; rfl))
        clear hsn hno hall hv1
        go_wp2_with fail
        refine wp_region_noPanic ?_
        refine wp_region_held_drew (S := fun w' => w'.cell? ⟨b2, off2 + k * 3, none⟩ = some (.int .i64 row[k].k) /\ w'.cell? ⟨b2, off2 + k * 3 + 1, none⟩ = some (.int .i64 row[k].n) /\ w'.cell? ⟨b2, off2 + k * 3 + 2, none⟩ = some (.string row[k].s) /\ w'.cell? ⟨w.heap.size, 1, none⟩ = some (.slice (some ⟨b, off, none⟩) cols.length c1) /\ w'.cell? ⟨b, off + k * 6 + 1, none⟩ = some (.int .i64 cols[k].kind)) (by kernel_rfl) ⟨p0, p1, p2, d1, q1⟩ (fun hHeld => ?_)
        refine wpAnyH_take (i := 0) (v := ?v1) rfl (by kernel_rfl) (by kernel_rfl) (by kernel_rfl) (fun _ _ _ h => h) (Or.inl ⟨by rfl, ?hy1⟩) hHeld ?rest1
        case hy1 => (intro w' hSw; (try dsimp only at hSw); first | (go_simp; done) | (go_simp; with_reducible rfl))
        simp only [Act.put, pz0, pz1, pz2, pz3, pz4, pz5]
        refine wpAnyH_take (i := 1) (v := ?v2) rfl (by kernel_rfl) (by kernel_rfl) (by kernel_rfl) (fun _ _ _ h => h) (Or.inl ⟨by rfl, ?hy2⟩) hHeld ?rest2
        case hy2 => (intro w' hSw; (try dsimp only at hSw); first | (go_simp; done) | (go_simp; with_reducible rfl))
        simp only [Act.put, pz0, pz1, pz2, pz3, pz4, pz5]
        refine wpAnyH_take (i := 2) (v := ?v3) rfl (by kernel_rfl) (by kernel_rfl) (by kernel_rfl) (fun _ _ _ h => h) (Or.inl ⟨by rfl, ?hy3⟩) hHeld ?rest3
        case hy3 => (intro w' hSw; (try dsimp only at hSw); first | (go_simp; done) | (go_simp; with_reducible rfl))
        simp only [Act.put, pz0, pz1, pz2, pz3, pz4, pz5]
        refine wpAnyH_take (i := 3) (v := ?v4) rfl (by kernel_rfl) (by kernel_rfl) (by kernel_rfl) (fun _ _ _ h => h) (Or.inl ⟨by rfl, ?hy4⟩) hHeld ?rest4
        case hy4 => (intro w' hSw; (try dsimp only at hSw); first | (go_simp; done) | (go_simp; with_reducible rfl))
        simp only [Act.put, pz0, pz1, pz2, pz3, pz4, pz5]
        refine wpAnyH_ready (rs := [4]) (by kernel_rfl) (by simp) ?_
        refine AllReadyH.cons rfl (fun K hK => ?_) AllReadyH.nil
        go_simp
        refine (specValOk _ _ _ _).mono ?_
        rintro e wd ⟨rfl, hqd⟩
        rw [HV.out]
        go_wp2_with fail
        refine hK.out _ _ (keepF hHeld hqd) (fun hHeld => ?_)
        clear hK K
        (try simp only [Act.put, pz0, pz1, pz2, pz3, pz4, pz5])
        refine wpAnyH_take (i := 5) (v := ?v5) rfl (by kernel_rfl) (by kernel_rfl) (by kernel_rfl) (fun _ _ _ h => h) (Or.inl ⟨by rfl, ?hy5⟩) hHeld ?rest5
        case hy5 => (intro w' hSw; (try dsimp only at hSw); first | (go_simp; done) | (go_simp; with_reducible rfl))
        simp only [Act.put, pz0, pz1, pz2, pz3, pz4, pz5]
        refine wpAnyH_take (i := 6) (v := ?v6) rfl (by kernel_rfl) (by kernel_rfl) (by kernel_rfl) (fun _ _ _ h => h) (Or.inl ⟨by rfl, ?hy6⟩) hHeld ?rest6
        case hy6 => (intro w' hSw; (try dsimp only at hSw); first | (go_simp; done) | (go_simp; with_reducible rfl))
        simp only [Act.put, pz0, pz1, pz2, pz3, pz4, pz5]
        refine wpAnyH_take (i := 7) (v := undef) rfl (by kernel_rfl) (by kernel_rfl) (by kernel_rfl) (fun _ _ _ h => h) (Or.inr ⟨by rfl, rfl⟩) hHeld ?_
        simp only [Act.put, pz0, pz1, pz2, pz3, pz4, pz5]
        refine wpAnyH_take (i := 8) (v := undef) rfl (by kernel_rfl) (by kernel_rfl) (by kernel_rfl) (fun _ _ _ h => h) (Or.inr ⟨by rfl, rfl⟩) hHeld ?_
        simp only [Act.put, pz0, pz1, pz2, pz3, pz4, pz5]
        refine wpAnyH_take (i := 9) (v := undef) rfl (by kernel_rfl) (by kernel_rfl) (by kernel_rfl) (fun _ _ _ h => h) (Or.inr ⟨by rfl, rfl⟩) hHeld ?_
        simp only [Act.put, pz0, pz1, pz2, pz3, pz4, pz5]
        refine wpAnyH_take (i := 10) (v := undef) rfl (by kernel_rfl) (by kernel_rfl) (by kernel_rfl) (fun _ _ _ h => h) (Or.inr ⟨by rfl, rfl⟩) hHeld ?_
        simp only [Act.put, pz0, pz1, pz2, pz3, pz4, pz5]
        refine wpAnyH_take (i := 11) (v := undef) rfl (by kernel_rfl) (by kernel_rfl) (by kernel_rfl) (fun _ _ _ h => h) (Or.inr ⟨by rfl, rfl⟩) hHeld ?_
        simp only [Act.put, pz0, pz1, pz2, pz3, pz4, pz5]
        refine wpAnyH_take (i := 12) (v := undef) rfl (by kernel_rfl) (by kernel_rfl) (by kernel_rfl) (fun _ _ _ h => h) (Or.inr ⟨by rfl, rfl⟩) hHeld ?_
        simp only [Act.put, pz0, pz1, pz2, pz3, pz4, pz5]
        refine wpAnyH_take (i := 13) (v := undef) rfl (by kernel_rfl) (by kernel_rfl) (by kernel_rfl) (fun _ _ _ h => h) (Or.inr ⟨by rfl, rfl⟩) hHeld ?_
        simp only [Act.put, pz0, pz1, pz2, pz3, pz4, pz5]
        refine wpAnyH_take (i := 14) (v := undef) rfl (by kernel_rfl) (by kernel_rfl) (by kernel_rfl) (fun _ _ _ h => h) (Or.inr ⟨by rfl, rfl⟩) hHeld ?_
        simp only [Act.put, pz0, pz1, pz2, pz3, pz4, pz5]
        refine wpAnyH_take (i := 15) (v := undef) rfl (by kernel_rfl) (by kernel_rfl) (by kernel_rfl) (fun _ _ _ h => h) (Or.inr ⟨by rfl, rfl⟩) hHeld ?_
        simp only [Act.put, pz0, pz1, pz2, pz3, pz4, pz5]
        refine wpAnyH_take (i := 16) (v := undef) rfl (by kernel_rfl) (by kernel_rfl) (by kernel_rfl) (fun _ _ _ h => h) (Or.inr ⟨by rfl, rfl⟩) hHeld ?_
        simp only [Act.put, pz0, pz1, pz2, pz3, pz4, pz5]
        refine wpAnyH_take (i := 17) (v := undef) rfl (by kernel_rfl) (by kernel_rfl) (by kernel_rfl) (fun _ _ _ h => h) (Or.inr ⟨by rfl, rfl⟩) hHeld ?_
        simp only [Act.put, pz0, pz1, pz2, pz3, pz4, pz5]
        refine wpAnyH_take (i := 18) (v := undef) rfl (by kernel_rfl) (by kernel_rfl) (by kernel_rfl) (fun _ _ _ h => h) (Or.inr ⟨by rfl, rfl⟩) hHeld ?_
        simp only [Act.put, pz0, pz1, pz2, pz3, pz4, pz5]
        refine wpAnyH_take (i := 19) (v := undef) rfl (by kernel_rfl) (by kernel_rfl) (by kernel_rfl) (fun _ _ _ h => h) (Or.inr ⟨by rfl, rfl⟩) hHeld ?_
        simp only [Act.put, pz0, pz1, pz2, pz3, pz4, pz5]
        refine wpAnyH_take (i := 20) (v := undef) rfl (by kernel_rfl) (by kernel_rfl) (by kernel_rfl) (fun _ _ _ h => h) (Or.inr ⟨by rfl, rfl⟩) hHeld ?_
        simp only [Act.put, pz0, pz1, pz2, pz3, pz4, pz5]
        refine wpAnyH_take (i := 21) (v := undef) rfl (by kernel_rfl) (by kernel_rfl) (by kernel_rfl) (fun _ _ _ h => h) (Or.inr ⟨by rfl, rfl⟩) hHeld ?_
        simp only [Act.put, pz0, pz1, pz2, pz3, pz4, pz5]
        refine wpAnyH_take (i := 22) (v := undef) rfl (by kernel_rfl) (by kernel_rfl) (by kernel_rfl) (fun _ _ _ h => h) (Or.inr ⟨by rfl, rfl⟩) hHeld ?_
        simp only [Act.put, pz0, pz1, pz2, pz3, pz4, pz5]
        refine wpAnyH_take (i := 23) (v := undef) rfl (by kernel_rfl) (by kernel_rfl) (by kernel_rfl) (fun _ _ _ h => h) (Or.inr ⟨by rfl, rfl⟩) hHeld ?_
        simp only [Act.put, pz0, pz1, pz2, pz3, pz4, pz5]
        refine wpAnyH_take (i := 24) (v := undef) rfl (by kernel_rfl) (by kernel_rfl) (by kernel_rfl) (fun _ _ _ h => h) (Or.inr ⟨by rfl, rfl⟩) hHeld ?_
        simp only [Act.put, pz0, pz1, pz2, pz3, pz4, pz5]
        refine wpAnyH_take (i := 25) (v := undef) rfl (by kernel_rfl) (by kernel_rfl) (by kernel_rfl) (fun _ _ _ h => h) (Or.inr ⟨by rfl, rfl⟩) hHeld ?_
        simp only [Act.put, pz0, pz1, pz2, pz3, pz4, pz5]
        refine wpAnyH_take (i := 26) (v := undef) rfl (by kernel_rfl) (by kernel_rfl) (by kernel_rfl) (fun _ _ _ h => h) (Or.inr ⟨by rfl, rfl⟩) hHeld ?_
        simp only [Act.put, pz0, pz1, pz2, pz3, pz4, pz5]
        refine wpAnyH_take (i := 27) (v := ?v7) rfl (by kernel_rfl) (by kernel_rfl) (by kernel_rfl) (fun _ _ _ h => h) (Or.inl ⟨by rfl, ?hy7⟩) hHeld ?rest7
        case hy7 => (intro w' hSw; (try dsimp only at hSw); first | (go_simp; done) | (go_simp; with_reducible rfl))
        simp only [Act.put, pz0, pz1, pz2, pz3, pz4, pz5]
        refine wpAnyH_done (by kernel_rfl) ?_ _
        refine NoPanic.normal ?_
        have hz := hb.drew.trans (hqd.mono hb.drew.size)
        have rz := hr.drew.below hqd
        clear hHeld p0 p1 p2 d1 q1
        go_wp2_with fail
        go_ret
        exact ⟨retB HF.out.symm, hz⟩
      by_cases h0 : row[k].k = 0
      · skip
        have HV := Lib.hid hv1
        have HA := Lib.hid (hsn (by unfold fitsB; rw [hv1, h0]; rfl))
        have e0 : (row[k].k == 0) = true := by simpa using h0
        have e1 : (row[k].k != 0) = false := by simpa using h0
        clear hsn hno hall hv1 h0
        go_wp2_with fail
        refine wp_region_noPanic ?_
        refine wp_region_held_drew (S := fun w' => w'.cell? ⟨b2, off2 + k * 3, none⟩ = some (.int .i64 row[k].k) /\ w'.cell? ⟨b2, off2 + k * 3 + 1, none⟩ = some (.int .i64 row[k].n) /\ w'.cell? ⟨b2, off2 + k * 3 + 2, none⟩ = some (.string row[k].s) /\ w'.cell? ⟨w.heap.size, 1, none⟩ = some (.slice (some ⟨b, off, none⟩) cols.length c1) /\ w'.cell? ⟨b, off + k * 6 + 1, none⟩ = some (.int .i64 cols[k].kind)) (by kernel_rfl) ⟨p0, p1, p2, d1, q1⟩ (fun hHeld => ?_)
        refine wpAnyH_take (i := 0) (v := ?v8) rfl (by kernel_rfl) (by kernel_rfl) (by kernel_rfl) (fun _ _ _ h => h) (Or.inl ⟨by rfl, ?hy8⟩) hHeld ?rest8
        case hy8 => (intro w' hSw; (try dsimp only at hSw); first | (go_simp; done) | (go_simp; with_reducible rfl))
        simp only [Act.put, pz0, pz1, pz2, pz3, pz4, pz5]
        refine wpAnyH_take (i := 1) (v := ?v9) rfl (by kernel_rfl) (by kernel_rfl) (by kernel_rfl) (fun _ _ _ h => h) (Or.inl ⟨by rfl, ?hy9⟩) hHeld ?rest9
        case hy9 => (intro w' hSw; (try dsimp only at hSw); first | (go_simp; done) | (go_simp; with_reducible rfl))
        simp only [Act.put, pz0, pz1, pz2, pz3, pz4, pz5]
        refine wpAnyH_take (i := 2) (v := ?v10) rfl (by kernel_rfl) (by kernel_rfl) (by kernel_rfl) (fun _ _ _ h => h) (Or.inl ⟨by rfl, ?hy10⟩) hHeld ?rest10
        case hy10 => (intro w' hSw; (try dsimp only at hSw); first | (go_simp; done) | (go_simp; with_reducible rfl))
        simp only [Act.put, pz0, pz1, pz2, pz3, pz4, pz5]
        refine wpAnyH_take (i := 3) (v := ?v11) rfl (by kernel_rfl) (by kernel_rfl) (by kernel_rfl) (fun _ _ _ h => h) (Or.inl ⟨by rfl, ?hy11⟩) hHeld ?rest11
        case hy11 => (intro w' hSw; (try dsimp only at hSw); first | (go_simp; done) | (go_simp; with_reducible rfl))
        simp only [Act.put, pz0, pz1, pz2, pz3, pz4, pz5]
        refine wpAnyH_ready (rs := [4]) (by kernel_rfl) (by simp) ?_
        refine AllReadyH.cons rfl (fun K hK => ?_) AllReadyH.nil
        go_simp
        refine (specValOk _ _ _ _).mono ?_
        rintro e wd ⟨rfl, hqd⟩
        rw [HV.out]
        go_wp2_with fail
        refine hK.out _ _ (keepF hHeld hqd) (fun hHeld => ?_)
        clear hK K
        (try simp only [Act.put, pz0, pz1, pz2, pz3, pz4, pz5])
        refine wpAnyH_take (i := 5) (v := ?v12) rfl (by kernel_rfl) (by kernel_rfl) (by kernel_rfl) (fun _ _ _ h => h) (Or.inl ⟨by rfl, ?hy12⟩) hHeld ?rest12
        case hy12 => (intro w' hSw; (try dsimp only at hSw); first | (go_simp; done) | (go_simp; with_reducible rfl))
        simp only [Act.put, pz0, pz1, pz2, pz3, pz4, pz5]
        refine wpAnyH_take (i := 6) (v := ?v13) rfl (by kernel_rfl) (by kernel_rfl) (by kernel_rfl) (fun _ _ _ h => h) (Or.inl ⟨by rfl, ?hy13⟩) hHeld ?rest13
        case hy13 => (intro w' hSw; (try dsimp only at hSw); first | (go_simp; done) | (go_simp; with_reducible rfl))
        simp only [Act.put, pz0, pz1, pz2, pz3, pz4, pz5]
        refine wpAnyH_take (i := 7) (v := ?v14) rfl (by kernel_rfl) (by kernel_rfl) (by kernel_rfl) (fun _ _ _ h => h) (Or.inl ⟨by rfl, ?hy14⟩) hHeld ?rest14
        case hy14 => (intro w' hSw; (try dsimp only at hSw); first | (go_simp; done) | (go_simp; with_reducible rfl))
        simp only [Act.put, pz0, pz1, pz2, pz3, pz4, pz5]
        refine wpAnyH_take (i := 8) (v := ?v15) rfl (by kernel_rfl) (by kernel_rfl) (by kernel_rfl) (fun _ _ _ h => h) (Or.inl ⟨by rfl, ?hy15⟩) hHeld ?rest15
        case hy15 => (intro w' hSw; (try dsimp only at hSw); first | (go_simp; done) | (go_simp; with_reducible rfl))
        simp only [Act.put, pz0, pz1, pz2, pz3, pz4, pz5]
        refine wpAnyH_take (i := 9) (v := ?v16) rfl (by kernel_rfl) (by kernel_rfl) (by kernel_rfl) (fun _ _ _ h => h) (Or.inl ⟨by rfl, ?hy16⟩) hHeld ?rest16
        case hy16 => (intro w' hSw; (try dsimp only at hSw); first | (go_simp; done) | (go_simp; with_reducible rfl))
        simp only [Act.put, pz0, pz1, pz2, pz3, pz4, pz5]
        refine wpAnyH_take (i := 10) (v := ?v17) rfl (by kernel_rfl) (by kernel_rfl) (by kernel_rfl) (fun _ _ _ h => h) (Or.inl ⟨by rfl, ?hy17⟩) hHeld ?rest17
        case hy17 => (intro w' hSw; (try dsimp only at hSw); first | (go_simp; done) | (go_simp; with_reducible rfl))
        simp only [Act.put, pz0, pz1, pz2, pz3, pz4, pz5]
        refine wpAnyH_take (i := 11) (v := ?v18) rfl (by kernel_rfl) (by kernel_rfl) (by kernel_rfl) (fun _ _ _ h => h) (Or.inl ⟨by rfl, ?hy18⟩) hHeld ?rest18
        case hy18 => (intro w' hSw; (try dsimp only at hSw); first | (go_simp; done) | (go_simp; with_reducible rfl))
        simp only [Act.put, pz0, pz1, pz2, pz3, pz4, pz5]
        refine wpAnyH_take (i := 12) (v := ?v19) rfl (by kernel_rfl) (by kernel_rfl) (by kernel_rfl) (fun _ _ _ h => h) (Or.inl ⟨by rfl, ?hy19⟩) hHeld ?rest19
        case hy19 => (intro w' hSw; (try dsimp only at hSw); first | (go_simp; done) | (go_simp; with_reducible rfl))
        simp only [Act.put, pz0, pz1, pz2, pz3, pz4, pz5]
        refine wpAnyH_take (i := 13) (v := ?v20) rfl (by kernel_rfl) (by kernel_rfl) (by kernel_rfl) (fun _ _ _ h => h) (Or.inl ⟨by rfl, ?hy20⟩) hHeld ?rest20
        case hy20 => (intro w' hSw; (try dsimp only at hSw); first | (go_simp; done) | (go_simp; with_reducible rfl))
        simp only [Act.put, pz0, pz1, pz2, pz3, pz4, pz5]
        refine wpAnyH_take (i := 14) (v := undef) rfl (by kernel_rfl) (by kernel_rfl) (by kernel_rfl) (fun _ _ _ h => h) (Or.inr ⟨by rfl, rfl⟩) hHeld ?_
        simp only [Act.put, pz0, pz1, pz2, pz3, pz4, pz5]
        refine wpAnyH_take (i := 15) (v := undef) rfl (by kernel_rfl) (by kernel_rfl) (by kernel_rfl) (fun _ _ _ h => h) (Or.inr ⟨by rfl, rfl⟩) hHeld ?_
        simp only [Act.put, pz0, pz1, pz2, pz3, pz4, pz5]
        refine wpAnyH_take (i := 16) (v := undef) rfl (by kernel_rfl) (by kernel_rfl) (by kernel_rfl) (fun _ _ _ h => h) (Or.inr ⟨by rfl, rfl⟩) hHeld ?_
        simp only [Act.put, pz0, pz1, pz2, pz3, pz4, pz5]
        refine wpAnyH_take (i := 17) (v := undef) rfl (by kernel_rfl) (by kernel_rfl) (by kernel_rfl) (fun _ _ _ h => h) (Or.inr ⟨by rfl, rfl⟩) hHeld ?_
        simp only [Act.put, pz0, pz1, pz2, pz3, pz4, pz5]
        refine wpAnyH_take (i := 18) (v := undef) rfl (by kernel_rfl) (by kernel_rfl) (by kernel_rfl) (fun _ _ _ h => h) (Or.inr ⟨by rfl, rfl⟩) hHeld ?_
        simp only [Act.put, pz0, pz1, pz2, pz3, pz4, pz5]
        refine wpAnyH_take (i := 19) (v := undef) rfl (by kernel_rfl) (by kernel_rfl) (by kernel_rfl) (fun _ _ _ h => h) (Or.inr ⟨by rfl, rfl⟩) hHeld ?_
        simp only [Act.put, pz0, pz1, pz2, pz3, pz4, pz5]
        refine wpAnyH_take (i := 20) (v := undef) rfl (by kernel_rfl) (by kernel_rfl) (by kernel_rfl) (fun _ _ _ h => h) (Or.inr ⟨by rfl, rfl⟩) hHeld ?_
        simp only [Act.put, pz0, pz1, pz2, pz3, pz4, pz5]
        refine wpAnyH_take (i := 21) (v := undef) rfl (by kernel_rfl) (by kernel_rfl) (by kernel_rfl) (fun _ _ _ h => h) (Or.inr ⟨by rfl, rfl⟩) hHeld ?_
        simp only [Act.put, pz0, pz1, pz2, pz3, pz4, pz5]
        refine wpAnyH_take (i := 22) (v := undef) rfl (by kernel_rfl) (by kernel_rfl) (by kernel_rfl) (fun _ _ _ h => h) (Or.inr ⟨by rfl, rfl⟩) hHeld ?_
        simp only [Act.put, pz0, pz1, pz2, pz3, pz4, pz5]
        refine wpAnyH_take (i := 23) (v := undef) rfl (by kernel_rfl) (by kernel_rfl) (by kernel_rfl) (fun _ _ _ h => h) (Or.inr ⟨by rfl, rfl⟩) hHeld ?_
        simp only [Act.put, pz0, pz1, pz2, pz3, pz4, pz5]
        refine wpAnyH_take (i := 24) (v := undef) rfl (by kernel_rfl) (by kernel_rfl) (by kernel_rfl) (fun _ _ _ h => h) (Or.inr ⟨by rfl, rfl⟩) hHeld ?_
        simp only [Act.put, pz0, pz1, pz2, pz3, pz4, pz5]
        refine wpAnyH_take (i := 25) (v := undef) rfl (by kernel_rfl) (by kernel_rfl) (by kernel_rfl) (fun _ _ _ h => h) (Or.inr ⟨by rfl, rfl⟩) hHeld ?_
        simp only [Act.put, pz0, pz1, pz2, pz3, pz4, pz5]
        refine wpAnyH_take (i := 26) (v := ?v21) rfl (by kernel_rfl) (by kernel_rfl) (by kernel_rfl) (fun _ _ _ h => h) (Or.inl ⟨by rfl, ?hy21⟩) hHeld ?rest21
        case hy21 => (intro w' hSw; (try dsimp only at hSw); first | (go_simp; done) | (go_simp; with_reducible rfl))
        simp only [Act.put, pz0, pz1, pz2, pz3, pz4, pz5]
        refine wpAnyH_take (i := 27) (v := ?v22) rfl (by kernel_rfl) (by kernel_rfl) (by kernel_rfl) (fun _ _ _ h => h) (Or.inl ⟨by rfl, ?hy22⟩) hHeld ?rest22
        case hy22 => (intro w' hSw; (try dsimp only at hSw); first | (go_simp; done) | (go_simp; with_reducible rfl))
        simp only [Act.put, pz0, pz1, pz2, pz3, pz4, pz5]
        refine wpAnyH_done (by kernel_rfl) ?_ _
        refine NoPanic.normal ?_
        have hz := hb.drew.trans (hqd.mono hb.drew.size)
        have rz := hr.drew.below hqd
        clear hHeld p0 p1 p2 d1 q1
        go_wp2_with fail
        go_roundw
        case rel => exact ⟨k + 1, by omega, by go_num, Lib.hid HA.out, rz, hz⟩
        case measure => simp [intOf]; omega
      have e0 : (row[k].k == 0) = false := by simpa using h0
      have e1 : (row[k].k != 0) = true := by simpa using h0
      by_cases hk2 : row[k].k = cols[k].kind
      · skip
        have HV := Lib.hid hv1
        have HA := Lib.hid (hsn (by unfold fitsB; rw [hv1, hk2]; simp))
        have e2 : (row[k].k == cols[k].kind) = true := by simpa using hk2
        have e3 : (row[k].k != cols[k].kind) = false := by simpa using hk2
        clear hsn hno hall hv1 h0 hk2
        go_wp2_with fail
        refine wp_region_noPanic ?_
        refine wp_region_held_drew (S := fun w' => w'.cell? ⟨b2, off2 + k * 3, none⟩ = some (.int .i64 row[k].k) /\ w'.cell? ⟨b2, off2 + k * 3 + 1, none⟩ = some (.int .i64 row[k].n) /\ w'.cell? ⟨b2, off2 + k * 3 + 2, none⟩ = some (.string row[k].s) /\ w'.cell? ⟨w.heap.size, 1, none⟩ = some (.slice (some ⟨b, off, none⟩) cols.length c1) /\ w'.cell? ⟨b, off + k * 6 + 1, none⟩ = some (.int .i64 cols[k].kind)) (by kernel_rfl) ⟨p0, p1, p2, d1, q1⟩ (fun hHeld => ?_)
        refine wpAnyH_take (i := 0) (v := ?v23) rfl (by kernel_rfl) (by kernel_rfl) (by kernel_rfl) (fun _ _ _ h => h) (Or.inl ⟨by rfl, ?hy23⟩) hHeld ?rest23
        case hy23 => (intro w' hSw; (try dsimp only at hSw); first | (go_simp; done) | (go_simp; with_reducible rfl))
        simp only [Act.put, pz0, pz1, pz2, pz3, pz4, pz5]
        refine wpAnyH_take (i := 1) (v := ?v24) rfl (by kernel_rfl) (by kernel_rfl) (by kernel_rfl) (fun _ _ _ h => h) (Or.inl ⟨by rfl, ?hy24⟩) hHeld ?rest24
        case hy24 => (intro w' hSw; (try dsimp only at hSw); first | (go_simp; done) | (go_simp; with_reducible rfl))
        simp only [Act.put, pz0, pz1, pz2, pz3, pz4, pz5]
        refine wpAnyH_take (i := 2) (v := ?v25) rfl (by kernel_rfl) (by kernel_rfl) (by kernel_rfl) (fun _ _ _ h => h) (Or.inl ⟨by rfl, ?hy25⟩) hHeld ?rest25
        case hy25 => (intro w' hSw; (try dsimp only at hSw); first | (go_simp; done) | (go_simp; with_reducible rfl))
        simp only [Act.put, pz0, pz1, pz2, pz3, pz4, pz5]
        refine wpAnyH_take (i := 3) (v := ?v26) rfl (by kernel_rfl) (by kernel_rfl) (by kernel_rfl) (fun _ _ _ h => h) (Or.inl ⟨by rfl, ?hy26⟩) hHeld ?rest26
        case hy26 => (intro w' hSw; (try dsimp only at hSw); first | (go_simp; done) | (go_simp; with_reducible rfl))
        simp only [Act.put, pz0, pz1, pz2, pz3, pz4, pz5]
        refine wpAnyH_ready (rs := [4]) (by kernel_rfl) (by simp) ?_
        refine AllReadyH.cons rfl (fun K hK => ?_) AllReadyH.nil
        go_simp
        refine (specValOk _ _ _ _).mono ?_
        rintro e wd ⟨rfl, hqd⟩
        rw [HV.out]
        go_wp2_with fail
        refine hK.out _ _ (keepF hHeld hqd) (fun hHeld => ?_)
        clear hK K
        (try simp only [Act.put, pz0, pz1, pz2, pz3, pz4, pz5])
        refine wpAnyH_take (i := 5) (v := ?v27) rfl (by kernel_rfl) (by kernel_rfl) (by kernel_rfl) (fun _ _ _ h => h) (Or.inl ⟨by rfl, ?hy27⟩) hHeld ?rest27
        case hy27 => (intro w' hSw; (try dsimp only at hSw); first | (go_simp; done) | (go_simp; with_reducible rfl))
        simp only [Act.put, pz0, pz1, pz2, pz3, pz4, pz5]
        refine wpAnyH_take (i := 6) (v := ?v28) rfl (by kernel_rfl) (by kernel_rfl) (by kernel_rfl) (fun _ _ _ h => h) (Or.inl ⟨by rfl, ?hy28⟩) hHeld ?rest28
        case hy28 => (intro w' hSw; (try dsimp only at hSw); first | (go_simp; done) | (go_simp; with_reducible rfl))
        simp only [Act.put, pz0, pz1, pz2, pz3, pz4, pz5]
        refine wpAnyH_take (i := 7) (v := ?v29) rfl (by kernel_rfl) (by kernel_rfl) (by kernel_rfl) (fun _ _ _ h => h) (Or.inl ⟨by rfl, ?hy29⟩) hHeld ?rest29
        case hy29 => (intro w' hSw; (try dsimp only at hSw); first | (go_simp; done) | (go_simp; with_reducible rfl))
        simp only [Act.put, pz0, pz1, pz2, pz3, pz4, pz5]
        refine wpAnyH_take (i := 8) (v := ?v30) rfl (by kernel_rfl) (by kernel_rfl) (by kernel_rfl) (fun _ _ _ h => h) (Or.inl ⟨by rfl, ?hy30⟩) hHeld ?rest30
        case hy30 => (intro w' hSw; (try dsimp only at hSw); first | (go_simp; done) | (go_simp; with_reducible rfl))
        simp only [Act.put, pz0, pz1, pz2, pz3, pz4, pz5]
        refine wpAnyH_take (i := 9) (v := ?v31) rfl (by kernel_rfl) (by kernel_rfl) (by kernel_rfl) (fun _ _ _ h => h) (Or.inl ⟨by rfl, ?hy31⟩) hHeld ?rest31
        case hy31 => (intro w' hSw; (try dsimp only at hSw); first | (go_simp; done) | (go_simp; with_reducible rfl))
        simp only [Act.put, pz0, pz1, pz2, pz3, pz4, pz5]
        refine wpAnyH_take (i := 10) (v := ?v32) rfl (by kernel_rfl) (by kernel_rfl) (by kernel_rfl) (fun _ _ _ h => h) (Or.inl ⟨by rfl, ?hy32⟩) hHeld ?rest32
        case hy32 => (intro w' hSw; (try dsimp only at hSw); first | (go_simp; done) | (go_simp; with_reducible rfl))
        simp only [Act.put, pz0, pz1, pz2, pz3, pz4, pz5]
        refine wpAnyH_take (i := 11) (v := ?v33) rfl (by kernel_rfl) (by kernel_rfl) (by kernel_rfl) (fun _ _ _ h => h) (Or.inl ⟨by rfl, ?hy33⟩) hHeld ?rest33
        case hy33 => (intro w' hSw; (try dsimp only at hSw); first | (go_simp; done) | (go_simp; with_reducible rfl))
        simp only [Act.put, pz0, pz1, pz2, pz3, pz4, pz5]
        refine wpAnyH_take (i := 12) (v := ?v34) rfl (by kernel_rfl) (by kernel_rfl) (by kernel_rfl) (fun _ _ _ h => h) (Or.inl ⟨by rfl, ?hy34⟩) hHeld ?rest34
        case hy34 => (intro w' hSw; (try dsimp only at hSw); first | (go_simp; done) | (go_simp; with_reducible rfl))
        simp only [Act.put, pz0, pz1, pz2, pz3, pz4, pz5]
        refine wpAnyH_take (i := 13) (v := ?v35) rfl (by kernel_rfl) (by kernel_rfl) (by kernel_rfl) (fun _ _ _ h => h) (Or.inl ⟨by rfl, ?hy35⟩) hHeld ?rest35
        case hy35 => (intro w' hSw; (try dsimp only at hSw); first | (go_simp; done) | (go_simp; with_reducible rfl))
        simp only [Act.put, pz0, pz1, pz2, pz3, pz4, pz5]
        refine wpAnyH_take (i := 14) (v := ?v36) rfl (by kernel_rfl) (by kernel_rfl) (by kernel_rfl) (fun _ _ _ h => h) (Or.inl ⟨by rfl, ?hy36⟩) hHeld ?rest36
        case hy36 => (intro w' hSw; (try dsimp only at hSw); first | (go_simp; done) | (go_simp; with_reducible rfl))
        simp only [Act.put, pz0, pz1, pz2, pz3, pz4, pz5]
        refine wpAnyH_take (i := 15) (v := ?v37) rfl (by kernel_rfl) (by kernel_rfl) (by kernel_rfl) (fun _ _ _ h => h) (Or.inl ⟨by rfl, ?hy37⟩) hHeld ?rest37
        case hy37 => (intro w' hSw; (try dsimp only at hSw); first | (go_simp; done) | (go_simp; with_reducible rfl))
        simp only [Act.put, pz0, pz1, pz2, pz3, pz4, pz5]
        refine wpAnyH_take (i := 16) (v := ?v38) rfl (by kernel_rfl) (by kernel_rfl) (by kernel_rfl) (fun _ _ _ h => h) (Or.inl ⟨by rfl, ?hy38⟩) hHeld ?rest38
        case hy38 => (intro w' hSw; (try dsimp only at hSw); first | (go_simp; done) | (go_simp; with_reducible rfl))
        simp only [Act.put, pz0, pz1, pz2, pz3, pz4, pz5]
        refine wpAnyH_take (i := 17) (v := ?v39) rfl (by kernel_rfl) (by kernel_rfl) (by kernel_rfl) (fun _ _ _ h => h) (Or.inl ⟨by rfl, ?hy39⟩) hHeld ?rest39
        case hy39 => (intro w' hSw; (try dsimp only at hSw); first | (go_simp; done) | (go_simp; with_reducible rfl))
        simp only [Act.put, pz0, pz1, pz2, pz3, pz4, pz5]
        refine wpAnyH_take (i := 18) (v := ?v40) rfl (by kernel_rfl) (by kernel_rfl) (by kernel_rfl) (fun _ _ _ h => h) (Or.inl ⟨by rfl, ?hy40⟩) hHeld ?rest40
        case hy40 => (intro w' hSw; (try dsimp only at hSw); first | (go_simp; done) | (go_simp; with_reducible rfl))
        simp only [Act.put, pz0, pz1, pz2, pz3, pz4, pz5]
        refine wpAnyH_take (i := 19) (v := ?v41) rfl (by kernel_rfl) (by kernel_rfl) (by kernel_rfl) (fun _ _ _ h => h) (Or.inl ⟨by rfl, ?hy41⟩) hHeld ?rest41
        case hy41 => (intro w' hSw; (try dsimp only at hSw); first | (go_simp; done) | (go_simp; with_reducible rfl))
        simp only [Act.put, pz0, pz1, pz2, pz3, pz4, pz5]
        refine wpAnyH_take (i := 20) (v := ?v42) rfl (by kernel_rfl) (by kernel_rfl) (by kernel_rfl) (fun _ _ _ h => h) (Or.inl ⟨by rfl, ?hy42⟩) hHeld ?rest42
        case hy42 => (intro w' hSw; (try dsimp only at hSw); first | (go_simp; done) | (go_simp; with_reducible rfl))
        simp only [Act.put, pz0, pz1, pz2, pz3, pz4, pz5]
        refine wpAnyH_take (i := 21) (v := ?v43) rfl (by kernel_rfl) (by kernel_rfl) (by kernel_rfl) (fun _ _ _ h => h) (Or.inl ⟨by rfl, ?hy43⟩) hHeld ?rest43
        case hy43 => (intro w' hSw; (try dsimp only at hSw); first | (go_simp; done) | (go_simp; with_reducible rfl))
        simp only [Act.put, pz0, pz1, pz2, pz3, pz4, pz5]
        refine wpAnyH_take (i := 22) (v := ?v44) rfl (by kernel_rfl) (by kernel_rfl) (by kernel_rfl) (fun _ _ _ h => h) (Or.inl ⟨by rfl, ?hy44⟩) hHeld ?rest44
        case hy44 => (intro w' hSw; (try dsimp only at hSw); first | (go_simp; done) | (go_simp; with_reducible rfl))
        simp only [Act.put, pz0, pz1, pz2, pz3, pz4, pz5]
        refine wpAnyH_take (i := 23) (v := ?v45) rfl (by kernel_rfl) (by kernel_rfl) (by kernel_rfl) (fun _ _ _ h => h) (Or.inl ⟨by rfl, ?hy45⟩) hHeld ?rest45
        case hy45 => (intro w' hSw; (try dsimp only at hSw); first | (go_simp; done) | (go_simp; with_reducible rfl))
        simp only [Act.put, pz0, pz1, pz2, pz3, pz4, pz5]
        refine wpAnyH_take (i := 24) (v := ?v46) rfl (by kernel_rfl) (by kernel_rfl) (by kernel_rfl) (fun _ _ _ h => h) (Or.inl ⟨by rfl, ?hy46⟩) hHeld ?rest46
        case hy46 => (intro w' hSw; (try dsimp only at hSw); first | (go_simp; done) | (go_simp; with_reducible rfl))
        simp only [Act.put, pz0, pz1, pz2, pz3, pz4, pz5]
        refine wpAnyH_take (i := 25) (v := ?v47) rfl (by kernel_rfl) (by kernel_rfl) (by kernel_rfl) (fun _ _ _ h => h) (Or.inl ⟨by rfl, ?hy47⟩) hHeld ?rest47
        case hy47 => (intro w' hSw; (try dsimp only at hSw); first | (go_simp; done) | (go_simp; with_reducible rfl))
        simp only [Act.put, pz0, pz1, pz2, pz3, pz4, pz5]
        refine wpAnyH_take (i := 26) (v := ?v48) rfl (by kernel_rfl) (by kernel_rfl) (by kernel_rfl) (fun _ _ _ h => h) (Or.inl ⟨by rfl, ?hy48⟩) hHeld ?rest48
        case hy48 => (intro w' hSw; (try dsimp only at hSw); first | (go_simp; done) | (go_simp; with_reducible rfl))
        simp only [Act.put, pz0, pz1, pz2, pz3, pz4, pz5]
        refine wpAnyH_take (i := 27) (v := ?v49) rfl (by kernel_rfl) (by kernel_rfl) (by kernel_rfl) (fun _ _ _ h => h) (Or.inl ⟨by rfl, ?hy49⟩) hHeld ?rest49
        case hy49 => (intro w' hSw; (try dsimp only at hSw); first | (go_simp; done) | (go_simp; with_reducible rfl))
        simp only [Act.put, pz0, pz1, pz2, pz3, pz4, pz5]
        refine wpAnyH_done (by kernel_rfl) ?_ _
        refine NoPanic.normal ?_
        have hz := hb.drew.trans (hqd.mono hb.drew.size)
        have rz := hr.drew.below hqd
        clear hHeld p0 p1 p2 d1 q1
        go_wp2_with fail
        go_roundw
        case rel => exact ⟨k + 1, by omega, by go_num, Lib.hid HA.out, rz, hz⟩
        case measure => simp [intOf]; omega
      · skip
        have HV := Lib.hid hv1
        have HF := Lib.hid (hno (by unfold fitsB; rw [e0, show (row[k].k == cols[k].kind) = false by simpa using hk2]; simp))
        have e2 : (row[k].k == cols[k].kind) = false := by simpa using hk2
        have e3 : (row[k].k != cols[k].kind) = true := by simpa using hk2
        clear hsn hno hall hv1 h0 hk2
        go_wp2_with fail
        refine wp_region_noPanic ?_
        refine wp_region_held_drew (S := fun w' => w'.cell? ⟨b2, off2 + k * 3, none⟩ = some (.int .i64 row[k].k) /\ w'.cell? ⟨b2, off2 + k * 3 + 1, none⟩ = some (.int .i64 row[k].n) /\ w'.cell? ⟨b2, off2 + k * 3 + 2, none⟩ = some (.string row[k].s) /\ w'.cell? ⟨w.heap.size, 1, none⟩ = some (.slice (some ⟨b, off, none⟩) cols.length c1) /\ w'.cell? ⟨b, off + k * 6 + 1, none⟩ = some (.int .i64 cols[k].kind)) (by kernel_rfl) ⟨p0, p1, p2, d1, q1⟩ (fun hHeld => ?_)
        refine wpAnyH_take (i := 0) (v := ?v50) rfl (by kernel_rfl) (by kernel_rfl) (by kernel_rfl) (fun _ _ _ h => h) (Or.inl ⟨by rfl, ?hy50⟩) hHeld ?rest50
        case hy50 => (intro w' hSw; (try dsimp only at hSw); first | (go_simp; done) | (go_simp; with_reducible rfl))
        simp only [Act.put, pz0, pz1, pz2, pz3, pz4, pz5]
        refine wpAnyH_take (i := 1) (v := ?v51) rfl (by kernel_rfl) (by kernel_rfl) (by kernel_rfl) (fun _ _ _ h => h) (Or.inl ⟨by rfl, ?hy51⟩) hHeld ?rest51
        case hy51 => (intro w' hSw; (try dsimp only at hSw); first | (go_simp; done) | (go_simp; with_reducible rfl))
        simp only [Act.put, pz0, pz1, pz2, pz3, pz4, pz5]
        refine wpAnyH_take (i := 2) (v := ?v52) rfl (by kernel_rfl) (by kernel_rfl) (by kernel_rfl) (fun _ _ _ h => h) (Or.inl ⟨by rfl, ?hy52⟩) hHeld ?rest52
        case hy52 => (intro w' hSw; (try dsimp only at hSw); first | (go_simp; done) | (go_simp; with_reducible rfl))
        simp only [Act.put, pz0, pz1, pz2, pz3, pz4, pz5]
        refine wpAnyH_take (i := 3) (v := ?v53) rfl (by kernel_rfl) (by kernel_rfl) (by kernel_rfl) (fun _ _ _ h => h) (Or.inl ⟨by rfl, ?hy53⟩) hHeld ?rest53
        case hy53 => (intro w' hSw; (try dsimp only at hSw); first | (go_simp; done) | (go_simp; with_reducible rfl))
        simp only [Act.put, pz0, pz1, pz2, pz3, pz4, pz5]
        refine wpAnyH_ready (rs := [4]) (by kernel_rfl) (by simp) ?_
        refine AllReadyH.cons rfl (fun K hK => ?_) AllReadyH.nil
        go_simp
        refine (specValOk _ _ _ _).mono ?_
        rintro e wd ⟨rfl, hqd⟩
        rw [HV.out]
        go_wp2_with fail
        refine hK.out _ _ (keepF hHeld hqd) (fun hHeld => ?_)
        clear hK K
        (try simp only [Act.put, pz0, pz1, pz2, pz3, pz4, pz5])
        refine wpAnyH_take (i := 5) (v := ?v54) rfl (by kernel_rfl) (by kernel_rfl) (by kernel_rfl) (fun _ _ _ h => h) (Or.inl ⟨by rfl, ?hy54⟩) hHeld ?rest54
        case hy54 => (intro w' hSw; (try dsimp only at hSw); first | (go_simp; done) | (go_simp; with_reducible rfl))
        simp only [Act.put, pz0, pz1, pz2, pz3, pz4, pz5]
        refine wpAnyH_take (i := 6) (v := ?v55) rfl (by kernel_rfl) (by kernel_rfl) (by kernel_rfl) (fun _ _ _ h => h) (Or.inl ⟨by rfl, ?hy55⟩) hHeld ?rest55
        case hy55 => (intro w' hSw; (try dsimp only at hSw); first | (go_simp; done) | (go_simp; with_reducible rfl))
        simp only [Act.put, pz0, pz1, pz2, pz3, pz4, pz5]
        refine wpAnyH_take (i := 7) (v := ?v56) rfl (by kernel_rfl) (by kernel_rfl) (by kernel_rfl) (fun _ _ _ h => h) (Or.inl ⟨by rfl, ?hy56⟩) hHeld ?rest56
        case hy56 => (intro w' hSw; (try dsimp only at hSw); first | (go_simp; done) | (go_simp; with_reducible rfl))
        simp only [Act.put, pz0, pz1, pz2, pz3, pz4, pz5]
        refine wpAnyH_take (i := 8) (v := ?v57) rfl (by kernel_rfl) (by kernel_rfl) (by kernel_rfl) (fun _ _ _ h => h) (Or.inl ⟨by rfl, ?hy57⟩) hHeld ?rest57
        case hy57 => (intro w' hSw; (try dsimp only at hSw); first | (go_simp; done) | (go_simp; with_reducible rfl))
        simp only [Act.put, pz0, pz1, pz2, pz3, pz4, pz5]
        refine wpAnyH_take (i := 9) (v := ?v58) rfl (by kernel_rfl) (by kernel_rfl) (by kernel_rfl) (fun _ _ _ h => h) (Or.inl ⟨by rfl, ?hy58⟩) hHeld ?rest58
        case hy58 => (intro w' hSw; (try dsimp only at hSw); first | (go_simp; done) | (go_simp; with_reducible rfl))
        simp only [Act.put, pz0, pz1, pz2, pz3, pz4, pz5]
        refine wpAnyH_take (i := 10) (v := ?v59) rfl (by kernel_rfl) (by kernel_rfl) (by kernel_rfl) (fun _ _ _ h => h) (Or.inl ⟨by rfl, ?hy59⟩) hHeld ?rest59
        case hy59 => (intro w' hSw; (try dsimp only at hSw); first | (go_simp; done) | (go_simp; with_reducible rfl))
        simp only [Act.put, pz0, pz1, pz2, pz3, pz4, pz5]
        refine wpAnyH_take (i := 11) (v := ?v60) rfl (by kernel_rfl) (by kernel_rfl) (by kernel_rfl) (fun _ _ _ h => h) (Or.inl ⟨by rfl, ?hy60⟩) hHeld ?rest60
        case hy60 => (intro w' hSw; (try dsimp only at hSw); first | (go_simp; done) | (go_simp; with_reducible rfl))
        simp only [Act.put, pz0, pz1, pz2, pz3, pz4, pz5]
        refine wpAnyH_take (i := 12) (v := ?v61) rfl (by kernel_rfl) (by kernel_rfl) (by kernel_rfl) (fun _ _ _ h => h) (Or.inl ⟨by rfl, ?hy61⟩) hHeld ?rest61
        case hy61 => (intro w' hSw; (try dsimp only at hSw); first | (go_simp; done) | (go_simp; with_reducible rfl))
        simp only [Act.put, pz0, pz1, pz2, pz3, pz4, pz5]
        refine wpAnyH_take (i := 13) (v := ?v62) rfl (by kernel_rfl) (by kernel_rfl) (by kernel_rfl) (fun _ _ _ h => h) (Or.inl ⟨by rfl, ?hy62⟩) hHeld ?rest62
        case hy62 => (intro w' hSw; (try dsimp only at hSw); first | (go_simp; done) | (go_simp; with_reducible rfl))
        simp only [Act.put, pz0, pz1, pz2, pz3, pz4, pz5]
        refine wpAnyH_take (i := 14) (v := ?v63) rfl (by kernel_rfl) (by kernel_rfl) (by kernel_rfl) (fun _ _ _ h => h) (Or.inl ⟨by rfl, ?hy63⟩) hHeld ?rest63
        case hy63 => (intro w' hSw; (try dsimp only at hSw); first | (go_simp; done) | (go_simp; with_reducible rfl))
        simp only [Act.put, pz0, pz1, pz2, pz3, pz4, pz5]
        refine wpAnyH_take (i := 15) (v := ?v64) rfl (by kernel_rfl) (by kernel_rfl) (by kernel_rfl) (fun _ _ _ h => h) (Or.inl ⟨by rfl, ?hy64⟩) hHeld ?rest64
        case hy64 => (intro w' hSw; (try dsimp only at hSw); first | (go_simp; done) | (go_simp; with_reducible rfl))
        simp only [Act.put, pz0, pz1, pz2, pz3, pz4, pz5]
        refine wpAnyH_take (i := 16) (v := ?v65) rfl (by kernel_rfl) (by kernel_rfl) (by kernel_rfl) (fun _ _ _ h => h) (Or.inl ⟨by rfl, ?hy65⟩) hHeld ?rest65
        case hy65 => (intro w' hSw; (try dsimp only at hSw); first | (go_simp; done) | (go_simp; with_reducible rfl))
        simp only [Act.put, pz0, pz1, pz2, pz3, pz4, pz5]
        refine wpAnyH_take (i := 17) (v := ?v66) rfl (by kernel_rfl) (by kernel_rfl) (by kernel_rfl) (fun _ _ _ h => h) (Or.inl ⟨by rfl, ?hy66⟩) hHeld ?rest66
        case hy66 => (intro w' hSw; (try dsimp only at hSw); first | (go_simp; done) | (go_simp; with_reducible rfl))
        simp only [Act.put, pz0, pz1, pz2, pz3, pz4, pz5]
        refine wpAnyH_take (i := 18) (v := ?v67) rfl (by kernel_rfl) (by kernel_rfl) (by kernel_rfl) (fun _ _ _ h => h) (Or.inl ⟨by rfl, ?hy67⟩) hHeld ?rest67
        case hy67 => (intro w' hSw; (try dsimp only at hSw); first | (go_simp; done) | (go_simp; with_reducible rfl))
        simp only [Act.put, pz0, pz1, pz2, pz3, pz4, pz5]
        refine wpAnyH_take (i := 19) (v := ?v68) rfl (by kernel_rfl) (by kernel_rfl) (by kernel_rfl) (fun _ _ _ h => h) (Or.inl ⟨by rfl, ?hy68⟩) hHeld ?rest68
        case hy68 => (intro w' hSw; (try dsimp only at hSw); first | (go_simp; done) | (go_simp; with_reducible rfl))
        simp only [Act.put, pz0, pz1, pz2, pz3, pz4, pz5]
        refine wpAnyH_take (i := 20) (v := ?v69) rfl (by kernel_rfl) (by kernel_rfl) (by kernel_rfl) (fun _ _ _ h => h) (Or.inl ⟨by rfl, ?hy69⟩) hHeld ?rest69
        case hy69 => (intro w' hSw; (try dsimp only at hSw); first | (go_simp; done) | (go_simp; with_reducible rfl))
        simp only [Act.put, pz0, pz1, pz2, pz3, pz4, pz5]
        refine wpAnyH_take (i := 21) (v := ?v70) rfl (by kernel_rfl) (by kernel_rfl) (by kernel_rfl) (fun _ _ _ h => h) (Or.inl ⟨by rfl, ?hy70⟩) hHeld ?rest70
        case hy70 => (intro w' hSw; (try dsimp only at hSw); first | (go_simp; done) | (go_simp; with_reducible rfl))
        simp only [Act.put, pz0, pz1, pz2, pz3, pz4, pz5]
        refine wpAnyH_take (i := 22) (v := ?v71) rfl (by kernel_rfl) (by kernel_rfl) (by kernel_rfl) (fun _ _ _ h => h) (Or.inl ⟨by rfl, ?hy71⟩) hHeld ?rest71
        case hy71 => (intro w' hSw; (try dsimp only at hSw); first | (go_simp; done) | (go_simp; with_reducible rfl))
        simp only [Act.put, pz0, pz1, pz2, pz3, pz4, pz5]
        refine wpAnyH_take (i := 23) (v := ?v72) rfl (by kernel_rfl) (by kernel_rfl) (by kernel_rfl) (fun _ _ _ h => h) (Or.inl ⟨by rfl, ?hy72⟩) hHeld ?rest72
        case hy72 => (intro w' hSw; (try dsimp only at hSw); first | (go_simp; done) | (go_simp; with_reducible rfl))
        simp only [Act.put, pz0, pz1, pz2, pz3, pz4, pz5]
        refine wpAnyH_take (i := 24) (v := ?v73) rfl (by kernel_rfl) (by kernel_rfl) (by kernel_rfl) (fun _ _ _ h => h) (Or.inl ⟨by rfl, ?hy73⟩) hHeld ?rest73
        case hy73 => (intro w' hSw; (try dsimp only at hSw); first | (go_simp; done) | (go_simp; with_reducible rfl))
        simp only [Act.put, pz0, pz1, pz2, pz3, pz4, pz5]
        refine wpAnyH_take (i := 25) (v := ?v74) rfl (by kernel_rfl) (by kernel_rfl) (by kernel_rfl) (fun _ _ _ h => h) (Or.inl ⟨by rfl, ?hy74⟩) hHeld ?rest74
        case hy74 => (intro w' hSw; (try dsimp only at hSw); first | (go_simp; done) | (go_simp; with_reducible rfl))
        simp only [Act.put, pz0, pz1, pz2, pz3, pz4, pz5]
        refine wpAnyH_take (i := 26) (v := ?v75) rfl (by kernel_rfl) (by kernel_rfl) (by kernel_rfl) (fun _ _ _ h => h) (Or.inl ⟨by rfl, ?hy75⟩) hHeld ?rest75
        case hy75 => (intro w' hSw; (try dsimp only at hSw); first | (go_simp; done) | (go_simp; with_reducible rfl))
        simp only [Act.put, pz0, pz1, pz2, pz3, pz4, pz5]
        refine wpAnyH_take (i := 27) (v := ?v76) rfl (by kernel_rfl) (by kernel_rfl) (by kernel_rfl) (fun _ _ _ h => h) (Or.inl ⟨by rfl, ?hy76⟩) hHeld ?rest76
        case hy76 => (intro w' hSw; (try dsimp only at hSw); first | (go_simp; done) | (go_simp; with_reducible rfl))
        simp only [Act.put, pz0, pz1, pz2, pz3, pz4, pz5]
        refine wpAnyH_done (by kernel_rfl) ?_ _
        refine NoPanic.normal ?_
        have hz := hb.drew.trans (hqd.mono hb.drew.size)
        have rz := hr.drew.below hqd
        clear hHeld p0 p1 p2 d1 q1
        go_wp2_with fail
        go_ret
        exact ⟨retB HF.out.symm, hz⟩
    · have e : (cols.zip row).take k = cols.zip row := List.take_of_length_le (by rw [HZ.out]; omega)
      have h1 := hall.out
      rw [e] at h1
      have HF := Lib.hid (show kindsB cols row = true by rw [HE.out]; exact h1)
      have i3 : ¬ (k : Int) < row.length := by have := HL.out; omega
      clear e h1 hall
      go_wp2
      go_ret
      exact ⟨retB HF.out.symm, hb⟩
end Go.Proofs.YtlpldhmanihnnaaGreat
namespace Go.Proofs.YtlpldhmanihnnaaGreat
open Go.RowKit
theorem run_app {P : Program} (w : World) (base : Nat) (t ty e : TypeId) (i : TypeInfo) (z : Value) (size bytes : Nat) (ht : P.underlying t = some (.slice e)) (hi : P.info? e = some i) (hz : i.zero = some z)
    (hsize : i.size = size) (hby : i.bytes = bytes) (hzs : z.cells.size = size) (hsz : 0 < size)
    (b : Addr) (n cp : Nat) (xs : List Value) (hown : w.ownsRow base e size (.slice (some b) n cp) n xs)
    (a : Addr) (m c : Nat) (news : List Value) (hl : news.length = m * size) (hnews : ∀ j u, news[j]? = some u -> w.cell? (a.add j) = some u) (h1 : ∀ u ∈ news, u.oneCell' = true)
    (h63 : n + m <= maxLen) (hbytes : (n + m) * bytes <= 140737488355328) (hbase : base <= w.heap.size) :
    ∃ g cap w', (Builtin.append_ #[t, t] ty #[.slice (some b) n cp, .slice (some a) m c]).run P w = .ok (.slice (some ⟨g, 0, none⟩) (n + m) cap) w' /\ w'.ownsRow base e size (.slice (some ⟨g, 0, none⟩) (n + m) cap) (n + m) (xs ++ news) /\ w.grownBy w' (some b.block) /\ base <= g := by
  obtain ⟨v', w', hrun, ho, hg, hnil, _⟩ := run_append_own_at (P := P) w base t ty e i z size bytes ht hi hz hsize hby hzs hsz _ n xs hown a m c news hl hnews h1 h63 hbytes hbase
  rcases ho.2 with ⟨rfl, _⟩ | ⟨g, cap, cur, rfl, hbg, _⟩
  · have := (hnil.1 rfl).1
    cases this
  · exact ⟨g, cap, w', hrun, ho, hg, hbg⟩
theorem step_app {P : Program} {w : World} {ops : Array Oper} {o : Oper} {a : Act} {K : Act -> World -> Prop} {Q : Exit -> Act -> World -> Prop} {E : Prop} (hgd : o.guard = none) (s x : Operand) (t : TypeId)
    (ho : o.op = .call { callee := .builtin .append, args := #[s, x], argTypes := #[t, t] })
    (base : Nat) (e : TypeId) (i : TypeInfo) (z : Value) (size bytes : Nat) (ht : P.underlying t = some (.slice e)) (hi : P.info? e = some i) (hz : i.zero = some z)
    (hsize : i.size = size) (hby : i.bytes = bytes) (hzs : z.cells.size = size) (hsz : 0 < size)
    (b : Addr) (n cp : Nat) (xs : List Value) (hs : a.eval s = .slice (some b) n cp) (hown : w.ownsRow base e size (.slice (some b) n cp) n xs)
    (ad : Addr) (m c : Nat) (news : List Value) (hx : a.eval x = .slice (some ad) m c) (hl : news.length = m * size) (hnews : ∀ j u, news[j]? = some u -> w.cell? (ad.add j) = some u) (h1 : ∀ u ∈ news, u.oneCell' = true)
    (h63 : n + m <= maxLen) (hbytes : (n + m) * bytes <= 140737488355328) (hbase : base <= w.heap.size)
    (h : ∀ g cap w', w'.ownsRow base e size (.slice (some ⟨g, 0, none⟩) (n + m) cap) (n + m) (xs ++ news) -> w.grownBy w' (some b.block) -> base <= g -> K (a.put o.dst (.slice (some ⟨g, 0, none⟩) (n + m) cap)) w') :
    if Region.wanted o (yielded ops a.tmps) = true then Oper.wp P o a w K Q else E := by
  have hw : Region.wanted o (yielded ops a.tmps) = true := by simp [Region.wanted, hgd]
  rw [if_pos hw]
  obtain ⟨g, cap, w', hrun, h2, h3, h4⟩ := run_app (P := P) w base t o.type e i z size bytes ht hi hz hsize hby hzs hsz b n cp xs hown ad m c news hl hnews h1 h63 hbytes hbase
  unfold Oper.wp execOp
  simp only [ho, resolve, invoke, builtin, Sem.run_bind, Sem.run_pure, Result.andThen_ok, List.map_toArray, List.map_cons, List.map_nil, hs, hx, hrun]
  exact h g cap w' h2 h3 h4
theorem cellz_of_owns {w : World} {base : Nat} {e : TypeId} {sz n cap g : Nat} {xs : List Value} {xss : List (List Value)} (h : w.ownsRow base e sz (.slice (some ⟨g, 0, none⟩) n cap) n xs) (hx : xs = xss.flatten) (hn : xss.length = n) (hz : ∀ c ∈ xss, c.length = sz) :
    Cellz w sz (some ⟨g, 0, none⟩) n xss /\ n <= cap /\ cap <= maxLen := by
  rcases h.2 with ⟨e', _⟩ | ⟨g', cap', cur, e', _, hh, h1, h2, h3, h4⟩
  · cases e'
  · cases e'
    refine ⟨⟨hn, hz, fun _ => ⟨g, 0, rfl, fun i hi j hj => ?_⟩⟩, h1, h2⟩
    rw [Nat.zero_add, cell_of_row _ _ _ _ _ _ hh]
    have hflat : ∀ (l : List (List Value)) (i j : Nat) (hi : i < l.length) (hj : j < (l[i]).length), (∀ c ∈ l, c.length = sz) -> l.flatten[i * sz + j]? = some (l[i])[j] := by
      intro l
      induction l with
      | nil => intro i j hi; simp at hi
      | cons c cs ih =>
        intro i j hi hj hz'
        have hc := hz' c (by simp)
        cases i with
        | zero => simp only [List.getElem_cons_zero] at hj ⊢; simp [List.getElem?_append_left hj, hj]
        | succ i =>
          simp only [List.getElem_cons_succ] at hj ⊢
          rw [List.flatten_cons, List.getElem?_append_right (by rw [hc, Nat.add_mul]; omega), hc, show (i + 1) * sz + j - sz = i * sz + j by rw [Nat.add_mul]; omega]
          exact ih i j (by simpa using hi) hj fun d hd => hz' d (by simp [hd])
    have hf := hflat xss i j hi hj hz
    rw [<- hx, <- h4] at hf
    rw [<- Array.getElem?_toList]
    rw [List.getElem?_take] at hf
    split at hf
    · exact hf
    · cases hf
def OwnVals (w : World) (base g n cp : Nat) (vs : List Vl) : Prop := w.ownsRow base 179 3 (.slice (some ⟨g, 0, none⟩) n cp) n ((vs.map Vl.cells).flatten)
theorem flat3_length (vs : List Vl) : ((vs.map Vl.cells).flatten).length = vs.length * 3 := by
  induction vs with
  | nil => rfl
  | cons v vs ih => simp only [List.map_cons, List.flatten_cons, List.length_append, ih, List.length_cons, Vl.cells, List.length_nil]; omega
theorem own0 {w : World} {base g : Nat} (h : Row w g 179 #[]) (hb : base <= g) : OwnVals w base g 0 0 [] :=
  ⟨rfl, .inr ⟨g, 0, #[], rfl, hb, h, Nat.le_refl _, by simp [maxLen], rfl, rfl⟩⟩
theorem OwnVals.vals {w : World} {base g n cp : Nat} {vs : List Vl} (h : OwnVals w base g n cp vs) (hn : vs.length = n) : Vals w (some ⟨g, 0, none⟩) n vs /\ n <= cp /\ cp <= maxLen :=
  cellz_of_owns h rfl (by simpa using hn) (fun c hc => by obtain ⟨v, _, rfl⟩ := List.mem_map.1 hc; rfl)
theorem OwnVals.alloc {w : World} {base g n cp : Nat} {vs : List Vl} (h : OwnVals w base g n cp vs) (o : Obj) : OwnVals (w.alloc o) base g n cp vs := World.ownsRow.alloc h o
theorem vals_one {w : World} {g : Nat} {v : Vl} (h : Row w g 179 #[.int .i64 v.k, .int .i64 v.n, .string v.s]) : Vals w (some ⟨g, 0, none⟩) 1 [v] := by
  obtain ⟨⟨c0, c1, c2⟩, -⟩ := h.three
  refine ⟨rfl, by simp [Vl.cells], fun _ => ⟨g, 0, rfl, fun i hi j hj => ?_⟩⟩
  have hi0 : i = 0 := by simp at hi; omega
  subst hi0
  have hj3 : j < 3 := by simpa [Vl.cells] using hj
  have : j = 0 \/ j = 1 \/ j = 2 := by omega
  rcases this with rfl | rfl | rfl <;> simpa [Vl.cells]
theorem Vals.take {w : World} {A : Option Addr} {n m : Nat} {vs : List Vl} (h : Vals w A n vs) (hm : m <= n) : Vals w A m (vs.take m) := by
  have hl := h.len
  refine ⟨by simp; omega, fun c hc => by obtain ⟨v, _, rfl⟩ := List.mem_map.1 hc; rfl, fun hn => ?_⟩
  obtain ⟨b, off, e, hc⟩ := h.2.2 (by omega)
  refine ⟨b, off, e, fun i hi j hj => ?_⟩
  simp only [List.length_map, List.length_take] at hi
  have := hc i (by simp; omega) j (by simpa using hj)
  simpa using this
theorem Vals.news {w : World} {ad : Addr} {m : Nat} {us : List Vl} (h : Vals w (some ad) m us) (hs : ad.spot = none) : ∀ j u, ((us.map Vl.cells).flatten)[j]? = some u -> w.cell? (ad.add j) = some u := by
  intro j u hu
  obtain ⟨b, off, sp⟩ := ad
  simp only at hs
  subst hs
  have hl := h.len
  have hj : j < us.length * 3 := by rw [<- flat3_length]; exact (List.getElem?_eq_some_iff.1 hu).1
  have h0 : 0 < m := by omega
  obtain ⟨b', off', e, hc⟩ := h.2.2 h0
  cases e
  rw [addr_add]
  have hflat : ∀ (l : List Vl) (i k : Nat), k < 3 -> i < l.length -> ((l.map Vl.cells).flatten)[i * 3 + k]? = (l[i]?.bind fun v => v.cells[k]?) := by
    intro l
    induction l with
    | nil => intro i k _ hi; simp at hi
    | cons v l ih =>
      intro i k hk hi
      cases i with
      | zero => simp only [List.map_cons, List.flatten_cons, Nat.zero_mul, Nat.zero_add, List.getElem?_cons_zero, Option.bind_some]; rw [List.getElem?_append_left (by simpa [Vl.cells] using hk)]
      | succ i =>
        simp only [List.map_cons, List.flatten_cons, List.getElem?_cons_succ]
        rw [List.getElem?_append_right (by simp [Vl.cells]; omega), show (i + 1) * 3 + k - v.cells.length = i * 3 + k by simp [Vl.cells]; omega]
        exact ih i k hk (by simpa using hi)
  have hd : j / 3 < us.length := by omega
  have he : j = j / 3 * 3 + j % 3 := by omega
  have hm3 : j % 3 < 3 := by omega
  rw [he, hflat us _ _ hm3 hd, List.getElem?_eq_getElem hd] at hu
  simp only [Option.bind_some] at hu
  obtain ⟨hk, hv⟩ := List.getElem?_eq_some_iff.1 hu
  have := hc (j / 3) (by simpa using hd) (j % 3) (by simpa using hk)
  rw [he, this]
  simp [<- hv]
theorem infoVl : ∃ (i : TypeInfo) (z : Value), Tryz.prog.info? 179 = some i /\ i.zero = some z /\ i.size = 3 /\ i.bytes = 32 /\ z.cells.size = 3 := by
  obtain ⟨i, h1, h2, h3, h4⟩ := info_parts infoVal
  exact ⟨i, _, h1, h2, h3, h4, rfl⟩
theorem step_app_vals {w : World} {ops : Array Oper} {o : Oper} {a : Act} {K : Act -> World -> Prop} {Q : Exit -> Act -> World -> Prop} {E : Prop} (hgd : o.guard = none) (s x : Operand)
    (ho : o.op = .call { callee := .builtin .append, args := #[s, x], argTypes := #[150, 150] })
    (base g n cp : Nat) (vs : List Vl) (hs : a.eval s = .slice (some ⟨g, 0, none⟩) n cp) (hown : OwnVals w base g n cp vs)
    (ad : Addr) (m c : Nat) (us : List Vl) (hx : a.eval x = .slice (some ad) m c) (hsp : ad.spot = none) (hu : Vals w (some ad) m us) (hsm : n + m <= 1000000) (hbase : base <= w.heap.size)
    (h : ∀ g' cap w', OwnVals w' base g' (n + m) cap (vs ++ us) -> w.grownBy w' (some g) -> base <= g' -> K (a.put o.dst (.slice (some ⟨g', 0, none⟩) (n + m) cap)) w') :
    if Region.wanted o (yielded ops a.tmps) = true then Oper.wp Tryz.prog o a w K Q else E := by
  obtain ⟨i, z, h1, h2, h3, h4, h5⟩ := infoVl
  refine step_app hgd s x 150 ho base 179 i z 3 32 Tryz.underlying150 h1 h2 h3 h4 h5 (by omega) ⟨g, 0, none⟩ n cp _ hs hown ad m c _ hx ?_ (Vals.news hu hsp) ?_ (by unfold maxLen; omega) (by omega) hbase ?_
  · rw [flat3_length, hu.len]
  · intro u hu'
    rw [List.mem_flatten] at hu'
    obtain ⟨c, hc, hu'⟩ := hu'
    obtain ⟨v, _, rfl⟩ := List.mem_map.1 hc
    simp only [Vl.cells, List.mem_cons, List.not_mem_nil, or_false] at hu'
    rcases hu' with rfl | rfl | rfl <;> rfl
  · intro g' cap w' ho' hg' hb'
    refine h g' cap w' ?_ hg' hb'
    unfold OwnVals
    rw [List.map_append, List.flatten_append]
    exact ho'
theorem step_app_vals0 {w : World} {ops : Array Oper} {o : Oper} {a : Act} {K : Act -> World -> Prop} {Q : Exit -> Act -> World -> Prop} {E : Prop} (hgd : o.guard = none) (s x : Operand)
    (ho : o.op = .call { callee := .builtin .append, args := #[s, x], argTypes := #[150, 150] })
    (base g : Nat) (hs : a.eval s = .slice (some ⟨g, 0, none⟩) 0 0) (hrow : Row w g 179 #[]) (hbg : base <= g)
    (ad : Addr) (m c : Nat) (us : List Vl) (hx : a.eval x = .slice (some ad) m c) (hsp : ad.spot = none) (hu : Vals w (some ad) m us) (hsm : m <= 1000000) (hbase : base <= w.heap.size)
    (h : ∀ g' cap w', OwnVals w' base g' m cap us -> w.grownBy w' (some g) -> base <= g' -> K (a.put o.dst (.slice (some ⟨g', 0, none⟩) m cap)) w') :
    if Region.wanted o (yielded ops a.tmps) = true then Oper.wp Tryz.prog o a w K Q else E := by
  refine step_app_vals hgd s x ho base g 0 0 [] hs (own0 hrow hbg) ad m c us hx hsp hu (by omega) hbase ?_
  intro g' cap w' h1 h2 h3
  rw [Nat.zero_add] at h1 ⊢
  exact h g' cap w' h1 h2 h3
theorem grown_below {base g : Nat} {w w' : World} (h : w.grownBy w' (some g)) (hg : base <= g) (hw : base <= w.heap.size) : Below base w w' :=
  ⟨h.os, h.tape, h.output, h.size, fun k hk => h.block k (by omega) (by intro e; cases e; omega)⟩
theorem grown_row {w w' : World} {g b : Nat} {T : TypeId} {cs : Array Value} (h : w.grownBy w' (some g)) (hr : Row w b T cs) (hne : b ≠ g) : Row w' b T cs :=
  (h.block b (lt_of_block hr) (by intro e; cases e; exact hne rfl)).trans hr
theorem keep3g {w w' : World} {g : Nat} {a0 a1 a2 : Addr} {v0 v1 v2 : Value} (h : w.cell? a0 = some v0 /\ w.cell? a1 = some v1 /\ w.cell? a2 = some v2) (hg : w.grownBy w' (some g)) (n0 : a0.block ≠ g) (n1 : a1.block ≠ g) (n2 : a2.block ≠ g) : w'.cell? a0 = some v0 /\ w'.cell? a1 = some v1 /\ w'.cell? a2 = some v2 :=
  ⟨hg.cell h.1 (by intro e; cases e; exact n0 rfl), hg.cell h.2.1 (by intro e; cases e; exact n1 rfl), hg.cell h.2.2 (by intro e; cases e; exact n2 rfl)⟩
end Go.Proofs.YtlpldhmanihnnaaGreat
