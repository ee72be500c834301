/-
  Several texts in one: what the proof leans on, part 3.
-/
import Derived.Test.YtlpldhmanihnnaaGreatYa
import Derived.Test.YtlpldhmanihnnaaGreatXa
import Derived.Test.YtlpldhmanihnnaaGreatXb
import Derived.Test.YtlpldhmanihnnaaGreatXc
import Derived.Test.YtlpldhmanihnnaaGreatXe
import Derived.Shelf.SortM.Plain
import Derived.Shelf.SortM.SortNone
import Derived.Shelf.SlicesG.CompactI
import Derived.Sort.OwnSortedInts
import Derived.Laws.AppendOwnNone
set_option linter.unusedVariables false
set_option linter.unusedSimpArgs false
namespace Go.Proofs.YtlpldhmanihnnaaGreat
open Go.RowKit Go.Maps
def twiceB (cols : List Int) (rows : List Rw) (x : Rw) : Bool := knownL (keyL cols x.vals) && (findL cols (keyL cols x.vals) rows).any (fun i => i != x.id)
def uniqueB (t : Tb) (rows : List Rw) (x : Rw) : Bool := !(twiceB t.key rows x) && t.uniqs.all (fun u => !(twiceB u.cols rows x))
theorem any_take_ne (l : List Int) (v : Int) (k : Nat) (h : k < l.length) : (l.take (k + 1)).any (fun i => i != v) = ((l.take k).any (fun i => i != v) || (l[k] != v)) := by
  rw [List.take_succ_eq_append_getElem h, List.any_append]; simp
theorem any_at_ne {l : List Int} {v : Int} {k : Nat} (h : k < l.length) (he : (l[k] != v) = true) : l.any (fun i => i != v) = true := by
  rw [List.any_eq_true]
  exact ⟨l[k], List.getElem_mem h, he⟩
set_option maxRecDepth 100000 in
set_option maxHeartbeats 2000000 in
theorem specL5Twice (AL AC AX : Option Addr) (nL cL nC cC nX cX : Nat) (rows : List Rw) (cols : List Int) (x : Rw) (ok okc okx : Nat -> Prop) (w : World)
    (hr : Sl RwR 2 ok w AL nL rows) (hc : Sl IntR 1 okc w AC nC cols) (hx : Sl VlR 3 okx w AX nX x.vals) (hrn : nL <= 1048576) (hcn : nC <= 1048576) (hxn : nX <= 1048576) (hvn : ∀ r ∈ rows, r.vals.length <= 1048576) (hall : ∀ r ∈ rows, cols.all (inV r.vals) = true) (hxa : cols.all (inV x.vals) = true) :
    Calls Tryz.prog 179 #[.agg #[.slice AL nL cL], .slice AC nC cC, .agg #[.int .i64 x.id, .slice AX nX cX]] w fun e w' => e = .returned (.bool (twiceB cols rows x)) /\ Below w.heap.size w w' := by
  obtain rfl : rows.length = nL := hr.1
  have HVN := Lib.hid hvn
  have HALL := Lib.hid hall
  have HXA := Lib.hid hxa
  have HRL := Lib.hid hrn
  clear hvn hall hxa
  have hb0 := (((Below.refl w.heap.size w).alloc (Nat.le_refl _) (.cells #[.slice AL rows.length cL] 90)).alloc (by simp) (.cells #[.int .i64 x.id, .slice AX nX cX] 152))
  have rd := (Row.new w 90 #[.slice AL rows.length cL]).alloc (.cells #[.int .i64 x.id, .slice AX nX cX] 152)
  have rx := Row.newAt (w.alloc (.cells #[.slice AL rows.length cL] 90)) 152 #[.int .i64 x.id, .slice AX nX cX] (w.heap.size + 1) (by simp)
  obtain ⟨c0, -⟩ := rd.all1
  obtain ⟨⟨d0, d1⟩, -⟩ := rx.all2
  have RD := Lib.hid rd
  have RX := Lib.hid rx
  clear rd rx
  go_enter Tryz.func179, Tryz.ntmps179
  go_wp2_with fail
  generalize (w.alloc (.cells #[.slice AL rows.length cL] 90)).alloc (.cells #[.int .i64 x.id, .slice AX nX cX] 152) = z0 at *
  refine (specL4Key AC AX nC cC nX cX cols x.vals _ _ _ (hc.below IntR.stays hb0) (hx.below VlR.stays hb0) hcn hxn HXA.out).mono ?_
  rintro e w2 ⟨AO, cO, rfl, hcO, hsl, hb2⟩
  have hbz := hb0.trans (hb2.mono hb0.size)
  clear c0 d0 d1
  obtain ⟨c0, -⟩ := (RD.out.below hb2).all1
  have RX2 := Lib.hid (RX.out.below hb2)
  have HKL := Lib.hid (show (keyL cols x.vals).length <= 1048576 by rw [show (keyL cols x.vals).length = cols.length by simp [keyL], hc.1]; exact hcn)
  have HSL := Lib.hid hsl
  clear hsl
  cases hk : knownL (keyL cols x.vals)
  · have HR := Lib.hid (show twiceB cols rows x = false by unfold twiceB; rw [hk]; rfl)
    clear hk
    go_wp2_with fail
    go_ret
    exact ⟨retB HR.out.symm, hbz⟩
  have HR := Lib.hid (show twiceB cols rows x = (findL cols (keyL cols x.vals) rows).any (fun i => i != x.id) by unfold twiceB; rw [hk]; rfl)
  clear hk
  go_wp2_with fail
  refine (specL4Find AL AC AO rows.length cL nC cC (keyL cols x.vals).length cO rows cols (keyL cols x.vals) _ _ _ _ (hr.below RwR.stays hbz) (hc.below IntR.stays hbz) HSL.out hrn hcn HKL.out HVN.out HALL.out).mono ?_
  rintro e w3 ⟨AF, cF, rfl, hcF, hfl, hb3⟩
  have hby := hbz.trans (hb3.mono hbz.size)
  have HFL := Lib.hid (findL_len cols (keyL cols x.vals) rows)
  have RX3 := Lib.hid (RX2.out.below hb3)
  clear c0
  generalize hgv : findL cols (keyL cols x.vals) rows = ids at *
  have HGV := Lib.hid hgv
  clear hgv
  have hin : ids.length <= 1048576 := by have h1 := HFL.out; have h2 := HRL.out; omega
  go_wp2_with fail
  go_loopw [10] (fun i wr => ∃ k : Nat, k <= ids.length /\ i = .int .i64 k /\ Hid ((ids.take k).any (fun i => i != x.id) = false) /\ Below w3.heap.size w3 wr) (fun i _ => ids.length - (intOf i).toNat)
  case atStart => exact ⟨0, by omega, rfl, Lib.hid (by simp), Below.refl _ _⟩
  case round =>
    obtain ⟨k, hk', rfl, hno, hb⟩ := hrel
    obtain ⟨⟨d0, d1⟩, -⟩ := (RX3.out.below hb).all2
    by_cases hlt : k < ids.length
    · obtain ⟨bf, of, -, rfl, q0⟩ := IntR.at_ (hfl.below IntR.stays hb) hlt
      have i0 : (0 : Int) <= k := by omega
      have i1 : (k : Int) < ids.length := by omega
      have hst := any_take_ne ids x.id k hlt
      rw [hno.out, Bool.false_or] at hst
      cases he : (ids[k] != x.id)
      · have HA := Lib.hid (hst.trans he)
        clear hst
        go_wp2_with fail
        go_quiet (fail)
        go_wp2_with fail
        go_roundw
        case rel => exact ⟨k + 1, by omega, by go_num, HA, below_dN hb _⟩
        case measure => simp [intOf]; omega
      · have HF := Lib.hid (HR.out.trans (any_at_ne hlt he))
        clear hst
        go_wp2_with fail
        go_quiet (fail)
        go_wp2_with fail
        go_ret
        exact ⟨retB HF.out.symm, hby.trans ((below_dN hb _).mono hby.size)⟩
    · obtain rfl : k = ids.length := by omega
      have h1 := hno.out
      rw [List.take_of_length_le (Nat.le_refl _)] at h1
      have HF := Lib.hid (HR.out.trans h1)
      clear hno h1
      go_wp2_with fail
      go_ret
      exact ⟨retB HF.out.symm, hby.trans (hb.mono hby.size)⟩
theorem uniq_take (t : Tb) (rows : List Rw) (x : Rw) (k : Nat) (h : k < t.uniqs.length) : (t.uniqs.take (k + 1)).all (fun u => !(twiceB u.cols rows x)) = ((t.uniqs.take k).all (fun u => !(twiceB u.cols rows x)) && !(twiceB t.uniqs[k].cols rows x)) := by
  rw [List.take_succ_eq_append_getElem h, List.all_append]; simp
theorem uniq_no {t : Tb} {rows : List Rw} {x : Rw} {k : Nat} (h : k < t.uniqs.length) (hf : twiceB t.uniqs[k].cols rows x = true) : uniqueB t rows x = false := by
  unfold uniqueB
  rw [Bool.and_eq_false_iff]
  refine Or.inr ?_
  rw [List.all_eq_false]
  exact ⟨t.uniqs[k], List.getElem_mem h, by simp [hf]⟩
set_option maxRecDepth 100000 in
set_option maxHeartbeats 4000000 in
theorem specL5Unique (A1 A2 A3 A4 A5 AL AX : Option Addr) (n1 c1 n2 c2 n3 c3 n4 c4 n5 c5 nL cL nX cX : Nat) (t : Tb) (rows : List Rw) (x : Rw) (ok2 ok3 ok okx : Nat -> Prop) (w : World)
    (h2 : Sl IntR 1 ok2 w A2 n2 t.key) (h3 : Sl UqR 1 ok3 w A3 n3 t.uniqs) (hr : Sl RwR 2 ok w AL nL rows) (hx : Sl VlR 3 okx w AX nX x.vals) (hrn : nL <= 1048576) (hkn : n2 <= 1048576) (hun : n3 <= 1048576) (hum : ∀ u ∈ t.uniqs, u.cols.length <= 1048576) (hxn : nX <= 1048576) (hvn : ∀ r ∈ rows, r.vals.length <= 1048576)
    (hkey : ∀ r ∈ rows, t.key.all (inV r.vals) = true) (hkx : t.key.all (inV x.vals) = true) (huq : ∀ u ∈ t.uniqs, (∀ r ∈ rows, u.cols.all (inV r.vals) = true) /\ u.cols.all (inV x.vals) = true) :
    Calls Tryz.prog 119 #[.agg #[.string t.name, .slice A1 n1 c1, .slice A2 n2 c2, .slice A3 n3 c3, .slice A4 n4 c4, .slice A5 n5 c5], .agg #[.slice AL nL cL], .agg #[.int .i64 x.id, .slice AX nX cX]] w fun e w' => e = .returned (.bool (uniqueB t rows x)) /\ Below w.heap.size w w' := by
  obtain rfl : t.uniqs.length = n3 := h3.1
  have HVN := Lib.hid hvn
  have HKEY := Lib.hid hkey
  have HKX := Lib.hid hkx
  have HUQ := Lib.hid huq
  have HUM := Lib.hid hum
  clear hvn hkey hkx huq hum
  have hb0 := ((((Below.refl w.heap.size w).alloc (Nat.le_refl _) (.cells #[.string t.name, .slice A1 n1 c1, .slice A2 n2 c2, .slice A3 t.uniqs.length c3, .slice A4 n4 c4, .slice A5 n5 c5] 86)).alloc (by simp) (.cells #[.slice AL nL cL] 90)).alloc (by simp; omega) (.cells #[.int .i64 x.id, .slice AX nX cX] 152))
  have RT := Lib.hid (((Row.new w 86 #[.string t.name, .slice A1 n1 c1, .slice A2 n2 c2, .slice A3 t.uniqs.length c3, .slice A4 n4 c4, .slice A5 n5 c5]).alloc (.cells #[.slice AL nL cL] 90)).alloc (.cells #[.int .i64 x.id, .slice AX nX cX] 152))
  have RD := Lib.hid ((Row.newAt (w.alloc (.cells #[.string t.name, .slice A1 n1 c1, .slice A2 n2 c2, .slice A3 t.uniqs.length c3, .slice A4 n4 c4, .slice A5 n5 c5] 86)) 90 #[.slice AL nL cL] (w.heap.size + 1) (by simp)).alloc (.cells #[.int .i64 x.id, .slice AX nX cX] 152))
  have RX := Lib.hid (Row.newAt ((w.alloc (.cells #[.string t.name, .slice A1 n1 c1, .slice A2 n2 c2, .slice A3 t.uniqs.length c3, .slice A4 n4 c4, .slice A5 n5 c5] 86)).alloc (.cells #[.slice AL nL cL] 90)) 152 #[.int .i64 x.id, .slice AX nX cX] (w.heap.size + 1 + 1) (by simp))
  obtain ⟨⟨t0, t1, t2, t3, t4, t5⟩, -⟩ := RT.out.all6
  obtain ⟨c0, -⟩ := RD.out.all1
  obtain ⟨⟨d0, d1⟩, -⟩ := RX.out.all2
  go_enter Tryz.func119, Tryz.ntmps119
  go_wp2_with fail
  generalize ((w.alloc (.cells #[.string t.name, .slice A1 n1 c1, .slice A2 n2 c2, .slice A3 t.uniqs.length c3, .slice A4 n4 c4, .slice A5 n5 c5] 86)).alloc (.cells #[.slice AL nL cL] 90)).alloc (.cells #[.int .i64 x.id, .slice AX nX cX] 152) = z0 at *
  refine (specL5Twice AL A2 AX nL cL n2 c2 nX cX rows t.key x _ _ _ _ (hr.below RwR.stays hb0) (h2.below IntR.stays hb0) (hx.below VlR.stays hb0) hrn hkn hxn HVN.out HKEY.out HKX.out).mono ?_
  rintro e w1 ⟨rfl, hb1⟩
  have hbz := hb0.trans (hb1.mono hb0.size)
  have RT1 := RT.out.below hb1
  have RD1 := RD.out.below hb1
  have RX1 := RX.out.below hb1
  clear t0 t1 t2 t3 t4 t5 c0 d0 d1
  cases hk : twiceB t.key rows x
  case true =>
    have HR := Lib.hid (show uniqueB t rows x = false by unfold uniqueB; rw [hk]; rfl)
    clear hk
    go_wp2_with fail
    go_ret
    exact ⟨retB HR.out.symm, hbz⟩
  have HR := Lib.hid (show uniqueB t rows x = t.uniqs.all (fun u => !(twiceB u.cols rows x)) by unfold uniqueB; rw [hk]; rfl)
  clear hk
  go_wp2_with fail
  go_loopw [7] (fun i wr => ∃ k : Nat, k <= t.uniqs.length /\ i = .int .i64 k /\ Hid ((t.uniqs.take k).all (fun u => !(twiceB u.cols rows x)) = true) /\ Row wr w.heap.size 86 #[.string t.name, .slice A1 n1 c1, .slice A2 n2 c2, .slice A3 t.uniqs.length c3, .slice A4 n4 c4, .slice A5 n5 c5] /\ Row wr (w.heap.size + 1) 90 #[.slice AL nL cL] /\ Row wr (w.heap.size + 1 + 1) 152 #[.int .i64 x.id, .slice AX nX cX] /\ Below w.heap.size w wr) (fun i _ => t.uniqs.length - (intOf i).toNat)
  case atStart => exact ⟨0, by omega, rfl, Lib.hid (by simp), RT1, RD1, RX1, hbz⟩
  case round =>
    clear RT1 RD1 RX1 hbz hb1 hb0 RT RD RX
    obtain ⟨k, hk', rfl, hall, rt, rd, rx, hb⟩ := hrel
    obtain ⟨⟨t0, t1, t2, t3, t4, t5⟩, -⟩ := rt.all6
    obtain ⟨c0, -⟩ := rd.all1
    obtain ⟨⟨d0, d1⟩, -⟩ := rx.all2
    have RT := Lib.hid rt
    have RD := Lib.hid rd
    have RX := Lib.hid rx
    clear rt rd rx
    by_cases hlt : k < t.uniqs.length
    · obtain ⟨bu, ou, AU, nU, cU, -, rfl, q0, hu, -⟩ := UqR.at_ (h3.below UqR.stays hb) hlt
      obtain rfl : t.uniqs[k].cols.length = nU := hu.1
      have i0 : (0 : Int) <= k := by omega
      have i1 : (k : Int) < t.uniqs.length := by omega
      have hst := uniq_take t rows x k hlt
      rw [hall.out, Bool.true_and] at hst
      have hno := fun hf => uniq_no (t := t) (rows := rows) (x := x) hlt hf
      have HU := Lib.hid (HUQ.out _ (List.getElem_mem hlt))
      have HC := Lib.hid (specL5Twice AL AU AX nL cL t.uniqs[k].cols.length cU nX cX rows t.uniqs[k].cols x _ _ _ wr.drew ((hr.below RwR.stays hb).drew RwR.stays) (hu.drew IntR.stays) ((hx.below VlR.stays hb).drew VlR.stays) hrn (HUM.out _ (List.getElem_mem hlt)) hxn HVN.out HU.out.1 HU.out.2)
      have hbd := hb.drew
      clear hu
      cases he : twiceB t.uniqs[k].cols rows x
      · have HA := Lib.hid (show (t.uniqs.take (k + 1)).all (fun u => !(twiceB u.cols rows x)) = true by rw [hst, he]; rfl)
        have HE := Lib.hid he
        clear hst hno he
        go_wp2_with fail
        go_region_held3 (fun w' => w'.cell? ⟨w.heap.size + 1, 0, none⟩ = some (.slice AL nL cL) /\ w'.cell? ⟨w.heap.size, 3, none⟩ = some (.slice (some ⟨bu, ou, none⟩) t.uniqs.length c3) /\ w'.cell? ⟨bu, ou + k, none⟩ = some (.slice AU t.uniqs[k].cols.length cU) /\ w'.cell? ⟨w.heap.size + 1 + 1, 0, none⟩ = some (.int .i64 x.id) /\ w'.cell? ⟨w.heap.size + 1 + 1, 1, none⟩ = some (.slice AX nX cX))
          (first | go_keep | exact ⟨below_keep hb9 _ _ c0, below_keep hb9 _ _ t3, below_keep hb9 _ _ q0, below_keep hb9 _ _ d0, below_keep hb9 _ _ d1⟩)
          (first | (go_at_call 179; refine HC.out.mono ?_; rintro e w9 ⟨rfl, hb9⟩; rw [HE.out]))
        go_wp2_with fail
        go_roundw
        case rel => exact ⟨k + 1, by omega, by go_num, HA, (RT.out.drew).below hb9, (RD.out.drew).below hb9, (RX.out.drew).below hb9, hbd.trans (hb9.mono hbd.size)⟩
        case measure => simp [intOf]; omega
      · have HF := Lib.hid (hno he)
        have HE := Lib.hid he
        clear hst hno he
        go_wp2_with fail
        go_region_held3 (fun w' => w'.cell? ⟨w.heap.size + 1, 0, none⟩ = some (.slice AL nL cL) /\ w'.cell? ⟨w.heap.size, 3, none⟩ = some (.slice (some ⟨bu, ou, none⟩) t.uniqs.length c3) /\ w'.cell? ⟨bu, ou + k, none⟩ = some (.slice AU t.uniqs[k].cols.length cU) /\ w'.cell? ⟨w.heap.size + 1 + 1, 0, none⟩ = some (.int .i64 x.id) /\ w'.cell? ⟨w.heap.size + 1 + 1, 1, none⟩ = some (.slice AX nX cX))
          (first | go_keep | exact ⟨below_keep hb9 _ _ c0, below_keep hb9 _ _ t3, below_keep hb9 _ _ q0, below_keep hb9 _ _ d0, below_keep hb9 _ _ d1⟩)
          (first | (go_at_call 179; refine HC.out.mono ?_; rintro e w9 ⟨rfl, hb9⟩; rw [HE.out]))
        go_wp2_with fail
        go_ret
        exact ⟨retB HF.out.symm, hbd.trans (hb9.mono hbd.size)⟩
    · obtain rfl : k = t.uniqs.length := by omega
      have h1 := hall.out
      rw [List.take_of_length_le (Nat.le_refl _)] at h1
      have HF := Lib.hid (HR.out.trans h1)
      clear hall h1
      go_wp2_with fail
      go_ret
      exact ⟨retB HF.out.symm, hb⟩
def parentR (tk : List Int) (rows : List Rw) (fc : List Int) (vals : List Vl) : Bool := !(knownL (keyL fc vals)) || decide (0 < (findL tk (keyL fc vals) rows).length)
set_option maxRecDepth 100000 in
set_option maxHeartbeats 4000000 in
theorem specL5Parent (AS AD AC AV : Option Addr) (nS cS nD cD nC cC nV cV : Nat) (s : List Tb) (db : List Dt) (f : Fk) (vals : List Vl) (m : Nat) (ok okd okc okv : Nat -> Prop) (w : World)
    (hs : Sl TbR 6 ok w AS nS s) (hd : Sl DtR 1 okd w AD nD db) (hc : Sl IntR 1 okc w AC nC f.cols) (hv : Sl VlR 3 okv w AV nV vals) (hsn : nS <= 1048576) (hdn : nD <= 1048576) (hcn : nC <= 1048576) (hvn : nV <= 1048576) (hca : f.cols.all (inV vals) = true)
    (hat : atN (s.map Tb.name) f.table = m) (hm : m < s.length) (hmd : m < db.length) (hkn : s[m].key.length <= 1048576) (hrn : db[m].rows.length <= 1048576) (hrv : ∀ r ∈ db[m].rows, r.vals.length <= 1048576) (hall : ∀ r ∈ db[m].rows, s[m].key.all (inV r.vals) = true) :
    Calls Tryz.prog 180 #[.slice AS nS cS, .slice AD nD cD, .agg #[.slice AC nC cC, .string f.table, .int .i64 f.del, .int .i64 f.upd, .bool f.dfr], .slice AV nV cV] w fun e w' => e = .returned (.bool (parentR s[m].key db[m].rows f.cols vals)) /\ Below w.heap.size w w' := by
  obtain rfl : s.length = nS := hs.1
  obtain rfl : db.length = nD := hd.1
  have HVN := Lib.hid hrv
  have HALL := Lib.hid hall
  have HCA := Lib.hid hca
  have HAT := Lib.hid hat
  have HKN := Lib.hid hkn
  have HRN := Lib.hid hrn
  have HKL := Lib.hid (show (keyL f.cols vals).length <= 1048576 by rw [show (keyL f.cols vals).length = f.cols.length by simp [keyL], hc.1]; exact hcn)
  clear hrv hall hca hat hkn hrn
  have i0 : (0 : Int) <= m := by omega
  have i1 : (m : Int) < s.length := by omega
  have i2 : (m : Int) < db.length := by omega
  have hb0 := (Below.refl w.heap.size w).alloc (Nat.le_refl _) (.cells #[.slice AC nC cC, .string f.table, .int .i64 f.del, .int .i64 f.upd, .bool f.dfr] 188)
  have RF := Lib.hid (Row.new w 188 #[.slice AC nC cC, .string f.table, .int .i64 f.del, .int .i64 f.upd, .bool f.dfr])
  obtain ⟨c0, c1, c2, c3, c4⟩ := RF.out.five
  go_enter Tryz.func180, Tryz.ntmps180
  go_wp2_with fail
  generalize w.alloc (.cells #[.slice AC nC cC, .string f.table, .int .i64 f.del, .int .i64 f.upd, .bool f.dfr] 188) = z0 at *
  refine (specL4Key AC AV nC cC nV cV f.cols vals _ _ _ (hc.below IntR.stays hb0) (hv.below VlR.stays hb0) hcn hvn HCA.out).mono ?_
  rintro e w1 ⟨AO, cO, rfl, hcO, hsl, hb1⟩
  have hbz1 := hb0.trans (hb1.mono hb0.size)
  have HSL := Lib.hid hsl
  clear hsl c0 c1 c2 c3 c4
  obtain ⟨c0, c1, c2, c3, c4⟩ := (RF.out.below hb1).five
  go_wp2_with fail
  refine (specL3At AS s.length cS s f.table _ _ (hs.below TbR.stays hbz1) hsn).mono ?_
  rintro e w2 ⟨rfl, hb2⟩
  rw [HAT.out]
  have hbz2 := hbz1.trans (hb2.mono hbz1.size)
  have HSL2 := Lib.hid (HSL.out.below VlR.stays hb2)
  clear c0 c1 c2 c3 c4
  obtain ⟨bt, ot, A1, n1, d1, A2, n2, d2, A3, n3, d3, A4, n4, d4, A5, n5, d5, -, rfl, q0, q1, q2, q3, q4, q5, s1, s2, -⟩ := TbR.at_ (hs.below TbR.stays hbz2) hm
  obtain rfl : s[m].key.length = n2 := s2.1
  obtain ⟨bd, od, AL, nL, cL, -, rfl, p0, hrw, -⟩ := DtR.at_ (hd.below DtR.stays hbz2) hmd
  obtain rfl : db[m].rows.length = nL := hrw.1
  have HRW := Lib.hid (hrw.drew RwR.stays)
  have HKC := Lib.hid (s2.drew IntR.stays)
  have HSL3 := Lib.hid (HSL2.out.drew VlR.stays)
  have hbd := hbz2.drew
  clear hrw s1 s2 q0 q1 q3 q4 q5 HSL
  cases hk : knownL (keyL f.cols vals)
  · have HR := Lib.hid (show parentR s[m].key db[m].rows f.cols vals = true by unfold parentR; rw [hk]; rfl)
    clear hk
    go_wp2_with fail
    refine wp_region_noPanic ?_
    refine wp_region_held_drew (S := fun w' => w'.cell? ⟨bd, od + m, none⟩ = some (.slice AL db[m].rows.length cL) /\ w'.cell? ⟨bt, ot + m * 6 + 2, none⟩ = some (.slice A2 s[m].key.length d2)) (by kernel_rfl) ⟨p0, q2⟩ (fun hHeld => ?_)
    refine wpAnyH_take (i := 0) (v := ?v1) rfl (by kernel_rfl) (by kernel_rfl) (by kernel_rfl) (fun _ _ _ h => h) (Or.inl ⟨by rfl, ?hy1⟩) hHeld ?rest1
    case hy1 => (intro w' hSw; (try dsimp only at hSw); first | (go_simp; done) | (go_simp; with_reducible rfl))
    simp only [Act.put, pz0, pz1, pz2, pz3, pz4, pz5]
    refine wpAnyH_take (i := 1) (v := ?v2) rfl (by kernel_rfl) (by kernel_rfl) (by kernel_rfl) (fun _ _ _ h => h) (Or.inl ⟨by rfl, ?hy2⟩) hHeld ?rest2
    case hy2 => (intro w' hSw; (try dsimp only at hSw); first | (go_simp; done) | (go_simp; with_reducible rfl))
    simp only [Act.put, pz0, pz1, pz2, pz3, pz4, pz5]
    refine wpAnyH_take (i := 2) (v := ?v3) rfl (by kernel_rfl) (by kernel_rfl) (by kernel_rfl) (fun _ _ _ h => h) (Or.inl ⟨by rfl, ?hy3⟩) hHeld ?rest3
    case hy3 => (intro w' hSw; (try dsimp only at hSw); first | (go_simp; done) | (go_simp; with_reducible rfl))
    simp only [Act.put, pz0, pz1, pz2, pz3, pz4, pz5]
    refine wpAnyH_take (i := 3) (v := undef) rfl (by kernel_rfl) (by kernel_rfl) (by kernel_rfl) (fun _ _ _ h => h) (Or.inr ⟨by rfl, rfl⟩) hHeld ?_
    simp only [Act.put, pz0, pz1, pz2, pz3, pz4, pz5]
    refine wpAnyH_take (i := 4) (v := undef) rfl (by kernel_rfl) (by kernel_rfl) (by kernel_rfl) (fun _ _ _ h => h) (Or.inr ⟨by rfl, rfl⟩) hHeld ?_
    simp only [Act.put, pz0, pz1, pz2, pz3, pz4, pz5]
    refine wpAnyH_take (i := 5) (v := undef) rfl (by kernel_rfl) (by kernel_rfl) (by kernel_rfl) (fun _ _ _ h => h) (Or.inr ⟨by rfl, rfl⟩) hHeld ?_
    simp only [Act.put, pz0, pz1, pz2, pz3, pz4, pz5]
    refine wpAnyH_take (i := 6) (v := undef) rfl (by kernel_rfl) (by kernel_rfl) (by kernel_rfl) (fun _ _ _ h => h) (Or.inr ⟨by rfl, rfl⟩) hHeld ?_
    simp only [Act.put, pz0, pz1, pz2, pz3, pz4, pz5]
    refine wpAnyH_take (i := 7) (v := undef) rfl (by kernel_rfl) (by kernel_rfl) (by kernel_rfl) (fun _ _ _ h => h) (Or.inr ⟨by rfl, rfl⟩) hHeld ?_
    simp only [Act.put, pz0, pz1, pz2, pz3, pz4, pz5]
    refine wpAnyH_take (i := 8) (v := undef) rfl (by kernel_rfl) (by kernel_rfl) (by kernel_rfl) (fun _ _ _ h => h) (Or.inr ⟨by rfl, rfl⟩) hHeld ?_
    simp only [Act.put, pz0, pz1, pz2, pz3, pz4, pz5]
    refine wpAnyH_take (i := 9) (v := undef) rfl (by kernel_rfl) (by kernel_rfl) (by kernel_rfl) (fun _ _ _ h => h) (Or.inr ⟨by rfl, rfl⟩) hHeld ?_
    simp only [Act.put, pz0, pz1, pz2, pz3, pz4, pz5]
    refine wpAnyH_take (i := 10) (v := undef) rfl (by kernel_rfl) (by kernel_rfl) (by kernel_rfl) (fun _ _ _ h => h) (Or.inr ⟨by rfl, rfl⟩) hHeld ?_
    simp only [Act.put, pz0, pz1, pz2, pz3, pz4, pz5]
    refine wpAnyH_take (i := 11) (v := undef) rfl (by kernel_rfl) (by kernel_rfl) (by kernel_rfl) (fun _ _ _ h => h) (Or.inr ⟨by rfl, rfl⟩) hHeld ?_
    simp only [Act.put, pz0, pz1, pz2, pz3, pz4, pz5]
    refine wpAnyH_take (i := 12) (v := undef) rfl (by kernel_rfl) (by kernel_rfl) (by kernel_rfl) (fun _ _ _ h => h) (Or.inr ⟨by rfl, rfl⟩) hHeld ?_
    simp only [Act.put, pz0, pz1, pz2, pz3, pz4, pz5]
    refine wpAnyH_take (i := 13) (v := undef) rfl (by kernel_rfl) (by kernel_rfl) (by kernel_rfl) (fun _ _ _ h => h) (Or.inr ⟨by rfl, rfl⟩) hHeld ?_
    simp only [Act.put, pz0, pz1, pz2, pz3, pz4, pz5]
    refine wpAnyH_take (i := 14) (v := undef) rfl (by kernel_rfl) (by kernel_rfl) (by kernel_rfl) (fun _ _ _ h => h) (Or.inr ⟨by rfl, rfl⟩) hHeld ?_
    simp only [Act.put, pz0, pz1, pz2, pz3, pz4, pz5]
    refine wpAnyH_take (i := 15) (v := undef) rfl (by kernel_rfl) (by kernel_rfl) (by kernel_rfl) (fun _ _ _ h => h) (Or.inr ⟨by rfl, rfl⟩) hHeld ?_
    simp only [Act.put, pz0, pz1, pz2, pz3, pz4, pz5]
    refine wpAnyH_take (i := 16) (v := ?v4) rfl (by kernel_rfl) (by kernel_rfl) (by kernel_rfl) (fun _ _ _ h => h) (Or.inl ⟨by rfl, ?hy4⟩) hHeld ?rest4
    case hy4 => (intro w' hSw; (try dsimp only at hSw); first | (go_simp; done) | (go_simp; with_reducible rfl))
    simp only [Act.put, pz0, pz1, pz2, pz3, pz4, pz5]
    refine wpAnyH_take (i := 17) (v := ?v5) rfl (by kernel_rfl) (by kernel_rfl) (by kernel_rfl) (fun _ _ _ h => h) (Or.inl ⟨by rfl, ?hy5⟩) hHeld ?rest5
    case hy5 => (intro w' hSw; (try dsimp only at hSw); first | (go_simp; done) | (go_simp; with_reducible rfl))
    simp only [Act.put, pz0, pz1, pz2, pz3, pz4, pz5]
    refine wpAnyH_done (by kernel_rfl) ?_ _
    refine NoPanic.normal ?_
    clear hHeld
    go_wp2_with fail
    go_ret
    exact ⟨retB HR.out.symm, hbd⟩
  · have HR := Lib.hid (show parentR s[m].key db[m].rows f.cols vals = decide (0 < (findL s[m].key (keyL f.cols vals) db[m].rows).length) by unfold parentR; rw [hk]; rfl)
    clear hk
    go_wp2_with fail
    refine wp_region_noPanic ?_
    refine wp_region_held_drew (S := fun w' => w'.cell? ⟨bd, od + m, none⟩ = some (.slice AL db[m].rows.length cL) /\ w'.cell? ⟨bt, ot + m * 6 + 2, none⟩ = some (.slice A2 s[m].key.length d2)) (by kernel_rfl) ⟨p0, q2⟩ (fun hHeld => ?_)
    refine wpAnyH_take (i := 0) (v := ?v6) rfl (by kernel_rfl) (by kernel_rfl) (by kernel_rfl) (fun _ _ _ h => h) (Or.inl ⟨by rfl, ?hy6⟩) hHeld ?rest6
    case hy6 => (intro w' hSw; (try dsimp only at hSw); first | (go_simp; done) | (go_simp; with_reducible rfl))
    simp only [Act.put, pz0, pz1, pz2, pz3, pz4, pz5]
    refine wpAnyH_take (i := 1) (v := ?v7) rfl (by kernel_rfl) (by kernel_rfl) (by kernel_rfl) (fun _ _ _ h => h) (Or.inl ⟨by rfl, ?hy7⟩) hHeld ?rest7
    case hy7 => (intro w' hSw; (try dsimp only at hSw); first | (go_simp; done) | (go_simp; with_reducible rfl))
    simp only [Act.put, pz0, pz1, pz2, pz3, pz4, pz5]
    refine wpAnyH_take (i := 2) (v := ?v8) rfl (by kernel_rfl) (by kernel_rfl) (by kernel_rfl) (fun _ _ _ h => h) (Or.inl ⟨by rfl, ?hy8⟩) hHeld ?rest8
    case hy8 => (intro w' hSw; (try dsimp only at hSw); first | (go_simp; done) | (go_simp; with_reducible rfl))
    simp only [Act.put, pz0, pz1, pz2, pz3, pz4, pz5]
    refine wpAnyH_take (i := 3) (v := ?v9) rfl (by kernel_rfl) (by kernel_rfl) (by kernel_rfl) (fun _ _ _ h => h) (Or.inl ⟨by rfl, ?hy9⟩) hHeld ?rest9
    case hy9 => (intro w' hSw; (try dsimp only at hSw); first | (go_simp; done) | (go_simp; with_reducible rfl))
    simp only [Act.put, pz0, pz1, pz2, pz3, pz4, pz5]
    refine wpAnyH_take (i := 4) (v := ?v10) rfl (by kernel_rfl) (by kernel_rfl) (by kernel_rfl) (fun _ _ _ h => h) (Or.inl ⟨by rfl, ?hy10⟩) hHeld ?rest10
    case hy10 => (intro w' hSw; (try dsimp only at hSw); first | (go_simp; done) | (go_simp; with_reducible rfl))
    simp only [Act.put, pz0, pz1, pz2, pz3, pz4, pz5]
    refine wpAnyH_take (i := 5) (v := ?v11) rfl (by kernel_rfl) (by kernel_rfl) (by kernel_rfl) (fun _ _ _ h => h) (Or.inl ⟨by rfl, ?hy11⟩) hHeld ?rest11
    case hy11 => (intro w' hSw; (try dsimp only at hSw); first | (go_simp; done) | (go_simp; with_reducible rfl))
    simp only [Act.put, pz0, pz1, pz2, pz3, pz4, pz5]
    refine wpAnyH_take (i := 6) (v := ?v12) rfl (by kernel_rfl) (by kernel_rfl) (by kernel_rfl) (fun _ _ _ h => h) (Or.inl ⟨by rfl, ?hy12⟩) hHeld ?rest12
    case hy12 => (intro w' hSw; (try dsimp only at hSw); first | (go_simp; done) | (go_simp; with_reducible rfl))
    simp only [Act.put, pz0, pz1, pz2, pz3, pz4, pz5]
    refine wpAnyH_take (i := 7) (v := ?v13) rfl (by kernel_rfl) (by kernel_rfl) (by kernel_rfl) (fun _ _ _ h => h) (Or.inl ⟨by rfl, ?hy13⟩) hHeld ?rest13
    case hy13 => (intro w' hSw; (try dsimp only at hSw); first | (go_simp; done) | (go_simp; with_reducible rfl))
    simp only [Act.put, pz0, pz1, pz2, pz3, pz4, pz5]
    refine wpAnyH_take (i := 8) (v := ?v14) rfl (by kernel_rfl) (by kernel_rfl) (by kernel_rfl) (fun _ _ _ h => h) (Or.inl ⟨by rfl, ?hy14⟩) hHeld ?rest14
    case hy14 => (intro w' hSw; (try dsimp only at hSw); first | (go_simp; done) | (go_simp; with_reducible rfl))
    simp only [Act.put, pz0, pz1, pz2, pz3, pz4, pz5]
    refine wpAnyH_take (i := 9) (v := ?v15) rfl (by kernel_rfl) (by kernel_rfl) (by kernel_rfl) (fun _ _ _ h => h) (Or.inl ⟨by rfl, ?hy15⟩) hHeld ?rest15
    case hy15 => (intro w' hSw; (try dsimp only at hSw); first | (go_simp; done) | (go_simp; with_reducible rfl))
    simp only [Act.put, pz0, pz1, pz2, pz3, pz4, pz5]
    refine wpAnyH_take (i := 10) (v := ?v16) rfl (by kernel_rfl) (by kernel_rfl) (by kernel_rfl) (fun _ _ _ h => h) (Or.inl ⟨by rfl, ?hy16⟩) hHeld ?rest16
    case hy16 => (intro w' hSw; (try dsimp only at hSw); first | (go_simp; done) | (go_simp; with_reducible rfl))
    simp only [Act.put, pz0, pz1, pz2, pz3, pz4, pz5]
    refine wpAnyH_take (i := 11) (v := ?v17) rfl (by kernel_rfl) (by kernel_rfl) (by kernel_rfl) (fun _ _ _ h => h) (Or.inl ⟨by rfl, ?hy17⟩) hHeld ?rest17
    case hy17 => (intro w' hSw; (try dsimp only at hSw); first | (go_simp; done) | (go_simp; with_reducible rfl))
    simp only [Act.put, pz0, pz1, pz2, pz3, pz4, pz5]
    refine wpAnyH_take (i := 12) (v := ?v18) rfl (by kernel_rfl) (by kernel_rfl) (by kernel_rfl) (fun _ _ _ h => h) (Or.inl ⟨by rfl, ?hy18⟩) hHeld ?rest18
    case hy18 => (intro w' hSw; (try dsimp only at hSw); first | (go_simp; done) | (go_simp; with_reducible rfl))
    simp only [Act.put, pz0, pz1, pz2, pz3, pz4, pz5]
    refine wpAnyH_ready (rs := [13]) (by kernel_rfl) (by simp) ?_
    refine AllReadyH.cons rfl (fun K hK => ?_) AllReadyH.nil
    go_simp
    refine (specL4Find AL A2 AO db[m].rows.length cL s[m].key.length d2 (keyL f.cols vals).length cO db[m].rows s[m].key (keyL f.cols vals) _ _ _ _ (HRW.out) (HKC.out) HSL3.out HRN.out HKN.out HKL.out HVN.out HALL.out).mono ?_
    rintro e w9 ⟨AF, cF, rfl, hcF, hfl, hb9⟩
    go_wp2_with fail
    refine hK.out _ _ ⟨below_keep hb9 _ _ hHeld.1, below_keep hb9 _ _ hHeld.2⟩ (fun hHeld => ?_)
    clear hK K
    (try simp only [Act.put, pz0, pz1, pz2, pz3, pz4, pz5])
    refine wpAnyH_take (i := 14) (v := ?v19) rfl (by kernel_rfl) (by kernel_rfl) (by kernel_rfl) (fun _ _ _ h => h) (Or.inl ⟨by rfl, ?hy19⟩) hHeld ?rest19
    case hy19 => (intro w' hSw; (try dsimp only at hSw); first | (go_simp; done) | (go_simp; with_reducible rfl))
    simp only [Act.put, pz0, pz1, pz2, pz3, pz4, pz5]
    refine wpAnyH_take (i := 15) (v := ?v20) rfl (by kernel_rfl) (by kernel_rfl) (by kernel_rfl) (fun _ _ _ h => h) (Or.inl ⟨by rfl, ?hy20⟩) hHeld ?rest20
    case hy20 => (intro w' hSw; (try dsimp only at hSw); first | (go_simp; done) | (go_simp; with_reducible rfl))
    simp only [Act.put, pz0, pz1, pz2, pz3, pz4, pz5]
    refine wpAnyH_take (i := 16) (v := ?v21) rfl (by kernel_rfl) (by kernel_rfl) (by kernel_rfl) (fun _ _ _ h => h) (Or.inl ⟨by rfl, ?hy21⟩) hHeld ?rest21
    case hy21 => (intro w' hSw; (try dsimp only at hSw); first | (go_simp; done) | (go_simp; with_reducible rfl))
    simp only [Act.put, pz0, pz1, pz2, pz3, pz4, pz5]
    refine wpAnyH_take (i := 17) (v := ?v22) rfl (by kernel_rfl) (by kernel_rfl) (by kernel_rfl) (fun _ _ _ h => h) (Or.inl ⟨by rfl, ?hy22⟩) hHeld ?rest22
    case hy22 => (intro w' hSw; (try dsimp only at hSw); first | (go_simp; done) | (go_simp; with_reducible rfl))
    simp only [Act.put, pz0, pz1, pz2, pz3, pz4, pz5]
    refine wpAnyH_done (by kernel_rfl) ?_ _
    refine NoPanic.normal ?_
    clear hHeld
    go_wp2_with fail
    go_ret
    exact ⟨retB HR.out.symm, hbd.trans (hb9.mono hbd.size)⟩
def FkIn (s : List Tb) (db : List Dt) (vals : List Vl) (f : Fk) : Prop := f.cols.all (inV vals) = true /\ f.cols.length <= 1048576 /\ ∃ m : Nat, atN (s.map Tb.name) f.table = m /\ ∃ (hm : m < s.length) (hmd : m < db.length), s[m].key.length <= 1048576 /\ db[m].rows.length <= 1048576 /\ (∀ r ∈ db[m].rows, r.vals.length <= 1048576) /\ ∀ r ∈ db[m].rows, s[m].key.all (inV r.vals) = true
def parentB (s : List Tb) (db : List Dt) (f : Fk) (vals : List Vl) : Bool :=
  parentR ((s[(atN (s.map Tb.name) f.table).toNat]?.map Tb.key).getD []) ((db[(atN (s.map Tb.name) f.table).toNat]?.map Dt.rows).getD []) f.cols vals
theorem parentB_at {s : List Tb} {db : List Dt} {f : Fk} {vals : List Vl} {m : Nat} (h : atN (s.map Tb.name) f.table = m) (hm : m < s.length) (hmd : m < db.length) : parentB s db f vals = parentR s[m].key db[m].rows f.cols vals := by
  unfold parentB; rw [h]; simp [hm, hmd]
theorem specL5ParentB (AS AD AC AV : Option Addr) (nS cS nD cD nC cC nV cV : Nat) (s : List Tb) (db : List Dt) (f : Fk) (vals : List Vl) (ok okd okc okv : Nat -> Prop) (w : World)
    (hs : Sl TbR 6 ok w AS nS s) (hd : Sl DtR 1 okd w AD nD db) (hc : Sl IntR 1 okc w AC nC f.cols) (hv : Sl VlR 3 okv w AV nV vals) (hsn : nS <= 1048576) (hdn : nD <= 1048576) (hvn : nV <= 1048576) (hF : FkIn s db vals f) :
    Calls Tryz.prog 180 #[.slice AS nS cS, .slice AD nD cD, .agg #[.slice AC nC cC, .string f.table, .int .i64 f.del, .int .i64 f.upd, .bool f.dfr], .slice AV nV cV] w fun e w' => e = .returned (.bool (parentB s db f vals)) /\ Below w.heap.size w w' := by
  obtain ⟨h1, h2, m, h3, hm, hmd, h4, h5, h6, h7⟩ := hF
  rw [parentB_at h3 hm hmd]
  exact specL5Parent AS AD AC AV nS cS nD cD nC cC nV cV s db f vals m ok okd okc okv w hs hd hc hv hsn hdn (by have := hc.1; omega) hvn h1 h3 hm hmd h4 h5 h6 h7
theorem all_take_one {α : Type} (f : α -> Bool) (l : List α) (k : Nat) (h : k < l.length) : (l.take (k + 1)).all f = ((l.take k).all f && f l[k]) := by
  rw [List.take_succ_eq_append_getElem h, List.all_append]; simp
def okFkB (s : List Tb) (db : List Dt) (vals : List Vl) (wait : Bool) (f : Fk) : Bool := (wait && f.dfr) || parentB s db f vals
def refersB (s : List Tb) (db : List Dt) (t : Tb) (vals : List Vl) (wait : Bool) : Bool := t.fks.all (okFkB s db vals wait)
set_option maxRecDepth 100000 in
set_option maxHeartbeats 4000000 in
theorem specL5Refers (AS AD AV : Option Addr) (nS cS nD cD nV cV : Nat) (s : List Tb) (db : List Dt) (i : Nat) (vals : List Vl) (wait : Bool) (ok okd okv : Nat -> Prop) (w : World)
    (hs : Sl TbR 6 ok w AS nS s) (hd : Sl DtR 1 okd w AD nD db) (hv : Sl VlR 3 okv w AV nV vals) (hsn : nS <= 1048576) (hdn : nD <= 1048576) (hvn : nV <= 1048576) (hi : i < s.length) (hfn : s[i].fks.length <= 1048576) (hF : ∀ f ∈ s[i].fks, FkIn s db vals f) :
    Calls Tryz.prog 120 #[.slice AS nS cS, .slice AD nD cD, .int .i64 i, .slice AV nV cV, .bool wait] w fun e w' => e = .returned (.bool (refersB s db s[i] vals wait)) /\ Below w.heap.size w w' := by
  obtain rfl : s.length = nS := hs.1
  have HF := Lib.hid hF
  clear hF
  have i0 : (0 : Int) <= i := by omega
  have i1 : (i : Int) < s.length := by omega
  have hb0 := Below.refl w.heap.size w
  obtain ⟨bt, ot, A1, n1, d1, A2, n2, d2, A3, n3, d3, A4, n4, d4, A5, n5, d5, -, rfl, q0, q1, q2, q3, q4, q5, s1, s2, s3, s4, s5, -⟩ := TbR.at_ hs hi
  obtain rfl : s[i].fks.length = n5 := s5.1
  go_enter Tryz.func120, Tryz.ntmps120
  go_wp2_with fail
  go_loopw [11] (fun j wr => ∃ k : Nat, k <= s[i].fks.length /\ j = .int .i64 k /\ Hid ((s[i].fks.take k).all (okFkB s db vals wait) = true) /\ Below w.heap.size w wr) (fun j _ => s[i].fks.length - (intOf j).toNat)
  case atStart => exact ⟨0, by omega, rfl, Lib.hid (by simp), hb0⟩
  case round =>
    clear hb0
    obtain ⟨k, hk', rfl, hall, hb⟩ := hrel
    have t5 := below_keep hb _ _ q5
    clear q0 q1 q2 q3 q4 q5
    by_cases hlt : k < s[i].fks.length
    · obtain ⟨bf, of, AC, nC, cC, -, rfl, g0, g1, g2, g3, g4, hc, -⟩ := FkR.at_ (s5.below FkR.stays hb) hlt
      have j0 : (0 : Int) <= k := by omega
      have j1 : (k : Int) < s[i].fks.length := by omega
      have hst := all_take_one (okFkB s db vals wait) s[i].fks k hlt
      rw [hall.out, Bool.true_and] at hst
      have hno : okFkB s db vals wait s[i].fks[k] = false -> refersB s db s[i] vals wait = false := fun hf => by
        unfold refersB; rw [List.all_eq_false]; exact ⟨s[i].fks[k], List.getElem_mem hlt, by simp [hf]⟩
      have hbl := (Below.refl wr.heap.size wr).alloc (Nat.le_refl _) (.cells #[.slice AC nC cC, .string s[i].fks[k].table, .int .i64 s[i].fks[k].del, .int .i64 s[i].fks[k].upd, .bool s[i].fks[k].dfr] 188)
      have hba := hb.alloc hb.size (.cells #[.slice AC nC cC, .string s[i].fks[k].table, .int .i64 s[i].fks[k].del, .int .i64 s[i].fks[k].upd, .bool s[i].fks[k].dfr] 188)
      have HC := Lib.hid (specL5ParentB (some ⟨bt, ot, none⟩) AD AC AV s.length cS nD cD nC cC nV cV s db s[i].fks[k] vals _ _ _ _ (wr.alloc (.cells #[.slice AC nC cC, .string s[i].fks[k].table, .int .i64 s[i].fks[k].del, .int .i64 s[i].fks[k].upd, .bool s[i].fks[k].dfr] 188)) (hs.below TbR.stays hba) (hd.below DtR.stays hba) (hc.below IntR.stays hbl) (hv.below VlR.stays hba) hsn hdn hvn (HF.out _ (List.getElem_mem hlt)))
      have RF := Lib.hid (Row.new wr 188 #[.slice AC nC cC, .string s[i].fks[k].table, .int .i64 s[i].fks[k].del, .int .i64 s[i].fks[k].upd, .bool s[i].fks[k].dfr])
      obtain ⟨c0, c1, c2, c3, c4⟩ := RF.out.five
      generalize hdv : s[i].fks[k].dfr = dv at *
      cases hwt : wait
      · subst hwt
        cases hp : parentB s db s[i].fks[k] vals
        · have HP := Lib.hid hp
          have HN := Lib.hid (hno (by unfold okFkB; rw [hp]; rfl))
          clear hst hno hp hdv
          go_wp2_with fail
          refine HC.out.mono ?_
          rintro e w5 ⟨rfl, hb5⟩
          rw [HP.out]
          go_wp2_with fail
          go_ret
          exact ⟨retB HN.out.symm, hba.trans (hb5.mono hba.size)⟩
        · have HP := Lib.hid hp
          have HA := Lib.hid (show (s[i].fks.take (k + 1)).all (okFkB s db vals false) = true by rw [hst]; unfold okFkB; rw [hp]; rfl)
          clear hst hno hp hdv
          go_wp2_with fail
          refine HC.out.mono ?_
          rintro e w5 ⟨rfl, hb5⟩
          rw [HP.out]
          go_wp2_with fail
          go_roundw
          case rel => exact ⟨k + 1, by omega, by go_num, HA, hba.trans (hb5.mono hba.size)⟩
          case measure => simp [intOf]; omega
      · subst hwt
        cases dv
        · have HD := Lib.hid hdv
          clear hdv
          cases hp : parentB s db s[i].fks[k] vals
          · have HP := Lib.hid hp
            have HN := Lib.hid (hno (by unfold okFkB; rw [hp, HD.out]; rfl))
            clear hst hno hp
            go_wp2_with fail
            refine HC.out.mono ?_
            rintro e w5 ⟨rfl, hb5⟩
            rw [HP.out]
            go_wp2_with fail
            go_ret
            exact ⟨retB HN.out.symm, hba.trans (hb5.mono hba.size)⟩
          · have HP := Lib.hid hp
            have HA := Lib.hid (show (s[i].fks.take (k + 1)).all (okFkB s db vals true) = true by rw [hst]; unfold okFkB; rw [hp, HD.out]; rfl)
            clear hst hno hp
            go_wp2_with fail
            refine HC.out.mono ?_
            rintro e w5 ⟨rfl, hb5⟩
            rw [HP.out]
            go_wp2_with fail
            go_roundw
            case rel => exact ⟨k + 1, by omega, by go_num, HA, hba.trans (hb5.mono hba.size)⟩
            case measure => simp [intOf]; omega
        · have HA := Lib.hid (show (s[i].fks.take (k + 1)).all (okFkB s db vals true) = true by rw [hst]; unfold okFkB; rw [hdv]; rfl)
          clear hst hno hdv
          go_wp2_with fail
          go_roundw
          case rel => exact ⟨k + 1, by omega, by go_num, HA, hba⟩
          case measure => simp [intOf]; omega
    · obtain rfl : k = s[i].fks.length := by omega
      have h1 := hall.out
      rw [List.take_of_length_le (Nat.le_refl _)] at h1
      have HR := Lib.hid (show refersB s db s[i] vals wait = true from h1)
      clear hall h1
      go_wp2_with fail
      go_ret
      exact ⟨retB HR.out.symm, hb⟩
theorem findL_idx (cols : List Int) (key : List Vl) (rows : List Rw) : (findL cols key rows).length = (idxK cols key rows rows.length).length := by
  unfold findL idL; rw [List.length_map]
theorem keyOf_in {cols : List Int} {vals : List Vl} (h1 : rowB vals = true) (h2 : cols.all (inV vals) = true) : keyOf cols vals = keyL cols vals /\ keyFl cols vals = knownL (keyL cols vals) := by
  unfold keyOf keyFl keyOk; rw [h1, h2]; exact ⟨rfl, rfl⟩
set_option maxRecDepth 100000 in
set_option maxHeartbeats 4000000 in
theorem implLeadsNowhere (AS AD AC AV : Option Addr) (bf of br orr nS cS nD cD nC cC nV cV : Nat) (s : List Tb) (db : List Dt) (f : Fk) (vals : List Vl) (ok okd okc okv : Nat -> Prop) (w : World)
    (hs : Sl TbR 6 ok w AS nS s) (hd : Sl DtR 1 okd w AD nD db) (hc : Sl IntR 1 okc w AC nC f.cols) (hv : Sl VlR 3 okv w AV nV vals) (f0 : w.cell? ⟨bf, of, none⟩ = some (.slice AC nC cC)) (f1 : w.cell? ⟨bf, of + 1, none⟩ = some (.string f.table)) (r1 : w.cell? ⟨br, orr + 1, none⟩ = some (.slice AV nV cV))
    (hss : szL Tb.sz s <= 1048576) (hdn : nD <= 1048576) (hvn : nV <= 1048576) (hfm : f.table.size <= maxLen) (hrow : rowB vals = true) (hF : FkIn s db vals f) :
    Calls Tryz.prog 235 #[.slice AS nS cS, .slice AD nD cD, .pointer (some ⟨bf, of, none⟩), .pointer (some ⟨br, orr, none⟩)] w fun e w' => e = .returned (.bool (!(parentB s db f vals))) /\ Below w.heap.size w w' := by
  obtain rfl : s.length = nS := hs.1
  obtain rfl : db.length = nD := hd.1
  obtain rfl : f.cols.length = nC := hc.1
  obtain rfl : vals.length = nV := hv.1
  obtain ⟨hca, hcn, m, hat, hm, hmd, hkn, hrn, hrv, hall⟩ := hF
  have hsn : s.length <= 1048576 := by unfold szL at hss; omega
  have HKF := Lib.hid (keyOf_in hrow hca)
  have HVN := Lib.hid hrv
  have HALL := Lib.hid hall
  have HAT := Lib.hid hat
  have HKN := Lib.hid hkn
  have HRN := Lib.hid hrn
  have HPB := Lib.hid (parentB_at (vals := vals) hat hm hmd)
  have HSS := Lib.hid hss
  have HFM := Lib.hid hfm
  have HKL := Lib.hid (show (keyL f.cols vals).length <= 1048576 by rw [show (keyL f.cols vals).length = f.cols.length by simp [keyL]]; exact hcn)
  have i0 : (0 : Int) <= m := by omega
  have i1 : (m : Int) < s.length := by omega
  have i2 : (m : Int) < db.length := by omega
  have HC := implKeyOf AC AV f.cols.length cC vals.length cV f.cols vals _ _ w.drew (hc.drew IntR.stays) (hv.drew VlR.stays) hcn hvn
  rw [HKF.out.1, HKF.out.2] at HC
  have HC0 := Lib.hid HC
  clear HC
  clear hrv hall hca hat hkn hrn hss hfm hrow
  have hbd := (Below.refl w.heap.size w).drew
  go_enter Tryz.func235, Tryz.ntmps235
  go_wp2_with fail
  go_region_held3 (fun w' => w'.cell? ⟨bf, of, none⟩ = some (.slice AC f.cols.length cC) /\ w'.cell? ⟨bf, of + 1, none⟩ = some (.string f.table) /\ w'.cell? ⟨br, orr + 1, none⟩ = some (.slice AV vals.length cV))
    (first | go_keep | exact ⟨below_keep hb9 _ _ f0, below_keep hb9 _ _ f1, below_keep hb9 _ _ r1⟩)
    (first | (go_at_call 267; refine HC0.out.mono ?_; rintro e w9 ⟨AO, cO, rfl, hcO, hsl, hb9⟩))
  have hb1 := hbd.trans (hb9.mono hbd.size)
  have f1' := below_keep hb1 _ _ f1
  have HSL := Lib.hid hsl
  clear hsl f0 f1 r1 hbd hb9
  cases hk : knownL (keyL f.cols vals)
  · have HR := Lib.hid (show (!(parentB s db f vals)) = false by rw [HPB.out]; unfold parentR; rw [hk]; rfl)
    clear hk
    go_wp2_with fail
    go_ret
    exact ⟨retB HR.out.symm, hb1⟩
  · have HR := Lib.hid (show (!(parentB s db f vals)) = (((idxK s[m].key (keyL f.cols vals) db[m].rows db[m].rows.length).length : Int) == 0) by
      rw [HPB.out]; unfold parentR; rw [hk, findL_idx]
      generalize (idxK s[m].key (keyL f.cols vals) db[m].rows db[m].rows.length).length = q
      by_cases h : q = 0
      · subst h; rfl
      · rw [show ((q : Int) == 0) = false by rw [beq_eq_false_iff_ne]; omega, decide_eq_true (show 0 < q by omega)]; rfl)
    clear hk
    go_wp2_with fail
    refine (implTableAt AS s.length cS s f.table _ _ (hs.below TbR.stays hb1) HSS.out HFM.out).mono ?_
    rintro e w2 ⟨rfl, hb2⟩
    rw [HAT.out]
    have hb3 := hb1.trans (hb2.mono hb1.size)
    have HSL2 := Lib.hid ((HSL.out.below VlR.stays hb2).drew VlR.stays)
    clear f1' HSL
    obtain ⟨bt, ot, A1, n1, d1, A2, n2, d2, A3, n3, d3, A4, n4, d4, A5, n5, d5, -, rfl, q0, q1, q2, q3, q4, q5, s1, s2, -⟩ := TbR.at_ (hs.below TbR.stays hb3) hm
    obtain rfl : s[m].key.length = n2 := s2.1
    obtain ⟨bd, od, AL, nL, cL, -, rfl, p0, hrw, -⟩ := DtR.at_ (hd.below DtR.stays hb3) hmd
    obtain rfl : db[m].rows.length = nL := hrw.1
    have HP := Lib.hid (implRowsWith bd (od + m) AL A2 AO db[m].rows.length cL s[m].key.length d2 (keyL f.cols vals).length cO db[m].rows s[m].key (keyL f.cols vals) _ _ _ w2.drew p0 (hrw.drew RwR.stays) (s2.drew IntR.stays) HSL2.out HRN.out HKN.out HKL.out HVN.out HALL.out)
    have HXL := Lib.hid (idxK_len s[m].key (keyL f.cols vals) db[m].rows db[m].rows.length)
    have hbd := hb3.drew
    clear q0 q1 q3 q4 q5 s1 s2 hrw
    go_wp2_with fail
    go_region_held3 (fun w' => w'.cell? ⟨bd, od + m, none⟩ = some (.slice AL db[m].rows.length cL) /\ w'.cell? ⟨bt, ot + m * 6 + 2, none⟩ = some (.slice A2 s[m].key.length d2))
      (first | go_keep | exact ⟨below_keep hb9 _ _ p0, below_keep hb9 _ _ q2⟩)
      (first | (go_at_call 268; refine HP.out.mono ?_; rintro e w9 ⟨AP, cP, rfl, hcP, hsp, hb9⟩))
    go_wp2_with fail
    go_ret
    exact ⟨retB HR.out.symm, hbd.trans (hb9.mono hbd.size)⟩
def lostB (s : List Tb) (db : List Dt) (t : Tb) (vals : List Vl) (wait : Bool) : Bool := t.fks.any fun f => !(okFkB s db vals wait f)
theorem lostB_refers (s : List Tb) (db : List Dt) (t : Tb) (vals : List Vl) (wait : Bool) : lostB s db t vals wait = !(refersB s db t vals wait) := by
  unfold lostB refersB
  induction t.fks with
  | nil => rfl
  | cons a l ih => rw [List.any_cons, List.all_cons, ih]; cases okFkB s db vals wait a <;> rfl
set_option maxHeartbeats 1000000 in
theorem implAskedEnd (v : Value) (w : World) : Calls Tryz.prog 66 #[v] w fun e w' => e = .returned (.bool true) /\ Below w.heap.size w w' := by
  go_enter Tryz.func66, Tryz.ntmps66
  go_wp2_with fail
  go_ret
  exact ⟨rfl, Below.refl _ _⟩
set_option maxHeartbeats 1000000 in
theorem implAskedNow (b o : Nat) (d : Bool) (w : World) (h : w.cell? ⟨b, o + 4, none⟩ = some (.bool d)) : Calls Tryz.prog 78 #[.pointer (some ⟨b, o, none⟩)] w fun e w' => e = .returned (.bool (!d)) /\ Below w.heap.size w w' := by
  go_enter Tryz.func78, Tryz.ntmps78
  go_wp2_with fail
  go_ret
  exact ⟨rfl, Below.refl _ _⟩
set_option maxRecDepth 100000 in
set_option maxHeartbeats 4000000 in
theorem implIsLostEnd (AS AD A5 AV : Option Addr) (bt ot br orr nS cS nD cD n5 c5 nV cV : Nat) (s : List Tb) (db : List Dt) (i : Nat) (vals : List Vl) (ok okd ok5 okv : Nat -> Prop) (w : World)
    (hs : Sl TbR 6 ok w AS nS s) (hd : Sl DtR 1 okd w AD nD db) (hi : i < s.length) (h5 : Sl FkR 5 ok5 w A5 n5 s[i].fks) (hv : Sl VlR 3 okv w AV nV vals) (t5 : w.cell? ⟨bt, ot + 5, none⟩ = some (.slice A5 n5 c5)) (r1 : w.cell? ⟨br, orr + 1, none⟩ = some (.slice AV nV cV))
    (hss : szL Tb.sz s <= 1048576) (hdn : nD <= 1048576) (hvn : nV <= 1048576) (hrow : rowB vals = true) (hF : ∀ f ∈ s[i].fks, FkIn s db vals f) :
    Calls Tryz.prog 191 #[.slice AS nS cS, .slice AD nD cD, .pointer (some ⟨bt, ot, none⟩), .pointer (some ⟨br, orr, none⟩), .func (.func 66) #[] #[]] w fun e w' => e = .returned (.bool (lostB s db s[i] vals false)) /\ Below w.heap.size w w' := by
  obtain rfl : s[i].fks.length = n5 := h5.1
  have HF := Lib.hid hF
  have HQN := Lib.hid (show s[i].fks.length <= 1048576 by
    have h1 := szL_mem Tb.sz s s[i] (List.getElem_mem hi); have h2 : s[i].fks.length <= s[i].sz := by unfold Tb.sz szL; omega
    omega)
  have HTS := Lib.hid (show ∀ f ∈ s[i].fks, f.table.size <= maxLen from fun f hf => by
    have h1 := szL_mem Tb.sz s s[i] (List.getElem_mem hi)
    have h2 := szL_mem Fk.sz s[i].fks f hf
    have h3 : szL Fk.sz s[i].fks <= s[i].sz := by unfold Tb.sz; omega
    have h4 : f.table.size <= f.sz := by unfold Fk.sz; omega
    unfold maxLen; omega)
  have hfn := HQN.out
  clear hF
  have hb0 := Below.refl w.heap.size w
  go_enter Tryz.func191, Tryz.ntmps191
  go_wp2_with fail
  go_loopw [18] (fun j wr => ∃ k : Nat, k <= s[i].fks.length /\ j = .int .i64 k /\ Hid ((s[i].fks.take k).all (okFkB s db vals false) = true) /\ Below w.heap.size w wr) (fun j _ => s[i].fks.length - (intOf j).toNat)
  case atStart => exact ⟨0, by omega, rfl, Lib.hid (by simp), hb0⟩
  case round =>
    clear hb0
    obtain ⟨k, hk', rfl, hall, hb⟩ := hrel
    have t5' := below_keep hb _ _ t5
    have r1' := below_keep hb _ _ r1
    by_cases hlt : k < s[i].fks.length
    · obtain ⟨bf, of, AC, nC, cC, -, rfl, g0, g1, g2, g3, g4, hc, -⟩ := FkR.at_ (h5.below FkR.stays hb) hlt
      have j0 : (0 : Int) <= k := by omega
      have j1 : (k : Int) < s[i].fks.length := by omega
      have hst := all_take_one (okFkB s db vals false) s[i].fks k hlt
      rw [hall.out, Bool.true_and] at hst
      have hno : okFkB s db vals false s[i].fks[k] = false -> lostB s db s[i] vals false = true := fun hf => by
        unfold lostB; rw [List.any_eq_true]; exact ⟨s[i].fks[k], List.getElem_mem hlt, by simp [hf]⟩
      have HL := Lib.hid (fun w5 (hb5 : Below wr.heap.size wr w5) => implLeadsNowhere AS AD AC AV bf (of + k * 5) br orr nS cS nD cD nC cC nV cV s db s[i].fks[k] vals _ _ _ _ w5 (hs.below TbR.stays (hb.trans (hb5.mono hb.size))) (hd.below DtR.stays (hb.trans (hb5.mono hb.size))) (hc.below IntR.stays hb5) (hv.below VlR.stays (hb.trans (hb5.mono hb.size))) (below_keep hb5 _ _ g0) (below_keep hb5 _ _ g1) (below_keep hb5 _ _ r1') hss hdn hvn (HTS.out _ (List.getElem_mem hlt)) hrow (HF.out _ (List.getElem_mem hlt)))
      cases hp : parentB s db s[i].fks[k] vals
      · have HP := Lib.hid hp
        have HN := Lib.hid (hno (by unfold okFkB; rw [hp]; rfl))
        clear hst hno hp
        go_wp2_with fail
        refine (implAskedEnd _ _).mono ?_
        rintro e w5 ⟨rfl, hb5⟩
        go_wp2_with fail
        refine (HL.out w5 hb5).mono ?_
        rintro e w6 ⟨rfl, hb6⟩
        rw [HP.out]
        have hb7 := hb5.trans (hb6.mono hb5.size)
        go_wp2_with fail
        go_ret
        exact ⟨retB HN.out.symm, hb.trans (hb7.mono hb.size)⟩
      · have HP := Lib.hid hp
        have HA := Lib.hid (show (s[i].fks.take (k + 1)).all (okFkB s db vals false) = true by rw [hst]; unfold okFkB; rw [hp]; rfl)
        clear hst hno hp
        go_wp2_with fail
        refine (implAskedEnd _ _).mono ?_
        rintro e w5 ⟨rfl, hb5⟩
        go_wp2_with fail
        refine (HL.out w5 hb5).mono ?_
        rintro e w6 ⟨rfl, hb6⟩
        rw [HP.out]
        have hb7 := hb5.trans (hb6.mono hb5.size)
        go_wp2_with fail
        go_roundw
        case rel => exact ⟨k + 1, by omega, by go_num, HA, hb.trans (hb7.mono hb.size)⟩
        case measure => simp [intOf]; omega
    · obtain rfl : k = s[i].fks.length := by omega
      have h1 := hall.out
      rw [List.take_of_length_le (Nat.le_refl _)] at h1
      have HR := Lib.hid (show lostB s db s[i] vals false = false by rw [lostB_refers]; unfold refersB; rw [h1]; rfl)
      clear hall h1
      go_wp2_with fail
      go_ret
      exact ⟨retB HR.out.symm, hb⟩
set_option maxRecDepth 100000 in
set_option maxHeartbeats 4000000 in
theorem implIsLostNow (AS AD A5 AV : Option Addr) (bt ot br orr nS cS nD cD n5 c5 nV cV : Nat) (s : List Tb) (db : List Dt) (i : Nat) (vals : List Vl) (ok okd ok5 okv : Nat -> Prop) (w : World)
    (hs : Sl TbR 6 ok w AS nS s) (hd : Sl DtR 1 okd w AD nD db) (hi : i < s.length) (h5 : Sl FkR 5 ok5 w A5 n5 s[i].fks) (hv : Sl VlR 3 okv w AV nV vals) (t5 : w.cell? ⟨bt, ot + 5, none⟩ = some (.slice A5 n5 c5)) (r1 : w.cell? ⟨br, orr + 1, none⟩ = some (.slice AV nV cV))
    (hss : szL Tb.sz s <= 1048576) (hdn : nD <= 1048576) (hvn : nV <= 1048576) (hrow : rowB vals = true) (hF : ∀ f ∈ s[i].fks, FkIn s db vals f) :
    Calls Tryz.prog 191 #[.slice AS nS cS, .slice AD nD cD, .pointer (some ⟨bt, ot, none⟩), .pointer (some ⟨br, orr, none⟩), .func (.func 78) #[] #[]] w fun e w' => e = .returned (.bool (lostB s db s[i] vals true)) /\ Below w.heap.size w w' := by
  obtain rfl : s[i].fks.length = n5 := h5.1
  have HF := Lib.hid hF
  have HQN := Lib.hid (show s[i].fks.length <= 1048576 by
    have h1 := szL_mem Tb.sz s s[i] (List.getElem_mem hi); have h2 : s[i].fks.length <= s[i].sz := by unfold Tb.sz szL; omega
    omega)
  have HTS := Lib.hid (show ∀ f ∈ s[i].fks, f.table.size <= maxLen from fun f hf => by
    have h1 := szL_mem Tb.sz s s[i] (List.getElem_mem hi)
    have h2 := szL_mem Fk.sz s[i].fks f hf
    have h3 : szL Fk.sz s[i].fks <= s[i].sz := by unfold Tb.sz; omega
    have h4 : f.table.size <= f.sz := by unfold Fk.sz; omega
    unfold maxLen; omega)
  have hfn := HQN.out
  clear hF
  have hb0 := Below.refl w.heap.size w
  go_enter Tryz.func191, Tryz.ntmps191
  go_wp2_with fail
  go_loopw [18] (fun j wr => ∃ k : Nat, k <= s[i].fks.length /\ j = .int .i64 k /\ Hid ((s[i].fks.take k).all (okFkB s db vals true) = true) /\ Below w.heap.size w wr) (fun j _ => s[i].fks.length - (intOf j).toNat)
  case atStart => exact ⟨0, by omega, rfl, Lib.hid (by simp), hb0⟩
  case round =>
    clear hb0
    obtain ⟨k, hk', rfl, hall, hb⟩ := hrel
    have t5' := below_keep hb _ _ t5
    have r1' := below_keep hb _ _ r1
    by_cases hlt : k < s[i].fks.length
    · obtain ⟨bf, of, AC, nC, cC, -, rfl, g0, g1, g2, g3, g4, hc, -⟩ := FkR.at_ (h5.below FkR.stays hb) hlt
      have j0 : (0 : Int) <= k := by omega
      have j1 : (k : Int) < s[i].fks.length := by omega
      have hst := all_take_one (okFkB s db vals true) s[i].fks k hlt
      rw [hall.out, Bool.true_and] at hst
      have hno : okFkB s db vals true s[i].fks[k] = false -> lostB s db s[i] vals true = true := fun hf => by
        unfold lostB; rw [List.any_eq_true]; exact ⟨s[i].fks[k], List.getElem_mem hlt, by simp [hf]⟩
      have HL := Lib.hid (fun w5 (hb5 : Below wr.heap.size wr w5) => implLeadsNowhere AS AD AC AV bf (of + k * 5) br orr nS cS nD cD nC cC nV cV s db s[i].fks[k] vals _ _ _ _ w5 (hs.below TbR.stays (hb.trans (hb5.mono hb.size))) (hd.below DtR.stays (hb.trans (hb5.mono hb.size))) (hc.below IntR.stays hb5) (hv.below VlR.stays (hb.trans (hb5.mono hb.size))) (below_keep hb5 _ _ g0) (below_keep hb5 _ _ g1) (below_keep hb5 _ _ r1') hss hdn hvn (HTS.out _ (List.getElem_mem hlt)) hrow (HF.out _ (List.getElem_mem hlt)))
      generalize hdv : s[i].fks[k].dfr = dv at *
      cases dv
      · have HD := Lib.hid hdv
        clear hdv
        cases hp : parentB s db s[i].fks[k] vals
        · have HP := Lib.hid hp
          have HN := Lib.hid (hno (by unfold okFkB; rw [hp, HD.out]; rfl))
          clear hst hno hp
          go_wp2_with fail
          refine (implAskedNow bf (of + k * 5) _ _ g4).mono ?_
          rintro e w5 ⟨rfl, hb5⟩
          go_wp2_with fail
          refine (HL.out w5 hb5).mono ?_
          rintro e w6 ⟨rfl, hb6⟩
          rw [HP.out]
          have hb7 := hb5.trans (hb6.mono hb5.size)
          go_wp2_with fail
          go_ret
          exact ⟨retB HN.out.symm, hb.trans (hb7.mono hb.size)⟩
        · have HP := Lib.hid hp
          have HA := Lib.hid (show (s[i].fks.take (k + 1)).all (okFkB s db vals true) = true by rw [hst]; unfold okFkB; rw [hp, HD.out]; rfl)
          clear hst hno hp
          go_wp2_with fail
          refine (implAskedNow bf (of + k * 5) _ _ g4).mono ?_
          rintro e w5 ⟨rfl, hb5⟩
          go_wp2_with fail
          refine (HL.out w5 hb5).mono ?_
          rintro e w6 ⟨rfl, hb6⟩
          rw [HP.out]
          have hb7 := hb5.trans (hb6.mono hb5.size)
          go_wp2_with fail
          go_roundw
          case rel => exact ⟨k + 1, by omega, by go_num, HA, hb.trans (hb7.mono hb.size)⟩
          case measure => simp [intOf]; omega
      · have HA := Lib.hid (show (s[i].fks.take (k + 1)).all (okFkB s db vals true) = true by rw [hst]; unfold okFkB; rw [hdv]; rfl)
        clear hst hno hdv HL
        go_wp2_with fail
        refine (implAskedNow bf (of + k * 5) _ _ g4).mono ?_
        rintro e w5 ⟨rfl, hb5⟩
        go_wp2_with fail
        go_roundw
        case rel => exact ⟨k + 1, by omega, by go_num, HA, hb.trans (hb5.mono hb.size)⟩
        case measure => simp [intOf]; omega
    · obtain rfl : k = s[i].fks.length := by omega
      have h1 := hall.out
      rw [List.take_of_length_le (Nat.le_refl _)] at h1
      have HR := Lib.hid (show lostB s db s[i] vals true = false by rw [lostB_refers]; unfold refersB; rw [h1]; rfl)
      clear hall h1
      go_wp2_with fail
      go_ret
      exact ⟨retB HR.out.symm, hb⟩
def othL (cols : List Int) (rows : List Rw) (x : Rw) : List Int := if knownL (keyL cols x.vals) then (findL cols (keyL cols x.vals) rows).filter (fun i => i != x.id) else []
theorem twiceB_oth (cols : List Int) (rows : List Rw) (x : Rw) : twiceB cols rows x = decide (0 < (othL cols rows x).length) := by
  unfold twiceB othL
  cases knownL (keyL cols x.vals)
  · rfl
  · rw [Bool.true_and, if_pos rfl]
    generalize findL cols (keyL cols x.vals) rows = l
    induction l with
    | nil => rfl
    | cons a l ih => rw [List.any_cons, List.filter_cons]; cases h : (a != x.id) <;> simp_all
theorem othL_len (cols : List Int) (rows : List Rw) (x : Rw) : (othL cols rows x).length <= rows.length := by
  unfold othL; split
  · exact Nat.le_trans (List.length_filter_le _ _) (findL_len _ _ _)
  · exact Nat.zero_le _
def MadeO (xs : List Int) (w : World) (e : Ending) (w' : World) : Prop := ∃ v, e = .returned v /\ OwnI w' w.heap.size v xs /\ Below w.heap.size w w'
theorem OwnI.base {w : World} {b b' : Nat} {v : Value} {xs : List Int} (h : OwnI w b v xs) (hb : b' <= b) : OwnI w b' v xs := by
  refine ⟨h.1, ?_⟩
  rcases h.2 with h | ⟨g, cap, cur, rfl, h1, h2⟩
  · exact .inl h
  · exact .inr ⟨g, cap, cur, rfl, by omega, h2⟩
set_option maxRecDepth 100000 in
set_option maxHeartbeats 4000000 in
theorem implOthersWith (bd od br orr : Nat) (AL AC AX : Option Addr) (nL cL nC cC nX cX : Nat) (rows : List Rw) (cols : List Int) (x : Rw) (ok okc okx : Nat -> Prop) (w : World)
    (p0 : w.cell? ⟨bd, od, none⟩ = some (.slice AL nL cL)) (hr : Sl RwR 2 ok w AL nL rows) (hc : Sl IntR 1 okc w AC nC cols) (r0 : w.cell? ⟨br, orr, none⟩ = some (.int .i64 x.id)) (r1 : w.cell? ⟨br, orr + 1, none⟩ = some (.slice AX nX cX)) (hx : Sl VlR 3 okx w AX nX x.vals)
    (hrn : nL <= 1048576) (hcn : nC <= 1048576) (hxn : nX <= 1048576) (hvn : ∀ r ∈ rows, r.vals.length <= 1048576) (hall : ∀ r ∈ rows, cols.all (inV r.vals) = true) (hrow : rowB x.vals = true) (hxa : cols.all (inV x.vals) = true) :
    Calls Tryz.prog 232 #[.pointer (some ⟨bd, od, none⟩), .slice AC nC cC, .pointer (some ⟨br, orr, none⟩)] w (MadeO (othL cols rows x) w) := by
  obtain rfl : rows.length = nL := hr.1
  obtain rfl : cols.length = nC := hc.1
  obtain rfl : x.vals.length = nX := hx.1
  have HKF := Lib.hid (keyOf_in hrow hxa)
  have HVN := Lib.hid hvn
  have HALL := Lib.hid hall
  have HRN := Lib.hid hrn
  have HKL := Lib.hid (show (keyL cols x.vals).length <= 1048576 by rw [show (keyL cols x.vals).length = cols.length by simp [keyL]]; exact hcn)
  have HC := implKeyOf AC AX cols.length cC x.vals.length cX cols x.vals _ _ w hc hx hcn hxn
  rw [HKF.out.1, HKF.out.2] at HC
  have HC0 := Lib.hid HC
  obtain ⟨i0, hi, hz0, hz1, hz2⟩ := info_parts infoIntI
  have H1 := Lib.hid hi
  have H2 := Lib.hid hz0
  have H3 := Lib.hid hz1
  have H4 := Lib.hid hz2
  clear hi hz0 hz1 hz2 HC hvn hall hrow hxa
  go_enter Tryz.func232, Tryz.ntmps232
  go_wp2_with fail
  refine HC0.out.mono ?_
  rintro e w1 ⟨AO, cO, rfl, hcO, hsl, hb1⟩
  have HSL := Lib.hid hsl
  clear hsl
  cases hk : knownL (keyL cols x.vals)
  · have HR := Lib.hid (show othL cols rows x = [] by unfold othL; rw [hk]; rfl)
    clear hk
    go_wp2_with fail
    go_ret
    exact ⟨_, rfl, by rw [HR.out]; exact OwnI.nil _ _, hb1⟩
  have HR := Lib.hid (show othL cols rows x = (idL rows (idxK cols (keyL cols x.vals) rows rows.length)).filter (fun i => i != x.id) by unfold othL; rw [hk]; rfl)
  clear hk
  have HP := Lib.hid (implRowsWith bd od AL AC AO rows.length cL cols.length cC (keyL cols x.vals).length cO rows cols (keyL cols x.vals) _ _ _ w1 (below_keep hb1 _ _ p0) (hr.below RwR.stays hb1) (hc.below IntR.stays hb1) HSL.out hrn hcn HKL.out HVN.out HALL.out)
  go_wp2_with fail
  refine HP.out.mono ?_
  rintro e w4 ⟨AP, cP, rfl, hcP, hsp, hb4⟩
  have hbz := hb1.trans (hb4.mono hb1.size)
  have hrs := hr.below RwR.stays hbz
  have r0z := below_keep hbz _ _ r0
  have HIL := Lib.hid (idxK_lt cols (keyL cols x.vals) rows rows.length)
  have HXL := Lib.hid (idxK_len cols (keyL cols x.vals) rows rows.length)
  clear hb4 HP hb1 p0 r0 r1 hr hx hc HSL HC0
  generalize hxg : idxK cols (keyL cols x.vals) rows rows.length = xs at *
  have HXG := Lib.hid hxg
  clear hxg
  go_wp2_with fail
  go_loopw [9, 28] (fun v i wr => ∃ j : Nat, j <= xs.length /\ i = .int .i64 j /\ Hid (OwnI wr w4.heap.size v ((idL rows (xs.take j)).filter (fun i => i != x.id))) /\ Below w4.heap.size w4 wr) (fun _ i _ => xs.length - (intOf i).toNat)
  case atStart => exact ⟨0, by omega, rfl, Lib.hid (OwnI.nil _ _), Below.refl _ _⟩
  case round =>
    obtain ⟨j, hj, rfl, hown, hb⟩ := hrel
    have r0' := below_keep hb _ _ r0z
    by_cases hlt : j < xs.length
    · have hix := (HIL.out _ (List.getElem_mem hlt)).2
      obtain ⟨bl, ol, B1, k1, d1, -, rfl, z0, -⟩ := RwR.at_ (hrs.below RwR.stays hb) hix
      obtain ⟨bp, op, rfl, z1⟩ := ptr_at (hsp.stays (FlatR.stays _) (fun _ h => h) (fun p v _ hp => below_keep hb p v hp)) rfl hlt
      have j0 : (0 : Int) <= j := by omega
      have j1 : (j : Int) < xs.length := by omega
      have hT := idL_app rows (xs.take j) xs[j] hix
      rw [<- List.take_succ_eq_append_getElem hlt] at hT
      have hxj : xs.length <= 1048576 := by have h1 := HXL.out; have h2 := HRN.out; omega
      have HLI := Lib.hid (show ((idL rows (xs.take j)).filter (fun i => i != x.id)).length <= j by
        refine Nat.le_trans (List.length_filter_le _ _) ?_
        unfold idL; rw [List.length_map, List.length_take]; omega)
      cases hne : (rows[xs[j]].id != x.id)
      · have HA := Lib.hid (show (idL rows (xs.take (j + 1))).filter (fun i => i != x.id) = (idL rows (xs.take j)).filter (fun i => i != x.id) by rw [hT, List.filter_append]; simp [hne])
        clear hT
        go_wp2_with fail
        go_quiet (fail)
        go_wp2_with fail
        go_roundw
        case rel => exact ⟨j + 1, by omega, by go_num, Lib.hid (by rw [HA.out]; exact OwnI.below hown.out (below_dN (Below.refl _ _) _)), below_dN hb _⟩
        case measure => simp [intOf]; omega
      · have HA := Lib.hid (show (idL rows (xs.take (j + 1))).filter (fun i => i != x.id) = (idL rows (xs.take j)).filter (fun i => i != x.id) ++ [rows[xs[j]].id] by rw [hT, List.filter_append]; simp [hne])
        clear hT
        generalize hgv : (idL rows (xs.take j)).filter (fun i => i != x.id) = ys at *
        have HGV := Lib.hid hgv
        clear hgv
        go_wp2_with fail
        go_quiet (fail)
        have hbd := below_dN hb nq
        have z0d := below_keep (below_dN (Below.refl wr.heap.size wr) nq) _ _ z0
        have hoz := OwnI.below hown.out (below_dN (Below.refl wr.heap.size wr) nq)
        have hoz := Lib.hid hoz
        clear hown
        generalize wr.drewN nq = wd at *
        go_wp2_with (at_builtin; refine wpList_append_own _ rfl _ _ 70 rfl w4.heap.size 2 i0 (.int .i64 0) 1 8 Tryz.underlying70 H1.out H2.out H3.out H4.out rfl (by decide) _ _ _ rfl (World.ownsRow.alloc hoz.out _) ⟨_, 0, none⟩ 1 1 [.int .i64 rows[xs[j]].id] rfl rfl ?c1 ?c2 ?c3 ?c4 ?c5 ?_)
        case c1 => exact cell_one_new _ _ _
        case c2 => intro u hu; simp at hu; subst hu; rfl
        case c3 => have := HLI.out; unfold maxLen; omega
        case c4 => have := HLI.out; omega
        case c5 => have := hbd.size; simp; omega
        intro v' w5 hown3 hgrow _
        have R := Lib.hid (OwnI.app hoz.out hbd.size hown3 hgrow)
        clear hown3 hgrow hoz
        go_wp2_with fail
        go_roundw
        case rel => exact ⟨j + 1, by omega, by go_num, Lib.hid (by rw [HA.out]; exact R.out.1), hbd.trans R.out.2⟩
        case measure => simp [intOf]; omega
    · obtain rfl : j = xs.length := by omega
      have ho := hown.out
      rw [List.take_of_length_le (Nat.le_refl _)] at ho
      have HO := Lib.hid ho
      clear hown ho
      have hbw := hbz.trans (hb.mono hbz.size)
      go_wp2_with fail
      go_ret
      exact ⟨_, rfl, by rw [HR.out]; exact OwnI.base HO.out hbz.size, hbw⟩
end Go.Proofs.YtlpldhmanihnnaaGreat
namespace Go.Proofs.YtlpldhmanihnnaaGreat
open Go.RowKit Go.Maps Go.Sort
def rivL (t : Tb) (rows : List Rw) (x : Rw) : List Int := othL t.key rows x ++ t.uniqs.flatMap fun u => othL u.cols rows x
def sortL (l : List Int) : List Int := l.mergeSort fun x y => decide (x <= y)
def rivB (t : Tb) (rows : List Rw) (x : Rw) : List Int := Lib.compact (sortL (rivL t rows x))
theorem sortL_len (l : List Int) : (sortL l).length = l.length := List.length_mergeSort l
theorem sortL_nil : sortL [] = [] := by simp [sortL]
theorem compact_nil : Lib.compact ([] : List Int) = [] := rfl
theorem compact_len (l : List Int) : (Lib.compact l).length <= l.length := by
  unfold Lib.compact Lib.compactUpTo
  rw [List.length_map]
  exact Nat.le_trans (List.length_filter_le _ _) (by simp)
theorem compact_pos {l : List Int} (h : 0 < l.length) : 0 < (Lib.compact l).length := by
  unfold Lib.compact Lib.compactUpTo
  rw [List.length_map]
  exact List.length_pos_of_mem (a := 0) (List.mem_filter.2 ⟨List.mem_range.2 h, Lib.keeps_lt_one _ 0 (by omega)⟩)
theorem rivB_pos (t : Tb) (rows : List Rw) (x : Rw) : decide (0 < (rivB t rows x).length) = decide (0 < (rivL t rows x).length) := by
  unfold rivB
  by_cases h : 0 < (rivL t rows x).length
  · rw [decide_eq_true h, decide_eq_true (compact_pos (by rw [sortL_len]; exact h))]
  · rw [decide_eq_false h, decide_eq_false]
    have h1 := compact_len (sortL (rivL t rows x))
    rw [sortL_len] at h1
    omega
theorem rivL_len (t : Tb) (rows : List Rw) (x : Rw) : (rivL t rows x).length <= (1 + t.uniqs.length) * rows.length := by
  unfold rivL
  rw [List.length_append]
  have h1 := othL_len t.key rows x
  have h2 : (t.uniqs.flatMap fun u => othL u.cols rows x).length <= t.uniqs.length * rows.length := by
    induction t.uniqs with
    | nil => simp
    | cons u l ih =>
      rw [List.flatMap_cons, List.length_append, List.length_cons, Nat.add_mul, Nat.one_mul]
      have := othL_len u.cols rows x
      omega
  rw [Nat.add_mul, Nat.one_mul]
  omega
theorem uniqueB_riv (t : Tb) (rows : List Rw) (x : Rw) : uniqueB t rows x = !(decide (0 < (rivB t rows x).length)) := by
  rw [rivB_pos]
  have hz : ∀ l : List Uq, (l.any fun u => twiceB u.cols rows x) = decide (0 < (l.flatMap fun u => othL u.cols rows x).length) := fun l => by
    induction l with
    | nil => rfl
    | cons u l ih =>
      rw [List.any_cons, ih, twiceB_oth, List.flatMap_cons, List.length_append]
      by_cases h : 0 < (othL u.cols rows x).length
      · rw [decide_eq_true h, decide_eq_true (show 0 < (othL u.cols rows x).length + (l.flatMap fun u => othL u.cols rows x).length by omega)]; rfl
      · rw [decide_eq_false h, Bool.false_or]
        congr 1
        rw [show (othL u.cols rows x).length = 0 by omega, Nat.zero_add]
  have h2 : uniqueB t rows x = !(twiceB t.key rows x || t.uniqs.any fun u => twiceB u.cols rows x) := by
    unfold uniqueB
    rw [Bool.not_or]
    congr 1
    induction t.uniqs with
    | nil => rfl
    | cons u l ih => rw [List.all_cons, List.any_cons, Bool.not_or, ih]
  rw [h2, hz, twiceB_oth]
  congr 1
  unfold rivL
  rw [List.length_append]
  by_cases h : 0 < (othL t.key rows x).length
  · rw [decide_eq_true h, decide_eq_true (show 0 < (othL t.key rows x).length + (t.uniqs.flatMap fun u => othL u.cols rows x).length by omega)]; rfl
  · rw [decide_eq_false h, Bool.false_or]
    congr 1
    rw [show (othL t.key rows x).length = 0 by omega, Nat.zero_add]
theorem OwnI.prefix {w : World} {base g m cap : Nat} {xs ys : List Int} (h : OwnI w base (.slice (some ⟨g, 0, none⟩) m cap) xs) (hp : ys <+: xs) : OwnI w base (.slice (some ⟨g, 0, none⟩) ys.length cap) ys := by
  refine ⟨by simp, .inr ?_⟩
  rcases h.2 with ⟨h1, -⟩ | ⟨g', cap', cur, hv, h1, h2, h3, h4, h5, h6⟩
  · cases h1
  · injection hv with e1 e2 e3
    injection e1 with e1
    injection e1 with e1
    subst e1 e3
    obtain ⟨zs, rfl⟩ := hp
    refine ⟨g, cap, cur, rfl, h1, h2, by simp at h3; omega, h4, h5, ?_⟩
    rw [Nat.mul_one] at h6 ⊢
    have h7 := congrArg (List.take ys.length) h6
    rw [List.take_take, List.map_append, List.take_append_of_le_length (by simp)] at h7
    rw [show min ys.length (ys ++ zs).length = ys.length by simp] at h7
    rw [h7, <- List.map_take, List.take_length]
theorem OwnI.cells {w : World} {base g m cap : Nat} {xs : List Int} (h : OwnI w base (.slice (some ⟨g, 0, none⟩) m cap) xs) : ∀ j u, (xs.map (Value.int .i64))[j]? = some u -> w.cell? ((⟨g, 0, none⟩ : Addr).add j) = some u := fun j u hj => by
  rcases h.2 with ⟨h1, -⟩ | ⟨g', cap', cur, hv, h1, h2, h3, h4, h5, h6⟩
  · cases h1
  · injection hv with e1 e2 e3
    injection e1 with e1
    injection e1 with e1
    subst e1
    have hl : j < xs.length := by have := (List.getElem?_eq_some_iff.1 hj).1; simpa using this
    rw [addr_add, Nat.zero_add, cell_of_row _ _ _ _ _ _ h2, <- Array.getElem?_toList]
    rw [<- h6, List.getElem?_take, if_pos (by omega)] at hj
    exact hj
theorem OwnI.len {w : World} {base m cap : Nat} {A : Option Addr} {xs : List Int} (h : OwnI w base (.slice A m cap) xs) : xs.length = m := by
  rcases h.2 with ⟨h1, h2⟩ | ⟨g', cap', cur, hv, -⟩
  · injection h1 with e1 e2 e3; omega
  · injection hv with e1 e2 e3; exact e2.symm
theorem OwnI.apps {w w' : World} {base : Nat} {v v' : Value} {xs ys : List Int} (h : OwnI w base v xs) (hb : base <= w.heap.size)
    (h' : w'.ownsRow base 2 1 v' (xs.length + ys.length) (xs.map (Value.int .i64) ++ ys.map (Value.int .i64))) (hg : w.grownBy w' v.ownBlock) : OwnI w' base v' (xs ++ ys) /\ Below base w w' :=
  ⟨by unfold OwnI; rw [List.length_append, List.map_append]; exact h', (Below.refl base w).grown hg hb fun k hk => (h.block_lt k hk).1⟩
theorem libSort {w : World} {base : Nat} {A : Option Addr} {n cap : Nat} {xs : List Int} (h : OwnI w base (.slice A n cap) xs) (hn : xs.length <= 1099513724928) :
    Calls Tryz.prog 233 #[.slice A n cap] w fun e w' => e = .returned (.tuple #[]) /\ OwnI w' base (.slice A n cap) (sortL xs) /\ Below base w w' := by
  have hl := h.len
  rcases h.2 with ⟨h1, h2⟩ | ⟨g, cap', cur, hv, h1, h2, h3, h4, h5, h6⟩
  · injection h1 with e1 e2 e3
    subst e1 e2 e3
    obtain rfl : xs = [] := List.eq_nil_of_length_eq_zero h2
    have hc := AnyM.slices_Sort_int_none Tryz.sortI none 0 w
    change Calls Tryz.prog 233 _ _ _ at hc
    refine hc.mono ?_
    rintro e w' ⟨rfl, rfl⟩
    exact ⟨rfl, by rw [sortL_nil]; exact h, Below.refl _ _⟩
  · injection hv with e1 e2 e3
    subst e1 e2 e3
    have hH : Holds (Value.int .i64) w g 0 xs.toArray := holds_of_blockI h2 (by simpa using h6)
    have hgl : g < w.heap.size := lt_of_block h2
    have hc := AnyM.slices_Sort_int Tryz.sortI g 0 cap xs w hH hgl (by omega)
    change Calls Tryz.prog 233 _ _ _ at hc
    refine hc.mono ?_
    rintro e w' ⟨rfl, nn, os, rfl⟩
    refine ⟨rfl, ?_, (Below.refl base w).grown (grownBy_sortedI _) (by omega) (fun k hk => by cases hk; exact h1)⟩
    have hr := ownsRow_sortedI (n := nn) (os := os) (ts := sortL xs) (sortL_len xs) h1 h2 h3 h4 h5
    unfold OwnI
    rw [sortL_len]
    exact hr
theorem libCompact {w : World} {base : Nat} {A : Option Addr} {n cap : Nat} {xs : List Int} (h : OwnI w base (.slice A n cap) xs) (hn : xs.length <= 1099513724928) :
    Calls Tryz.prog 234 #[.slice A n cap] w fun e w' => ∃ v, e = .returned v /\ OwnI w' base v (Lib.compact xs) /\ Below base w w' := by
  have hl := h.len
  rcases h.2 with ⟨h1, h2⟩ | ⟨g, cap', cur, hv, h1, h2, h3, h4, h5, h6⟩
  · injection h1 with e1 e2 e3
    subst e1 e2 e3
    obtain rfl : xs = [] := List.eq_nil_of_length_eq_zero h2
    have hc := AnyG.slices_Compact_int_empty Tryz.compI none 0 w
    change Calls Tryz.prog 234 _ _ _ at hc
    refine hc.mono ?_
    rintro e w' ⟨rfl, rfl⟩
    exact ⟨_, rfl, by rw [compact_nil]; exact h, Below.refl _ _⟩
  · injection hv with e1 e2 e3
    subst e1 e2 e3
    have hH : Holds (Value.int .i64) w g 0 xs.toArray := holds_of_blockI h2 (by simpa using h6)
    have hgl : g < w.heap.size := lt_of_block h2
    have hc := AnyG.slices_Compact_int Tryz.compI g 0 cap xs w hH (by omega) h3
    change Calls Tryz.prog 234 _ _ _ at hc
    refine hc.mono ?_
    rintro e w' ⟨rfl, q, rfl⟩
    have hcl := compact_len xs
    have hlen : (Lib.compact xs ++ List.replicate (xs.length - (Lib.compact xs).length) (0 : Int)).length = xs.length := by simp; omega
    have hg := grownBy_sortedI (w := w) (g := g) (n := q) (os := #[]) (Lib.compact xs ++ List.replicate (xs.length - (Lib.compact xs).length) (0 : Int)).toArray
    have hr := ownsRow_sortedI (n := q) (os := #[]) (ts := Lib.compact xs ++ List.replicate (xs.length - (Lib.compact xs).length) (0 : Int)) hlen h1 h2 h3 h4 h5
    rw [grow_empty] at hg hr
    refine ⟨_, rfl, ?_, (Below.refl base w).grown hg (by omega) (fun k hk => by cases hk; exact h1)⟩
    refine OwnI.prefix (m := xs.length) (xs := Lib.compact xs ++ List.replicate (xs.length - (Lib.compact xs).length) (0 : Int)) ?_ (List.prefix_append _ _)
    unfold OwnI
    rw [hlen]
    exact hr
set_option maxRecDepth 100000 in
set_option maxHeartbeats 4000000 in
theorem implRivalsOf (bt ot bd od br orr : Nat) (AL A2 A3 AX : Option Addr) (nL cL n2 c2 n3 c3 nX cX : Nat) (rows : List Rw) (t : Tb) (x : Rw) (ok ok2 ok3 okx : Nat -> Prop) (w : World)
    (t2 : w.cell? ⟨bt, ot + 2, none⟩ = some (.slice A2 n2 c2)) (t3 : w.cell? ⟨bt, ot + 3, none⟩ = some (.slice A3 n3 c3)) (h2 : Sl IntR 1 ok2 w A2 n2 t.key) (h3 : Sl UqR 1 ok3 w A3 n3 t.uniqs)
    (p0 : w.cell? ⟨bd, od, none⟩ = some (.slice AL nL cL)) (hr : Sl RwR 2 ok w AL nL rows) (r0 : w.cell? ⟨br, orr, none⟩ = some (.int .i64 x.id)) (r1 : w.cell? ⟨br, orr + 1, none⟩ = some (.slice AX nX cX)) (hx : Sl VlR 3 okx w AX nX x.vals)
    (hrn : nL <= 1048576) (h2n : n2 <= 1048576) (h3n : n3 <= 1048576) (hun : ∀ u ∈ t.uniqs, u.cols.length <= 1048576) (hxn : nX <= 1048576) (hvn : ∀ r ∈ rows, r.vals.length <= 1048576)
    (hall : ∀ r ∈ rows, t.key.all (inV r.vals) = true) (hallu : ∀ u ∈ t.uniqs, ∀ r ∈ rows, u.cols.all (inV r.vals) = true) (hrow : rowB x.vals = true) (hxa : t.key.all (inV x.vals) = true) (hxu : ∀ u ∈ t.uniqs, u.cols.all (inV x.vals) = true) :
    Calls Tryz.prog 190 #[.pointer (some ⟨bt, ot, none⟩), .pointer (some ⟨bd, od, none⟩), .pointer (some ⟨br, orr, none⟩)] w (MadeO (rivB t rows x) w) := by
  obtain rfl : rows.length = nL := hr.1
  obtain rfl : t.uniqs.length = n3 := h3.1
  have HVN := Lib.hid hvn
  have HALL := Lib.hid hall
  have HALU := Lib.hid hallu
  have HUN := Lib.hid hun
  have HXU := Lib.hid hxu
  have HROW := Lib.hid hrow
  have HXA := Lib.hid hxa
  have HB := Lib.hid (show ∀ k, k <= t.uniqs.length -> (othL t.key rows x ++ (t.uniqs.take k).flatMap fun u => othL u.cols rows x).length + rows.length <= 1099513724928 from fun k hk => by
    have h1 := rivL_len { t with uniqs := t.uniqs.take k } rows x
    unfold rivL at h1
    simp only at h1
    rw [List.length_take] at h1
    have h4 : (1 + min k t.uniqs.length) * rows.length <= (1 + 1048576) * 1048576 - rows.length + rows.length := by
      have := Nat.mul_le_mul (show 1 + min k t.uniqs.length <= 1 + 1048576 by omega) hrn
      omega
    have h5 : (1 + min k t.uniqs.length) * rows.length <= (1 + 1048576) * 1048576 := Nat.mul_le_mul (by omega) hrn
    omega)
  obtain ⟨i0, hi, hz0, hz1, hz2⟩ := info_parts infoIntI
  have H1 := Lib.hid hi
  have H2 := Lib.hid hz0
  have H3 := Lib.hid hz1
  have H4 := Lib.hid hz2
  clear hi hz0 hz1 hz2 hvn hall hallu hun hxu hrow hxa
  have HC0 := Lib.hid (implOthersWith bd od br orr AL A2 AX rows.length cL n2 c2 nX cX rows t.key x ok ok2 okx w p0 hr h2 r0 r1 hx hrn h2n hxn HVN.out HALL.out HROW.out HXA.out)
  go_enter Tryz.func190, Tryz.ntmps190
  go_wp2_with fail
  refine HC0.out.mono ?_
  rintro e w1 ⟨v1, rfl, hown1, hb1⟩
  have HO1 := Lib.hid hown1
  have t3' := below_keep hb1 _ _ t3
  clear hown1 HC0
  go_wp2_with fail
  go_loopw [7, 22] (fun v iv wr => ∃ k : Nat, k <= t.uniqs.length /\ iv = .int .i64 k /\ Hid (OwnI wr w.heap.size v (othL t.key rows x ++ (t.uniqs.take k).flatMap fun u => othL u.cols rows x)) /\ Below w.heap.size w wr) (fun _ iv _ => t.uniqs.length - (intOf iv).toNat)
  case atStart => exact ⟨0, by omega, rfl, Lib.hid (by simpa using HO1.out), hb1⟩
  case round =>
    clear HO1 hb1 t3'
    obtain ⟨k, hk, rfl, hown, hb⟩ := hrel
    by_cases hlt : k < t.uniqs.length
    · obtain ⟨bu, ou, AU, nU, cU, -, rfl, u0, hu, -⟩ := UqR.at_ (h3.below UqR.stays hb) hlt
      obtain rfl : (t.uniqs[k]).cols.length = nU := hu.1
      have k0 : (0 : Int) <= k := by omega
      have k1 : (k : Int) < t.uniqs.length := by omega
      have hbx := (Below.refl wr.heap.size wr).alloc (Nat.le_refl _) (.cells #[.slice AU (t.uniqs[k]).cols.length cU] 183)
      have hba := hb.trans (hbx.mono hb.size)
      have RX := Row.new wr 183 #[.slice AU (t.uniqs[k]).cols.length cU]
      have d0 := RX.cell 0
      simp only [List.getElem?_toArray, List.getElem?_cons_zero] at d0
      have HC := Lib.hid (implOthersWith bd od br orr AL AU AX rows.length cL (t.uniqs[k]).cols.length cU nX cX rows (t.uniqs[k]).cols x ok _ okx _ (below_keep hba _ _ p0) (hr.below RwR.stays hba) (hu.below IntR.stays hbx) (below_keep hba _ _ r0) (below_keep hba _ _ r1) (hx.below VlR.stays hba) hrn (HUN.out _ (List.getElem_mem hlt)) hxn HVN.out (HALU.out _ (List.getElem_mem hlt)) HROW.out (HXU.out _ (List.getElem_mem hlt)))
      have hownb := Lib.hid (OwnI.below hown.out hbx)
      clear hown
      have HFT := Lib.hid (show othL t.key rows x ++ (t.uniqs.take (k + 1)).flatMap (fun u => othL u.cols rows x) = (othL t.key rows x ++ (t.uniqs.take k).flatMap fun u => othL u.cols rows x) ++ othL (t.uniqs[k]).cols rows x by
        rw [List.take_succ_eq_append_getElem hlt, List.flatMap_append]; simp)
      have HBK := Lib.hid (HB.out k (by omega))
      have HOL := Lib.hid (othL_len (t.uniqs[k]).cols rows x)
      generalize hys : (othL t.key rows x ++ (t.uniqs.take k).flatMap fun u => othL u.cols rows x) = ys at *
      generalize hzs : othL (t.uniqs[k]).cols rows x = zs at *
      have HYS := Lib.hid hys
      have HZS := Lib.hid hzs
      clear hys hzs
      go_wp2_with fail
      refine HC.out.mono ?_
      rintro e w5 ⟨v5, rfl, hown5, hb5⟩
      clear HC d0 RX
      have hb6 := hba.trans (hb5.mono hba.size)
      have ho6 := Lib.hid (OwnI.below hownb.out hb5)
      clear hownb
      have HO5 := Lib.hid hown5
      rcases hown5.2 with ⟨rfl, hn5⟩ | ⟨g5, cap5, cur5, rfl, -⟩
      · obtain rfl : zs = [] := List.eq_nil_of_length_eq_zero hn5
        clear hown5
        go_wp2_with (at_builtin; refine wpList_append_own_none rfl _ _ 70 rfl w.heap.size 2 i0 1 Tryz.underlying70 H1.out _ _ _ rfl ho6.out rfl ?_)
        go_wp2_with fail
        go_roundw
        case rel => exact ⟨k + 1, by omega, by go_num, Lib.hid (by rw [HFT.out, List.append_nil]; exact ho6.out), hb6⟩
        case measure => simp [intOf]; omega
      · clear hown5
        go_wp2_with (at_builtin; refine wpList_append_own _ rfl _ _ 70 rfl w.heap.size 2 i0 (.int .i64 0) 1 8 Tryz.underlying70 H1.out H2.out H3.out H4.out rfl (by decide) _ _ _ rfl ho6.out ⟨g5, 0, none⟩ zs.length cap5 (zs.map (Value.int .i64)) rfl (by simp) (OwnI.cells HO5.out) ?c2 ?c3 ?c4 ?c5 ?_)
        case c2 => intro u hu; obtain ⟨z, -, rfl⟩ := List.mem_map.1 hu; rfl
        case c3 => have h8 := HBK.out; have h9 := HOL.out; unfold maxLen; omega
        case c4 => have h8 := HBK.out; have h9 := HOL.out; omega
        case c5 => have := hb6.size; omega
        intro v' w7 hown3 hgrow _
        have R := Lib.hid (OwnI.apps ho6.out hb6.size hown3 hgrow)
        clear hown3 hgrow ho6
        go_wp2_with fail
        go_roundw
        case rel => exact ⟨k + 1, by omega, by go_num, Lib.hid (by rw [HFT.out]; exact R.out.1), hb6.trans R.out.2⟩
        case measure => simp [intOf]; omega
    · obtain rfl : k = t.uniqs.length := by omega
      have ho := hown.out
      have HLN := Lib.hid (show (rivL t rows x).length <= 1099513724928 by have h8 := HB.out t.uniqs.length (Nat.le_refl _); rw [List.take_of_length_le (Nat.le_refl _)] at h8; unfold rivL; omega)
      rw [List.take_of_length_le (Nat.le_refl _)] at ho
      change OwnI wr w.heap.size _ (rivL t rows x) at ho
      obtain ⟨AO, cO, rfl, -, -, -⟩ := OwnI.sl ho
      have HS := Lib.hid (libSort ho HLN.out)
      clear hown ho
      go_wp2_with fail
      refine HS.out.mono ?_
      rintro e w8 ⟨rfl, ho8, hb8⟩
      have HK := Lib.hid (libCompact ho8 (by rw [sortL_len]; exact HLN.out))
      clear HS ho8
      have hb9 := hb.trans hb8
      go_wp2_with fail
      refine HK.out.mono ?_
      rintro e w9 ⟨v9, rfl, ho9, hbq⟩
      have HO9 := Lib.hid ho9
      clear HK ho9
      go_wp2_with fail
      go_ret
      exact ⟨_, rfl, HO9.out, hb9.trans hbq⟩
end Go.Proofs.YtlpldhmanihnnaaGreat
namespace Go.Proofs.YtlpldhmanihnnaaGreat
open Go.RowKit Go.Maps
set_option maxRecDepth 100000 in
set_option maxHeartbeats 1000000 in
theorem implWrongNullAt (g o : Nat) (A1 AR : Option Addr) (n1 c1 nR cR : Nat) (cols : List Cl) (row : List Vl) (ok : Nat -> Prop) (w : World)
    (t1 : w.cell? ⟨g, o + 1, none⟩ = some (.slice A1 n1 c1)) (h : Sl ClR 6 ok w A1 n1 cols) (hv : Vals w AR nR row) (hn1 : n1 <= 1048576) (hn2 : nR <= 1048576) (hlen : row.length = cols.length) :
    Calls Tryz.prog 188 #[.pointer (some ⟨g, o, none⟩), .slice AR nR cR] w fun e w' => e = .returned (.bool (!nullsB cols row)) /\ Below w.heap.size w w' := by
  obtain rfl : cols.length = n1 := h.1
  obtain rfl : row.length = nR := hv.len
  have hz : (cols.zip row).length = cols.length := by simp [hlen]
  have HZ := Lib.hid hz
  have HL := Lib.hid hlen
  clear hz hlen
  go_enter Tryz.func188, Tryz.ntmps188
  go_wp2
  go_loopw [9] (fun i wr => ∃ k : Nat, k <= cols.length /\ i = .int .i64 k /\ Hid (((cols.zip row).take k).all nullV = true) /\ Below w.heap.size w wr) (fun i _ => cols.length - (intOf i).toNat)
  case atStart => exact ⟨0, by omega, rfl, Lib.hid (by simp), Below.refl _ _⟩
  case round =>
    obtain ⟨k, hk, rfl, hall, hb⟩ := hrel
    by_cases hlt : k < cols.length
    · have hlt2 : k < row.length := by have := HL.out; omega
      have hbx := (Below.refl wr.heap.size wr).alloc (Nat.le_refl _) (.cells #[.int .i64 row[k].k, .int .i64 row[k].n, .string row[k].s] 179)
      have hba := hb.trans (hbx.mono hb.size)
      have rv := Row.new wr 179 #[.int .i64 row[k].k, .int .i64 row[k].n, .string row[k].s]
      obtain ⟨b2, off2, rfl, p0, p1, p2⟩ := (hv.below hb).at_ hlt2
      obtain ⟨b, off, -, rfl, q0, q1, q2, q3, q4, q5⟩ := ClR.at_ (h.below ClR.stays hba) hlt
      have d1 := below_keep hba _ _ t1
      obtain ⟨⟨f0, f1, f2⟩, -⟩ := rv.three
      have hsn := all_take nullV (cols.zip row) k (by rw [HZ.out]; exact hlt)
      have hno := fun hf => all_no nullV (cols.zip row) k (by rw [HZ.out]; exact hlt) hf
      have eg : nullV ((cols.zip row)[k]'(by rw [HZ.out]; exact hlt)) = !(cols[k].nn && row[k].k == 0) := by rw [List.getElem_zip]; rfl
      rw [hall.out, Bool.true_and, eg] at hsn
      rw [eg] at hno
      have i0 : (0 : Int) <= k := by omega
      have i1 : (k : Int) < cols.length := by omega
      have i2 : (k : Int) < row.length := by have := HL.out; omega
      clear eg
      cases hc : (row[k].k == 0)
      · have HA := Lib.hid (show ((cols.zip row).take (k + 1)).all nullV = true by rw [hsn, hc, Bool.and_false]; rfl)
        clear hsn hno hall
        go_wp2_with fail
        go_roundw
        case rel => exact ⟨k + 1, by omega, by go_num, Lib.hid HA.out, hba⟩
        case measure => simp [intOf]; omega
      cases hd : cols[k].nn
      · have HA := Lib.hid (show ((cols.zip row).take (k + 1)).all nullV = true by rw [hsn, hc, hd]; rfl)
        rw [hd] at q2
        clear hsn hno hall
        go_wp2_with fail
        go_roundw
        case rel => exact ⟨k + 1, by omega, by go_num, Lib.hid HA.out, hba⟩
        case measure => simp [intOf]; omega
      · have HF := Lib.hid (show nullsB cols row = false from hno (by rw [hc, hd]; rfl))
        rw [hd] at q2
        clear hsn hno hall
        go_wp2_with fail
        go_ret
        exact ⟨retB (by rw [HF.out]; rfl), hba⟩
    · have e : (cols.zip row).take k = cols.zip row := List.take_of_length_le (by rw [HZ.out]; omega)
      have h1 := hall.out
      rw [e] at h1
      have HF := Lib.hid (show nullsB cols row = true from h1)
      have i3 : ¬ (k : Int) < row.length := by have := HL.out; omega
      clear e h1 hall
      go_wp2
      go_ret
      exact ⟨retB (by rw [HF.out]; rfl), hb⟩
set_option maxRecDepth 100000 in
set_option maxHeartbeats 1000000 in
theorem implFailsCheckAt (g o : Nat) (AL AR : Option Addr) (nL cL nR cR : Nat) (l : List Ck) (row : List Vl) (ok : Nat -> Prop) (w : World)
    (t4 : w.cell? ⟨g, o + 4, none⟩ = some (.slice AL nL cL)) (h : Sl CkR 1 ok w AL nL l) (hv : Vals w AR nR row) (hs : szL Ck.sz l <= 1048576) (hn2 : nR <= 1048576) :
    Calls Tryz.prog 189 #[.pointer (some ⟨g, o, none⟩), .slice AR nR cR] w fun e w' => e = .returned (.bool (!checksB l row)) /\ Below w.heap.size w w' := by
  obtain rfl : l.length = nL := h.1
  have hn1 : l.length <= 1048576 := by unfold szL at hs; omega
  have HSZ := Lib.hid hs
  have HM := Lib.hid (show nR <= maxLen by unfold maxLen; omega)
  clear hs
  have x4 := t4
  go_enter Tryz.func189, Tryz.ntmps189
  go_wp2
  go_loopw [13] (fun i wr => ∃ k : Nat, k <= l.length /\ i = .int .i64 k /\ Hid ((l.take k).all (ckV row) = true) /\ Below w.heap.size w wr) (fun i _ => l.length - (intOf i).toNat)
  case atStart => exact ⟨0, by omega, rfl, Lib.hid (by simp), Below.refl _ _⟩
  case round =>
    obtain ⟨k, hk, rfl, hall, hb⟩ := hrel
    by_cases hlt : k < l.length
    · obtain ⟨b, off, A9, n9, c9, -, rfl, q0, s0, hcp⟩ := CkR.at_ (h.below CkR.stays hb) hlt
      obtain rfl : l[k].expr.length = n9 := s0.1
      have hbx := (Below.refl wr.heap.size wr).alloc (Nat.le_refl _) (.cells #[.slice A9 l[k].expr.length c9] 186)
      have hba := hb.trans (hbx.mono hb.size)
      have s1 := s0.below TkR.stays hbx
      have hv1 := hv.below hba
      have hk9 : l[k].expr.length <= 1048576 := by have := HSZ.out; have := sum_mem_le Ck.sz l k hlt; unfold szL at *; simp only [Ck.sz] at *; (try unfold szL at *); (try simp only at *); omega
      have HK9 := Lib.hid (show l[k].expr.length <= maxLen by unfold maxLen; omega)
      have hsn := all_take (ckV row) l k hlt
      rw [hall.out, Bool.true_and] at hsn
      have hno := fun hf => all_no (ckV row) l k hlt hf
      have hcall := implTruth A9 AR l[k].expr.length nR c9 cR l[k].expr row _ (Sl.cellz (fun _ => rfl) s1) hv1 HK9.out HM.out
      have HCALL := Lib.hid hcall
      clear hk9 hcall
      by_cases h1 : truthB l[k].expr row = 1
      · have HA := Lib.hid (show (l.take (k + 1)).all (ckV row) = true by rw [hsn]; unfold ckV truOkB; rw [h1]; rfl)
        have H1 := Lib.hid h1
        clear hsn hno hall h1
        go_wp2_with fail
        refine HCALL.out.mono ?_
        rintro e w1 ⟨rfl, hb1⟩
        rw [H1.out]
        clear HCALL
        go_wp2
        go_roundw
        case rel => exact ⟨k + 1, by omega, by go_num, Lib.hid HA.out, hba.trans (hb1.mono hba.size)⟩
        case measure => simp [intOf]; omega
      by_cases h2 : truthB l[k].expr row = 2
      · have HA := Lib.hid (show (l.take (k + 1)).all (ckV row) = true by rw [hsn]; unfold ckV truOkB; rw [h2]; rfl)
        have H1 := Lib.hid h2
        clear hsn hno hall h1 h2
        go_wp2_with fail
        refine HCALL.out.mono ?_
        rintro e w1 ⟨rfl, hb1⟩
        rw [H1.out]
        clear HCALL
        go_wp2
        go_roundw
        case rel => exact ⟨k + 1, by omega, by go_num, Lib.hid HA.out, hba.trans (hb1.mono hba.size)⟩
        case measure => simp [intOf]; omega
      · have HF := Lib.hid (show checksB l row = false from hno (by unfold ckV truOkB; rw [beq_eq_false_iff_ne.2 h1, beq_eq_false_iff_ne.2 h2]; rfl))
        have e1 : (truthB l[k].expr row != 1) = true := by simpa using h1
        have e2 : (truthB l[k].expr row != 2) = true := by simpa using h2
        have e3 : (truthB l[k].expr row != 1 && truthB l[k].expr row != 2) = true := by rw [e1, e2]; rfl
        clear hsn hno hall h1 h2
        generalize truthB l[k].expr row = tr at *
        go_wp2_with fail
        refine HCALL.out.mono ?_
        rintro e w1 ⟨rfl, hb1⟩
        clear HCALL
        go_wp2
        go_ret
        exact ⟨retB (by rw [HF.out]; rfl), hba.trans (hb1.mono hba.size)⟩
    · have e : l.take k = l := List.take_of_length_le (by omega)
      have h1 := hall.out
      rw [e] at h1
      have HF := Lib.hid (show checksB l row = true from h1)
      clear e h1 hall
      go_wp2
      go_ret
      exact ⟨retB (by rw [HF.out]; rfl), hb⟩
end Go.Proofs.YtlpldhmanihnnaaGreat
