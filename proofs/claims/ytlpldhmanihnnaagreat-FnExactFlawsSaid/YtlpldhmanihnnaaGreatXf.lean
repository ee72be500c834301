/-
  Several texts in one: what the proof leans on, part 6.
-/
import Derived.Test.YtlpldhmanihnnaaGreatXe
import Derived.Test.YtlpldhmanihnnaaGreatXb
import Derived.Test.YtlpldhmanihnnaaGreatXc
import Derived.Test.YtlpldhmanihnnaaGreatXa
import Derived.Test.YtlpldhmanihnnaaGreatXd
import Derived.Deep.RegionHeld3
import Derived.Deep.DeepCutAuto
import Derived.Deep.CutRange
import Derived.IntWalk
import Derived.Shelf.SortM.Plain
import Derived.Shelf.SortM.SortNone
import Derived.Shelf.SlicesG.CompactI
import Derived.Sort.OwnSortedInts
import Derived.Laws.AppendOwnNone
import Derived.Sort.CutIn
set_option linter.unusedVariables false
set_option linter.unusedSimpArgs false
namespace Go.Proofs.YtlpldhmanihnnaaGreat
open Go.RowKit Go.Maps
def twiceB (cols : List Int) (rows : List Rw) (x : Rw) : Bool := knownL (keyL cols x.vals) && (findL cols (keyL cols x.vals) rows).any (fun i => i != x.id)
def uniqueB (t : Tb) (rows : List Rw) (x : Rw) : Bool := !(twiceB t.key rows x) && t.uniqs.all (fun u => !(twiceB u.cols rows x))
theorem any_take_ne (l : List Int) (v : Int) (k : Nat) (h : k < l.length) : (l.take (k + 1)).any (fun i => i != v) = ((l.take k).any (fun i => i != v) || (l[k] != v)) := by
  rw [List.take_succ_eq_append_getElem h, List.any_append]; simp
theorem any_at_ne {l : List Int} {v : Int} {k : Nat} (h : k < l.length) (he : (l[k] != v) = true) : l.any (fun i => i != v) = true := by
  rw [List.any_eq_true]
  exact ⟨l[k], List.getElem_mem h, he⟩
set_option maxRecDepth 100000 in
set_option maxHeartbeats 2000000 in
theorem specL5Twice (AL AC AX : Option Addr) (nL cL nC cC nX cX : Nat) (rows : List Rw) (cols : List Int) (x : Rw) (ok okc okx : Nat -> Prop) (w : World)
    (hr : Sl RwR 2 ok w AL nL rows) (hc : Sl IntR 1 okc w AC nC cols) (hx : Sl VlR 3 okx w AX nX x.vals) (hrn : nL <= 1048576) (hcn : nC <= 1048576) (hxn : nX <= 1048576) (hvn : ∀ r ∈ rows, r.vals.length <= 1048576) (hall : ∀ r ∈ rows, cols.all (inV r.vals) = true) (hxa : cols.all (inV x.vals) = true) :
    Calls Tryz.prog 179 #[.agg #[.slice AL nL cL], .slice AC nC cC, .agg #[.int .i64 x.id, .slice AX nX cX]] w fun e w' => e = .returned (.bool (twiceB cols rows x)) /\ Below w.heap.size w w' := by
  obtain rfl : rows.length = nL := hr.1
  have HVN := Lib.hid hvn
  have HALL := Lib.hid hall
  have HXA := Lib.hid hxa
  have HRL := Lib.hid hrn
  clear hvn hall hxa
  have hb0 := (((Below.refl w.heap.size w).alloc (Nat.le_refl _) (.cells #[.slice AL rows.length cL] 90)).alloc (by simp) (.cells #[.int .i64 x.id, .slice AX nX cX] 152))
  have rd := (Row.new w 90 #[.slice AL rows.length cL]).alloc (.cells #[.int .i64 x.id, .slice AX nX cX] 152)
  have rx := Row.newAt (w.alloc (.cells #[.slice AL rows.length cL] 90)) 152 #[.int .i64 x.id, .slice AX nX cX] (w.heap.size + 1) (by simp)
  obtain ⟨c0, -⟩ := rd.all1
  obtain ⟨⟨d0, d1⟩, -⟩ := rx.all2
  have RD := Lib.hid rd
  have RX := Lib.hid rx
  clear rd rx
  go_enter Tryz.func179, Tryz.ntmps179
  go_wp2_with fail
  generalize (w.alloc (.cells #[.slice AL rows.length cL] 90)).alloc (.cells #[.int .i64 x.id, .slice AX nX cX] 152) = z0 at *
  refine (specL4Key AC AX nC cC nX cX cols x.vals _ _ _ (hc.below IntR.stays hb0) (hx.below VlR.stays hb0) hcn hxn HXA.out).mono ?_
  rintro e w2 ⟨AO, cO, rfl, hcO, hsl, hb2⟩
  have hbz := hb0.trans (hb2.mono hb0.size)
  clear c0 d0 d1
  obtain ⟨c0, -⟩ := (RD.out.below hb2).all1
  have RX2 := Lib.hid (RX.out.below hb2)
  have HKL := Lib.hid (show (keyL cols x.vals).length <= 1048576 by rw [show (keyL cols x.vals).length = cols.length by simp [keyL], hc.1]; exact hcn)
  have HSL := Lib.hid hsl
  clear hsl
  cases hk : knownL (keyL cols x.vals)
  · have HR := Lib.hid (show twiceB cols rows x = false by unfold twiceB; rw [hk]; rfl)
    clear hk
    go_wp2_with fail
    go_ret
    exact ⟨retB HR.out.symm, hbz⟩
  have HR := Lib.hid (show twiceB cols rows x = (findL cols (keyL cols x.vals) rows).any (fun i => i != x.id) by unfold twiceB; rw [hk]; rfl)
  clear hk
  go_wp2_with fail
  refine (specL4Find AL AC AO rows.length cL nC cC (keyL cols x.vals).length cO rows cols (keyL cols x.vals) _ _ _ _ (hr.below RwR.stays hbz) (hc.below IntR.stays hbz) HSL.out hrn hcn HKL.out HVN.out HALL.out).mono ?_
  rintro e w3 ⟨AF, cF, rfl, hcF, hfl, hb3⟩
  have hby := hbz.trans (hb3.mono hbz.size)
  have HFL := Lib.hid (findL_len cols (keyL cols x.vals) rows)
  have RX3 := Lib.hid (RX2.out.below hb3)
  clear c0
  generalize hgv : findL cols (keyL cols x.vals) rows = ids at *
  have HGV := Lib.hid hgv
  clear hgv
  have hin : ids.length <= 1048576 := by have h1 := HFL.out; have h2 := HRL.out; omega
  go_wp2_with fail
  go_loopw [10] (fun i wr => ∃ k : Nat, k <= ids.length /\ i = .int .i64 k /\ Hid ((ids.take k).any (fun i => i != x.id) = false) /\ Below w3.heap.size w3 wr) (fun i _ => ids.length - (intOf i).toNat)
  case atStart => exact ⟨0, by omega, rfl, Lib.hid (by simp), Below.refl _ _⟩
  case round =>
    obtain ⟨k, hk', rfl, hno, hb⟩ := hrel
    obtain ⟨⟨d0, d1⟩, -⟩ := (RX3.out.below hb).all2
    by_cases hlt : k < ids.length
    · obtain ⟨bf, of, -, rfl, q0⟩ := IntR.at_ (hfl.below IntR.stays hb) hlt
      have i0 : (0 : Int) <= k := by omega
      have i1 : (k : Int) < ids.length := by omega
      have hst := any_take_ne ids x.id k hlt
      rw [hno.out, Bool.false_or] at hst
      cases he : (ids[k] != x.id)
      · have HA := Lib.hid (hst.trans he)
        clear hst
        go_wp2_with fail
        go_quiet (fail)
        go_wp2_with fail
        go_roundw
        case rel => exact ⟨k + 1, by omega, by go_num, HA, below_dN hb _⟩
        case measure => simp [intOf]; omega
      · have HF := Lib.hid (HR.out.trans (any_at_ne hlt he))
        clear hst
        go_wp2_with fail
        go_quiet (fail)
        go_wp2_with fail
        go_ret
        exact ⟨retB HF.out.symm, hby.trans ((below_dN hb _).mono hby.size)⟩
    · obtain rfl : k = ids.length := by omega
      have h1 := hno.out
      rw [List.take_of_length_le (Nat.le_refl _)] at h1
      have HF := Lib.hid (HR.out.trans h1)
      clear hno h1
      go_wp2_with fail
      go_ret
      exact ⟨retB HF.out.symm, hby.trans (hb.mono hby.size)⟩
theorem uniq_take (t : Tb) (rows : List Rw) (x : Rw) (k : Nat) (h : k < t.uniqs.length) : (t.uniqs.take (k + 1)).all (fun u => !(twiceB u.cols rows x)) = ((t.uniqs.take k).all (fun u => !(twiceB u.cols rows x)) && !(twiceB t.uniqs[k].cols rows x)) := by
  rw [List.take_succ_eq_append_getElem h, List.all_append]; simp
theorem uniq_no {t : Tb} {rows : List Rw} {x : Rw} {k : Nat} (h : k < t.uniqs.length) (hf : twiceB t.uniqs[k].cols rows x = true) : uniqueB t rows x = false := by
  unfold uniqueB
  rw [Bool.and_eq_false_iff]
  refine Or.inr ?_
  rw [List.all_eq_false]
  exact ⟨t.uniqs[k], List.getElem_mem h, by simp [hf]⟩
set_option maxRecDepth 100000 in
set_option maxHeartbeats 4000000 in
theorem specL5Unique (A1 A2 A3 A4 A5 AL AX : Option Addr) (n1 c1 n2 c2 n3 c3 n4 c4 n5 c5 nL cL nX cX : Nat) (t : Tb) (rows : List Rw) (x : Rw) (ok2 ok3 ok okx : Nat -> Prop) (w : World)
    (h2 : Sl IntR 1 ok2 w A2 n2 t.key) (h3 : Sl UqR 1 ok3 w A3 n3 t.uniqs) (hr : Sl RwR 2 ok w AL nL rows) (hx : Sl VlR 3 okx w AX nX x.vals) (hrn : nL <= 1048576) (hkn : n2 <= 1048576) (hun : n3 <= 1048576) (hum : ∀ u ∈ t.uniqs, u.cols.length <= 1048576) (hxn : nX <= 1048576) (hvn : ∀ r ∈ rows, r.vals.length <= 1048576)
    (hkey : ∀ r ∈ rows, t.key.all (inV r.vals) = true) (hkx : t.key.all (inV x.vals) = true) (huq : ∀ u ∈ t.uniqs, (∀ r ∈ rows, u.cols.all (inV r.vals) = true) /\ u.cols.all (inV x.vals) = true) :
    Calls Tryz.prog 119 #[.agg #[.string t.name, .slice A1 n1 c1, .slice A2 n2 c2, .slice A3 n3 c3, .slice A4 n4 c4, .slice A5 n5 c5], .agg #[.slice AL nL cL], .agg #[.int .i64 x.id, .slice AX nX cX]] w fun e w' => e = .returned (.bool (uniqueB t rows x)) /\ Below w.heap.size w w' := by
  obtain rfl : t.uniqs.length = n3 := h3.1
  have HVN := Lib.hid hvn
  have HKEY := Lib.hid hkey
  have HKX := Lib.hid hkx
  have HUQ := Lib.hid huq
  have HUM := Lib.hid hum
  clear hvn hkey hkx huq hum
  have hb0 := ((((Below.refl w.heap.size w).alloc (Nat.le_refl _) (.cells #[.string t.name, .slice A1 n1 c1, .slice A2 n2 c2, .slice A3 t.uniqs.length c3, .slice A4 n4 c4, .slice A5 n5 c5] 86)).alloc (by simp) (.cells #[.slice AL nL cL] 90)).alloc (by simp; omega) (.cells #[.int .i64 x.id, .slice AX nX cX] 152))
  have RT := Lib.hid (((Row.new w 86 #[.string t.name, .slice A1 n1 c1, .slice A2 n2 c2, .slice A3 t.uniqs.length c3, .slice A4 n4 c4, .slice A5 n5 c5]).alloc (.cells #[.slice AL nL cL] 90)).alloc (.cells #[.int .i64 x.id, .slice AX nX cX] 152))
  have RD := Lib.hid ((Row.newAt (w.alloc (.cells #[.string t.name, .slice A1 n1 c1, .slice A2 n2 c2, .slice A3 t.uniqs.length c3, .slice A4 n4 c4, .slice A5 n5 c5] 86)) 90 #[.slice AL nL cL] (w.heap.size + 1) (by simp)).alloc (.cells #[.int .i64 x.id, .slice AX nX cX] 152))
  have RX := Lib.hid (Row.newAt ((w.alloc (.cells #[.string t.name, .slice A1 n1 c1, .slice A2 n2 c2, .slice A3 t.uniqs.length c3, .slice A4 n4 c4, .slice A5 n5 c5] 86)).alloc (.cells #[.slice AL nL cL] 90)) 152 #[.int .i64 x.id, .slice AX nX cX] (w.heap.size + 1 + 1) (by simp))
  obtain ⟨⟨t0, t1, t2, t3, t4, t5⟩, -⟩ := RT.out.all6
  obtain ⟨c0, -⟩ := RD.out.all1
  obtain ⟨⟨d0, d1⟩, -⟩ := RX.out.all2
  go_enter Tryz.func119, Tryz.ntmps119
  go_wp2_with fail
  generalize ((w.alloc (.cells #[.string t.name, .slice A1 n1 c1, .slice A2 n2 c2, .slice A3 t.uniqs.length c3, .slice A4 n4 c4, .slice A5 n5 c5] 86)).alloc (.cells #[.slice AL nL cL] 90)).alloc (.cells #[.int .i64 x.id, .slice AX nX cX] 152) = z0 at *
  refine (specL5Twice AL A2 AX nL cL n2 c2 nX cX rows t.key x _ _ _ _ (hr.below RwR.stays hb0) (h2.below IntR.stays hb0) (hx.below VlR.stays hb0) hrn hkn hxn HVN.out HKEY.out HKX.out).mono ?_
  rintro e w1 ⟨rfl, hb1⟩
  have hbz := hb0.trans (hb1.mono hb0.size)
  have RT1 := RT.out.below hb1
  have RD1 := RD.out.below hb1
  have RX1 := RX.out.below hb1
  clear t0 t1 t2 t3 t4 t5 c0 d0 d1
  cases hk : twiceB t.key rows x
  case true =>
    have HR := Lib.hid (show uniqueB t rows x = false by unfold uniqueB; rw [hk]; rfl)
    clear hk
    go_wp2_with fail
    go_ret
    exact ⟨retB HR.out.symm, hbz⟩
  have HR := Lib.hid (show uniqueB t rows x = t.uniqs.all (fun u => !(twiceB u.cols rows x)) by unfold uniqueB; rw [hk]; rfl)
  clear hk
  go_wp2_with fail
  go_loopw [7] (fun i wr => ∃ k : Nat, k <= t.uniqs.length /\ i = .int .i64 k /\ Hid ((t.uniqs.take k).all (fun u => !(twiceB u.cols rows x)) = true) /\ Row wr w.heap.size 86 #[.string t.name, .slice A1 n1 c1, .slice A2 n2 c2, .slice A3 t.uniqs.length c3, .slice A4 n4 c4, .slice A5 n5 c5] /\ Row wr (w.heap.size + 1) 90 #[.slice AL nL cL] /\ Row wr (w.heap.size + 1 + 1) 152 #[.int .i64 x.id, .slice AX nX cX] /\ Below w.heap.size w wr) (fun i _ => t.uniqs.length - (intOf i).toNat)
  case atStart => exact ⟨0, by omega, rfl, Lib.hid (by simp), RT1, RD1, RX1, hbz⟩
  case round =>
    clear RT1 RD1 RX1 hbz hb1 hb0 RT RD RX
    obtain ⟨k, hk', rfl, hall, rt, rd, rx, hb⟩ := hrel
    obtain ⟨⟨t0, t1, t2, t3, t4, t5⟩, -⟩ := rt.all6
    obtain ⟨c0, -⟩ := rd.all1
    obtain ⟨⟨d0, d1⟩, -⟩ := rx.all2
    have RT := Lib.hid rt
    have RD := Lib.hid rd
    have RX := Lib.hid rx
    clear rt rd rx
    by_cases hlt : k < t.uniqs.length
    · obtain ⟨bu, ou, AU, nU, cU, -, rfl, q0, hu, -⟩ := UqR.at_ (h3.below UqR.stays hb) hlt
      obtain rfl : t.uniqs[k].cols.length = nU := hu.1
      have i0 : (0 : Int) <= k := by omega
      have i1 : (k : Int) < t.uniqs.length := by omega
      have hst := uniq_take t rows x k hlt
      rw [hall.out, Bool.true_and] at hst
      have hno := fun hf => uniq_no (t := t) (rows := rows) (x := x) hlt hf
      have HU := Lib.hid (HUQ.out _ (List.getElem_mem hlt))
      have HC := Lib.hid (specL5Twice AL AU AX nL cL t.uniqs[k].cols.length cU nX cX rows t.uniqs[k].cols x _ _ _ wr.drew ((hr.below RwR.stays hb).drew RwR.stays) (hu.drew IntR.stays) ((hx.below VlR.stays hb).drew VlR.stays) hrn (HUM.out _ (List.getElem_mem hlt)) hxn HVN.out HU.out.1 HU.out.2)
      have hbd := hb.drew
      clear hu
      cases he : twiceB t.uniqs[k].cols rows x
      · have HA := Lib.hid (show (t.uniqs.take (k + 1)).all (fun u => !(twiceB u.cols rows x)) = true by rw [hst, he]; rfl)
        have HE := Lib.hid he
        clear hst hno he
        go_wp2_with fail
        go_region_held3 (fun w' => w'.cell? ⟨w.heap.size + 1, 0, none⟩ = some (.slice AL nL cL) /\ w'.cell? ⟨w.heap.size, 3, none⟩ = some (.slice (some ⟨bu, ou, none⟩) t.uniqs.length c3) /\ w'.cell? ⟨bu, ou + k, none⟩ = some (.slice AU t.uniqs[k].cols.length cU) /\ w'.cell? ⟨w.heap.size + 1 + 1, 0, none⟩ = some (.int .i64 x.id) /\ w'.cell? ⟨w.heap.size + 1 + 1, 1, none⟩ = some (.slice AX nX cX))
          (first | go_keep | exact ⟨below_keep hb9 _ _ c0, below_keep hb9 _ _ t3, below_keep hb9 _ _ q0, below_keep hb9 _ _ d0, below_keep hb9 _ _ d1⟩)
          (first | (go_at_call 179; refine HC.out.mono ?_; rintro e w9 ⟨rfl, hb9⟩; rw [HE.out]))
        go_wp2_with fail
        go_roundw
        case rel => exact ⟨k + 1, by omega, by go_num, HA, (RT.out.drew).below hb9, (RD.out.drew).below hb9, (RX.out.drew).below hb9, hbd.trans (hb9.mono hbd.size)⟩
        case measure => simp [intOf]; omega
      · have HF := Lib.hid (hno he)
        have HE := Lib.hid he
        clear hst hno he
        go_wp2_with fail
        go_region_held3 (fun w' => w'.cell? ⟨w.heap.size + 1, 0, none⟩ = some (.slice AL nL cL) /\ w'.cell? ⟨w.heap.size, 3, none⟩ = some (.slice (some ⟨bu, ou, none⟩) t.uniqs.length c3) /\ w'.cell? ⟨bu, ou + k, none⟩ = some (.slice AU t.uniqs[k].cols.length cU) /\ w'.cell? ⟨w.heap.size + 1 + 1, 0, none⟩ = some (.int .i64 x.id) /\ w'.cell? ⟨w.heap.size + 1 + 1, 1, none⟩ = some (.slice AX nX cX))
          (first | go_keep | exact ⟨below_keep hb9 _ _ c0, below_keep hb9 _ _ t3, below_keep hb9 _ _ q0, below_keep hb9 _ _ d0, below_keep hb9 _ _ d1⟩)
          (first | (go_at_call 179; refine HC.out.mono ?_; rintro e w9 ⟨rfl, hb9⟩; rw [HE.out]))
        go_wp2_with fail
        go_ret
        exact ⟨retB HF.out.symm, hbd.trans (hb9.mono hbd.size)⟩
    · obtain rfl : k = t.uniqs.length := by omega
      have h1 := hall.out
      rw [List.take_of_length_le (Nat.le_refl _)] at h1
      have HF := Lib.hid (HR.out.trans h1)
      clear hall h1
      go_wp2_with fail
      go_ret
      exact ⟨retB HF.out.symm, hb⟩
def parentR (tk : List Int) (rows : List Rw) (fc : List Int) (vals : List Vl) : Bool := !(knownL (keyL fc vals)) || decide (0 < (findL tk (keyL fc vals) rows).length)
set_option maxRecDepth 100000 in
set_option maxHeartbeats 4000000 in
theorem specL5Parent (AS AD AC AV : Option Addr) (nS cS nD cD nC cC nV cV : Nat) (s : List Tb) (db : List Dt) (f : Fk) (vals : List Vl) (m : Nat) (ok okd okc okv : Nat -> Prop) (w : World)
    (hs : Sl TbR 6 ok w AS nS s) (hd : Sl DtR 1 okd w AD nD db) (hc : Sl IntR 1 okc w AC nC f.cols) (hv : Sl VlR 3 okv w AV nV vals) (hsn : nS <= 1048576) (hdn : nD <= 1048576) (hcn : nC <= 1048576) (hvn : nV <= 1048576) (hca : f.cols.all (inV vals) = true)
    (hat : atN (s.map Tb.name) f.table = m) (hm : m < s.length) (hmd : m < db.length) (hkn : s[m].key.length <= 1048576) (hrn : db[m].rows.length <= 1048576) (hrv : ∀ r ∈ db[m].rows, r.vals.length <= 1048576) (hall : ∀ r ∈ db[m].rows, s[m].key.all (inV r.vals) = true) :
    Calls Tryz.prog 180 #[.slice AS nS cS, .slice AD nD cD, .agg #[.slice AC nC cC, .string f.table, .int .i64 f.del, .int .i64 f.upd, .bool f.dfr], .slice AV nV cV] w fun e w' => e = .returned (.bool (parentR s[m].key db[m].rows f.cols vals)) /\ Below w.heap.size w w' := by
  obtain rfl : s.length = nS := hs.1
  obtain rfl : db.length = nD := hd.1
  have HVN := Lib.hid hrv
  have HALL := Lib.hid hall
  have HCA := Lib.hid hca
  have HAT := Lib.hid hat
  have HKN := Lib.hid hkn
  have HRN := Lib.hid hrn
  have HKL := Lib.hid (show (keyL f.cols vals).length <= 1048576 by rw [show (keyL f.cols vals).length = f.cols.length by simp [keyL], hc.1]; exact hcn)
  clear hrv hall hca hat hkn hrn
  have i0 : (0 : Int) <= m := by omega
  have i1 : (m : Int) < s.length := by omega
  have i2 : (m : Int) < db.length := by omega
  have hb0 := (Below.refl w.heap.size w).alloc (Nat.le_refl _) (.cells #[.slice AC nC cC, .string f.table, .int .i64 f.del, .int .i64 f.upd, .bool f.dfr] 188)
  have RF := Lib.hid (Row.new w 188 #[.slice AC nC cC, .string f.table, .int .i64 f.del, .int .i64 f.upd, .bool f.dfr])
  obtain ⟨c0, c1, c2, c3, c4⟩ := RF.out.five
  go_enter Tryz.func180, Tryz.ntmps180
  go_wp2_with fail
  generalize w.alloc (.cells #[.slice AC nC cC, .string f.table, .int .i64 f.del, .int .i64 f.upd, .bool f.dfr] 188) = z0 at *
  refine (specL4Key AC AV nC cC nV cV f.cols vals _ _ _ (hc.below IntR.stays hb0) (hv.below VlR.stays hb0) hcn hvn HCA.out).mono ?_
  rintro e w1 ⟨AO, cO, rfl, hcO, hsl, hb1⟩
  have hbz1 := hb0.trans (hb1.mono hb0.size)
  have HSL := Lib.hid hsl
  clear hsl c0 c1 c2 c3 c4
  obtain ⟨c0, c1, c2, c3, c4⟩ := (RF.out.below hb1).five
  go_wp2_with fail
  refine (specL3At AS s.length cS s f.table _ _ (hs.below TbR.stays hbz1) hsn).mono ?_
  rintro e w2 ⟨rfl, hb2⟩
  rw [HAT.out]
  have hbz2 := hbz1.trans (hb2.mono hbz1.size)
  have HSL2 := Lib.hid (HSL.out.below VlR.stays hb2)
  clear c0 c1 c2 c3 c4
  obtain ⟨bt, ot, A1, n1, d1, A2, n2, d2, A3, n3, d3, A4, n4, d4, A5, n5, d5, -, rfl, q0, q1, q2, q3, q4, q5, s1, s2, -⟩ := TbR.at_ (hs.below TbR.stays hbz2) hm
  obtain rfl : s[m].key.length = n2 := s2.1
  obtain ⟨bd, od, AL, nL, cL, -, rfl, p0, hrw, -⟩ := DtR.at_ (hd.below DtR.stays hbz2) hmd
  obtain rfl : db[m].rows.length = nL := hrw.1
  have HRW := Lib.hid (hrw.drew RwR.stays)
  have HKC := Lib.hid (s2.drew IntR.stays)
  have HSL3 := Lib.hid (HSL2.out.drew VlR.stays)
  have hbd := hbz2.drew
  clear hrw s1 s2 q0 q1 q3 q4 q5 HSL
  cases hk : knownL (keyL f.cols vals)
  · have HR := Lib.hid (show parentR s[m].key db[m].rows f.cols vals = true by unfold parentR; rw [hk]; rfl)
    clear hk
    go_wp2_with fail
    refine wp_region_noPanic ?_
    refine wp_region_held_drew (S := fun w' => w'.cell? ⟨bd, od + m, none⟩ = some (.slice AL db[m].rows.length cL) /\ w'.cell? ⟨bt, ot + m * 6 + 2, none⟩ = some (.slice A2 s[m].key.length d2)) (by kernel_rfl) ⟨p0, q2⟩ (fun hHeld => ?_)
    refine wpAnyH_take (i := 0) (v := ?v1) rfl (by kernel_rfl) (by kernel_rfl) (by kernel_rfl) (fun _ _ _ h => h) (Or.inl ⟨by rfl, ?hy1⟩) hHeld ?rest1
    case hy1 => (intro w' hSw; (try dsimp only at hSw); first | (go_simp; done) | (go_simp; with_reducible rfl))
    simp only [Act.put, pz0, pz1, pz2, pz3, pz4, pz5]
    refine wpAnyH_take (i := 1) (v := ?v2) rfl (by kernel_rfl) (by kernel_rfl) (by kernel_rfl) (fun _ _ _ h => h) (Or.inl ⟨by rfl, ?hy2⟩) hHeld ?rest2
    case hy2 => (intro w' hSw; (try dsimp only at hSw); first | (go_simp; done) | (go_simp; with_reducible rfl))
    simp only [Act.put, pz0, pz1, pz2, pz3, pz4, pz5]
    refine wpAnyH_take (i := 2) (v := ?v3) rfl (by kernel_rfl) (by kernel_rfl) (by kernel_rfl) (fun _ _ _ h => h) (Or.inl ⟨by rfl, ?hy3⟩) hHeld ?rest3
    case hy3 => (intro w' hSw; (try dsimp only at hSw); first | (go_simp; done) | (go_simp; with_reducible rfl))
    simp only [Act.put, pz0, pz1, pz2, pz3, pz4, pz5]
    refine wpAnyH_take (i := 3) (v := undef) rfl (by kernel_rfl) (by kernel_rfl) (by kernel_rfl) (fun _ _ _ h => h) (Or.inr ⟨by rfl, rfl⟩) hHeld ?_
    simp only [Act.put, pz0, pz1, pz2, pz3, pz4, pz5]
    refine wpAnyH_take (i := 4) (v := undef) rfl (by kernel_rfl) (by kernel_rfl) (by kernel_rfl) (fun _ _ _ h => h) (Or.inr ⟨by rfl, rfl⟩) hHeld ?_
    simp only [Act.put, pz0, pz1, pz2, pz3, pz4, pz5]
    refine wpAnyH_take (i := 5) (v := undef) rfl (by kernel_rfl) (by kernel_rfl) (by kernel_rfl) (fun _ _ _ h => h) (Or.inr ⟨by rfl, rfl⟩) hHeld ?_
    simp only [Act.put, pz0, pz1, pz2, pz3, pz4, pz5]
    refine wpAnyH_take (i := 6) (v := undef) rfl (by kernel_rfl) (by kernel_rfl) (by kernel_rfl) (fun _ _ _ h => h) (Or.inr ⟨by rfl, rfl⟩) hHeld ?_
    simp only [Act.put, pz0, pz1, pz2, pz3, pz4, pz5]
    refine wpAnyH_take (i := 7) (v := undef) rfl (by kernel_rfl) (by kernel_rfl) (by kernel_rfl) (fun _ _ _ h => h) (Or.inr ⟨by rfl, rfl⟩) hHeld ?_
    simp only [Act.put, pz0, pz1, pz2, pz3, pz4, pz5]
    refine wpAnyH_take (i := 8) (v := undef) rfl (by kernel_rfl) (by kernel_rfl) (by kernel_rfl) (fun _ _ _ h => h) (Or.inr ⟨by rfl, rfl⟩) hHeld ?_
    simp only [Act.put, pz0, pz1, pz2, pz3, pz4, pz5]
    refine wpAnyH_take (i := 9) (v := undef) rfl (by kernel_rfl) (by kernel_rfl) (by kernel_rfl) (fun _ _ _ h => h) (Or.inr ⟨by rfl, rfl⟩) hHeld ?_
    simp only [Act.put, pz0, pz1, pz2, pz3, pz4, pz5]
    refine wpAnyH_take (i := 10) (v := undef) rfl (by kernel_rfl) (by kernel_rfl) (by kernel_rfl) (fun _ _ _ h => h) (Or.inr ⟨by rfl, rfl⟩) hHeld ?_
    simp only [Act.put, pz0, pz1, pz2, pz3, pz4, pz5]
    refine wpAnyH_take (i := 11) (v := undef) rfl (by kernel_rfl) (by kernel_rfl) (by kernel_rfl) (fun _ _ _ h => h) (Or.inr ⟨by rfl, rfl⟩) hHeld ?_
    simp only [Act.put, pz0, pz1, pz2, pz3, pz4, pz5]
    refine wpAnyH_take (i := 12) (v := undef) rfl (by kernel_rfl) (by kernel_rfl) (by kernel_rfl) (fun _ _ _ h => h) (Or.inr ⟨by rfl, rfl⟩) hHeld ?_
    simp only [Act.put, pz0, pz1, pz2, pz3, pz4, pz5]
    refine wpAnyH_take (i := 13) (v := undef) rfl (by kernel_rfl) (by kernel_rfl) (by kernel_rfl) (fun _ _ _ h => h) (Or.inr ⟨by rfl, rfl⟩) hHeld ?_
    simp only [Act.put, pz0, pz1, pz2, pz3, pz4, pz5]
    refine wpAnyH_take (i := 14) (v := undef) rfl (by kernel_rfl) (by kernel_rfl) (by kernel_rfl) (fun _ _ _ h => h) (Or.inr ⟨by rfl, rfl⟩) hHeld ?_
    simp only [Act.put, pz0, pz1, pz2, pz3, pz4, pz5]
    refine wpAnyH_take (i := 15) (v := undef) rfl (by kernel_rfl) (by kernel_rfl) (by kernel_rfl) (fun _ _ _ h => h) (Or.inr ⟨by rfl, rfl⟩) hHeld ?_
    simp only [Act.put, pz0, pz1, pz2, pz3, pz4, pz5]
    refine wpAnyH_take (i := 16) (v := ?v4) rfl (by kernel_rfl) (by kernel_rfl) (by kernel_rfl) (fun _ _ _ h => h) (Or.inl ⟨by rfl, ?hy4⟩) hHeld ?rest4
    case hy4 => (intro w' hSw; (try dsimp only at hSw); first | (go_simp; done) | (go_simp; with_reducible rfl))
    simp only [Act.put, pz0, pz1, pz2, pz3, pz4, pz5]
    refine wpAnyH_take (i := 17) (v := ?v5) rfl (by kernel_rfl) (by kernel_rfl) (by kernel_rfl) (fun _ _ _ h => h) (Or.inl ⟨by rfl, ?hy5⟩) hHeld ?rest5
    case hy5 => (intro w' hSw; (try dsimp only at hSw); first | (go_simp; done) | (go_simp; with_reducible rfl))
    simp only [Act.put, pz0, pz1, pz2, pz3, pz4, pz5]
    refine wpAnyH_done (by kernel_rfl) ?_ _
    refine NoPanic.normal ?_
    clear hHeld
    go_wp2_with fail
    go_ret
    exact ⟨retB HR.out.symm, hbd⟩
  · have HR := Lib.hid (show parentR s[m].key db[m].rows f.cols vals = decide (0 < (findL s[m].key (keyL f.cols vals) db[m].rows).length) by unfold parentR; rw [hk]; rfl)
    clear hk
    go_wp2_with fail
    refine wp_region_noPanic ?_
    refine wp_region_held_drew (S := fun w' => w'.cell? ⟨bd, od + m, none⟩ = some (.slice AL db[m].rows.length cL) /\ w'.cell? ⟨bt, ot + m * 6 + 2, none⟩ = some (.slice A2 s[m].key.length d2)) (by kernel_rfl) ⟨p0, q2⟩ (fun hHeld => ?_)
    refine wpAnyH_take (i := 0) (v := ?v6) rfl (by kernel_rfl) (by kernel_rfl) (by kernel_rfl) (fun _ _ _ h => h) (Or.inl ⟨by rfl, ?hy6⟩) hHeld ?rest6
    case hy6 => (intro w' hSw; (try dsimp only at hSw); first | (go_simp; done) | (go_simp; with_reducible rfl))
    simp only [Act.put, pz0, pz1, pz2, pz3, pz4, pz5]
    refine wpAnyH_take (i := 1) (v := ?v7) rfl (by kernel_rfl) (by kernel_rfl) (by kernel_rfl) (fun _ _ _ h => h) (Or.inl ⟨by rfl, ?hy7⟩) hHeld ?rest7
    case hy7 => (intro w' hSw; (try dsimp only at hSw); first | (go_simp; done) | (go_simp; with_reducible rfl))
    simp only [Act.put, pz0, pz1, pz2, pz3, pz4, pz5]
    refine wpAnyH_take (i := 2) (v := ?v8) rfl (by kernel_rfl) (by kernel_rfl) (by kernel_rfl) (fun _ _ _ h => h) (Or.inl ⟨by rfl, ?hy8⟩) hHeld ?rest8
    case hy8 => (intro w' hSw; (try dsimp only at hSw); first | (go_simp; done) | (go_simp; with_reducible rfl))
    simp only [Act.put, pz0, pz1, pz2, pz3, pz4, pz5]
    refine wpAnyH_take (i := 3) (v := ?v9) rfl (by kernel_rfl) (by kernel_rfl) (by kernel_rfl) (fun _ _ _ h => h) (Or.inl ⟨by rfl, ?hy9⟩) hHeld ?rest9
    case hy9 => (intro w' hSw; (try dsimp only at hSw); first | (go_simp; done) | (go_simp; with_reducible rfl))
    simp only [Act.put, pz0, pz1, pz2, pz3, pz4, pz5]
    refine wpAnyH_take (i := 4) (v := ?v10) rfl (by kernel_rfl) (by kernel_rfl) (by kernel_rfl) (fun _ _ _ h => h) (Or.inl ⟨by rfl, ?hy10⟩) hHeld ?rest10
    case hy10 => (intro w' hSw; (try dsimp only at hSw); first | (go_simp; done) | (go_simp; with_reducible rfl))
    simp only [Act.put, pz0, pz1, pz2, pz3, pz4, pz5]
    refine wpAnyH_take (i := 5) (v := ?v11) rfl (by kernel_rfl) (by kernel_rfl) (by kernel_rfl) (fun _ _ _ h => h) (Or.inl ⟨by rfl, ?hy11⟩) hHeld ?rest11
    case hy11 => (intro w' hSw; (try dsimp only at hSw); first | (go_simp; done) | (go_simp; with_reducible rfl))
    simp only [Act.put, pz0, pz1, pz2, pz3, pz4, pz5]
    refine wpAnyH_take (i := 6) (v := ?v12) rfl (by kernel_rfl) (by kernel_rfl) (by kernel_rfl) (fun _ _ _ h => h) (Or.inl ⟨by rfl, ?hy12⟩) hHeld ?rest12
    case hy12 => (intro w' hSw; (try dsimp only at hSw); first | (go_simp; done) | (go_simp; with_reducible rfl))
    simp only [Act.put, pz0, pz1, pz2, pz3, pz4, pz5]
    refine wpAnyH_take (i := 7) (v := ?v13) rfl (by kernel_rfl) (by kernel_rfl) (by kernel_rfl) (fun _ _ _ h => h) (Or.inl ⟨by rfl, ?hy13⟩) hHeld ?rest13
    case hy13 => (intro w' hSw; (try dsimp only at hSw); first | (go_simp; done) | (go_simp; with_reducible rfl))
    simp only [Act.put, pz0, pz1, pz2, pz3, pz4, pz5]
    refine wpAnyH_take (i := 8) (v := ?v14) rfl (by kernel_rfl) (by kernel_rfl) (by kernel_rfl) (fun _ _ _ h => h) (Or.inl ⟨by rfl, ?hy14⟩) hHeld ?rest14
    case hy14 => (intro w' hSw; (try dsimp only at hSw); first | (go_simp; done) | (go_simp; with_reducible rfl))
    simp only [Act.put, pz0, pz1, pz2, pz3, pz4, pz5]
    refine wpAnyH_take (i := 9) (v := ?v15) rfl (by kernel_rfl) (by kernel_rfl) (by kernel_rfl) (fun _ _ _ h => h) (Or.inl ⟨by rfl, ?hy15⟩) hHeld ?rest15
    case hy15 => (intro w' hSw; (try dsimp only at hSw); first | (go_simp; done) | (go_simp; with_reducible rfl))
    simp only [Act.put, pz0, pz1, pz2, pz3, pz4, pz5]
    refine wpAnyH_take (i := 10) (v := ?v16) rfl (by kernel_rfl) (by kernel_rfl) (by kernel_rfl) (fun _ _ _ h => h) (Or.inl ⟨by rfl, ?hy16⟩) hHeld ?rest16
    case hy16 => (intro w' hSw; (try dsimp only at hSw); first | (go_simp; done) | (go_simp; with_reducible rfl))
    simp only [Act.put, pz0, pz1, pz2, pz3, pz4, pz5]
    refine wpAnyH_take (i := 11) (v := ?v17) rfl (by kernel_rfl) (by kernel_rfl) (by kernel_rfl) (fun _ _ _ h => h) (Or.inl ⟨by rfl, ?hy17⟩) hHeld ?rest17
    case hy17 => (intro w' hSw; (try dsimp only at hSw); first | (go_simp; done) | (go_simp; with_reducible rfl))
    simp only [Act.put, pz0, pz1, pz2, pz3, pz4, pz5]
    refine wpAnyH_take (i := 12) (v := ?v18) rfl (by kernel_rfl) (by kernel_rfl) (by kernel_rfl) (fun _ _ _ h => h) (Or.inl ⟨by rfl, ?hy18⟩) hHeld ?rest18
    case hy18 => (intro w' hSw; (try dsimp only at hSw); first | (go_simp; done) | (go_simp; with_reducible rfl))
    simp only [Act.put, pz0, pz1, pz2, pz3, pz4, pz5]
    refine wpAnyH_ready (rs := [13]) (by kernel_rfl) (by simp) ?_
    refine AllReadyH.cons rfl (fun K hK => ?_) AllReadyH.nil
    go_simp
    refine (specL4Find AL A2 AO db[m].rows.length cL s[m].key.length d2 (keyL f.cols vals).length cO db[m].rows s[m].key (keyL f.cols vals) _ _ _ _ (HRW.out) (HKC.out) HSL3.out HRN.out HKN.out HKL.out HVN.out HALL.out).mono ?_
    rintro e w9 ⟨AF, cF, rfl, hcF, hfl, hb9⟩
    go_wp2_with fail
    refine hK.out _ _ ⟨below_keep hb9 _ _ hHeld.1, below_keep hb9 _ _ hHeld.2⟩ (fun hHeld => ?_)
    clear hK K
    (try simp only [Act.put, pz0, pz1, pz2, pz3, pz4, pz5])
    refine wpAnyH_take (i := 14) (v := ?v19) rfl (by kernel_rfl) (by kernel_rfl) (by kernel_rfl) (fun _ _ _ h => h) (Or.inl ⟨by rfl, ?hy19⟩) hHeld ?rest19
    case hy19 => (intro w' hSw; (try dsimp only at hSw); first | (go_simp; done) | (go_simp; with_reducible rfl))
    simp only [Act.put, pz0, pz1, pz2, pz3, pz4, pz5]
    refine wpAnyH_take (i := 15) (v := ?v20) rfl (by kernel_rfl) (by kernel_rfl) (by kernel_rfl) (fun _ _ _ h => h) (Or.inl ⟨by rfl, ?hy20⟩) hHeld ?rest20
    case hy20 => (intro w' hSw; (try dsimp only at hSw); first | (go_simp; done) | (go_simp; with_reducible rfl))
    simp only [Act.put, pz0, pz1, pz2, pz3, pz4, pz5]
    refine wpAnyH_take (i := 16) (v := ?v21) rfl (by kernel_rfl) (by kernel_rfl) (by kernel_rfl) (fun _ _ _ h => h) (Or.inl ⟨by rfl, ?hy21⟩) hHeld ?rest21
    case hy21 => (intro w' hSw; (try dsimp only at hSw); first | (go_simp; done) | (go_simp; with_reducible rfl))
    simp only [Act.put, pz0, pz1, pz2, pz3, pz4, pz5]
    refine wpAnyH_take (i := 17) (v := ?v22) rfl (by kernel_rfl) (by kernel_rfl) (by kernel_rfl) (fun _ _ _ h => h) (Or.inl ⟨by rfl, ?hy22⟩) hHeld ?rest22
    case hy22 => (intro w' hSw; (try dsimp only at hSw); first | (go_simp; done) | (go_simp; with_reducible rfl))
    simp only [Act.put, pz0, pz1, pz2, pz3, pz4, pz5]
    refine wpAnyH_done (by kernel_rfl) ?_ _
    refine NoPanic.normal ?_
    clear hHeld
    go_wp2_with fail
    go_ret
    exact ⟨retB HR.out.symm, hbd.trans (hb9.mono hbd.size)⟩
def FkIn (s : List Tb) (db : List Dt) (vals : List Vl) (f : Fk) : Prop := f.cols.all (inV vals) = true /\ f.cols.length <= 1048576 /\ ∃ m : Nat, atN (s.map Tb.name) f.table = m /\ ∃ (hm : m < s.length) (hmd : m < db.length), s[m].key.length <= 1048576 /\ db[m].rows.length <= 1048576 /\ (∀ r ∈ db[m].rows, r.vals.length <= 1048576) /\ ∀ r ∈ db[m].rows, s[m].key.all (inV r.vals) = true
def parentB (s : List Tb) (db : List Dt) (f : Fk) (vals : List Vl) : Bool :=
  parentR ((s[(atN (s.map Tb.name) f.table).toNat]?.map Tb.key).getD []) ((db[(atN (s.map Tb.name) f.table).toNat]?.map Dt.rows).getD []) f.cols vals
theorem parentB_at {s : List Tb} {db : List Dt} {f : Fk} {vals : List Vl} {m : Nat} (h : atN (s.map Tb.name) f.table = m) (hm : m < s.length) (hmd : m < db.length) : parentB s db f vals = parentR s[m].key db[m].rows f.cols vals := by
  unfold parentB; rw [h]; simp [hm, hmd]
theorem specL5ParentB (AS AD AC AV : Option Addr) (nS cS nD cD nC cC nV cV : Nat) (s : List Tb) (db : List Dt) (f : Fk) (vals : List Vl) (ok okd okc okv : Nat -> Prop) (w : World)
    (hs : Sl TbR 6 ok w AS nS s) (hd : Sl DtR 1 okd w AD nD db) (hc : Sl IntR 1 okc w AC nC f.cols) (hv : Sl VlR 3 okv w AV nV vals) (hsn : nS <= 1048576) (hdn : nD <= 1048576) (hvn : nV <= 1048576) (hF : FkIn s db vals f) :
    Calls Tryz.prog 180 #[.slice AS nS cS, .slice AD nD cD, .agg #[.slice AC nC cC, .string f.table, .int .i64 f.del, .int .i64 f.upd, .bool f.dfr], .slice AV nV cV] w fun e w' => e = .returned (.bool (parentB s db f vals)) /\ Below w.heap.size w w' := by
  obtain ⟨h1, h2, m, h3, hm, hmd, h4, h5, h6, h7⟩ := hF
  rw [parentB_at h3 hm hmd]
  exact specL5Parent AS AD AC AV nS cS nD cD nC cC nV cV s db f vals m ok okd okc okv w hs hd hc hv hsn hdn (by have := hc.1; omega) hvn h1 h3 hm hmd h4 h5 h6 h7
theorem all_take_one {α : Type} (f : α -> Bool) (l : List α) (k : Nat) (h : k < l.length) : (l.take (k + 1)).all f = ((l.take k).all f && f l[k]) := by
  rw [List.take_succ_eq_append_getElem h, List.all_append]; simp
def okFkB (s : List Tb) (db : List Dt) (vals : List Vl) (wait : Bool) (f : Fk) : Bool := (wait && f.dfr) || parentB s db f vals
def refersB (s : List Tb) (db : List Dt) (t : Tb) (vals : List Vl) (wait : Bool) : Bool := t.fks.all (okFkB s db vals wait)
set_option maxRecDepth 100000 in
set_option maxHeartbeats 4000000 in
theorem specL5Refers (AS AD AV : Option Addr) (nS cS nD cD nV cV : Nat) (s : List Tb) (db : List Dt) (i : Nat) (vals : List Vl) (wait : Bool) (ok okd okv : Nat -> Prop) (w : World)
    (hs : Sl TbR 6 ok w AS nS s) (hd : Sl DtR 1 okd w AD nD db) (hv : Sl VlR 3 okv w AV nV vals) (hsn : nS <= 1048576) (hdn : nD <= 1048576) (hvn : nV <= 1048576) (hi : i < s.length) (hfn : s[i].fks.length <= 1048576) (hF : ∀ f ∈ s[i].fks, FkIn s db vals f) :
    Calls Tryz.prog 120 #[.slice AS nS cS, .slice AD nD cD, .int .i64 i, .slice AV nV cV, .bool wait] w fun e w' => e = .returned (.bool (refersB s db s[i] vals wait)) /\ Below w.heap.size w w' := by
  obtain rfl : s.length = nS := hs.1
  have HF := Lib.hid hF
  clear hF
  have i0 : (0 : Int) <= i := by omega
  have i1 : (i : Int) < s.length := by omega
  have hb0 := Below.refl w.heap.size w
  obtain ⟨bt, ot, A1, n1, d1, A2, n2, d2, A3, n3, d3, A4, n4, d4, A5, n5, d5, -, rfl, q0, q1, q2, q3, q4, q5, s1, s2, s3, s4, s5, -⟩ := TbR.at_ hs hi
  obtain rfl : s[i].fks.length = n5 := s5.1
  go_enter Tryz.func120, Tryz.ntmps120
  go_wp2_with fail
  go_loopw [11] (fun j wr => ∃ k : Nat, k <= s[i].fks.length /\ j = .int .i64 k /\ Hid ((s[i].fks.take k).all (okFkB s db vals wait) = true) /\ Below w.heap.size w wr) (fun j _ => s[i].fks.length - (intOf j).toNat)
  case atStart => exact ⟨0, by omega, rfl, Lib.hid (by simp), hb0⟩
  case round =>
    clear hb0
    obtain ⟨k, hk', rfl, hall, hb⟩ := hrel
    have t5 := below_keep hb _ _ q5
    clear q0 q1 q2 q3 q4 q5
    by_cases hlt : k < s[i].fks.length
    · obtain ⟨bf, of, AC, nC, cC, -, rfl, g0, g1, g2, g3, g4, hc, -⟩ := FkR.at_ (s5.below FkR.stays hb) hlt
      have j0 : (0 : Int) <= k := by omega
      have j1 : (k : Int) < s[i].fks.length := by omega
      have hst := all_take_one (okFkB s db vals wait) s[i].fks k hlt
      rw [hall.out, Bool.true_and] at hst
      have hno : okFkB s db vals wait s[i].fks[k] = false -> refersB s db s[i] vals wait = false := fun hf => by
        unfold refersB; rw [List.all_eq_false]; exact ⟨s[i].fks[k], List.getElem_mem hlt, by simp [hf]⟩
      have hbl := (Below.refl wr.heap.size wr).alloc (Nat.le_refl _) (.cells #[.slice AC nC cC, .string s[i].fks[k].table, .int .i64 s[i].fks[k].del, .int .i64 s[i].fks[k].upd, .bool s[i].fks[k].dfr] 188)
      have hba := hb.alloc hb.size (.cells #[.slice AC nC cC, .string s[i].fks[k].table, .int .i64 s[i].fks[k].del, .int .i64 s[i].fks[k].upd, .bool s[i].fks[k].dfr] 188)
      have HC := Lib.hid (specL5ParentB (some ⟨bt, ot, none⟩) AD AC AV s.length cS nD cD nC cC nV cV s db s[i].fks[k] vals _ _ _ _ (wr.alloc (.cells #[.slice AC nC cC, .string s[i].fks[k].table, .int .i64 s[i].fks[k].del, .int .i64 s[i].fks[k].upd, .bool s[i].fks[k].dfr] 188)) (hs.below TbR.stays hba) (hd.below DtR.stays hba) (hc.below IntR.stays hbl) (hv.below VlR.stays hba) hsn hdn hvn (HF.out _ (List.getElem_mem hlt)))
      have RF := Lib.hid (Row.new wr 188 #[.slice AC nC cC, .string s[i].fks[k].table, .int .i64 s[i].fks[k].del, .int .i64 s[i].fks[k].upd, .bool s[i].fks[k].dfr])
      obtain ⟨c0, c1, c2, c3, c4⟩ := RF.out.five
      generalize hdv : s[i].fks[k].dfr = dv at *
      cases hwt : wait
      · subst hwt
        cases hp : parentB s db s[i].fks[k] vals
        · have HP := Lib.hid hp
          have HN := Lib.hid (hno (by unfold okFkB; rw [hp]; rfl))
          clear hst hno hp hdv
          go_wp2_with fail
          refine HC.out.mono ?_
          rintro e w5 ⟨rfl, hb5⟩
          rw [HP.out]
          go_wp2_with fail
          go_ret
          exact ⟨retB HN.out.symm, hba.trans (hb5.mono hba.size)⟩
        · have HP := Lib.hid hp
          have HA := Lib.hid (show (s[i].fks.take (k + 1)).all (okFkB s db vals false) = true by rw [hst]; unfold okFkB; rw [hp]; rfl)
          clear hst hno hp hdv
          go_wp2_with fail
          refine HC.out.mono ?_
          rintro e w5 ⟨rfl, hb5⟩
          rw [HP.out]
          go_wp2_with fail
          go_roundw
          case rel => exact ⟨k + 1, by omega, by go_num, HA, hba.trans (hb5.mono hba.size)⟩
          case measure => simp [intOf]; omega
      · subst hwt
        cases dv
        · have HD := Lib.hid hdv
          clear hdv
          cases hp : parentB s db s[i].fks[k] vals
          · have HP := Lib.hid hp
            have HN := Lib.hid (hno (by unfold okFkB; rw [hp, HD.out]; rfl))
            clear hst hno hp
            go_wp2_with fail
            refine HC.out.mono ?_
            rintro e w5 ⟨rfl, hb5⟩
            rw [HP.out]
            go_wp2_with fail
            go_ret
            exact ⟨retB HN.out.symm, hba.trans (hb5.mono hba.size)⟩
          · have HP := Lib.hid hp
            have HA := Lib.hid (show (s[i].fks.take (k + 1)).all (okFkB s db vals true) = true by rw [hst]; unfold okFkB; rw [hp, HD.out]; rfl)
            clear hst hno hp
            go_wp2_with fail
            refine HC.out.mono ?_
            rintro e w5 ⟨rfl, hb5⟩
            rw [HP.out]
            go_wp2_with fail
            go_roundw
            case rel => exact ⟨k + 1, by omega, by go_num, HA, hba.trans (hb5.mono hba.size)⟩
            case measure => simp [intOf]; omega
        · have HA := Lib.hid (show (s[i].fks.take (k + 1)).all (okFkB s db vals true) = true by rw [hst]; unfold okFkB; rw [hdv]; rfl)
          clear hst hno hdv
          go_wp2_with fail
          go_roundw
          case rel => exact ⟨k + 1, by omega, by go_num, HA, hba⟩
          case measure => simp [intOf]; omega
    · obtain rfl : k = s[i].fks.length := by omega
      have h1 := hall.out
      rw [List.take_of_length_le (Nat.le_refl _)] at h1
      have HR := Lib.hid (show refersB s db s[i] vals wait = true from h1)
      clear hall h1
      go_wp2_with fail
      go_ret
      exact ⟨retB HR.out.symm, hb⟩
theorem findL_idx (cols : List Int) (key : List Vl) (rows : List Rw) : (findL cols key rows).length = (idxK cols key rows rows.length).length := by
  unfold findL idL; rw [List.length_map]
theorem keyOf_in {cols : List Int} {vals : List Vl} (h1 : rowB vals = true) (h2 : cols.all (inV vals) = true) : keyOf cols vals = keyL cols vals /\ keyFl cols vals = knownL (keyL cols vals) := by
  unfold keyOf keyFl keyOk; rw [h1, h2]; exact ⟨rfl, rfl⟩
set_option maxRecDepth 100000 in
set_option maxHeartbeats 4000000 in
theorem implLeadsNowhere (AS AD AC AV : Option Addr) (bf of br orr nS cS nD cD nC cC nV cV : Nat) (s : List Tb) (db : List Dt) (f : Fk) (vals : List Vl) (ok okd okc okv : Nat -> Prop) (w : World)
    (hs : Sl TbR 6 ok w AS nS s) (hd : Sl DtR 1 okd w AD nD db) (hc : Sl IntR 1 okc w AC nC f.cols) (hv : Sl VlR 3 okv w AV nV vals) (f0 : w.cell? ⟨bf, of, none⟩ = some (.slice AC nC cC)) (f1 : w.cell? ⟨bf, of + 1, none⟩ = some (.string f.table)) (r1 : w.cell? ⟨br, orr + 1, none⟩ = some (.slice AV nV cV))
    (hss : szL Tb.sz s <= 1048576) (hdn : nD <= 1048576) (hvn : nV <= 1048576) (hfm : f.table.size <= maxLen) (hrow : rowB vals = true) (hF : FkIn s db vals f) :
    Calls Tryz.prog 235 #[.slice AS nS cS, .slice AD nD cD, .pointer (some ⟨bf, of, none⟩), .pointer (some ⟨br, orr, none⟩)] w fun e w' => e = .returned (.bool (!(parentB s db f vals))) /\ Below w.heap.size w w' := by
  obtain rfl : s.length = nS := hs.1
  obtain rfl : db.length = nD := hd.1
  obtain rfl : f.cols.length = nC := hc.1
  obtain rfl : vals.length = nV := hv.1
  obtain ⟨hca, hcn, m, hat, hm, hmd, hkn, hrn, hrv, hall⟩ := hF
  have hsn : s.length <= 1048576 := by unfold szL at hss; omega
  have HKF := Lib.hid (keyOf_in hrow hca)
  have HVN := Lib.hid hrv
  have HALL := Lib.hid hall
  have HAT := Lib.hid hat
  have HKN := Lib.hid hkn
  have HRN := Lib.hid hrn
  have HPB := Lib.hid (parentB_at (vals := vals) hat hm hmd)
  have HSS := Lib.hid hss
  have HFM := Lib.hid hfm
  have HKL := Lib.hid (show (keyL f.cols vals).length <= 1048576 by rw [show (keyL f.cols vals).length = f.cols.length by simp [keyL]]; exact hcn)
  have i0 : (0 : Int) <= m := by omega
  have i1 : (m : Int) < s.length := by omega
  have i2 : (m : Int) < db.length := by omega
  have HC := implKeyOf AC AV f.cols.length cC vals.length cV f.cols vals _ _ w.drew (hc.drew IntR.stays) (hv.drew VlR.stays) hcn hvn
  rw [HKF.out.1, HKF.out.2] at HC
  have HC0 := Lib.hid HC
  clear HC
  clear hrv hall hca hat hkn hrn hss hfm hrow
  have hbd := (Below.refl w.heap.size w).drew
  go_enter Tryz.func235, Tryz.ntmps235
  go_wp2_with fail
  go_region_held3 (fun w' => w'.cell? ⟨bf, of, none⟩ = some (.slice AC f.cols.length cC) /\ w'.cell? ⟨bf, of + 1, none⟩ = some (.string f.table) /\ w'.cell? ⟨br, orr + 1, none⟩ = some (.slice AV vals.length cV))
    (first | go_keep | exact ⟨below_keep hb9 _ _ f0, below_keep hb9 _ _ f1, below_keep hb9 _ _ r1⟩)
    (first | (go_at_call 267; refine HC0.out.mono ?_; rintro e w9 ⟨AO, cO, rfl, hcO, hsl, hb9⟩))
  have hb1 := hbd.trans (hb9.mono hbd.size)
  have f1' := below_keep hb1 _ _ f1
  have HSL := Lib.hid hsl
  clear hsl f0 f1 r1 hbd hb9
  cases hk : knownL (keyL f.cols vals)
  · have HR := Lib.hid (show (!(parentB s db f vals)) = false by rw [HPB.out]; unfold parentR; rw [hk]; rfl)
    clear hk
    go_wp2_with fail
    go_ret
    exact ⟨retB HR.out.symm, hb1⟩
  · have HR := Lib.hid (show (!(parentB s db f vals)) = (((idxK s[m].key (keyL f.cols vals) db[m].rows db[m].rows.length).length : Int) == 0) by
      rw [HPB.out]; unfold parentR; rw [hk, findL_idx]
      generalize (idxK s[m].key (keyL f.cols vals) db[m].rows db[m].rows.length).length = q
      by_cases h : q = 0
      · subst h; rfl
      · rw [show ((q : Int) == 0) = false by rw [beq_eq_false_iff_ne]; omega, decide_eq_true (show 0 < q by omega)]; rfl)
    clear hk
    go_wp2_with fail
    refine (implTableAt AS s.length cS s f.table _ _ (hs.below TbR.stays hb1) HSS.out HFM.out).mono ?_
    rintro e w2 ⟨rfl, hb2⟩
    rw [HAT.out]
    have hb3 := hb1.trans (hb2.mono hb1.size)
    have HSL2 := Lib.hid ((HSL.out.below VlR.stays hb2).drew VlR.stays)
    clear f1' HSL
    obtain ⟨bt, ot, A1, n1, d1, A2, n2, d2, A3, n3, d3, A4, n4, d4, A5, n5, d5, -, rfl, q0, q1, q2, q3, q4, q5, s1, s2, -⟩ := TbR.at_ (hs.below TbR.stays hb3) hm
    obtain rfl : s[m].key.length = n2 := s2.1
    obtain ⟨bd, od, AL, nL, cL, -, rfl, p0, hrw, -⟩ := DtR.at_ (hd.below DtR.stays hb3) hmd
    obtain rfl : db[m].rows.length = nL := hrw.1
    have HP := Lib.hid (implRowsWith bd (od + m) AL A2 AO db[m].rows.length cL s[m].key.length d2 (keyL f.cols vals).length cO db[m].rows s[m].key (keyL f.cols vals) _ _ _ w2.drew p0 (hrw.drew RwR.stays) (s2.drew IntR.stays) HSL2.out HRN.out HKN.out HKL.out HVN.out HALL.out)
    have HXL := Lib.hid (idxK_len s[m].key (keyL f.cols vals) db[m].rows db[m].rows.length)
    have hbd := hb3.drew
    clear q0 q1 q3 q4 q5 s1 s2 hrw
    go_wp2_with fail
    go_region_held3 (fun w' => w'.cell? ⟨bd, od + m, none⟩ = some (.slice AL db[m].rows.length cL) /\ w'.cell? ⟨bt, ot + m * 6 + 2, none⟩ = some (.slice A2 s[m].key.length d2))
      (first | go_keep | exact ⟨below_keep hb9 _ _ p0, below_keep hb9 _ _ q2⟩)
      (first | (go_at_call 268; refine HP.out.mono ?_; rintro e w9 ⟨AP, cP, rfl, hcP, hsp, hb9⟩))
    go_wp2_with fail
    go_ret
    exact ⟨retB HR.out.symm, hbd.trans (hb9.mono hbd.size)⟩
def lostB (s : List Tb) (db : List Dt) (t : Tb) (vals : List Vl) (wait : Bool) : Bool := t.fks.any fun f => !(okFkB s db vals wait f)
theorem lostB_refers (s : List Tb) (db : List Dt) (t : Tb) (vals : List Vl) (wait : Bool) : lostB s db t vals wait = !(refersB s db t vals wait) := by
  unfold lostB refersB
  induction t.fks with
  | nil => rfl
  | cons a l ih => rw [List.any_cons, List.all_cons, ih]; cases okFkB s db vals wait a <;> rfl
set_option maxHeartbeats 1000000 in
theorem implAskedEnd (v : Value) (w : World) : Calls Tryz.prog 66 #[v] w fun e w' => e = .returned (.bool true) /\ Below w.heap.size w w' := by
  go_enter Tryz.func66, Tryz.ntmps66
  go_wp2_with fail
  go_ret
  exact ⟨rfl, Below.refl _ _⟩
set_option maxHeartbeats 1000000 in
theorem implAskedNow (b o : Nat) (d : Bool) (w : World) (h : w.cell? ⟨b, o + 4, none⟩ = some (.bool d)) : Calls Tryz.prog 78 #[.pointer (some ⟨b, o, none⟩)] w fun e w' => e = .returned (.bool (!d)) /\ Below w.heap.size w w' := by
  go_enter Tryz.func78, Tryz.ntmps78
  go_wp2_with fail
  go_ret
  exact ⟨rfl, Below.refl _ _⟩
set_option maxRecDepth 100000 in
set_option maxHeartbeats 4000000 in
theorem implIsLostEnd (AS AD A5 AV : Option Addr) (bt ot br orr nS cS nD cD n5 c5 nV cV : Nat) (s : List Tb) (db : List Dt) (i : Nat) (vals : List Vl) (ok okd ok5 okv : Nat -> Prop) (w : World)
    (hs : Sl TbR 6 ok w AS nS s) (hd : Sl DtR 1 okd w AD nD db) (hi : i < s.length) (h5 : Sl FkR 5 ok5 w A5 n5 s[i].fks) (hv : Sl VlR 3 okv w AV nV vals) (t5 : w.cell? ⟨bt, ot + 5, none⟩ = some (.slice A5 n5 c5)) (r1 : w.cell? ⟨br, orr + 1, none⟩ = some (.slice AV nV cV))
    (hss : szL Tb.sz s <= 1048576) (hdn : nD <= 1048576) (hvn : nV <= 1048576) (hrow : rowB vals = true) (hF : ∀ f ∈ s[i].fks, FkIn s db vals f) :
    Calls Tryz.prog 191 #[.slice AS nS cS, .slice AD nD cD, .pointer (some ⟨bt, ot, none⟩), .pointer (some ⟨br, orr, none⟩), .func (.func 66) #[] #[]] w fun e w' => e = .returned (.bool (lostB s db s[i] vals false)) /\ Below w.heap.size w w' := by
  obtain rfl : s[i].fks.length = n5 := h5.1
  have HF := Lib.hid hF
  have HQN := Lib.hid (show s[i].fks.length <= 1048576 by
    have h1 := szL_mem Tb.sz s s[i] (List.getElem_mem hi); have h2 : s[i].fks.length <= s[i].sz := by unfold Tb.sz szL; omega
    omega)
  have HTS := Lib.hid (show ∀ f ∈ s[i].fks, f.table.size <= maxLen from fun f hf => by
    have h1 := szL_mem Tb.sz s s[i] (List.getElem_mem hi)
    have h2 := szL_mem Fk.sz s[i].fks f hf
    have h3 : szL Fk.sz s[i].fks <= s[i].sz := by unfold Tb.sz; omega
    have h4 : f.table.size <= f.sz := by unfold Fk.sz; omega
    unfold maxLen; omega)
  have hfn := HQN.out
  clear hF
  have hb0 := Below.refl w.heap.size w
  go_enter Tryz.func191, Tryz.ntmps191
  go_wp2_with fail
  go_loopw [18] (fun j wr => ∃ k : Nat, k <= s[i].fks.length /\ j = .int .i64 k /\ Hid ((s[i].fks.take k).all (okFkB s db vals false) = true) /\ Below w.heap.size w wr) (fun j _ => s[i].fks.length - (intOf j).toNat)
  case atStart => exact ⟨0, by omega, rfl, Lib.hid (by simp), hb0⟩
  case round =>
    clear hb0
    obtain ⟨k, hk', rfl, hall, hb⟩ := hrel
    have t5' := below_keep hb _ _ t5
    have r1' := below_keep hb _ _ r1
    by_cases hlt : k < s[i].fks.length
    · obtain ⟨bf, of, AC, nC, cC, -, rfl, g0, g1, g2, g3, g4, hc, -⟩ := FkR.at_ (h5.below FkR.stays hb) hlt
      have j0 : (0 : Int) <= k := by omega
      have j1 : (k : Int) < s[i].fks.length := by omega
      have hst := all_take_one (okFkB s db vals false) s[i].fks k hlt
      rw [hall.out, Bool.true_and] at hst
      have hno : okFkB s db vals false s[i].fks[k] = false -> lostB s db s[i] vals false = true := fun hf => by
        unfold lostB; rw [List.any_eq_true]; exact ⟨s[i].fks[k], List.getElem_mem hlt, by simp [hf]⟩
      have HL := Lib.hid (fun w5 (hb5 : Below wr.heap.size wr w5) => implLeadsNowhere AS AD AC AV bf (of + k * 5) br orr nS cS nD cD nC cC nV cV s db s[i].fks[k] vals _ _ _ _ w5 (hs.below TbR.stays (hb.trans (hb5.mono hb.size))) (hd.below DtR.stays (hb.trans (hb5.mono hb.size))) (hc.below IntR.stays hb5) (hv.below VlR.stays (hb.trans (hb5.mono hb.size))) (below_keep hb5 _ _ g0) (below_keep hb5 _ _ g1) (below_keep hb5 _ _ r1') hss hdn hvn (HTS.out _ (List.getElem_mem hlt)) hrow (HF.out _ (List.getElem_mem hlt)))
      cases hp : parentB s db s[i].fks[k] vals
      · have HP := Lib.hid hp
        have HN := Lib.hid (hno (by unfold okFkB; rw [hp]; rfl))
        clear hst hno hp
        go_wp2_with fail
        refine (implAskedEnd _ _).mono ?_
        rintro e w5 ⟨rfl, hb5⟩
        go_wp2_with fail
        refine (HL.out w5 hb5).mono ?_
        rintro e w6 ⟨rfl, hb6⟩
        rw [HP.out]
        have hb7 := hb5.trans (hb6.mono hb5.size)
        go_wp2_with fail
        go_ret
        exact ⟨retB HN.out.symm, hb.trans (hb7.mono hb.size)⟩
      · have HP := Lib.hid hp
        have HA := Lib.hid (show (s[i].fks.take (k + 1)).all (okFkB s db vals false) = true by rw [hst]; unfold okFkB; rw [hp]; rfl)
        clear hst hno hp
        go_wp2_with fail
        refine (implAskedEnd _ _).mono ?_
        rintro e w5 ⟨rfl, hb5⟩
        go_wp2_with fail
        refine (HL.out w5 hb5).mono ?_
        rintro e w6 ⟨rfl, hb6⟩
        rw [HP.out]
        have hb7 := hb5.trans (hb6.mono hb5.size)
        go_wp2_with fail
        go_roundw
        case rel => exact ⟨k + 1, by omega, by go_num, HA, hb.trans (hb7.mono hb.size)⟩
        case measure => simp [intOf]; omega
    · obtain rfl : k = s[i].fks.length := by omega
      have h1 := hall.out
      rw [List.take_of_length_le (Nat.le_refl _)] at h1
      have HR := Lib.hid (show lostB s db s[i] vals false = false by rw [lostB_refers]; unfold refersB; rw [h1]; rfl)
      clear hall h1
      go_wp2_with fail
      go_ret
      exact ⟨retB HR.out.symm, hb⟩
set_option maxRecDepth 100000 in
set_option maxHeartbeats 4000000 in
theorem implIsLostNow (AS AD A5 AV : Option Addr) (bt ot br orr nS cS nD cD n5 c5 nV cV : Nat) (s : List Tb) (db : List Dt) (i : Nat) (vals : List Vl) (ok okd ok5 okv : Nat -> Prop) (w : World)
    (hs : Sl TbR 6 ok w AS nS s) (hd : Sl DtR 1 okd w AD nD db) (hi : i < s.length) (h5 : Sl FkR 5 ok5 w A5 n5 s[i].fks) (hv : Sl VlR 3 okv w AV nV vals) (t5 : w.cell? ⟨bt, ot + 5, none⟩ = some (.slice A5 n5 c5)) (r1 : w.cell? ⟨br, orr + 1, none⟩ = some (.slice AV nV cV))
    (hss : szL Tb.sz s <= 1048576) (hdn : nD <= 1048576) (hvn : nV <= 1048576) (hrow : rowB vals = true) (hF : ∀ f ∈ s[i].fks, FkIn s db vals f) :
    Calls Tryz.prog 191 #[.slice AS nS cS, .slice AD nD cD, .pointer (some ⟨bt, ot, none⟩), .pointer (some ⟨br, orr, none⟩), .func (.func 78) #[] #[]] w fun e w' => e = .returned (.bool (lostB s db s[i] vals true)) /\ Below w.heap.size w w' := by
  obtain rfl : s[i].fks.length = n5 := h5.1
  have HF := Lib.hid hF
  have HQN := Lib.hid (show s[i].fks.length <= 1048576 by
    have h1 := szL_mem Tb.sz s s[i] (List.getElem_mem hi); have h2 : s[i].fks.length <= s[i].sz := by unfold Tb.sz szL; omega
    omega)
  have HTS := Lib.hid (show ∀ f ∈ s[i].fks, f.table.size <= maxLen from fun f hf => by
    have h1 := szL_mem Tb.sz s s[i] (List.getElem_mem hi)
    have h2 := szL_mem Fk.sz s[i].fks f hf
    have h3 : szL Fk.sz s[i].fks <= s[i].sz := by unfold Tb.sz; omega
    have h4 : f.table.size <= f.sz := by unfold Fk.sz; omega
    unfold maxLen; omega)
  have hfn := HQN.out
  clear hF
  have hb0 := Below.refl w.heap.size w
  go_enter Tryz.func191, Tryz.ntmps191
  go_wp2_with fail
  go_loopw [18] (fun j wr => ∃ k : Nat, k <= s[i].fks.length /\ j = .int .i64 k /\ Hid ((s[i].fks.take k).all (okFkB s db vals true) = true) /\ Below w.heap.size w wr) (fun j _ => s[i].fks.length - (intOf j).toNat)
  case atStart => exact ⟨0, by omega, rfl, Lib.hid (by simp), hb0⟩
  case round =>
    clear hb0
    obtain ⟨k, hk', rfl, hall, hb⟩ := hrel
    have t5' := below_keep hb _ _ t5
    have r1' := below_keep hb _ _ r1
    by_cases hlt : k < s[i].fks.length
    · obtain ⟨bf, of, AC, nC, cC, -, rfl, g0, g1, g2, g3, g4, hc, -⟩ := FkR.at_ (h5.below FkR.stays hb) hlt
      have j0 : (0 : Int) <= k := by omega
      have j1 : (k : Int) < s[i].fks.length := by omega
      have hst := all_take_one (okFkB s db vals true) s[i].fks k hlt
      rw [hall.out, Bool.true_and] at hst
      have hno : okFkB s db vals true s[i].fks[k] = false -> lostB s db s[i] vals true = true := fun hf => by
        unfold lostB; rw [List.any_eq_true]; exact ⟨s[i].fks[k], List.getElem_mem hlt, by simp [hf]⟩
      have HL := Lib.hid (fun w5 (hb5 : Below wr.heap.size wr w5) => implLeadsNowhere AS AD AC AV bf (of + k * 5) br orr nS cS nD cD nC cC nV cV s db s[i].fks[k] vals _ _ _ _ w5 (hs.below TbR.stays (hb.trans (hb5.mono hb.size))) (hd.below DtR.stays (hb.trans (hb5.mono hb.size))) (hc.below IntR.stays hb5) (hv.below VlR.stays (hb.trans (hb5.mono hb.size))) (below_keep hb5 _ _ g0) (below_keep hb5 _ _ g1) (below_keep hb5 _ _ r1') hss hdn hvn (HTS.out _ (List.getElem_mem hlt)) hrow (HF.out _ (List.getElem_mem hlt)))
      generalize hdv : s[i].fks[k].dfr = dv at *
      cases dv
      · have HD := Lib.hid hdv
        clear hdv
        cases hp : parentB s db s[i].fks[k] vals
        · have HP := Lib.hid hp
          have HN := Lib.hid (hno (by unfold okFkB; rw [hp, HD.out]; rfl))
          clear hst hno hp
          go_wp2_with fail
          refine (implAskedNow bf (of + k * 5) _ _ g4).mono ?_
          rintro e w5 ⟨rfl, hb5⟩
          go_wp2_with fail
          refine (HL.out w5 hb5).mono ?_
          rintro e w6 ⟨rfl, hb6⟩
          rw [HP.out]
          have hb7 := hb5.trans (hb6.mono hb5.size)
          go_wp2_with fail
          go_ret
          exact ⟨retB HN.out.symm, hb.trans (hb7.mono hb.size)⟩
        · have HP := Lib.hid hp
          have HA := Lib.hid (show (s[i].fks.take (k + 1)).all (okFkB s db vals true) = true by rw [hst]; unfold okFkB; rw [hp, HD.out]; rfl)
          clear hst hno hp
          go_wp2_with fail
          refine (implAskedNow bf (of + k * 5) _ _ g4).mono ?_
          rintro e w5 ⟨rfl, hb5⟩
          go_wp2_with fail
          refine (HL.out w5 hb5).mono ?_
          rintro e w6 ⟨rfl, hb6⟩
          rw [HP.out]
          have hb7 := hb5.trans (hb6.mono hb5.size)
          go_wp2_with fail
          go_roundw
          case rel => exact ⟨k + 1, by omega, by go_num, HA, hb.trans (hb7.mono hb.size)⟩
          case measure => simp [intOf]; omega
      · have HA := Lib.hid (show (s[i].fks.take (k + 1)).all (okFkB s db vals true) = true by rw [hst]; unfold okFkB; rw [hdv]; rfl)
        clear hst hno hdv HL
        go_wp2_with fail
        refine (implAskedNow bf (of + k * 5) _ _ g4).mono ?_
        rintro e w5 ⟨rfl, hb5⟩
        go_wp2_with fail
        go_roundw
        case rel => exact ⟨k + 1, by omega, by go_num, HA, hb.trans (hb5.mono hb.size)⟩
        case measure => simp [intOf]; omega
    · obtain rfl : k = s[i].fks.length := by omega
      have h1 := hall.out
      rw [List.take_of_length_le (Nat.le_refl _)] at h1
      have HR := Lib.hid (show lostB s db s[i] vals true = false by rw [lostB_refers]; unfold refersB; rw [h1]; rfl)
      clear hall h1
      go_wp2_with fail
      go_ret
      exact ⟨retB HR.out.symm, hb⟩
def othL (cols : List Int) (rows : List Rw) (x : Rw) : List Int := if knownL (keyL cols x.vals) then (findL cols (keyL cols x.vals) rows).filter (fun i => i != x.id) else []
theorem twiceB_oth (cols : List Int) (rows : List Rw) (x : Rw) : twiceB cols rows x = decide (0 < (othL cols rows x).length) := by
  unfold twiceB othL
  cases knownL (keyL cols x.vals)
  · rfl
  · rw [Bool.true_and, if_pos rfl]
    generalize findL cols (keyL cols x.vals) rows = l
    induction l with
    | nil => rfl
    | cons a l ih => rw [List.any_cons, List.filter_cons]; cases h : (a != x.id) <;> simp_all
theorem othL_len (cols : List Int) (rows : List Rw) (x : Rw) : (othL cols rows x).length <= rows.length := by
  unfold othL; split
  · exact Nat.le_trans (List.length_filter_le _ _) (findL_len _ _ _)
  · exact Nat.zero_le _
def MadeO (xs : List Int) (w : World) (e : Ending) (w' : World) : Prop := ∃ v, e = .returned v /\ OwnI w' w.heap.size v xs /\ Below w.heap.size w w'
theorem OwnI.base {w : World} {b b' : Nat} {v : Value} {xs : List Int} (h : OwnI w b v xs) (hb : b' <= b) : OwnI w b' v xs := by
  refine ⟨h.1, ?_⟩
  rcases h.2 with h | ⟨g, cap, cur, rfl, h1, h2⟩
  · exact .inl h
  · exact .inr ⟨g, cap, cur, rfl, by omega, h2⟩
set_option maxRecDepth 100000 in
set_option maxHeartbeats 4000000 in
theorem implOthersWith (bd od br orr : Nat) (AL AC AX : Option Addr) (nL cL nC cC nX cX : Nat) (rows : List Rw) (cols : List Int) (x : Rw) (ok okc okx : Nat -> Prop) (w : World)
    (p0 : w.cell? ⟨bd, od, none⟩ = some (.slice AL nL cL)) (hr : Sl RwR 2 ok w AL nL rows) (hc : Sl IntR 1 okc w AC nC cols) (r0 : w.cell? ⟨br, orr, none⟩ = some (.int .i64 x.id)) (r1 : w.cell? ⟨br, orr + 1, none⟩ = some (.slice AX nX cX)) (hx : Sl VlR 3 okx w AX nX x.vals)
    (hrn : nL <= 1048576) (hcn : nC <= 1048576) (hxn : nX <= 1048576) (hvn : ∀ r ∈ rows, r.vals.length <= 1048576) (hall : ∀ r ∈ rows, cols.all (inV r.vals) = true) (hrow : rowB x.vals = true) (hxa : cols.all (inV x.vals) = true) :
    Calls Tryz.prog 232 #[.pointer (some ⟨bd, od, none⟩), .slice AC nC cC, .pointer (some ⟨br, orr, none⟩)] w (MadeO (othL cols rows x) w) := by
  obtain rfl : rows.length = nL := hr.1
  obtain rfl : cols.length = nC := hc.1
  obtain rfl : x.vals.length = nX := hx.1
  have HKF := Lib.hid (keyOf_in hrow hxa)
  have HVN := Lib.hid hvn
  have HALL := Lib.hid hall
  have HRN := Lib.hid hrn
  have HKL := Lib.hid (show (keyL cols x.vals).length <= 1048576 by rw [show (keyL cols x.vals).length = cols.length by simp [keyL]]; exact hcn)
  have HC := implKeyOf AC AX cols.length cC x.vals.length cX cols x.vals _ _ w hc hx hcn hxn
  rw [HKF.out.1, HKF.out.2] at HC
  have HC0 := Lib.hid HC
  obtain ⟨i0, hi, hz0, hz1, hz2⟩ := info_parts infoIntI
  have H1 := Lib.hid hi
  have H2 := Lib.hid hz0
  have H3 := Lib.hid hz1
  have H4 := Lib.hid hz2
  clear hi hz0 hz1 hz2 HC hvn hall hrow hxa
  go_enter Tryz.func232, Tryz.ntmps232
  go_wp2_with fail
  refine HC0.out.mono ?_
  rintro e w1 ⟨AO, cO, rfl, hcO, hsl, hb1⟩
  have HSL := Lib.hid hsl
  clear hsl
  cases hk : knownL (keyL cols x.vals)
  · have HR := Lib.hid (show othL cols rows x = [] by unfold othL; rw [hk]; rfl)
    clear hk
    go_wp2_with fail
    go_ret
    exact ⟨_, rfl, by rw [HR.out]; exact OwnI.nil _ _, hb1⟩
  have HR := Lib.hid (show othL cols rows x = (idL rows (idxK cols (keyL cols x.vals) rows rows.length)).filter (fun i => i != x.id) by unfold othL; rw [hk]; rfl)
  clear hk
  have HP := Lib.hid (implRowsWith bd od AL AC AO rows.length cL cols.length cC (keyL cols x.vals).length cO rows cols (keyL cols x.vals) _ _ _ w1 (below_keep hb1 _ _ p0) (hr.below RwR.stays hb1) (hc.below IntR.stays hb1) HSL.out hrn hcn HKL.out HVN.out HALL.out)
  go_wp2_with fail
  refine HP.out.mono ?_
  rintro e w4 ⟨AP, cP, rfl, hcP, hsp, hb4⟩
  have hbz := hb1.trans (hb4.mono hb1.size)
  have hrs := hr.below RwR.stays hbz
  have r0z := below_keep hbz _ _ r0
  have HIL := Lib.hid (idxK_lt cols (keyL cols x.vals) rows rows.length)
  have HXL := Lib.hid (idxK_len cols (keyL cols x.vals) rows rows.length)
  clear hb4 HP hb1 p0 r0 r1 hr hx hc HSL HC0
  generalize hxg : idxK cols (keyL cols x.vals) rows rows.length = xs at *
  have HXG := Lib.hid hxg
  clear hxg
  go_wp2_with fail
  go_loopw [9, 28] (fun v i wr => ∃ j : Nat, j <= xs.length /\ i = .int .i64 j /\ Hid (OwnI wr w4.heap.size v ((idL rows (xs.take j)).filter (fun i => i != x.id))) /\ Below w4.heap.size w4 wr) (fun _ i _ => xs.length - (intOf i).toNat)
  case atStart => exact ⟨0, by omega, rfl, Lib.hid (OwnI.nil _ _), Below.refl _ _⟩
  case round =>
    obtain ⟨j, hj, rfl, hown, hb⟩ := hrel
    have r0' := below_keep hb _ _ r0z
    by_cases hlt : j < xs.length
    · have hix := (HIL.out _ (List.getElem_mem hlt)).2
      obtain ⟨bl, ol, B1, k1, d1, -, rfl, z0, -⟩ := RwR.at_ (hrs.below RwR.stays hb) hix
      obtain ⟨bp, op, rfl, z1⟩ := ptr_at (hsp.stays (FlatR.stays _) (fun _ h => h) (fun p v _ hp => below_keep hb p v hp)) rfl hlt
      have j0 : (0 : Int) <= j := by omega
      have j1 : (j : Int) < xs.length := by omega
      have hT := idL_app rows (xs.take j) xs[j] hix
      rw [<- List.take_succ_eq_append_getElem hlt] at hT
      have hxj : xs.length <= 1048576 := by have h1 := HXL.out; have h2 := HRN.out; omega
      have HLI := Lib.hid (show ((idL rows (xs.take j)).filter (fun i => i != x.id)).length <= j by
        refine Nat.le_trans (List.length_filter_le _ _) ?_
        unfold idL; rw [List.length_map, List.length_take]; omega)
      cases hne : (rows[xs[j]].id != x.id)
      · have HA := Lib.hid (show (idL rows (xs.take (j + 1))).filter (fun i => i != x.id) = (idL rows (xs.take j)).filter (fun i => i != x.id) by rw [hT, List.filter_append]; simp [hne])
        clear hT
        go_wp2_with fail
        go_quiet (fail)
        go_wp2_with fail
        go_roundw
        case rel => exact ⟨j + 1, by omega, by go_num, Lib.hid (by rw [HA.out]; exact OwnI.below hown.out (below_dN (Below.refl _ _) _)), below_dN hb _⟩
        case measure => simp [intOf]; omega
      · have HA := Lib.hid (show (idL rows (xs.take (j + 1))).filter (fun i => i != x.id) = (idL rows (xs.take j)).filter (fun i => i != x.id) ++ [rows[xs[j]].id] by rw [hT, List.filter_append]; simp [hne])
        clear hT
        generalize hgv : (idL rows (xs.take j)).filter (fun i => i != x.id) = ys at *
        have HGV := Lib.hid hgv
        clear hgv
        go_wp2_with fail
        go_quiet (fail)
        have hbd := below_dN hb nq
        have z0d := below_keep (below_dN (Below.refl wr.heap.size wr) nq) _ _ z0
        have hoz := OwnI.below hown.out (below_dN (Below.refl wr.heap.size wr) nq)
        have hoz := Lib.hid hoz
        clear hown
        generalize wr.drewN nq = wd at *
        go_wp2_with (at_builtin; refine wpList_append_own _ rfl _ _ 70 rfl w4.heap.size 2 i0 (.int .i64 0) 1 8 Tryz.underlying70 H1.out H2.out H3.out H4.out rfl (by decide) _ _ _ rfl (World.ownsRow.alloc hoz.out _) ⟨_, 0, none⟩ 1 1 [.int .i64 rows[xs[j]].id] rfl rfl ?c1 ?c2 ?c3 ?c4 ?c5 ?_)
        case c1 => exact cell_one_new _ _ _
        case c2 => intro u hu; simp at hu; subst hu; rfl
        case c3 => have := HLI.out; unfold maxLen; omega
        case c4 => have := HLI.out; omega
        case c5 => have := hbd.size; simp; omega
        intro v' w5 hown3 hgrow _
        have R := Lib.hid (OwnI.app hoz.out hbd.size hown3 hgrow)
        clear hown3 hgrow hoz
        go_wp2_with fail
        go_roundw
        case rel => exact ⟨j + 1, by omega, by go_num, Lib.hid (by rw [HA.out]; exact R.out.1), hbd.trans R.out.2⟩
        case measure => simp [intOf]; omega
    · obtain rfl : j = xs.length := by omega
      have ho := hown.out
      rw [List.take_of_length_le (Nat.le_refl _)] at ho
      have HO := Lib.hid ho
      clear hown ho
      have hbw := hbz.trans (hb.mono hbz.size)
      go_wp2_with fail
      go_ret
      exact ⟨_, rfl, by rw [HR.out]; exact OwnI.base HO.out hbz.size, hbw⟩
set_option maxRecDepth 100000 in
set_option maxHeartbeats 1000000 in
theorem implWrongNullAt (g o : Nat) (A1 AR : Option Addr) (n1 c1 nR cR : Nat) (cols : List Cl) (row : List Vl) (ok : Nat -> Prop) (w : World)
    (t1 : w.cell? ⟨g, o + 1, none⟩ = some (.slice A1 n1 c1)) (h : Sl ClR 6 ok w A1 n1 cols) (hv : Vals w AR nR row) (hn1 : n1 <= 1048576) (hn2 : nR <= 1048576) (hlen : row.length = cols.length) :
    Calls Tryz.prog 188 #[.pointer (some ⟨g, o, none⟩), .slice AR nR cR] w fun e w' => e = .returned (.bool (!nullsB cols row)) /\ Below w.heap.size w w' := by
  obtain rfl : cols.length = n1 := h.1
  obtain rfl : row.length = nR := hv.len
  have hz : (cols.zip row).length = cols.length := by simp [hlen]
  have HZ := Lib.hid hz
  have HL := Lib.hid hlen
  clear hz hlen
  go_enter Tryz.func188, Tryz.ntmps188
  go_wp2
  go_loopw [9] (fun i wr => ∃ k : Nat, k <= cols.length /\ i = .int .i64 k /\ Hid (((cols.zip row).take k).all nullV = true) /\ Below w.heap.size w wr) (fun i _ => cols.length - (intOf i).toNat)
  case atStart => exact ⟨0, by omega, rfl, Lib.hid (by simp), Below.refl _ _⟩
  case round =>
    obtain ⟨k, hk, rfl, hall, hb⟩ := hrel
    by_cases hlt : k < cols.length
    · have hlt2 : k < row.length := by have := HL.out; omega
      have hbx := (Below.refl wr.heap.size wr).alloc (Nat.le_refl _) (.cells #[.int .i64 row[k].k, .int .i64 row[k].n, .string row[k].s] 179)
      have hba := hb.trans (hbx.mono hb.size)
      have rv := Row.new wr 179 #[.int .i64 row[k].k, .int .i64 row[k].n, .string row[k].s]
      obtain ⟨b2, off2, rfl, p0, p1, p2⟩ := (hv.below hb).at_ hlt2
      obtain ⟨b, off, -, rfl, q0, q1, q2, q3, q4, q5⟩ := ClR.at_ (h.below ClR.stays hba) hlt
      have d1 := below_keep hba _ _ t1
      obtain ⟨⟨f0, f1, f2⟩, -⟩ := rv.three
      have hsn := all_take nullV (cols.zip row) k (by rw [HZ.out]; exact hlt)
      have hno := fun hf => all_no nullV (cols.zip row) k (by rw [HZ.out]; exact hlt) hf
      have eg : nullV ((cols.zip row)[k]'(by rw [HZ.out]; exact hlt)) = !(cols[k].nn && row[k].k == 0) := by rw [List.getElem_zip]; rfl
      rw [hall.out, Bool.true_and, eg] at hsn
      rw [eg] at hno
      have i0 : (0 : Int) <= k := by omega
      have i1 : (k : Int) < cols.length := by omega
      have i2 : (k : Int) < row.length := by have := HL.out; omega
      clear eg
      cases hc : (row[k].k == 0)
      · have HA := Lib.hid (show ((cols.zip row).take (k + 1)).all nullV = true by rw [hsn, hc, Bool.and_false]; rfl)
        clear hsn hno hall
        go_wp2_with fail
        go_roundw
        case rel => exact ⟨k + 1, by omega, by go_num, Lib.hid HA.out, hba⟩
        case measure => simp [intOf]; omega
      cases hd : cols[k].nn
      · have HA := Lib.hid (show ((cols.zip row).take (k + 1)).all nullV = true by rw [hsn, hc, hd]; rfl)
        rw [hd] at q2
        clear hsn hno hall
        go_wp2_with fail
        go_roundw
        case rel => exact ⟨k + 1, by omega, by go_num, Lib.hid HA.out, hba⟩
        case measure => simp [intOf]; omega
      · have HF := Lib.hid (show nullsB cols row = false from hno (by rw [hc, hd]; rfl))
        rw [hd] at q2
        clear hsn hno hall
        go_wp2_with fail
        go_ret
        exact ⟨retB (by rw [HF.out]; rfl), hba⟩
    · have e : (cols.zip row).take k = cols.zip row := List.take_of_length_le (by rw [HZ.out]; omega)
      have h1 := hall.out
      rw [e] at h1
      have HF := Lib.hid (show nullsB cols row = true from h1)
      have i3 : ¬ (k : Int) < row.length := by have := HL.out; omega
      clear e h1 hall
      go_wp2
      go_ret
      exact ⟨retB (by rw [HF.out]; rfl), hb⟩
set_option maxRecDepth 100000 in
set_option maxHeartbeats 1000000 in
theorem implFailsCheckAt (g o : Nat) (AL AR : Option Addr) (nL cL nR cR : Nat) (l : List Ck) (row : List Vl) (ok : Nat -> Prop) (w : World)
    (t4 : w.cell? ⟨g, o + 4, none⟩ = some (.slice AL nL cL)) (h : Sl CkR 1 ok w AL nL l) (hv : Vals w AR nR row) (hs : szL Ck.sz l <= 1048576) (hn2 : nR <= 1048576) :
    Calls Tryz.prog 189 #[.pointer (some ⟨g, o, none⟩), .slice AR nR cR] w fun e w' => e = .returned (.bool (!checksB l row)) /\ Below w.heap.size w w' := by
  obtain rfl : l.length = nL := h.1
  have hn1 : l.length <= 1048576 := by unfold szL at hs; omega
  have HSZ := Lib.hid hs
  have HM := Lib.hid (show nR <= maxLen by unfold maxLen; omega)
  clear hs
  have x4 := t4
  go_enter Tryz.func189, Tryz.ntmps189
  go_wp2
  go_loopw [13] (fun i wr => ∃ k : Nat, k <= l.length /\ i = .int .i64 k /\ Hid ((l.take k).all (ckV row) = true) /\ Below w.heap.size w wr) (fun i _ => l.length - (intOf i).toNat)
  case atStart => exact ⟨0, by omega, rfl, Lib.hid (by simp), Below.refl _ _⟩
  case round =>
    obtain ⟨k, hk, rfl, hall, hb⟩ := hrel
    by_cases hlt : k < l.length
    · obtain ⟨b, off, A9, n9, c9, -, rfl, q0, s0, hcp⟩ := CkR.at_ (h.below CkR.stays hb) hlt
      obtain rfl : l[k].expr.length = n9 := s0.1
      have hbx := (Below.refl wr.heap.size wr).alloc (Nat.le_refl _) (.cells #[.slice A9 l[k].expr.length c9] 186)
      have hba := hb.trans (hbx.mono hb.size)
      have s1 := s0.below TkR.stays hbx
      have hv1 := hv.below hba
      have hk9 : l[k].expr.length <= 1048576 := by have := HSZ.out; have := sum_mem_le Ck.sz l k hlt; unfold szL at *; simp only [Ck.sz] at *; (try unfold szL at *); (try simp only at *); omega
      have HK9 := Lib.hid (show l[k].expr.length <= maxLen by unfold maxLen; omega)
      have hsn := all_take (ckV row) l k hlt
      rw [hall.out, Bool.true_and] at hsn
      have hno := fun hf => all_no (ckV row) l k hlt hf
      have hcall := implTruth A9 AR l[k].expr.length nR c9 cR l[k].expr row _ (Sl.cellz (fun _ => rfl) s1) hv1 HK9.out HM.out
      have HCALL := Lib.hid hcall
      clear hk9 hcall
      by_cases h1 : truthB l[k].expr row = 1
      · have HA := Lib.hid (show (l.take (k + 1)).all (ckV row) = true by rw [hsn]; unfold ckV truOkB; rw [h1]; rfl)
        have H1 := Lib.hid h1
        clear hsn hno hall h1
        go_wp2_with fail
        refine HCALL.out.mono ?_
        rintro e w1 ⟨rfl, hb1⟩
        rw [H1.out]
        clear HCALL
        go_wp2
        go_roundw
        case rel => exact ⟨k + 1, by omega, by go_num, Lib.hid HA.out, hba.trans (hb1.mono hba.size)⟩
        case measure => simp [intOf]; omega
      by_cases h2 : truthB l[k].expr row = 2
      · have HA := Lib.hid (show (l.take (k + 1)).all (ckV row) = true by rw [hsn]; unfold ckV truOkB; rw [h2]; rfl)
        have H1 := Lib.hid h2
        clear hsn hno hall h1 h2
        go_wp2_with fail
        refine HCALL.out.mono ?_
        rintro e w1 ⟨rfl, hb1⟩
        rw [H1.out]
        clear HCALL
        go_wp2
        go_roundw
        case rel => exact ⟨k + 1, by omega, by go_num, Lib.hid HA.out, hba.trans (hb1.mono hba.size)⟩
        case measure => simp [intOf]; omega
      · have HF := Lib.hid (show checksB l row = false from hno (by unfold ckV truOkB; rw [beq_eq_false_iff_ne.2 h1, beq_eq_false_iff_ne.2 h2]; rfl))
        have e1 : (truthB l[k].expr row != 1) = true := by simpa using h1
        have e2 : (truthB l[k].expr row != 2) = true := by simpa using h2
        have e3 : (truthB l[k].expr row != 1 && truthB l[k].expr row != 2) = true := by rw [e1, e2]; rfl
        clear hsn hno hall h1 h2
        generalize truthB l[k].expr row = tr at *
        go_wp2_with fail
        refine HCALL.out.mono ?_
        rintro e w1 ⟨rfl, hb1⟩
        clear HCALL
        go_wp2
        go_ret
        exact ⟨retB (by rw [HF.out]; rfl), hba.trans (hb1.mono hba.size)⟩
    · have e : l.take k = l := List.take_of_length_le (by omega)
      have h1 := hall.out
      rw [e] at h1
      have HF := Lib.hid (show checksB l row = true from h1)
      clear e h1 hall
      go_wp2
      go_ret
      exact ⟨retB (by rw [HF.out]; rfl), hb⟩
structure Fw where
  k : Int
  t : Int
  id : Int
def Fw.cells (x : Fw) : List Value := [.int .i64 x.k, .int .i64 x.t, .int .i64 x.id]
theorem infoFlawF : (Tryz.prog.info? 97).map (fun i => (i.zero, i.size, i.bytes)) = some (some (.agg #[.int .i64 0, .int .i64 0, .int .i64 0]), 3, 24) := by kernel_rfl
def OwnF (w : World) (base : Nat) (v : Value) (xs : List Fw) : Prop := OwnG 97 3 Fw.cells w base v xs
def oneFw (ok : Bool) (k i : Int) (x : Rw) : List Fw := if ok then [] else [⟨k, i, x.id⟩]
def rowFw (s : List Tb) (db : List Dt) (t : Tb) (rows : List Rw) (wait : Bool) (i : Int) (x : Rw) : List Fw :=
  oneFw (nullsB t.cols x.vals) 1 i x ++ oneFw (checksB t.checks x.vals) 2 i x ++ oneFw (uniqueB t rows x) 3 i x ++ oneFw (refersB s db t x.vals wait) 4 i x
def tabFw (s : List Tb) (db : List Dt) (wait : Bool) (i : Nat) : List Fw :=
  match s[i]?, db[i]? with
  | some t, some d => d.rows.flatMap (rowFw s db t d.rows wait i)
  | _, _ => []
def dbFw (s : List Tb) (db : List Dt) (wait : Bool) (n : Nat) : List Fw := (List.range n).flatMap (tabFw s db wait)
theorem dbFw_succ (s : List Tb) (db : List Dt) (wait : Bool) (n : Nat) : dbFw s db wait (n + 1) = dbFw s db wait n ++ tabFw s db wait n := by
  unfold dbFw; rw [List.range_succ, List.flatMap_append]; simp
theorem tabFw_at {s : List Tb} {db : List Dt} (wait : Bool) {i : Nat} (h : i < s.length) (h' : i < db.length) : tabFw s db wait i = db[i].rows.flatMap (rowFw s db s[i] db[i].rows wait i) := by
  unfold tabFw; rw [List.getElem?_eq_getElem h, List.getElem?_eq_getElem h']
theorem flat_take {α β : Type} (f : α -> List β) (l : List α) (k : Nat) (h : k < l.length) : (l.take (k + 1)).flatMap f = (l.take k).flatMap f ++ f l[k] := by
  rw [List.take_succ_eq_append_getElem h, List.flatMap_append]; simp
theorem oneFw_len (ok : Bool) (k i : Int) (x : Rw) : (oneFw ok k i x).length <= 1 := by unfold oneFw; split <;> simp
theorem rowFw_len (s : List Tb) (db : List Dt) (t : Tb) (rows : List Rw) (wait : Bool) (i : Int) (x : Rw) : (rowFw s db t rows wait i x).length <= 4 := by
  unfold rowFw
  simp only [List.length_append]
  have h1 := oneFw_len (nullsB t.cols x.vals) 1 i x
  have h2 := oneFw_len (checksB t.checks x.vals) 2 i x
  have h3 := oneFw_len (uniqueB t rows x) 3 i x
  have h4 := oneFw_len (refersB s db t x.vals wait) 4 i x
  omega
theorem flat_bound {α β : Type} (f : α -> List β) (c : Nat) : ∀ l : List α, (∀ x ∈ l, (f x).length <= c) -> (l.flatMap f).length <= c * l.length
  | [], _ => by simp
  | a :: l, h => by
    rw [List.flatMap_cons, List.length_append, List.length_cons, Nat.mul_add, Nat.mul_one]
    have h1 := h a (by simp)
    have h2 := flat_bound f c l fun x hx => h x (by simp [hx])
    omega
theorem tabFw_len {s : List Tb} {db : List Dt} (wait : Bool) (hd : ∀ d ∈ db, d.rows.length <= 1048576) (i : Nat) : (tabFw s db wait i).length <= 4194304 := by
  unfold tabFw
  split
  · rename_i t d hs hdd
    have h1 := flat_bound (rowFw s db t d.rows wait i) 4 d.rows fun x _ => rowFw_len _ _ _ _ _ _ _
    have h2 := hd d (List.mem_of_getElem? hdd)
    omega
  · simp
theorem dbFw_len {s : List Tb} {db : List Dt} (wait : Bool) (hd : ∀ d ∈ db, d.rows.length <= 1048576) (n : Nat) : (dbFw s db wait n).length <= 4194304 * n := by
  unfold dbFw
  have h := flat_bound (tabFw s db wait) 4194304 (List.range n) fun i _ => tabFw_len wait hd i
  rwa [List.length_range] at h
theorem own_ne_row {α : Type} {T : TypeId} {sz : Nat} {f : α -> List Value} {w : World} {base : Nat} {v : Value} {xs : List α} (h : OwnG T sz f w base v xs) {g : Nat} {T' : TypeId} {cs : Array Value} (hr : Row w g T' cs) (hne : T ≠ T') : ∀ k, v.ownBlock = some k -> k ≠ g := by
  intro k hk e
  subst e
  rcases h.2 with ⟨rfl, -⟩ | ⟨g', cap, cur, rfl, h1, h2, -⟩
  · cases hk
  · have e : g' = k := by simpa [Value.ownBlock] using hk
    subst e
    have h3 : w.heap[g']? = some (.cells cs T') := hr
    rw [h3] at h2
    injection h2 with h4
    injection h4 with h5 h6
    exact hne h6.symm
end Go.Proofs.YtlpldhmanihnnaaGreat
namespace Go.Proofs.YtlpldhmanihnnaaGreat
open Go.RowKit
theorem evalB_dead {ts : List Tk} {row : List Vl} {k : Nat} (h : evalGo row (ts.take k) [] = none) : evalB ts row = none := by
  unfold evalB
  split
  · rw [evalGo_dead row ts k [] h]; rfl
  · rfl
theorem specTwo (k : Int) (hk : k = 3 \/ k = 4 \/ k = 5 \/ k = 6 \/ k = 9 \/ k = 10) (a b : Vl) (w : World) (ha : a.ok = true) (hb : b.ok = true) :
    Calls Tryz.prog 263 #[.int .i64 k, .agg #[.int .i64 a.k, .int .i64 a.n, .string a.s], .agg #[.int .i64 b.k, .int .i64 b.n, .string b.s]] w (OptPost (op2 k a b) w) := by
  rcases hk with rfl | rfl | rfl | rfl | rfl | rfl
  · exact specTwo3 a b w
  · exact specTwo4 a b w
  · exact specTwo5 a b w
  · exact specTwo6 a b w
  · exact specTwo9 a b w ha hb
  · exact specTwo10 a b w ha hb
theorem specTwoNone (k : Int) (hk : k = 3 \/ k = 4 \/ k = 5 \/ k = 6 \/ k = 9 \/ k = 10) (a b : Vl) (w : World) (ha : a.ok = true) (hb : b.ok = true) (ho : op2 k a b = none) :
    Calls Tryz.prog 263 #[.int .i64 k, .agg #[.int .i64 a.k, .int .i64 a.n, .string a.s], .agg #[.int .i64 b.k, .int .i64 b.n, .string b.s]] w fun e w' => ∃ v : Vl, e = .returned (.tuple #[.agg #[.int .i64 v.k, .int .i64 v.n, .string v.s], .bool false]) /\ Below w.heap.size w w' :=
  (specTwo k hk a b w ha hb).mono fun e w' ⟨v, he, _, hbl⟩ => ⟨v, by rw [he, ho]; rfl, hbl⟩
theorem specTwoSome (k : Int) (hk : k = 3 \/ k = 4 \/ k = 5 \/ k = 6 \/ k = 9 \/ k = 10) (a b v : Vl) (w : World) (ha : a.ok = true) (hb : b.ok = true) (ho : op2 k a b = some v) :
    Calls Tryz.prog 263 #[.int .i64 k, .agg #[.int .i64 a.k, .int .i64 a.n, .string a.s], .agg #[.int .i64 b.k, .int .i64 b.n, .string b.s]] w fun e w' => e = .returned (.tuple #[.agg #[.int .i64 v.k, .int .i64 v.n, .string v.s], .bool true]) /\ Below w.heap.size w w' :=
  (specTwo k hk a b w ha hb).mono fun e w' ⟨x, he, hx, hbl⟩ => ⟨by rw [he, hx v ho, ho]; rfl, hbl⟩
theorem keep7 {w w' : World} {a0 a1 a2 a3 a4 a5 a6 : Addr} {v0 v1 v2 v3 v4 v5 v6 : Value} (h : w.cell? a0 = some v0 /\ w.cell? a1 = some v1 /\ w.cell? a2 = some v2 /\ w.cell? a3 = some v3 /\ w.cell? a4 = some v4 /\ w.cell? a5 = some v5 /\ w.cell? a6 = some v6) (hb : Below w.heap.size w w') : w'.cell? a0 = some v0 /\ w'.cell? a1 = some v1 /\ w'.cell? a2 = some v2 /\ w'.cell? a3 = some v3 /\ w'.cell? a4 = some v4 /\ w'.cell? a5 = some v5 /\ w'.cell? a6 = some v6 := by
  obtain ⟨h0, h1, h2, h3, h4, h5, h6⟩ := h
  exact ⟨(hb.cell (cell_lt h0)).trans h0, (hb.cell (cell_lt h1)).trans h1, (hb.cell (cell_lt h2)).trans h2, (hb.cell (cell_lt h3)).trans h3, (hb.cell (cell_lt h4)).trans h4, (hb.cell (cell_lt h5)).trans h5, (hb.cell (cell_lt h6)).trans h6⟩
theorem set_far {w : World} {g b i j : Nat} {x v : Value} (hne : b ≠ g) (h : w.cell? ⟨b, i, none⟩ = some v) : (w.setCell ⟨g, j, none⟩ x).cell? ⟨b, i, none⟩ = some v :=
  (World.cell?_of_block (w := w) (a := ⟨b, i, none⟩) (Below.heap_setCell w ⟨g, j, none⟩ x b hne)).trans h
theorem keep7s {w : World} {g b c i0 i1 i2 i3 i4 i5 i6 : Nat} {x y z v0 v1 v2 v3 v4 v5 v6 : Value} (hb : b ≠ g) (hc : c ≠ g)
    (h : w.cell? ⟨b, i0, none⟩ = some v0 /\ w.cell? ⟨c, i1, none⟩ = some v1 /\ w.cell? ⟨c, i2, none⟩ = some v2 /\ w.cell? ⟨c, i3, none⟩ = some v3 /\ w.cell? ⟨c, i4, none⟩ = some v4 /\ w.cell? ⟨c, i5, none⟩ = some v5 /\ w.cell? ⟨c, i6, none⟩ = some v6) :
    (((w.setCell ⟨g, 0, none⟩ x).setCell ⟨g, 1, none⟩ y).setCell ⟨g, 2, none⟩ z).cell? ⟨b, i0, none⟩ = some v0 /\ (((w.setCell ⟨g, 0, none⟩ x).setCell ⟨g, 1, none⟩ y).setCell ⟨g, 2, none⟩ z).cell? ⟨c, i1, none⟩ = some v1 /\ (((w.setCell ⟨g, 0, none⟩ x).setCell ⟨g, 1, none⟩ y).setCell ⟨g, 2, none⟩ z).cell? ⟨c, i2, none⟩ = some v2 /\ (((w.setCell ⟨g, 0, none⟩ x).setCell ⟨g, 1, none⟩ y).setCell ⟨g, 2, none⟩ z).cell? ⟨c, i3, none⟩ = some v3 /\ (((w.setCell ⟨g, 0, none⟩ x).setCell ⟨g, 1, none⟩ y).setCell ⟨g, 2, none⟩ z).cell? ⟨c, i4, none⟩ = some v4 /\ (((w.setCell ⟨g, 0, none⟩ x).setCell ⟨g, 1, none⟩ y).setCell ⟨g, 2, none⟩ z).cell? ⟨c, i5, none⟩ = some v5 /\ (((w.setCell ⟨g, 0, none⟩ x).setCell ⟨g, 1, none⟩ y).setCell ⟨g, 2, none⟩ z).cell? ⟨c, i6, none⟩ = some v6 := by
  obtain ⟨h0, h1, h2, h3, h4, h5, h6⟩ := h
  exact ⟨set_far hb (set_far hb (set_far hb h0)), set_far hc (set_far hc (set_far hc h1)), set_far hc (set_far hc (set_far hc h2)), set_far hc (set_far hc (set_far hc h3)), set_far hc (set_far hc (set_far hc h4)), set_far hc (set_far hc (set_far hc h5)), set_far hc (set_far hc (set_far hc h6))⟩
set_option maxRecDepth 100000 in
set_option maxHeartbeats 1000000 in
theorem specL2Eval (A R : Option Addr) (n m cap capR : Nat) (ts : List Tk) (row : List Vl) (w : World) (h : Toks w A n ts) (hr : Vals w R m row) (hn : n <= maxLen) (hm : m <= maxLen) (hrow : rowB row = true) (hex : exprB ts row.length = true) :
    Calls Tryz.prog 224 #[.slice A n cap, .slice R m capR] w (EvalPost (evalB ts row) w) := by
  obtain rfl : n = ts.length := h.len.symm
  obtain rfl : m = row.length := hr.len.symm
  have HR := Lib.hid hrow
  have HE := Lib.hid hex
  have h16 : row.length <= 16 := by simp [rowB] at hrow; exact hrow.1
  clear hrow hex
  obtain ⟨hgo, h24⟩ := exprB_go HE.out
  have HGO := Lib.hid hgo
  have hok : ∀ v ∈ row, v.ok = true := by have := HR.out; simp [rowB] at this; exact this.2
  have HOK := Lib.hid hok
  clear hgo hok
  go_enter Tryz.func224, Tryz.ntmps224
  go_wp2
  have rz := (Row.new w 179 #[.int .i64 0, .int .i64 0, .string ⟨#[]⟩]).alloc (.cells #[] 179)
  have hb0 := ((Below.refl w.heap.size w).alloc (Nat.le_refl _) (.cells #[.int .i64 0, .int .i64 0, .string ⟨#[]⟩] 179)).alloc (by simp only [size1]; omega) (.cells #[] 179)
  generalize (w.alloc (.cells #[.int .i64 0, .int .i64 0, .string ⟨#[]⟩] 179)).alloc (.cells #[] 179) = x0 at *
  go_loopw [6, 7] (fun s i wr => ∃ (k : Nat) (st : List Vl) (a : Addr) (c : Nat), k <= ts.length /\ i = .int .i64 k /\ s = .slice (some a) st.length c /\ st.length <= c /\ c <= maxLen /\ st.length <= k /\ Hid (a.spot = none) /\ Hid (exprGo row.length (ts.take k) 0 = some st.length) /\ Hid (evalGo row (ts.take k) [] = some st) /\ Hid (∀ v ∈ st, v.ok = true) /\
      Vals wr (some a) st.length st /\ Row wr w.heap.size 179 #[.int .i64 0, .int .i64 0, .string ⟨#[]⟩] /\ Below w.heap.size w wr) (fun _ i _ => ts.length - (intOf i).toNat)
  case atStart => exact ⟨0, [], ⟨w.heap.size + 1, 0, none⟩, 0, by omega, rfl, rfl, by simp, by simp [maxLen], by simp, Lib.hid rfl, Lib.hid (by simp [exprGo]), Lib.hid (by simp [evalGo]), Lib.hid (by simp), ⟨rfl, by simp, fun h => absurd h (by simp)⟩, rz, hb0⟩
  case round =>
    obtain ⟨k, st, a, c, hk, rfl, rfl, hlc, hcm, hlk, hasp, hexp, hev, hstok, hvals, hrz, hb⟩ := hrel
    by_cases hlt : k < ts.length
    · obtain ⟨b, off, rfl, c0, c1, c2, c3, c4⟩ := (h.below hb).at_ hlt
      obtain ⟨htok, htk, hexp2⟩ := right_at HGO.out hlt hexp.out
      have hev2 := evalGo_snoc row ts k hlt [] st hev.out
      have HEXP := Lib.hid hexp2
      have HEV := Lib.hid hev2
      have HTOK := Lib.hid htok
      clear hexp2 hev2 hexp hev htok
      generalize ts[k] = t at *
      obtain ⟨k0, tc, tvk, tvn, tvs⟩ := t
      simp only at c0 c1 c2 c3 c4 htk HEXP HEV HTOK
      by_cases hk2 : k0 = 2
      · skip
        subst hk2
        unfold maxLen at hcm
        have bl : b < wr.heap.size := cell_lt c0
        have bz0 := (Below.refl wr.heap.size wr).alloc (Nat.le_refl _) (.cells #[.int .i64 0, .int .i64 0, .string ⟨#[]⟩] 179)
        have e0 := (bz0.cell bl).trans c0
        have e2 := (bz0.cell bl).trans c2
        have e3 := (bz0.cell bl).trans c3
        have e4 := (bz0.cell bl).trans c4
        clear bz0
        go_wp2_with fail
        have rvx := Row.new wr 179 #[.int .i64 tvk, .int .i64 tvn, .string tvs]
        have bv := (Below.refl wr.heap.size wr).alloc (Nat.le_refl _) (.cells #[.int .i64 tvk, .int .i64 tvn, .string tvs] 179)
        have hv := hvals.below bv
        have hzx : wr.heap.size < (wr.alloc (.cells #[.int .i64 tvk, .int .i64 tvn, .string tvs] 179)).heap.size := by simp
        have hbx := hb.trans (bv.mono hb.size)
        have rzx := hrz.below bv
        generalize wr.alloc (.cells #[.int .i64 tvk, .int .i64 tvn, .string tvs] 179) = xt at *
        have hfr : st.length <= st.length := Nat.le_refl _
        have HFR := Lib.hid (show st.length = st.length - takes 2 by simp [takes])
        have HTV := Lib.hid (show tokVal row ⟨2, tc, tvk, tvn, tvs⟩ (st.drop (st.length - takes 2)) = some ⟨tvk, tvn, tvs⟩ by simp [tokVal])
        have i2 : IntKind.i64.wrap (st.length : Int) = st.length := IntWalk.i64_in _ (by omega)
        obtain ⟨⟨v0, v1, v2⟩, -⟩ := rvx.three
        have i1 : (st.length : Int) <= c := by omega
        have hbs : wr.heap.size <= xt.heap.size := by omega
        have Ra : Row (xt.alloc (.cells #[] 179)).drew xt.heap.size 179 #[] := Row.new xt 179 #[]
        have Rb : Row ((xt.alloc (.cells #[] 179)).alloc (.cells #[.int .i64 tvk, .int .i64 tvn, .string tvs] 179)).drew xt.heap.size 179 #[] := (Row.new xt 179 #[]).alloc _
        have Rc : Row ((xt.alloc (.cells #[.int .i64 tvk, .int .i64 tvn, .string tvs] 179)).alloc (.cells #[] 179)).drew (xt.heap.size + 1) 179 #[] := Row.newAt _ _ _ _ (by simp)
        have Sb : Row ((xt.alloc (.cells #[] 179)).alloc (.cells #[.int .i64 tvk, .int .i64 tvn, .string tvs] 179)).drew (xt.heap.size + 1) 179 #[.int .i64 tvk, .int .i64 tvn, .string tvs] := Row.newAt _ _ _ _ (by simp)
        have Sc : Row ((xt.alloc (.cells #[.int .i64 tvk, .int .i64 tvn, .string tvs] 179)).alloc (.cells #[] 179)).drew xt.heap.size 179 #[.int .i64 tvk, .int .i64 tvn, .string tvs] := (Row.new _ _ _).alloc _
        have Va : Vals (xt.alloc (.cells #[] 179)).drew (some a) st.length (st.take st.length) := (hv.below ((Below.refl _ xt).alloc (Nat.le_refl _) _)).take hfr
        have Vb : Vals ((xt.alloc (.cells #[] 179)).alloc (.cells #[.int .i64 tvk, .int .i64 tvn, .string tvs] 179)).drew (some a) st.length (st.take st.length) := (hv.below (((Below.refl _ xt).alloc (Nat.le_refl _) _).alloc (by simp) _)).take hfr
        have Vc : Vals ((xt.alloc (.cells #[.int .i64 tvk, .int .i64 tvn, .string tvs] 179)).alloc (.cells #[] 179)).drew (some a) st.length (st.take st.length) := (hv.below (((Below.refl _ xt).alloc (Nat.le_refl _) _).alloc (by simp) _)).take hfr
        have hlen24 : st.length <= 1000 := by omega
        go_region_held3 (fun w' => w'.cell? ⟨wr.heap.size, 0, none⟩ = some (.int .i64 tvk) /\ w'.cell? ⟨wr.heap.size, 1, none⟩ = some (.int .i64 tvn) /\ w'.cell? ⟨wr.heap.size, 2, none⟩ = some (.string tvs))
          (first | go_keep | ((with_reducible refine keep3 ?_ ((Below.refl _ _).alloc (Nat.le_refl _) _)); assumption) | ((with_reducible refine keep3g ?_ hg2 ?_ ?_ ?_) <;> first | assumption | (simp only; omega)) | ((with_reducible refine keep3g ?_ hg1 ?_ ?_ ?_) <;> first | assumption | (simp only; omega)))
          (first
            | ((with_reducible refine step_app_vals0 rfl _ _ rfl xt.heap.size xt.heap.size rfl Ra (by omega) a st.length c (st.take st.length) rfl hasp.out Va (by omega) (by first | (simp; done) | (simp; omega)) ?_); intro g1 cap1 w1 ho1 hg1 hb1)
            | ((with_reducible refine step_app_vals0 rfl _ _ rfl xt.heap.size xt.heap.size rfl Rb (by omega) a st.length c (st.take st.length) rfl hasp.out Vb (by omega) (by first | (simp; done) | (simp; omega)) ?_); intro g1 cap1 w1 ho1 hg1 hb1)
            | ((with_reducible refine step_app_vals0 rfl _ _ rfl xt.heap.size (xt.heap.size + 1) rfl Rc (by omega) a st.length c (st.take st.length) rfl hasp.out Vc (by omega) (by first | (simp; done) | (simp; omega)) ?_); intro g1 cap1 w1 ho1 hg1 hb1)
            | ((with_reducible refine step_app_vals rfl _ _ rfl xt.heap.size g1 _ cap1 _ rfl (ho1.alloc _) _ 1 1 [(⟨tvk, tvn, tvs⟩ : Vl)] rfl rfl (vals_one (Row.new _ _ _)) (by omega) (by have := hg1.size; simp at this ⊢; omega) ?_); intro g2 cap2 w2 ho2 hg2 hb2)
            | ((with_reducible refine step_app_vals rfl _ _ rfl xt.heap.size g1 _ cap1 _ rfl ho1 _ 1 1 [(⟨tvk, tvn, tvs⟩ : Vl)] rfl rfl (vals_one (grown_row hg1 Sb (by omega))) (by omega) (by have := hg1.size; simp at this ⊢; omega) ?_); intro g2 cap2 w2 ho2 hg2 hb2)
            | ((with_reducible refine step_app_vals rfl _ _ rfl xt.heap.size g1 _ cap1 _ rfl ho1 _ 1 1 [(⟨tvk, tvn, tvs⟩ : Vl)] rfl rfl (vals_one (grown_row hg1 Sc (by omega))) (by omega) (by have := hg1.size; simp at this ⊢; omega) ?_); intro g2 cap2 w2 ho2 hg2 hb2))
        all_goals
          have bz : Below xt.heap.size xt w2 := by
            have hs1 := hg1.size
            simp at hs1
            first
            | exact ((Below.refl _ xt).alloc (Nat.le_refl _) _).drew.trans ((grown_below hg1 (by omega) (by simp)).trans (((Below.refl _ w1).alloc (by omega) _).trans (grown_below hg2 (by omega) (by simp; omega))))
            | exact (((Below.refl _ xt).alloc (Nat.le_refl _) _).alloc (by simp) _).drew.trans ((grown_below hg1 (by omega) (by simp; omega)).trans (grown_below hg2 (by omega) (by omega)))
          have hbz := hbx.trans (bz.mono hbx.size)
          have rzz := rzx.below bz
          have hl1 : (st.take st.length).length = st.length := by rw [List.length_take]; omega
          have hl2 : (st.take st.length ++ [(⟨tvk, tvn, tvs⟩ : Vl)]).length = st.length + 1 := by rw [List.length_append, hl1]; rfl
          obtain ⟨hvz, hcz, hcz2⟩ := ho2.vals hl2
          have HL := Lib.hid hl2
          have hsz := bz.size
          clear hl1 hl2 ho2 ho1 hg1 hg2 hv rvx Ra Rb Rc Sb Sc Va Vb Vc v0 v1 v2 c0 c1 c2 c3 c4 i1 i2
          go_wp2_with fail
          go_roundw
          case rel =>
            refine ⟨k + 1, st.take st.length ++ [(⟨tvk, tvn, tvs⟩ : Vl)], ⟨g2, 0, none⟩, cap2, by omega, by go_num, by rw [HL.out], by rw [HL.out]; exact hcz, hcz2, by rw [HL.out]; omega, Lib.hid rfl, Lib.hid ?_, Lib.hid ?_, Lib.hid ?_, by rw [HL.out]; exact hvz, rzz, hbz⟩
            · rw [HL.out, HFR.out]; exact HEXP.out
            · rw [HEV.out, evalStep_some HTV.out]; exact congrArg (fun m => some (List.take m st ++ [(⟨tvk, tvn, tvs⟩ : Vl)])) HFR.out.symm
            · intro u hu
              rw [List.mem_append, List.mem_singleton] at hu
              rcases hu with hu | rfl
              · exact hstok.out u (List.mem_of_mem_take hu)
              · exact tokVal_ok HOK.out HTOK.out HTV.out
          case measure => simp [intOf]; omega
      have d2 : (k0 == 2) = false := by simpa using hk2
      by_cases hk1 : k0 = 1
      · skip
        subst hk1
        unfold maxLen at hcm
        have bl : b < wr.heap.size := cell_lt c0
        have bz0 := (Below.refl wr.heap.size wr).alloc (Nat.le_refl _) (.cells #[.int .i64 0, .int .i64 0, .string ⟨#[]⟩] 179)
        have e0 := (bz0.cell bl).trans c0
        have e1 := (bz0.cell bl).trans c1
        obtain ⟨hj0, hj1⟩ : 0 <= tc /\ tc < row.length := by have := HTOK.out; simp [tokB] at this; exact ⟨this.1, this.2.1⟩
        obtain ⟨j, rfl⟩ : ∃ j : Nat, tc = (j : Int) := ⟨tc.toNat, by omega⟩
        have hjr : j < row.length := by omega
        obtain ⟨br, ofr, rfl, r0, r1, r2⟩ := ((hr.below hb).below bz0).at_ hjr
        clear bz0
        go_wp2_with fail
        have rvx := Row.new wr 179 #[.int .i64 row[j].k, .int .i64 row[j].n, .string row[j].s]
        have bv := (Below.refl wr.heap.size wr).alloc (Nat.le_refl _) (.cells #[.int .i64 row[j].k, .int .i64 row[j].n, .string row[j].s] 179)
        have hv := hvals.below bv
        have hzx : wr.heap.size < (wr.alloc (.cells #[.int .i64 row[j].k, .int .i64 row[j].n, .string row[j].s] 179)).heap.size := by simp
        have hbx := hb.trans (bv.mono hb.size)
        have rzx := hrz.below bv
        generalize wr.alloc (.cells #[.int .i64 row[j].k, .int .i64 row[j].n, .string row[j].s] 179) = xt at *
        have hfr : st.length <= st.length := Nat.le_refl _
        have HFR := Lib.hid (show st.length = st.length - takes 1 by simp [takes])
        have HTV := Lib.hid (show tokVal row ⟨1, j, tvk, tvn, tvs⟩ (st.drop (st.length - takes 1)) = some row[j] by simp [tokVal, List.getElem?_eq_getElem hjr])
        have i2 : IntKind.i64.wrap (st.length : Int) = st.length := IntWalk.i64_in _ (by omega)
        generalize row[j] = v at *
        clear r0 r1 r2
        obtain ⟨⟨v0, v1, v2⟩, -⟩ := rvx.three
        have i1 : (st.length : Int) <= c := by omega
        have hbs : wr.heap.size <= xt.heap.size := by omega
        have Ra : Row (xt.alloc (.cells #[] 179)).drew xt.heap.size 179 #[] := Row.new xt 179 #[]
        have Rb : Row ((xt.alloc (.cells #[] 179)).alloc (.cells #[.int .i64 v.k, .int .i64 v.n, .string v.s] 179)).drew xt.heap.size 179 #[] := (Row.new xt 179 #[]).alloc _
        have Rc : Row ((xt.alloc (.cells #[.int .i64 v.k, .int .i64 v.n, .string v.s] 179)).alloc (.cells #[] 179)).drew (xt.heap.size + 1) 179 #[] := Row.newAt _ _ _ _ (by simp)
        have Sb : Row ((xt.alloc (.cells #[] 179)).alloc (.cells #[.int .i64 v.k, .int .i64 v.n, .string v.s] 179)).drew (xt.heap.size + 1) 179 #[.int .i64 v.k, .int .i64 v.n, .string v.s] := Row.newAt _ _ _ _ (by simp)
        have Sc : Row ((xt.alloc (.cells #[.int .i64 v.k, .int .i64 v.n, .string v.s] 179)).alloc (.cells #[] 179)).drew xt.heap.size 179 #[.int .i64 v.k, .int .i64 v.n, .string v.s] := (Row.new _ _ _).alloc _
        have Va : Vals (xt.alloc (.cells #[] 179)).drew (some a) st.length (st.take st.length) := (hv.below ((Below.refl _ xt).alloc (Nat.le_refl _) _)).take hfr
        have Vb : Vals ((xt.alloc (.cells #[] 179)).alloc (.cells #[.int .i64 v.k, .int .i64 v.n, .string v.s] 179)).drew (some a) st.length (st.take st.length) := (hv.below (((Below.refl _ xt).alloc (Nat.le_refl _) _).alloc (by simp) _)).take hfr
        have Vc : Vals ((xt.alloc (.cells #[.int .i64 v.k, .int .i64 v.n, .string v.s] 179)).alloc (.cells #[] 179)).drew (some a) st.length (st.take st.length) := (hv.below (((Below.refl _ xt).alloc (Nat.le_refl _) _).alloc (by simp) _)).take hfr
        have hlen24 : st.length <= 1000 := by omega
        go_region_held3 (fun w' => w'.cell? ⟨wr.heap.size, 0, none⟩ = some (.int .i64 v.k) /\ w'.cell? ⟨wr.heap.size, 1, none⟩ = some (.int .i64 v.n) /\ w'.cell? ⟨wr.heap.size, 2, none⟩ = some (.string v.s))
          (first | go_keep | ((with_reducible refine keep3 ?_ ((Below.refl _ _).alloc (Nat.le_refl _) _)); assumption) | ((with_reducible refine keep3g ?_ hg2 ?_ ?_ ?_) <;> first | assumption | (simp only; omega)) | ((with_reducible refine keep3g ?_ hg1 ?_ ?_ ?_) <;> first | assumption | (simp only; omega)))
          (first
            | ((with_reducible refine step_app_vals0 rfl _ _ rfl xt.heap.size xt.heap.size rfl Ra (by omega) a st.length c (st.take st.length) rfl hasp.out Va (by omega) (by first | (simp; done) | (simp; omega)) ?_); intro g1 cap1 w1 ho1 hg1 hb1)
            | ((with_reducible refine step_app_vals0 rfl _ _ rfl xt.heap.size xt.heap.size rfl Rb (by omega) a st.length c (st.take st.length) rfl hasp.out Vb (by omega) (by first | (simp; done) | (simp; omega)) ?_); intro g1 cap1 w1 ho1 hg1 hb1)
            | ((with_reducible refine step_app_vals0 rfl _ _ rfl xt.heap.size (xt.heap.size + 1) rfl Rc (by omega) a st.length c (st.take st.length) rfl hasp.out Vc (by omega) (by first | (simp; done) | (simp; omega)) ?_); intro g1 cap1 w1 ho1 hg1 hb1)
            | ((with_reducible refine step_app_vals rfl _ _ rfl xt.heap.size g1 _ cap1 _ rfl (ho1.alloc _) _ 1 1 [v] rfl rfl (vals_one (Row.new _ _ _)) (by omega) (by have := hg1.size; simp at this ⊢; omega) ?_); intro g2 cap2 w2 ho2 hg2 hb2)
            | ((with_reducible refine step_app_vals rfl _ _ rfl xt.heap.size g1 _ cap1 _ rfl ho1 _ 1 1 [v] rfl rfl (vals_one (grown_row hg1 Sb (by omega))) (by omega) (by have := hg1.size; simp at this ⊢; omega) ?_); intro g2 cap2 w2 ho2 hg2 hb2)
            | ((with_reducible refine step_app_vals rfl _ _ rfl xt.heap.size g1 _ cap1 _ rfl ho1 _ 1 1 [v] rfl rfl (vals_one (grown_row hg1 Sc (by omega))) (by omega) (by have := hg1.size; simp at this ⊢; omega) ?_); intro g2 cap2 w2 ho2 hg2 hb2))
        all_goals
          have bz : Below xt.heap.size xt w2 := by
            have hs1 := hg1.size
            simp at hs1
            first
            | exact ((Below.refl _ xt).alloc (Nat.le_refl _) _).drew.trans ((grown_below hg1 (by omega) (by simp)).trans (((Below.refl _ w1).alloc (by omega) _).trans (grown_below hg2 (by omega) (by simp; omega))))
            | exact (((Below.refl _ xt).alloc (Nat.le_refl _) _).alloc (by simp) _).drew.trans ((grown_below hg1 (by omega) (by simp; omega)).trans (grown_below hg2 (by omega) (by omega)))
          have hbz := hbx.trans (bz.mono hbx.size)
          have rzz := rzx.below bz
          have hl1 : (st.take st.length).length = st.length := by rw [List.length_take]; omega
          have hl2 : (st.take st.length ++ [v]).length = st.length + 1 := by rw [List.length_append, hl1]; rfl
          obtain ⟨hvz, hcz, hcz2⟩ := ho2.vals hl2
          have HL := Lib.hid hl2
          have hsz := bz.size
          clear hl1 hl2 ho2 ho1 hg1 hg2 hv rvx Ra Rb Rc Sb Sc Va Vb Vc v0 v1 v2 c0 c1 c2 c3 c4 i1 i2
          go_wp2_with fail
          go_roundw
          case rel =>
            refine ⟨k + 1, st.take st.length ++ [v], ⟨g2, 0, none⟩, cap2, by omega, by go_num, by rw [HL.out], by rw [HL.out]; exact hcz, hcz2, by rw [HL.out]; omega, Lib.hid rfl, Lib.hid ?_, Lib.hid ?_, Lib.hid ?_, by rw [HL.out]; exact hvz, rzz, hbz⟩
            · rw [HL.out, HFR.out]; exact HEXP.out
            · rw [HEV.out, evalStep_some HTV.out]; exact congrArg (fun m => some (List.take m st ++ [v])) HFR.out.symm
            · intro u hu
              rw [List.mem_append, List.mem_singleton] at hu
              rcases hu with hu | rfl
              · exact hstok.out u (List.mem_of_mem_take hu)
              · exact tokVal_ok HOK.out HTOK.out HTV.out
          case measure => simp [intOf]; omega
      have d1 : (k0 == 1) = false := by simpa using hk1
      by_cases hk8 : k0 = 8
      · skip
        subst hk8
        unfold maxLen at hcm
        have ht1 : 1 <= st.length := by simpa [takes] using htk
        obtain ⟨fr, hfr1⟩ : ∃ fr, fr = st.length - 1 := ⟨_, rfl⟩
        have hfrl : fr < st.length := by omega
        have bl : b < wr.heap.size := cell_lt c0
        have bz0 := (Below.refl wr.heap.size wr).alloc (Nat.le_refl _) (.cells #[.int .i64 0, .int .i64 0, .string ⟨#[]⟩] 179)
        have e0 := (bz0.cell bl).trans c0
        obtain ⟨bs, ofs, ea, s0, s1, s2⟩ := (hvals.below bz0).at_ hfrl
        obtain rfl : a = ⟨bs, ofs, none⟩ := by simpa using ea
        clear ea
        have HFR := Lib.hid (show fr = st.length - takes 8 by rw [hfr1]; simp [takes])
        have hfr : fr <= st.length := by omega
        have i2 : IntKind.i64.wrap ((st.length : Int) - 1) = (fr : Int) := by rw [IntWalk.i64_in _ (by omega)]; omega
        have i3 : (0 : Int) <= fr := by omega
        have i4 : (fr : Int) < st.length := by omega
        have hdr : st.drop (st.length - takes 8) = [st[fr]] := by
          rw [<- HFR.out, List.drop_eq_getElem_cons hfrl, List.drop_eq_nil_of_le (by omega)]
        have HTV := Lib.hid (show tokVal row ⟨8, tc, tvk, tvn, tvs⟩ (st.drop (st.length - takes 8)) = some ⟨1, yes (st[fr].k == 0), ⟨#[]⟩⟩ by
          rw [hdr]; rcases yes01 (st[fr].k == 0) with h | h <;> simp [tokVal, opOf, op1, asOpt, asVl, h])
        clear hdr hfr1
        have HS := Lib.hid hfrl
        generalize st[fr] = q at *
        have rz1 := Row.new wr 179 #[.int .i64 0, .int .i64 0, .string ⟨#[]⟩]
        go_wp2_with fail
        refine (specYes _ _).mono ?_
        rintro e y1 ⟨rfl, rfl⟩
        generalize yes (q.k == 0) = yq at *
        go_wp2_with fail
        refine (specInt _ _).mono ?_
        rintro e y2 ⟨rfl, o, rfl⟩
        go_wp2_with fail
        have rvx := (Row.new wr 179 #[.int .i64 1, .int .i64 yq, .string ⟨#[]⟩]).alloc o
        have bv := ((Below.refl wr.heap.size wr).alloc (Nat.le_refl _) (.cells #[.int .i64 1, .int .i64 yq, .string ⟨#[]⟩] 179)).alloc (by simp) o
        have hv := hvals.below bv
        have hzx : wr.heap.size < ((wr.alloc (.cells #[.int .i64 1, .int .i64 yq, .string ⟨#[]⟩] 179)).alloc o).heap.size := by simp; try omega
        have hbx := hb.trans (bv.mono hb.size)
        have rzx := hrz.below bv
        generalize (wr.alloc (.cells #[.int .i64 1, .int .i64 yq, .string ⟨#[]⟩] 179)).alloc o = xt at *
        clear rz1 s0 s1 s2 e0 bz0
        obtain ⟨⟨v0, v1, v2⟩, -⟩ := rvx.three
        have i1 : (fr : Int) <= c := by omega
        have hbs : wr.heap.size <= xt.heap.size := by omega
        have Ra : Row (xt.alloc (.cells #[] 179)).drew xt.heap.size 179 #[] := Row.new xt 179 #[]
        have Rb : Row ((xt.alloc (.cells #[] 179)).alloc (.cells #[.int .i64 1, .int .i64 yq, .string ⟨#[]⟩] 179)).drew xt.heap.size 179 #[] := (Row.new xt 179 #[]).alloc _
        have Rc : Row ((xt.alloc (.cells #[.int .i64 1, .int .i64 yq, .string ⟨#[]⟩] 179)).alloc (.cells #[] 179)).drew (xt.heap.size + 1) 179 #[] := Row.newAt _ _ _ _ (by simp)
        have Sb : Row ((xt.alloc (.cells #[] 179)).alloc (.cells #[.int .i64 1, .int .i64 yq, .string ⟨#[]⟩] 179)).drew (xt.heap.size + 1) 179 #[.int .i64 1, .int .i64 yq, .string ⟨#[]⟩] := Row.newAt _ _ _ _ (by simp)
        have Sc : Row ((xt.alloc (.cells #[.int .i64 1, .int .i64 yq, .string ⟨#[]⟩] 179)).alloc (.cells #[] 179)).drew xt.heap.size 179 #[.int .i64 1, .int .i64 yq, .string ⟨#[]⟩] := (Row.new _ _ _).alloc _
        have Va : Vals (xt.alloc (.cells #[] 179)).drew (some ⟨bs, ofs, none⟩) fr (st.take fr) := (hv.below ((Below.refl _ xt).alloc (Nat.le_refl _) _)).take hfr
        have Vb : Vals ((xt.alloc (.cells #[] 179)).alloc (.cells #[.int .i64 1, .int .i64 yq, .string ⟨#[]⟩] 179)).drew (some ⟨bs, ofs, none⟩) fr (st.take fr) := (hv.below (((Below.refl _ xt).alloc (Nat.le_refl _) _).alloc (by simp) _)).take hfr
        have Vc : Vals ((xt.alloc (.cells #[.int .i64 1, .int .i64 yq, .string ⟨#[]⟩] 179)).alloc (.cells #[] 179)).drew (some ⟨bs, ofs, none⟩) fr (st.take fr) := (hv.below (((Below.refl _ xt).alloc (Nat.le_refl _) _).alloc (by simp) _)).take hfr
        have hlen24 : fr <= 1000 := by omega
        go_region_held3 (fun w' => w'.cell? ⟨wr.heap.size, 0, none⟩ = some (.int .i64 1) /\ w'.cell? ⟨wr.heap.size, 1, none⟩ = some (.int .i64 yq) /\ w'.cell? ⟨wr.heap.size, 2, none⟩ = some (.string ⟨#[]⟩))
          (first | go_keep | ((with_reducible refine keep3 ?_ ((Below.refl _ _).alloc (Nat.le_refl _) _)); assumption) | ((with_reducible refine keep3g ?_ hg2 ?_ ?_ ?_) <;> first | assumption | (simp only; omega)) | ((with_reducible refine keep3g ?_ hg1 ?_ ?_ ?_) <;> first | assumption | (simp only; omega)))
          (first
            | ((with_reducible refine step_app_vals0 rfl _ _ rfl xt.heap.size xt.heap.size rfl Ra (by omega) ⟨bs, ofs, none⟩ fr c (st.take fr) rfl rfl Va (by omega) (by first | (simp; done) | (simp; omega)) ?_); intro g1 cap1 w1 ho1 hg1 hb1)
            | ((with_reducible refine step_app_vals0 rfl _ _ rfl xt.heap.size xt.heap.size rfl Rb (by omega) ⟨bs, ofs, none⟩ fr c (st.take fr) rfl rfl Vb (by omega) (by first | (simp; done) | (simp; omega)) ?_); intro g1 cap1 w1 ho1 hg1 hb1)
            | ((with_reducible refine step_app_vals0 rfl _ _ rfl xt.heap.size (xt.heap.size + 1) rfl Rc (by omega) ⟨bs, ofs, none⟩ fr c (st.take fr) rfl rfl Vc (by omega) (by first | (simp; done) | (simp; omega)) ?_); intro g1 cap1 w1 ho1 hg1 hb1)
            | ((with_reducible refine step_app_vals rfl _ _ rfl xt.heap.size g1 _ cap1 _ rfl (ho1.alloc _) _ 1 1 [(⟨1, yq, ⟨#[]⟩⟩ : Vl)] rfl rfl (vals_one (Row.new _ _ _)) (by omega) (by have := hg1.size; simp at this ⊢; omega) ?_); intro g2 cap2 w2 ho2 hg2 hb2)
            | ((with_reducible refine step_app_vals rfl _ _ rfl xt.heap.size g1 _ cap1 _ rfl ho1 _ 1 1 [(⟨1, yq, ⟨#[]⟩⟩ : Vl)] rfl rfl (vals_one (grown_row hg1 Sb (by omega))) (by omega) (by have := hg1.size; simp at this ⊢; omega) ?_); intro g2 cap2 w2 ho2 hg2 hb2)
            | ((with_reducible refine step_app_vals rfl _ _ rfl xt.heap.size g1 _ cap1 _ rfl ho1 _ 1 1 [(⟨1, yq, ⟨#[]⟩⟩ : Vl)] rfl rfl (vals_one (grown_row hg1 Sc (by omega))) (by omega) (by have := hg1.size; simp at this ⊢; omega) ?_); intro g2 cap2 w2 ho2 hg2 hb2))
        all_goals
          have bz : Below xt.heap.size xt w2 := by
            have hs1 := hg1.size
            simp at hs1
            first
            | exact ((Below.refl _ xt).alloc (Nat.le_refl _) _).drew.trans ((grown_below hg1 (by omega) (by simp)).trans (((Below.refl _ w1).alloc (by omega) _).trans (grown_below hg2 (by omega) (by simp; omega))))
            | exact (((Below.refl _ xt).alloc (Nat.le_refl _) _).alloc (by simp) _).drew.trans ((grown_below hg1 (by omega) (by simp; omega)).trans (grown_below hg2 (by omega) (by omega)))
          have hbz := hbx.trans (bz.mono hbx.size)
          have rzz := rzx.below bz
          have hl1 : (st.take fr).length = fr := by rw [List.length_take]; omega
          have hl2 : (st.take fr ++ [(⟨1, yq, ⟨#[]⟩⟩ : Vl)]).length = fr + 1 := by rw [List.length_append, hl1]; rfl
          obtain ⟨hvz, hcz, hcz2⟩ := ho2.vals hl2
          have HL := Lib.hid hl2
          have hsz := bz.size
          clear hl1 hl2 ho2 ho1 hg1 hg2 hv rvx Ra Rb Rc Sb Sc Va Vb Vc v0 v1 v2 c0 c1 c2 c3 c4 i1 i2
          go_wp2_with fail
          go_roundw
          case rel =>
            refine ⟨k + 1, st.take fr ++ [(⟨1, yq, ⟨#[]⟩⟩ : Vl)], ⟨g2, 0, none⟩, cap2, by omega, by go_num, by rw [HL.out], by rw [HL.out]; exact hcz, hcz2, by rw [HL.out]; omega, Lib.hid rfl, Lib.hid ?_, Lib.hid ?_, Lib.hid ?_, by rw [HL.out]; exact hvz, rzz, hbz⟩
            · rw [HL.out, HFR.out]; exact HEXP.out
            · rw [HEV.out, evalStep_some HTV.out]; exact congrArg (fun m => some (List.take m st ++ [(⟨1, yq, ⟨#[]⟩⟩ : Vl)])) HFR.out.symm
            · intro u hu
              rw [List.mem_append, List.mem_singleton] at hu
              rcases hu with hu | rfl
              · exact hstok.out u (List.mem_of_mem_take hu)
              · exact tokVal_ok HOK.out HTOK.out HTV.out
          case measure => simp [intOf]; omega
      have d8 : (k0 == 8) = false := by simpa using hk8
      by_cases hk7 : k0 = 7
      · skip
        subst hk7
        unfold maxLen at hcm
        have ht1 : 1 <= st.length := by simpa [takes] using htk
        obtain ⟨fr, hfr1⟩ : ∃ fr, fr = st.length - 1 := ⟨_, rfl⟩
        have hfrl : fr < st.length := by omega
        have bl : b < wr.heap.size := cell_lt c0
        have bz0 := (Below.refl wr.heap.size wr).alloc (Nat.le_refl _) (.cells #[.int .i64 0, .int .i64 0, .string ⟨#[]⟩] 179)
        have e0 := (bz0.cell bl).trans c0
        obtain ⟨bs, ofs, ea, s0, s1, s2⟩ := (hvals.below bz0).at_ hfrl
        obtain rfl : a = ⟨bs, ofs, none⟩ := by simpa using ea
        clear ea
        have HFR := Lib.hid (show fr = st.length - takes 7 by rw [hfr1]; simp [takes])
        have hfr : fr <= st.length := by omega
        have i2 : IntKind.i64.wrap ((st.length : Int) - 1) = (fr : Int) := by rw [IntWalk.i64_in _ (by omega)]; omega
        have i3 : (0 : Int) <= fr := by omega
        have i4 : (fr : Int) < st.length := by omega
        have hdr : st.drop (st.length - takes 7) = [st[fr]] := by
          rw [<- HFR.out, List.drop_eq_getElem_cons hfrl, List.drop_eq_nil_of_le (by omega)]
        have hqok := hstok.out _ (List.getElem_mem hfrl)
        have HDR := Lib.hid hdr
        have HQ := Lib.hid hqok
        clear hdr hfr1 hqok
        have HS := Lib.hid hfrl
        generalize st[fr] = q at *
        have rz1 := Row.new wr 179 #[.int .i64 0, .int .i64 0, .string ⟨#[]⟩]
        cases htr : truS q
        · have HT := Lib.hid htr
          clear htr
          have HTV := Lib.hid (show tokVal row ⟨7, tc, tvk, tvn, tvs⟩ (st.drop (st.length - takes 7)) = none by
            have h1 : truOf q = -1 := by simpa [truS] using HT.out
            rw [HDR.out]; simp [tokVal, opOf, op1, h1, not3, asOpt])
          go_wp2_with fail
          refine (specOf q _).mono ?_
          rintro e y1 ⟨rfl, hb1⟩
          rw [HT.out]
          have rz2 := rz1.below hb1
          have bz1 := bz0.trans (hb1.mono bz0.size)
          go_wp2_with fail
          refine (specNot3 _ _).mono ?_
          rintro e y2 ⟨rfl, rfl⟩
          go_wp2_with fail
          refine (specAs _ _).mono ?_
          rintro e y3 ⟨rfl, hb3⟩
          have rz3 := rz2.below hb3
          have bz3 := bz1.trans (hb3.mono bz1.size)
          obtain ⟨⟨g0, g1, g2⟩, ⟨g3, g4, g5⟩⟩ := rz3.three
          generalize asVl (not3 (truN q)) = v at *
          have rzf := hrz.below bz3
          obtain ⟨⟨f0, f1, f2⟩, ⟨f3, f4, f5⟩⟩ := rzf.three
          have hne : w.heap.size ≠ wr.heap.size := by have := lt_of_block hrz; omega
          go_wp2_with fail
          have rzz : Row ((((((y3.setCell ⟨wr.heap.size, 0, none⟩ (.int .i64 v.k)).setCell ⟨wr.heap.size, 1, none⟩ (.int .i64 v.n)).setCell ⟨wr.heap.size, 2, none⟩ (.string v.s)).setCell ⟨w.heap.size, 0, none⟩ (.int .i64 0)).setCell ⟨w.heap.size, 1, none⟩ (.int .i64 0)).setCell ⟨w.heap.size, 2, none⟩ (.string ⟨#[]⟩)) w.heap.size 179 #[.int .i64 0, .int .i64 0, .string ⟨#[]⟩] := (((((rzf.far hne _).far hne _).far hne _).set 0 _).set 1 _).set 2 _
          obtain ⟨⟨z0, z1, z2⟩, -⟩ := rzz.three
          have hz := hb.trans (bz3.mono hb.size)
          have HN := evalB_dead (row := row) (ts := ts) (k := k + 1) (by rw [HEV.out, evalStep_none HTV.out])
          have HNN := Lib.hid HN
          clear HN
          refine bodyPost_ret (v := .tuple #[.agg #[.int .i64 0, .int .i64 0, .string ⟨#[]⟩], .bool false]) (by simp [results, Tryz.results224, go_sem, z0, z1, z2]) rfl ⟨by rw [HNN.out]; rfl, ?_⟩
          have hq := hb.size
          repeat (first | with_reducible exact hz | with_reducible refine Below.drew ?_ | with_reducible refine Below.setCell ?_ (by simp; omega) _ | with_reducible refine Below.setCell ?_ (by simp) _)
        · have HT := Lib.hid htr
          clear htr
          have HTV := Lib.hid (show tokVal row ⟨7, tc, tvk, tvn, tvs⟩ (st.drop (st.length - takes 7)) = some (asVl (not3 (truN q))) by
            have h1 : ¬ truOf q = -1 := by simpa [truS] using HT.out
            have h2 : truN q = truOf q := by simp [truN, h1]
            have h3 : ¬ not3 (truOf q) = -1 := by rcases truOf_cases HQ.out with ⟨_, h⟩ | ⟨_, h | h⟩ | ⟨_, h⟩ <;> rw [h] <;> first | decide | exact absurd h h1
            rw [HDR.out, h2]; simp [tokVal, opOf, op1, asOpt, h3])
          go_wp2_with fail
          refine (specOf q _).mono ?_
          rintro e y1 ⟨rfl, hb1⟩
          rw [HT.out]
          have rz2 := rz1.below hb1
          have bz1 := bz0.trans (hb1.mono bz0.size)
          go_wp2_with fail
          refine (specNot3 _ _).mono ?_
          rintro e y2 ⟨rfl, rfl⟩
          go_wp2_with fail
          refine (specAs _ _).mono ?_
          rintro e y3 ⟨rfl, hb3⟩
          have rz3 := rz2.below hb3
          have bz3 := bz1.trans (hb3.mono bz1.size)
          obtain ⟨⟨g0, g1, g2⟩, ⟨g3, g4, g5⟩⟩ := rz3.three
          generalize asVl (not3 (truN q)) = v at *
          go_wp2_with fail
          have rvx := ((rz3.set 0 (.int .i64 v.k)).set 1 (.int .i64 v.n)).set 2 (.string v.s)
          have bv := ((bz3.setCell (p := ⟨wr.heap.size, 0, none⟩) (Nat.le_refl _) (.int .i64 v.k)).setCell (p := ⟨wr.heap.size, 1, none⟩) (Nat.le_refl _) (.int .i64 v.n)).setCell (p := ⟨wr.heap.size, 2, none⟩) (Nat.le_refl _) (.string v.s)
          have hv := hvals.below bv
          have hzx : wr.heap.size < (((y3.setCell ⟨wr.heap.size, 0, none⟩ (.int .i64 v.k)).setCell ⟨wr.heap.size, 1, none⟩ (.int .i64 v.n)).setCell ⟨wr.heap.size, 2, none⟩ (.string v.s)).heap.size := by have := lt_of_block rz3; simp; exact this
          have hbx := hb.trans (bv.mono hb.size)
          have rzx := hrz.below bv
          generalize ((y3.setCell ⟨wr.heap.size, 0, none⟩ (.int .i64 v.k)).setCell ⟨wr.heap.size, 1, none⟩ (.int .i64 v.n)).setCell ⟨wr.heap.size, 2, none⟩ (.string v.s) = xt at *
          clear rz1 rz2 rz3 g0 g1 g2 g3 g4 g5 s0 s1 s2 e0 bz0 bz1 bz3
          obtain ⟨⟨v0, v1, v2⟩, -⟩ := rvx.three
          have i1 : (fr : Int) <= c := by omega
          have hbs : wr.heap.size <= xt.heap.size := by omega
          have Ra : Row (xt.alloc (.cells #[] 179)).drew xt.heap.size 179 #[] := Row.new xt 179 #[]
          have Rb : Row ((xt.alloc (.cells #[] 179)).alloc (.cells #[.int .i64 v.k, .int .i64 v.n, .string v.s] 179)).drew xt.heap.size 179 #[] := (Row.new xt 179 #[]).alloc _
          have Rc : Row ((xt.alloc (.cells #[.int .i64 v.k, .int .i64 v.n, .string v.s] 179)).alloc (.cells #[] 179)).drew (xt.heap.size + 1) 179 #[] := Row.newAt _ _ _ _ (by simp)
          have Sb : Row ((xt.alloc (.cells #[] 179)).alloc (.cells #[.int .i64 v.k, .int .i64 v.n, .string v.s] 179)).drew (xt.heap.size + 1) 179 #[.int .i64 v.k, .int .i64 v.n, .string v.s] := Row.newAt _ _ _ _ (by simp)
          have Sc : Row ((xt.alloc (.cells #[.int .i64 v.k, .int .i64 v.n, .string v.s] 179)).alloc (.cells #[] 179)).drew xt.heap.size 179 #[.int .i64 v.k, .int .i64 v.n, .string v.s] := (Row.new _ _ _).alloc _
          have Va : Vals (xt.alloc (.cells #[] 179)).drew (some ⟨bs, ofs, none⟩) fr (st.take fr) := (hv.below ((Below.refl _ xt).alloc (Nat.le_refl _) _)).take hfr
          have Vb : Vals ((xt.alloc (.cells #[] 179)).alloc (.cells #[.int .i64 v.k, .int .i64 v.n, .string v.s] 179)).drew (some ⟨bs, ofs, none⟩) fr (st.take fr) := (hv.below (((Below.refl _ xt).alloc (Nat.le_refl _) _).alloc (by simp) _)).take hfr
          have Vc : Vals ((xt.alloc (.cells #[.int .i64 v.k, .int .i64 v.n, .string v.s] 179)).alloc (.cells #[] 179)).drew (some ⟨bs, ofs, none⟩) fr (st.take fr) := (hv.below (((Below.refl _ xt).alloc (Nat.le_refl _) _).alloc (by simp) _)).take hfr
          have hlen24 : fr <= 1000 := by omega
          go_region_held3 (fun w' => w'.cell? ⟨wr.heap.size, 0, none⟩ = some (.int .i64 v.k) /\ w'.cell? ⟨wr.heap.size, 1, none⟩ = some (.int .i64 v.n) /\ w'.cell? ⟨wr.heap.size, 2, none⟩ = some (.string v.s))
            (first | go_keep | ((with_reducible refine keep3 ?_ ((Below.refl _ _).alloc (Nat.le_refl _) _)); assumption) | ((with_reducible refine keep3g ?_ hg2 ?_ ?_ ?_) <;> first | assumption | (simp only; omega)) | ((with_reducible refine keep3g ?_ hg1 ?_ ?_ ?_) <;> first | assumption | (simp only; omega)))
            (first
              | ((with_reducible refine step_app_vals0 rfl _ _ rfl xt.heap.size xt.heap.size rfl Ra (by omega) ⟨bs, ofs, none⟩ fr c (st.take fr) rfl rfl Va (by omega) (by first | (simp; done) | (simp; omega)) ?_); intro g1 cap1 w1 ho1 hg1 hb1)
              | ((with_reducible refine step_app_vals0 rfl _ _ rfl xt.heap.size xt.heap.size rfl Rb (by omega) ⟨bs, ofs, none⟩ fr c (st.take fr) rfl rfl Vb (by omega) (by first | (simp; done) | (simp; omega)) ?_); intro g1 cap1 w1 ho1 hg1 hb1)
              | ((with_reducible refine step_app_vals0 rfl _ _ rfl xt.heap.size (xt.heap.size + 1) rfl Rc (by omega) ⟨bs, ofs, none⟩ fr c (st.take fr) rfl rfl Vc (by omega) (by first | (simp; done) | (simp; omega)) ?_); intro g1 cap1 w1 ho1 hg1 hb1)
              | ((with_reducible refine step_app_vals rfl _ _ rfl xt.heap.size g1 _ cap1 _ rfl (ho1.alloc _) _ 1 1 [v] rfl rfl (vals_one (Row.new _ _ _)) (by omega) (by have := hg1.size; simp at this ⊢; omega) ?_); intro g2 cap2 w2 ho2 hg2 hb2)
              | ((with_reducible refine step_app_vals rfl _ _ rfl xt.heap.size g1 _ cap1 _ rfl ho1 _ 1 1 [v] rfl rfl (vals_one (grown_row hg1 Sb (by omega))) (by omega) (by have := hg1.size; simp at this ⊢; omega) ?_); intro g2 cap2 w2 ho2 hg2 hb2)
              | ((with_reducible refine step_app_vals rfl _ _ rfl xt.heap.size g1 _ cap1 _ rfl ho1 _ 1 1 [v] rfl rfl (vals_one (grown_row hg1 Sc (by omega))) (by omega) (by have := hg1.size; simp at this ⊢; omega) ?_); intro g2 cap2 w2 ho2 hg2 hb2))
          all_goals
            have bz : Below xt.heap.size xt w2 := by
              have hs1 := hg1.size
              simp at hs1
              first
              | exact ((Below.refl _ xt).alloc (Nat.le_refl _) _).drew.trans ((grown_below hg1 (by omega) (by simp)).trans (((Below.refl _ w1).alloc (by omega) _).trans (grown_below hg2 (by omega) (by simp; omega))))
              | exact (((Below.refl _ xt).alloc (Nat.le_refl _) _).alloc (by simp) _).drew.trans ((grown_below hg1 (by omega) (by simp; omega)).trans (grown_below hg2 (by omega) (by omega)))
            have hbz := hbx.trans (bz.mono hbx.size)
            have rzz := rzx.below bz
            have hl1 : (st.take fr).length = fr := by rw [List.length_take]; omega
            have hl2 : (st.take fr ++ [v]).length = fr + 1 := by rw [List.length_append, hl1]; rfl
            obtain ⟨hvz, hcz, hcz2⟩ := ho2.vals hl2
            have HL := Lib.hid hl2
            have hsz := bz.size
            clear hl1 hl2 ho2 ho1 hg1 hg2 hv rvx Ra Rb Rc Sb Sc Va Vb Vc v0 v1 v2 c0 c1 c2 c3 c4 i1 i2
            go_wp2_with fail
            go_roundw
            case rel =>
              refine ⟨k + 1, st.take fr ++ [v], ⟨g2, 0, none⟩, cap2, by omega, by go_num, by rw [HL.out], by rw [HL.out]; exact hcz, hcz2, by rw [HL.out]; omega, Lib.hid rfl, Lib.hid ?_, Lib.hid ?_, Lib.hid ?_, by rw [HL.out]; exact hvz, rzz, hbz⟩
              · rw [HL.out, HFR.out]; exact HEXP.out
              · rw [HEV.out, evalStep_some HTV.out]; exact congrArg (fun m => some (List.take m st ++ [v])) HFR.out.symm
              · intro u hu
                rw [List.mem_append, List.mem_singleton] at hu
                rcases hu with hu | rfl
                · exact hstok.out u (List.mem_of_mem_take hu)
                · exact tokVal_ok HOK.out HTOK.out HTV.out
            case measure => simp [intOf]; omega
      have d7 : (k0 == 7) = false := by simpa using hk7
      unfold maxLen at hcm
      have hkk : k0 = 3 \/ k0 = 4 \/ k0 = 5 \/ k0 = 6 \/ k0 = 9 \/ k0 = 10 := by
        have := HTOK.out; unfold tokB isOpB at this; simp only [hk1, hk2, if_false] at this; split at this
        · rename_i h; simp at h; omega
        · cases this
      have htk2 : takes k0 = 2 := by unfold takes; rw [if_neg (by omega), if_pos hkk]
      have ht1 : 2 <= st.length := by rw [htk2] at htk; exact htk
      obtain ⟨f2, hf2⟩ : ∃ f2, f2 = st.length - 2 := ⟨_, rfl⟩
      obtain ⟨f1, hf1⟩ : ∃ f1, f1 = st.length - 1 := ⟨_, rfl⟩
      have hf2l : f2 < st.length := by omega
      have hf1l : f1 < st.length := by omega
      have bl : b < wr.heap.size := cell_lt c0
      have bz0 := (Below.refl wr.heap.size wr).alloc (Nat.le_refl _) (.cells #[.int .i64 0, .int .i64 0, .string ⟨#[]⟩] 179)
      have e0 := (bz0.cell bl).trans c0
      obtain ⟨bs, ofs, ea, s0, s1, s2⟩ := (hvals.below bz0).at_ hf2l
      obtain rfl : a = ⟨bs, ofs, none⟩ := by simpa using ea
      clear ea
      obtain ⟨bs', ofs', ea, s3, s4, s5⟩ := (hvals.below bz0).at_ hf1l
      obtain ⟨rfl, rfl⟩ : bs = bs' /\ ofs = ofs' := by simpa using ea
      clear ea
      have HFR := Lib.hid (show f2 = st.length - takes k0 by rw [htk2]; exact hf2)
      have hfr : f2 <= st.length := by omega
      have i2 : IntKind.i64.wrap ((st.length : Int) - 2) = (f2 : Int) := by rw [IntWalk.i64_in _ (by omega)]; omega
      have i2b : IntKind.i64.wrap ((st.length : Int) - 1) = (f1 : Int) := by rw [IntWalk.i64_in _ (by omega)]; omega
      have i3 : (0 : Int) <= f2 := by omega
      have i4 : (f2 : Int) < st.length := by omega
      have i5 : (0 : Int) <= f1 := by omega
      have i6 : (f1 : Int) < st.length := by omega
      have i7 : (0 : Int) <= k := by omega
      have i8 : (k : Int) < ts.length := by omega
      have hdr : st.drop (st.length - takes k0) = [st[f2], st[f1]] := by
        have e1 : f1 = f2 + 1 := by omega
        subst e1
        rw [<- HFR.out, List.drop_eq_getElem_cons hf2l, List.drop_eq_getElem_cons hf1l, List.drop_eq_nil_of_le (by omega)]
      have hpok := hstok.out _ (List.getElem_mem hf2l)
      have hqok := hstok.out _ (List.getElem_mem hf1l)
      have HT0 := Lib.hid (show tokVal row ⟨k0, tc, tvk, tvn, tvs⟩ (st.drop (st.length - takes k0)) = op2 k0 st[f2] st[f1] by rw [hdr]; simp [tokVal, opOf, hk1, hk2])
      clear hdr hf1 hf2 htk2
      have HPK := Lib.hid hpok
      have HQK := Lib.hid hqok
      clear hpok hqok
      generalize st[f2] = p at *
      generalize st[f1] = q at *
      have rz1 := Row.new wr 179 #[.int .i64 0, .int .i64 0, .string ⟨#[]⟩]
      have hbs : bs < wr.heap.size := by
        obtain ⟨b', o', e', hc'⟩ := hvals.2.2 (by omega)
        cases e'
        have := hc' 0 (by simp; omega) 0 (by simp [Vl.cells])
        exact cell_lt this
      have hnb : b ≠ wr.heap.size := by omega
      have hns : bs ≠ wr.heap.size := by omega
      have HKK := Lib.hid hkk
      clear hkk
      cases hop : op2 k0 p q
      · have HOP := Lib.hid hop
        clear hop
        have HTV := Lib.hid (HT0.out.trans HOP.out)
        go_wp2_with fail
        have rzf0 := hrz.below bz0
        generalize wr.alloc (.cells #[.int .i64 0, .int .i64 0, .string ⟨#[]⟩] 179) = y0 at *
        go_region_held3 (fun w' => w'.cell? ⟨b, off + k * 5, none⟩ = some (.int .i64 k0) /\ w'.cell? ⟨bs, ofs + f2 * 3, none⟩ = some (.int .i64 p.k) /\ w'.cell? ⟨bs, ofs + f2 * 3 + 1, none⟩ = some (.int .i64 p.n) /\ w'.cell? ⟨bs, ofs + f2 * 3 + 2, none⟩ = some (.string p.s) /\ w'.cell? ⟨bs, ofs + f1 * 3, none⟩ = some (.int .i64 q.k) /\ w'.cell? ⟨bs, ofs + f1 * 3 + 1, none⟩ = some (.int .i64 q.n) /\ w'.cell? ⟨bs, ofs + f1 * 3 + 2, none⟩ = some (.string q.s))
          (first | go_keep | exact keep7 (by assumption) hbA | ((with_reducible refine keep7s hnb hns ?_); assumption))
          (first | (go_at_call 263; refine (specTwoNone k0 HKK.out p q _ HPK.out HQK.out HOP.out).mono ?_; rintro e yA ⟨v, rfl, hbA⟩; have rzA := rz1.drew.below hbA; have rfA := rzf0.drew.below hbA; obtain ⟨⟨g0, g1, g2⟩, ⟨g3, g4, g5⟩⟩ := rzA.three; obtain ⟨⟨f0, f1', f2'⟩, ⟨f3, f4, f5⟩⟩ := rfA.three))
        have hne : w.heap.size ≠ wr.heap.size := by have := lt_of_block hrz; omega
        have bzA := bz0.drew.trans (hbA.mono bz0.size)
        go_wp2_with fail
        have rzz : Row ((((((yA.setCell ⟨wr.heap.size, 0, none⟩ (.int .i64 v.k)).setCell ⟨wr.heap.size, 1, none⟩ (.int .i64 v.n)).setCell ⟨wr.heap.size, 2, none⟩ (.string v.s)).setCell ⟨w.heap.size, 0, none⟩ (.int .i64 0)).setCell ⟨w.heap.size, 1, none⟩ (.int .i64 0)).setCell ⟨w.heap.size, 2, none⟩ (.string ⟨#[]⟩)) w.heap.size 179 #[.int .i64 0, .int .i64 0, .string ⟨#[]⟩] := (((((rfA.far hne _).far hne _).far hne _).set 0 _).set 1 _).set 2 _
        obtain ⟨⟨z0, z1, z2⟩, -⟩ := rzz.three
        have hz := hb.trans (bzA.mono hb.size)
        have HN := evalB_dead (row := row) (ts := ts) (k := k + 1) (by rw [HEV.out, evalStep_none HTV.out])
        have HNN := Lib.hid HN
        clear HN
        refine bodyPost_ret (v := .tuple #[.agg #[.int .i64 0, .int .i64 0, .string ⟨#[]⟩], .bool false]) (by simp [results, Tryz.results224, go_sem, z0, z1, z2]) rfl ⟨by rw [HNN.out]; rfl, ?_⟩
        have hq := hb.size
        repeat (first | with_reducible exact hz | with_reducible refine Below.drew ?_ | with_reducible refine Below.setCell ?_ (by simp; omega) _ | with_reducible refine Below.setCell ?_ (by simp) _)
      · rename_i v
        have HOP := Lib.hid hop
        clear hop
        have HTV := Lib.hid (HT0.out.trans HOP.out)
        go_wp2_with fail
        have rzf0 := hrz.below bz0
        generalize wr.alloc (.cells #[.int .i64 0, .int .i64 0, .string ⟨#[]⟩] 179) = y0 at *
        go_region_held3 (fun w' => w'.cell? ⟨b, off + k * 5, none⟩ = some (.int .i64 k0) /\ w'.cell? ⟨bs, ofs + f2 * 3, none⟩ = some (.int .i64 p.k) /\ w'.cell? ⟨bs, ofs + f2 * 3 + 1, none⟩ = some (.int .i64 p.n) /\ w'.cell? ⟨bs, ofs + f2 * 3 + 2, none⟩ = some (.string p.s) /\ w'.cell? ⟨bs, ofs + f1 * 3, none⟩ = some (.int .i64 q.k) /\ w'.cell? ⟨bs, ofs + f1 * 3 + 1, none⟩ = some (.int .i64 q.n) /\ w'.cell? ⟨bs, ofs + f1 * 3 + 2, none⟩ = some (.string q.s))
          (first | go_keep | exact keep7 (by assumption) hbA | ((with_reducible refine keep7s hnb hns ?_); assumption))
          (first | (go_at_call 263; refine (specTwoSome k0 HKK.out p q v _ HPK.out HQK.out HOP.out).mono ?_; rintro e yA ⟨rfl, hbA⟩; have rzA := rz1.drew.below hbA; have rfA := rzf0.drew.below hbA; obtain ⟨⟨g0, g1, g2⟩, ⟨g3, g4, g5⟩⟩ := rzA.three; obtain ⟨⟨f0, f1', f2'⟩, ⟨f3, f4, f5⟩⟩ := rfA.three))
        have bzA := bz0.drew.trans (hbA.mono bz0.size)
        go_wp2_with fail
        have rvx := ((rzA.set 0 (.int .i64 v.k)).set 1 (.int .i64 v.n)).set 2 (.string v.s)
        have bv := ((bzA.setCell (p := ⟨wr.heap.size, 0, none⟩) (Nat.le_refl _) (.int .i64 v.k)).setCell (p := ⟨wr.heap.size, 1, none⟩) (Nat.le_refl _) (.int .i64 v.n)).setCell (p := ⟨wr.heap.size, 2, none⟩) (Nat.le_refl _) (.string v.s)
        have hv := hvals.below bv
        have hzx : wr.heap.size < (((yA.setCell ⟨wr.heap.size, 0, none⟩ (.int .i64 v.k)).setCell ⟨wr.heap.size, 1, none⟩ (.int .i64 v.n)).setCell ⟨wr.heap.size, 2, none⟩ (.string v.s)).heap.size := by have := lt_of_block rzA; simp; exact this
        have hbx := hb.trans (bv.mono hb.size)
        have rzx := hrz.below bv
        generalize ((yA.setCell ⟨wr.heap.size, 0, none⟩ (.int .i64 v.k)).setCell ⟨wr.heap.size, 1, none⟩ (.int .i64 v.n)).setCell ⟨wr.heap.size, 2, none⟩ (.string v.s) = xt at *
        clear rz1 rzA rfA rzf0 g0 g1 g2 g3 g4 g5 f0 f1' f2' f3 f4 f5 s0 s1 s2 s3 s4 s5 e0 bz0 bzA
        obtain ⟨⟨v0, v1, v2⟩, -⟩ := rvx.three
        have i1 : (f2 : Int) <= c := by omega
        have hbs : wr.heap.size <= xt.heap.size := by omega
        have Ra : Row (xt.alloc (.cells #[] 179)).drew xt.heap.size 179 #[] := Row.new xt 179 #[]
        have Rb : Row ((xt.alloc (.cells #[] 179)).alloc (.cells #[.int .i64 v.k, .int .i64 v.n, .string v.s] 179)).drew xt.heap.size 179 #[] := (Row.new xt 179 #[]).alloc _
        have Rc : Row ((xt.alloc (.cells #[.int .i64 v.k, .int .i64 v.n, .string v.s] 179)).alloc (.cells #[] 179)).drew (xt.heap.size + 1) 179 #[] := Row.newAt _ _ _ _ (by simp)
        have Sb : Row ((xt.alloc (.cells #[] 179)).alloc (.cells #[.int .i64 v.k, .int .i64 v.n, .string v.s] 179)).drew (xt.heap.size + 1) 179 #[.int .i64 v.k, .int .i64 v.n, .string v.s] := Row.newAt _ _ _ _ (by simp)
        have Sc : Row ((xt.alloc (.cells #[.int .i64 v.k, .int .i64 v.n, .string v.s] 179)).alloc (.cells #[] 179)).drew xt.heap.size 179 #[.int .i64 v.k, .int .i64 v.n, .string v.s] := (Row.new _ _ _).alloc _
        have Va : Vals (xt.alloc (.cells #[] 179)).drew (some ⟨bs, ofs, none⟩) f2 (st.take f2) := (hv.below ((Below.refl _ xt).alloc (Nat.le_refl _) _)).take hfr
        have Vb : Vals ((xt.alloc (.cells #[] 179)).alloc (.cells #[.int .i64 v.k, .int .i64 v.n, .string v.s] 179)).drew (some ⟨bs, ofs, none⟩) f2 (st.take f2) := (hv.below (((Below.refl _ xt).alloc (Nat.le_refl _) _).alloc (by simp) _)).take hfr
        have Vc : Vals ((xt.alloc (.cells #[.int .i64 v.k, .int .i64 v.n, .string v.s] 179)).alloc (.cells #[] 179)).drew (some ⟨bs, ofs, none⟩) f2 (st.take f2) := (hv.below (((Below.refl _ xt).alloc (Nat.le_refl _) _).alloc (by simp) _)).take hfr
        have hlen24 : f2 <= 1000 := by omega
        go_region_held3 (fun w' => w'.cell? ⟨wr.heap.size, 0, none⟩ = some (.int .i64 v.k) /\ w'.cell? ⟨wr.heap.size, 1, none⟩ = some (.int .i64 v.n) /\ w'.cell? ⟨wr.heap.size, 2, none⟩ = some (.string v.s))
          (first | go_keep | ((with_reducible refine keep3 ?_ ((Below.refl _ _).alloc (Nat.le_refl _) _)); assumption) | ((with_reducible refine keep3g ?_ hg2 ?_ ?_ ?_) <;> first | assumption | (simp only; omega)) | ((with_reducible refine keep3g ?_ hg1 ?_ ?_ ?_) <;> first | assumption | (simp only; omega)))
          (first
            | ((with_reducible refine step_app_vals0 rfl _ _ rfl xt.heap.size xt.heap.size rfl Ra (by omega) ⟨bs, ofs, none⟩ f2 c (st.take f2) rfl rfl Va (by omega) (by first | (simp; done) | (simp; omega)) ?_); intro g1 cap1 w1 ho1 hg1 hb1)
            | ((with_reducible refine step_app_vals0 rfl _ _ rfl xt.heap.size xt.heap.size rfl Rb (by omega) ⟨bs, ofs, none⟩ f2 c (st.take f2) rfl rfl Vb (by omega) (by first | (simp; done) | (simp; omega)) ?_); intro g1 cap1 w1 ho1 hg1 hb1)
            | ((with_reducible refine step_app_vals0 rfl _ _ rfl xt.heap.size (xt.heap.size + 1) rfl Rc (by omega) ⟨bs, ofs, none⟩ f2 c (st.take f2) rfl rfl Vc (by omega) (by first | (simp; done) | (simp; omega)) ?_); intro g1 cap1 w1 ho1 hg1 hb1)
            | ((with_reducible refine step_app_vals rfl _ _ rfl xt.heap.size g1 _ cap1 _ rfl (ho1.alloc _) _ 1 1 [v] rfl rfl (vals_one (Row.new _ _ _)) (by omega) (by have := hg1.size; simp at this ⊢; omega) ?_); intro g2 cap2 w2 ho2 hg2 hb2)
            | ((with_reducible refine step_app_vals rfl _ _ rfl xt.heap.size g1 _ cap1 _ rfl ho1 _ 1 1 [v] rfl rfl (vals_one (grown_row hg1 Sb (by omega))) (by omega) (by have := hg1.size; simp at this ⊢; omega) ?_); intro g2 cap2 w2 ho2 hg2 hb2)
            | ((with_reducible refine step_app_vals rfl _ _ rfl xt.heap.size g1 _ cap1 _ rfl ho1 _ 1 1 [v] rfl rfl (vals_one (grown_row hg1 Sc (by omega))) (by omega) (by have := hg1.size; simp at this ⊢; omega) ?_); intro g2 cap2 w2 ho2 hg2 hb2))
        all_goals
          have bz : Below xt.heap.size xt w2 := by
            have hs1 := hg1.size
            simp at hs1
            first
            | exact ((Below.refl _ xt).alloc (Nat.le_refl _) _).drew.trans ((grown_below hg1 (by omega) (by simp)).trans (((Below.refl _ w1).alloc (by omega) _).trans (grown_below hg2 (by omega) (by simp; omega))))
            | exact (((Below.refl _ xt).alloc (Nat.le_refl _) _).alloc (by simp) _).drew.trans ((grown_below hg1 (by omega) (by simp; omega)).trans (grown_below hg2 (by omega) (by omega)))
          have hbz := hbx.trans (bz.mono hbx.size)
          have rzz := rzx.below bz
          have hl1 : (st.take f2).length = f2 := by rw [List.length_take]; omega
          have hl2 : (st.take f2 ++ [v]).length = f2 + 1 := by rw [List.length_append, hl1]; rfl
          obtain ⟨hvz, hcz, hcz2⟩ := ho2.vals hl2
          have HL := Lib.hid hl2
          have hsz := bz.size
          clear hl1 hl2 ho2 ho1 hg1 hg2 hv rvx Ra Rb Rc Sb Sc Va Vb Vc v0 v1 v2 c0 c1 c2 c3 c4 i1 i2
          go_wp2_with fail
          go_roundw
          case rel =>
            refine ⟨k + 1, st.take f2 ++ [v], ⟨g2, 0, none⟩, cap2, by omega, by go_num, by rw [HL.out], by rw [HL.out]; exact hcz, hcz2, by rw [HL.out]; omega, Lib.hid rfl, Lib.hid ?_, Lib.hid ?_, Lib.hid ?_, by rw [HL.out]; exact hvz, rzz, hbz⟩
            · rw [HL.out, HFR.out]; exact HEXP.out
            · rw [HEV.out, evalStep_some HTV.out]; exact congrArg (fun m => some (List.take m st ++ [v])) HFR.out.symm
            · intro u hu
              rw [List.mem_append, List.mem_singleton] at hu
              rcases hu with hu | rfl
              · exact hstok.out u (List.mem_of_mem_take hu)
              · exact tokVal_ok HOK.out HTOK.out HTV.out
          case measure => simp [intOf]; omega
    · have e : ts.take k = ts := List.take_of_length_le (by omega)
      have hx := hexp.out
      rw [e] at hx
      have hl1 : st.length = 1 := by have := HGO.out; rw [hx] at this; simpa using this
      have hev' := hev.out
      rw [e] at hev'
      have h0 : 0 < st.length := by omega
      obtain ⟨bs, ofs, ea, s0, s1, s2⟩ := hvals.at_ h0
      obtain rfl : a = ⟨bs, ofs, none⟩ := by simpa using ea
      have hB : evalB ts row = some st[0] := by
        unfold evalB
        rw [if_pos (by rw [Bool.and_eq_true]; exact ⟨HR.out, HE.out⟩), hev']
        simp [h0]
      have HB := Lib.hid hB
      clear hB hev' hx e hl1 ea
      generalize st[0] = v at *
      rw [Nat.zero_mul, Nat.add_zero] at s0 s1 s2
      obtain ⟨⟨f0, f1, f2⟩, ⟨f3, f4, f5⟩⟩ := hrz.three
      have rzz : Row (((wr.setCell ⟨w.heap.size, 0, none⟩ (.int .i64 v.k)).setCell ⟨w.heap.size, 1, none⟩ (.int .i64 v.n)).setCell ⟨w.heap.size, 2, none⟩ (.string v.s)) w.heap.size 179 #[.int .i64 v.k, .int .i64 v.n, .string v.s] := ((hrz.set 0 _).set 1 _).set 2 _
      obtain ⟨⟨z0, z1, z2⟩, -⟩ := rzz.three
      clear rzz
      go_wp2_with fail
      refine bodyPost_ret (v := .tuple #[.agg #[.int .i64 v.k, .int .i64 v.n, .string v.s], .bool true]) (by simp [results, Tryz.results224, go_sem, z0, z1, z2]) rfl ⟨by rw [HB.out]; rfl, ?_⟩
      repeat (first | with_reducible exact hb | with_reducible refine Below.drew ?_ | with_reducible refine Below.setCell ?_ (by simp; omega) _ | with_reducible refine Below.setCell ?_ (by simp) _)
set_option maxRecDepth 100000 in
set_option maxHeartbeats 1000000 in
theorem specL2Truth (A R : Option Addr) (n m cap capR : Nat) (ts : List Tk) (row : List Vl) (w : World) (h : Toks w A n ts) (hr : Vals w R m row) (hn : n <= maxLen) (hm : m <= maxLen) (hrow : rowB row = true) (hex : exprB ts row.length = true) :
    Calls Tryz.prog 178 #[.slice A n cap, .slice R m capR] w fun e w' => e = .returned (.int .i64 (truthB ts row)) /\ Below w.heap.size w w' := by
  have HR := Lib.hid hrow
  have HX := Lib.hid hex
  clear hrow hex
  cases hv : evalB ts row with
  | none =>
    have HE := Lib.hid hv
    have HT := Lib.hid (show truthB ts row = -1 by simp [truthB, hv])
    have HZ := Lib.hid (show truS Vl.zero = true by simp [truS, truOf, Vl.zero])
    clear hv
    go_enter Tryz.func178, Tryz.ntmps178
    go_wp2_with fail
    refine (specL2Eval A R n m cap capR ts row _ h hr hn hm HR.out HX.out).mono ?_
    rintro e w1 ⟨rfl, hb1⟩
    rw [HE.out]
    simp only [Option.getD_none, Option.isSome_none]
    have r1 := Row.new w1 179 #[.int .i64 Vl.zero.k, .int .i64 Vl.zero.n, .string Vl.zero.s]
    have hbx := hb1.alloc hb1.size (.cells #[.int .i64 Vl.zero.k, .int .i64 Vl.zero.n, .string Vl.zero.s] 179)
    go_wp2_with fail
    generalize Vl.zero = v at *
    refine (specOf v _).mono ?_
    rintro e w2 ⟨rfl, hb2⟩
    go_wp2
    go_ret
    exact ⟨retI (by rw [HT.out]), hbx.trans (hb2.mono hbx.size)⟩
  | some v =>
    have HE := Lib.hid hv
    have HT := Lib.hid (show truthB ts row = truOf v by simp [truthB, hv])
    clear hv
    cases hs : truS v
    · have HS := Lib.hid hs
      have HT2 := Lib.hid (show truOf v = -1 by simpa [truS] using hs)
      clear hs
      go_enter Tryz.func178, Tryz.ntmps178
      go_wp2_with fail
      refine (specL2Eval A R n m cap capR ts row _ h hr hn hm HR.out HX.out).mono ?_
      rintro e w1 ⟨rfl, hb1⟩
      rw [HE.out]
      simp only [Option.getD_some, Option.isSome_some]
      have hbx := hb1.alloc hb1.size (.cells #[.int .i64 v.k, .int .i64 v.n, .string v.s] 179)
      go_wp2_with fail
      refine (specOf v _).mono ?_
      rintro e w2 ⟨rfl, hb2⟩
      rw [HS.out]
      go_wp2
      go_ret
      exact ⟨retI (by rw [HT.out, HT2.out]), hbx.trans (hb2.mono hbx.size)⟩
    · have HS := Lib.hid hs
      have HT2 := Lib.hid (show truN v = truOf v by have h1 : ¬ truOf v = -1 := by simpa [truS] using hs
                                                    simp [truN, h1])
      clear hs
      go_enter Tryz.func178, Tryz.ntmps178
      go_wp2_with fail
      refine (specL2Eval A R n m cap capR ts row _ h hr hn hm HR.out HX.out).mono ?_
      rintro e w1 ⟨rfl, hb1⟩
      rw [HE.out]
      simp only [Option.getD_some, Option.isSome_some]
      have hbx := hb1.alloc hb1.size (.cells #[.int .i64 v.k, .int .i64 v.n, .string v.s] 179)
      go_wp2_with fail
      refine (specOf v _).mono ?_
      rintro e w2 ⟨rfl, hb2⟩
      rw [HS.out]
      go_wp2
      go_ret
      exact ⟨retI (by rw [HT.out, HT2.out]), hbx.trans (hb2.mono hbx.size)⟩
end Go.Proofs.YtlpldhmanihnnaaGreat
namespace Go.Proofs.YtlpldhmanihnnaaGreat
open Go.RowKit Go.Maps
set_option maxRecDepth 100000 in
set_option maxHeartbeats 1000000 in
theorem specNulls (A1 AR : Option Addr) (n1 c1 nR cR : Nat) (v0 v2 v3 v4 v5 : Value) (cols : List Cl) (row : List Vl) (ok : Nat -> Prop) (w : World)
    (h : Sl ClR 6 ok w A1 n1 cols) (hv : Vals w AR nR row) (hn1 : n1 <= 1048576) (hn2 : nR <= 1048576) (hlen : row.length = cols.length) :
    Calls Tryz.prog 117 #[.agg #[v0, .slice A1 n1 c1, v2, v3, v4, v5], .slice AR nR cR] w fun e w' => e = .returned (.bool (nullsB cols row)) /\ Below w.heap.size w w' := by
  obtain rfl : cols.length = n1 := h.1
  obtain rfl : row.length = nR := hv.len
  have hb0 := (Below.refl w.heap.size w).alloc (Nat.le_refl _) (.cells #[v0, .slice A1 cols.length c1, v2, v3, v4, v5] 86)
  have r0 := Row.new w 86 #[v0, .slice A1 cols.length c1, v2, v3, v4, v5]
  have hz : (cols.zip row).length = cols.length := by simp [hlen]
  have HZ := Lib.hid hz
  have HL := Lib.hid hlen
  clear hz hlen
  go_enter Tryz.func117, Tryz.ntmps117
  go_wp2_with fail
  generalize w.alloc (.cells #[v0, .slice A1 cols.length c1, v2, v3, v4, v5] 86) = x0 at *
  go_loopw [5] (fun i wr => ∃ k : Nat, k <= cols.length /\ i = .int .i64 k /\ Hid (((cols.zip row).take k).all nullV = true) /\ Row wr w.heap.size 86 #[v0, .slice A1 cols.length c1, v2, v3, v4, v5] /\ Below w.heap.size w wr) (fun i _ => cols.length - (intOf i).toNat)
  case atStart => exact ⟨0, by omega, rfl, Lib.hid (by simp), r0, hb0⟩
  case round =>
    obtain ⟨k, hk, rfl, hall, hr, hb⟩ := hrel
    by_cases hlt : k < cols.length
    · have hlt2 : k < row.length := by have := HL.out; omega
      obtain ⟨⟨d0, d1, d2, d3, d4, d5⟩, -⟩ := hr.all6
      obtain ⟨b2, off2, rfl, p0, p1, p2⟩ := (hv.below hb).at_ hlt2
      obtain ⟨b, off, -, rfl, q0, q1, q2, q3, q4, q5⟩ := ClR.at_ (h.below ClR.stays hb) hlt
      have hsn := all_take nullV (cols.zip row) k (by rw [HZ.out]; exact hlt)
      have hno := fun hf => all_no nullV (cols.zip row) k (by rw [HZ.out]; exact hlt) hf
      have eg : nullV ((cols.zip row)[k]'(by rw [HZ.out]; exact hlt)) = !(cols[k].nn && row[k].k == 0) := by rw [List.getElem_zip]; rfl
      rw [hall.out, Bool.true_and, eg] at hsn
      rw [eg] at hno
      have i0 : (0 : Int) <= k := by omega
      have i1 : (k : Int) < cols.length := by omega
      have i2 : (k : Int) < row.length := by have := HL.out; omega
      clear eg
      cases hd : cols[k].nn
      · have HA := Lib.hid (show ((cols.zip row).take (k + 1)).all nullV = true by rw [hsn, hd]; rfl)
        rw [hd] at q2
        clear hsn hno hall
        go_wp2_with fail
        go_roundw
        case rel => exact ⟨k + 1, by omega, by go_num, Lib.hid HA.out, hr, hb⟩
        case measure => simp [intOf]; omega
      rw [hd] at q2
      cases hc : (row[k].k == 0)
      · have HA := Lib.hid (show ((cols.zip row).take (k + 1)).all nullV = true by rw [hsn, hc, Bool.and_false]; rfl)
        clear hsn hno hall
        go_wp2_with fail
        go_roundw
        case rel => exact ⟨k + 1, by omega, by go_num, Lib.hid HA.out, hr, hb⟩
        case measure => simp [intOf]; omega
      · have HF := Lib.hid (show nullsB cols row = false from hno (by rw [hc, hd]; rfl))
        clear hsn hno hall
        go_wp2_with fail
        go_ret
        exact ⟨retB HF.out.symm, hb⟩
    · have e : (cols.zip row).take k = cols.zip row := List.take_of_length_le (by rw [HZ.out]; omega)
      have h1 := hall.out
      rw [e] at h1
      have HF := Lib.hid (show nullsB cols row = true from h1)
      have i3 : ¬ (k : Int) < row.length := by have := HL.out; omega
      clear e h1 hall
      go_wp2
      go_ret
      exact ⟨retB HF.out.symm, hb⟩
theorem truthB_rng (ts : List Tk) (row : List Vl) : truthB ts row = -1 \/ truthB ts row = 0 \/ truthB ts row = 1 \/ truthB ts row = 2 := by
  unfold truthB
  split
  · unfold truOf
    split
    · simp
    · split
      · unfold yes; split <;> simp
      · simp
  · simp
set_option maxRecDepth 100000 in
set_option maxHeartbeats 1000000 in
theorem specChecks (AL AR : Option Addr) (nL cL nR cR : Nat) (v0 v1 v2 v3 v5 : Value) (l : List Ck) (row : List Vl) (ok : Nat -> Prop) (w : World)
    (h : Sl CkR 1 ok w AL nL l) (hv : Vals w AR nR row) (hs : szL Ck.sz l <= 1048576) (hn2 : nR <= 1048576) (hrow : rowB row = true) (hex : ∀ u ∈ l, exprB u.expr row.length = true) :
    Calls Tryz.prog 118 #[.agg #[v0, v1, v2, v3, .slice AL nL cL, v5], .slice AR nR cR] w fun e w' => e = .returned (.bool (checksB l row)) /\ Below w.heap.size w w' := by
  obtain rfl : l.length = nL := h.1
  have hn1 : l.length <= 1048576 := by unfold szL at hs; omega
  have HSZ := Lib.hid hs
  have HR := Lib.hid hrow
  have HX := Lib.hid hex
  have HM := Lib.hid (show nR <= maxLen by unfold maxLen; omega)
  clear hs hrow hex
  have hb0 := (Below.refl w.heap.size w).alloc (Nat.le_refl _) (.cells #[v0, v1, v2, v3, .slice AL l.length cL, v5] 86)
  have r0 := Row.new w 86 #[v0, v1, v2, v3, .slice AL l.length cL, v5]
  go_enter Tryz.func118, Tryz.ntmps118
  go_wp2_with fail
  generalize w.alloc (.cells #[v0, v1, v2, v3, .slice AL l.length cL, v5] 86) = x0 at *
  go_loopw [5] (fun i wr => ∃ k : Nat, k <= l.length /\ i = .int .i64 k /\ Hid ((l.take k).all (ckV row) = true) /\ Row wr w.heap.size 86 #[v0, v1, v2, v3, .slice AL l.length cL, v5] /\ Below w.heap.size w wr) (fun i _ => l.length - (intOf i).toNat)
  case atStart => exact ⟨0, by omega, rfl, Lib.hid (by simp), r0, hb0⟩
  case round =>
    obtain ⟨k, hk, rfl, hall, hr, hb⟩ := hrel
    obtain ⟨⟨d0, d1, d2, d3, d4, d5⟩, -⟩ := hr.all6
    by_cases hlt : k < l.length
    · obtain ⟨b, off, A9, n9, c9, -, ea, q0, s0, hcp⟩ := CkR.at_ (h.below CkR.stays hb) hlt
      rw [ea] at d4
      clear ea
      obtain rfl : l[k].expr.length = n9 := s0.1
      have hv1 := hv.below hb
      have hk9 : l[k].expr.length <= 1048576 := by have := HSZ.out; have := sum_mem_le Ck.sz l k hlt; unfold szL at *; simp only [Ck.sz] at *; (try unfold szL at *); (try simp only at *); omega
      have HK9 := Lib.hid (show l[k].expr.length <= maxLen by unfold maxLen; omega)
      have hsn := all_take (ckV row) l k hlt
      rw [hall.out, Bool.true_and] at hsn
      have hno := fun hf => all_no (ckV row) l k hlt hf
      have i0 : (0 : Int) <= k := by omega
      have i1 : (k : Int) < l.length := by omega
      have hcall := specL2Truth A9 AR l[k].expr.length nR c9 cR l[k].expr row _ (Sl.cellz (fun _ => rfl) s0) hv1 HK9.out HM.out HR.out (HX.out _ (List.getElem_mem hlt))
      have HCALL := Lib.hid hcall
      clear hk9 hcall
      rcases truthB_rng l[k].expr row with h1 | h1 | h1 | h1
      · have HF := Lib.hid (show checksB l row = false from hno (by unfold ckV truOkB; rw [h1]; rfl))
        have H1 := Lib.hid h1
        clear hsn hno hall h1
        go_wp2_with fail
        refine HCALL.out.mono ?_
        rintro e w1 ⟨rfl, hb1⟩
        rw [H1.out]
        clear HCALL
        go_wp2
        go_ret
        exact ⟨retB HF.out.symm, hb.trans (hb1.mono hb.size)⟩
      · have HF := Lib.hid (show checksB l row = false from hno (by unfold ckV truOkB; rw [h1]; rfl))
        have H1 := Lib.hid h1
        clear hsn hno hall h1
        go_wp2_with fail
        refine HCALL.out.mono ?_
        rintro e w1 ⟨rfl, hb1⟩
        rw [H1.out]
        clear HCALL
        go_wp2
        go_ret
        exact ⟨retB HF.out.symm, hb.trans (hb1.mono hb.size)⟩
      all_goals
        have HA := Lib.hid (show (l.take (k + 1)).all (ckV row) = true by rw [hsn]; unfold ckV truOkB; rw [h1]; rfl)
        have H1 := Lib.hid h1
        clear hsn hno hall h1
        go_wp2_with fail
        refine HCALL.out.mono ?_
        rintro e w1 ⟨rfl, hb1⟩
        rw [H1.out]
        clear HCALL
        go_wp2
        go_roundw
        case rel => exact ⟨k + 1, by omega, by go_num, Lib.hid HA.out, hr.below hb1, hb.trans (hb1.mono hb.size)⟩
        case measure => simp [intOf]; omega
    · have e : l.take k = l := List.take_of_length_le (by omega)
      have h1 := hall.out
      rw [e] at h1
      have HF := Lib.hid (show checksB l row = true from h1)
      clear e h1 hall
      go_wp2
      go_ret
      exact ⟨retB HF.out.symm, hb⟩
theorem fit_all {cols : List Cl} {row : List Vl} (hl : row.length = cols.length) (h : fitAll cols row = true) : row.all Vl.ok = true := by
  induction row generalizing cols with
  | nil => rfl
  | cons v vs ih =>
    cases cols with
    | nil => simp at hl
    | cons c cs =>
      unfold fitAll at h
      rw [List.zip_cons_cons, List.all_cons, Bool.and_eq_true] at h
      have h1 : valOkB v.k v.n v.s = true := by
        have := h.1; unfold fitV fitsB at this; simp only [Bool.and_eq_true] at this; exact this.1
      rw [List.all_cons, ih (by simpa using hl) h.2, Bool.and_true]
      exact h1
theorem rowB_of {x : Tb} {row : List Vl} (hT : tableB x = true) (hK : kindsB x.cols row = true) : rowB row = true := by
  unfold kindsB at hK
  rw [Bool.and_eq_true, decide_eq_true_eq] at hK
  unfold tableB colsB at hT
  simp only [Bool.and_eq_true, decide_eq_true_eq] at hT
  have h8 : x.cols.length <= 8 := hT.2.1.2.1
  unfold rowB
  rw [fit_all hK.1 hK.2, decide_eq_true (by omega)]; rfl
theorem exprs_of {x : Tb} {row : List Vl} (hT : tableB x = true) (hl : row.length = x.cols.length) : ∀ u ∈ x.checks, exprB u.expr row.length = true := by
  unfold tableB cksB at hT
  simp only [Bool.and_eq_true, decide_eq_true_eq] at hT
  intro u hu
  rw [hl]
  exact List.all_eq_true.1 hT.2.2.2.2.1.2 u hu
def RowIn (s : List Tb) (db : List Dt) (t : Tb) (x : Rw) : Prop := x.vals.length = t.cols.length /\ rowB x.vals = true /\ (∀ u ∈ t.checks, exprB u.expr x.vals.length = true) /\ t.key.all (inV x.vals) = true /\ (∀ u ∈ t.uniqs, u.cols.all (inV x.vals) = true) /\ (∀ f ∈ t.fks, FkIn s db x.vals f) /\ x.vals.length <= 1048576
set_option maxRecDepth 100000 in
set_option maxHeartbeats 16000000 in
theorem specL5Flaws (AS AD : Option Addr) (nS cS nD cD : Nat) (s : List Tb) (db : List Dt) (wait : Bool) (ok okd : Nat -> Prop) (w : World)
    (hs : Sl TbR 6 ok w AS nS s) (hd : Sl DtR 1 okd w AD nD db) (hlen : db.length = s.length) (hss : szL Tb.sz s <= 1048576) (hdz : ∀ d ∈ db, d.rows.length <= 1048576)
    (hall : ∀ (i : Nat) (h : i < s.length) (h' : i < db.length), ∀ x ∈ db[i].rows, RowIn s db s[i] x) :
    Calls Tryz.prog 61 #[.slice AS nS cS, .slice AD nD cD, .bool wait] w (MadeG (FlatR Fw.cells) 3 (dbFw s db wait s.length) w) := by
  obtain rfl : s.length = nS := hs.1
  obtain rfl : db.length = nD := hd.1
  have hsn : s.length <= 1048576 := by unfold szL at hss; omega
  have HLN := Lib.hid hlen
  have HSS := Lib.hid hss
  have HDZ := Lib.hid hdz
  have HALL := Lib.hid hall
  obtain ⟨i0, hi, hz0, hz1, hz2⟩ := info_parts infoFlawF
  have H1 := Lib.hid hi
  have H2 := Lib.hid hz0
  have H3 := Lib.hid hz1
  have H4 := Lib.hid hz2
  clear hlen hss hdz hall hi hz0 hz1 hz2
  have hb0 := (Below.refl w.heap.size w).alloc (Nat.le_refl _) (.cells #[] 97)
  have ho0 : Hid (OwnF _ w.heap.size _ []) := Lib.hid (OwnG.lit (T := 97) (sz := 3) (f := Fw.cells) w (Nat.le_refl w.heap.size))
  go_enter Tryz.func61, Tryz.ntmps61
  go_wp2_with fail
  generalize w.alloc (.cells #[] 97) = z0 at *
  go_loopw [7, 8] (fun v iv wr => ∃ i : Nat, i <= s.length /\ iv = .int .i64 i /\ Hid (OwnF wr w.heap.size v (dbFw s db wait i)) /\ Below w.heap.size w wr) (fun _ iv _ => s.length - (intOf iv).toNat)
  case atStart => exact ⟨0, by omega, rfl, ho0, hb0⟩
  case round =>
    clear hb0 ho0
    obtain ⟨i, hi', rfl, hown, hb⟩ := hrel
    by_cases hlt : i < s.length
    · have hltd : i < db.length := by have := HLN.out; omega
      obtain ⟨b, off, A1, n1, c1, A2, n2, c2, A3, n3, c3, A4, n4, c4, A5, n5, c5, -, rfl, q0, q1, q2, q3, q4, q5, s1, s2, s3, s4, s5, -⟩ := TbR.at_ hs hlt
      obtain rfl : s[i].cols.length = n1 := s1.1
      obtain rfl : s[i].key.length = n2 := s2.1
      obtain rfl : s[i].uniqs.length = n3 := s3.1
      obtain rfl : s[i].checks.length = n4 := s4.1
      obtain rfl : s[i].fks.length = n5 := s5.1
      obtain ⟨bd, od, AL, nL, cL, -, rfl, p0, hrw, -⟩ := DtR.at_ hd hltd
      obtain rfl : db[i].rows.length = nL := hrw.1
      have i1 : (0 : Int) <= i := by omega
      have i2 : (i : Int) < s.length := by omega
      have i3 : (i : Int) < db.length := by omega
      have hrn : db[i].rows.length <= 1048576 := HDZ.out _ (List.getElem_mem hltd)
      have hts := szL_mem Tb.sz s s[i] (List.getElem_mem hlt)
      have HTS := Lib.hid (Nat.le_trans hts HSS.out)
      clear hts
      have HRI := Lib.hid (HALL.out i hlt hltd)
      have HTA := Lib.hid (show dbFw s db wait (i + 1) = dbFw s db wait i ++ db[i].rows.flatMap (rowFw s db s[i] db[i].rows wait i) by rw [dbFw_succ, tabFw_at wait hlt hltd])
      have HDL := Lib.hid (show (dbFw s db wait i).length <= 4194304 * i from dbFw_len wait HDZ.out i)
      have p0r := below_keep hb _ _ p0
      go_wp2_with fail
      go_loopw [7, 9] (fun v kv wq => ∃ k : Nat, k <= db[i].rows.length /\ kv = .int .i64 k /\ Hid (OwnF wq w.heap.size v (dbFw s db wait i ++ (db[i].rows.take k).flatMap (rowFw s db s[i] db[i].rows wait i))) /\ Below w.heap.size w wq) (fun _ kv _ => db[i].rows.length - (intOf kv).toNat)
      case atStart => exact ⟨0, by omega, rfl, Lib.hid (by simpa using hown.out), hb⟩
      case round =>
        clear hown hb p0r
        obtain ⟨k, hk', rfl, hown, hb⟩ := hrel
        have p0r := below_keep hb _ _ p0
        by_cases hkt : k < db[i].rows.length
        · obtain ⟨bl, ol, B1, k1, e1, -, rfl, z0', z1', hv, -⟩ := RwR.at_ hrw hkt
          obtain rfl : db[i].rows[k].vals.length = k1 := hv.1
          have x0 := below_keep hb _ _ z0'
          have x1 := below_keep hb _ _ z1'
          have k0 : (0 : Int) <= k := by omega
          have k1 : (k : Int) < db[i].rows.length := by omega
          have hrx := HRI.out _ (List.getElem_mem hkt)
          have HX := Lib.hid hrx
          have hvn := hrx.2.2.2.2.2.2
          clear hrx
          have HUM := Lib.hid (show ∀ u ∈ s[i].uniqs, u.cols.length <= 1048576 from fun u hu => by
            have h1 := szL_mem Uq.sz s[i].uniqs u hu
            have h2 := HTS.out
            have h3 : szL Uq.sz s[i].uniqs <= s[i].sz := by unfold Tb.sz; omega
            have h4 : u.cols.length <= u.sz := by unfold Uq.sz; omega
            omega)
          have HFT := Lib.hid (flat_take (rowFw s db s[i] db[i].rows wait i) db[i].rows k hkt)
          have HLE := Lib.hid (show (dbFw s db wait i ++ (db[i].rows.take k).flatMap (rowFw s db s[i] db[i].rows wait i)).length <= 4398046511104 by
            rw [List.length_append]
            have h1 := HDL.out
            have h2 := flat_bound (rowFw s db s[i] db[i].rows wait i) 4 (db[i].rows.take k) fun x _ => rowFw_len _ _ _ _ _ _ _
            rw [List.length_take] at h2
            have h3 : min k db[i].rows.length <= 1048576 := by omega
            omega)
          have hlb := (Below.refl wr.heap.size wr).alloc (Nat.le_refl _) (.cells #[.int .i64 db[i].rows[k].id, .slice B1 db[i].rows[k].vals.length e1] 152)
          have own := Lib.hid (OwnG.below hown.out hlb)
          have RX := Lib.hid (Row.new wr 152 #[.int .i64 db[i].rows[k].id, .slice B1 db[i].rows[k].vals.length e1])
          have hbW := hb.alloc hb.size (.cells #[.int .i64 db[i].rows[k].id, .slice B1 db[i].rows[k].vals.length e1] 152)
          generalize hys : dbFw s db wait i ++ (db[i].rows.take k).flatMap (rowFw s db s[i] db[i].rows wait i) = ys at *
          have HYS := Lib.hid hys
          clear hys hown
          go_wp2_with fail
          generalize hgg : wr.heap.size = g at *
          generalize wr.alloc (.cells #[.int .i64 db[i].rows[k].id, .slice B1 db[i].rows[k].vals.length e1] 152) = W0 at *
          clear hgg hlb x0 x1 p0r
          obtain ⟨⟨d0, d1⟩, -⟩ := RX.out.all2
          have q0z := below_keep hbW _ _ q0
          have q1z := below_keep hbW _ _ q1
          have q2z := below_keep hbW _ _ q2
          have q3z := below_keep hbW _ _ q3
          have q4z := below_keep hbW _ _ q4
          have q5z := below_keep hbW _ _ q5
          have p0z := below_keep hbW _ _ p0
          have HC := Lib.hid (specNulls A1 B1 s[i].cols.length c1 db[i].rows[k].vals.length e1 (.string s[i].name) (.slice A2 s[i].key.length c2) (.slice A3 s[i].uniqs.length c3) (.slice A4 s[i].checks.length c4) (.slice A5 s[i].fks.length c5) s[i].cols db[i].rows[k].vals _ W0.drew ((s1.below ClR.stays hbW).drew ClR.stays) (Sl.cellz (fun _ => rfl) ((hv.below VlR.stays hbW).drew VlR.stays)) (by have := HTS.out; unfold Tb.sz szL at this; omega) hvn HX.out.1)
          cases he : nullsB s[i].cols db[i].rows[k].vals
          · have HV1 := Lib.hid he
            clear he
            have hbd1_0_f := hbW.drew
            have hld1_0_f := (Below.refl W0.heap.size W0).drew
            go_region_held3 (fun w' => w'.cell? ⟨b, off + i * 6, none⟩ = some (.string s[i].name) /\ w'.cell? ⟨b, off + i * 6 + 1, none⟩ = some (.slice A1 s[i].cols.length c1) /\ w'.cell? ⟨b, off + i * 6 + 2, none⟩ = some (.slice A2 s[i].key.length c2) /\ w'.cell? ⟨b, off + i * 6 + 3, none⟩ = some (.slice A3 s[i].uniqs.length c3) /\ w'.cell? ⟨b, off + i * 6 + 4, none⟩ = some (.slice A4 s[i].checks.length c4) /\ w'.cell? ⟨b, off + i * 6 + 5, none⟩ = some (.slice A5 s[i].fks.length c5) /\ w'.cell? ⟨bd, od + i, none⟩ = some (.slice (some ⟨bl, ol, none⟩) db[i].rows.length cL) /\ w'.cell? ⟨g, 0, none⟩ = some (.int .i64 db[i].rows[k].id) /\ w'.cell? ⟨g, 1, none⟩ = some (.slice B1 db[i].rows[k].vals.length e1))
              (first | go_keep | exact ⟨below_keep hb9 _ _ q0z, below_keep hb9 _ _ q1z, below_keep hb9 _ _ q2z, below_keep hb9 _ _ q3z, below_keep hb9 _ _ q4z, below_keep hb9 _ _ q5z, below_keep hb9 _ _ p0z, below_keep hb9 _ _ d0, below_keep hb9 _ _ d1⟩)
              (first | (go_at_call 117; refine HC.out.mono ?_; rintro e w9 ⟨rfl, hb9⟩; rw [HV1.out]))
            have hl1_0_f := hld1_0_f.trans (hb9.mono hld1_0_f.size)
            have hb1_0_f := hbW.trans (hl1_0_f.mono hbW.size)
            have own1_0_f := Lib.hid (OwnG.below own.out hl1_0_f)
            have RX := Lib.hid (RX.out.below hl1_0_f)
            clear HC d0 d1 p0z q0z q1z q2z q3z q4z q5z
            obtain ⟨⟨d0, d1⟩, -⟩ := RX.out.all2
            have hne := Lib.hid (own_ne_row own1_0_f.out RX.out (by decide))
            go_wp2_with (at_builtin; refine wpList_append_own _ rfl _ _ 26 rfl w.heap.size 97 i0 (.agg #[.int .i64 0, .int .i64 0, .int .i64 0]) 3 24 Tryz.underlying26 H1.out H2.out H3.out H4.out rfl (by decide) _ _ _ rfl (World.ownsRow.alloc own1_0_f.out _) ⟨_, 0, none⟩ 1 1 (Fw.cells ⟨1, i, db[i].rows[k].id⟩) rfl rfl ?c11_0_f ?c21_0_f ?c31_0_f ?c41_0_f ?c51_0_f ?_)
            case c11_0_f => exact cells_newAt _ (Fw.cells ⟨1, i, db[i].rows[k].id⟩) _ (by simp)
            case c21_0_f => intro u hu; simp [Fw.cells] at hu; rcases hu with rfl | rfl | rfl <;> rfl
            case c31_0_f => have := HLE.out; (try simp only [List.length_append, List.length_cons, List.length_nil]); unfold maxLen; omega
            case c41_0_f => have := HLE.out; (try simp only [List.length_append, List.length_cons, List.length_nil]); omega
            case c51_0_f => have := hb1_0_f.size; simp; omega
            intro v1_0_f w9 hown3 hgrow _
            have R := Lib.hid (OwnG.app own1_0_f.out hb1_0_f.size hown3 hgrow)
            have RX := Lib.hid (grown_rowK hgrow (RX.out.alloc _) hne.out)
            have hb1_0_f := hb1_0_f.trans R.out.2
            have own1_0_f := Lib.hid R.out.1
            clear hown3 hgrow hne R d0 d1
            generalize hyz : ys ++ [⟨1, i, db[i].rows[k].id⟩] = y1_0_f at *
            have HY1_0_f := Lib.hid hyz
            clear hyz
            have HLE := Lib.hid (show y1_0_f.length <= 4398046511105 by have h1 := HLE.out; rw [<- HY1_0_f.out, List.length_append, List.length_cons, List.length_nil]; omega)
            go_wp2_with fail
            obtain ⟨⟨d0, d1⟩, -⟩ := RX.out.all2
            have q0z := below_keep hb1_0_f _ _ q0
            have q1z := below_keep hb1_0_f _ _ q1
            have q2z := below_keep hb1_0_f _ _ q2
            have q3z := below_keep hb1_0_f _ _ q3
            have q4z := below_keep hb1_0_f _ _ q4
            have q5z := below_keep hb1_0_f _ _ q5
            have p0z := below_keep hb1_0_f _ _ p0
            have HC := Lib.hid (specChecks A4 B1 s[i].checks.length c4 db[i].rows[k].vals.length e1 (.string s[i].name) (.slice A1 s[i].cols.length c1) (.slice A2 s[i].key.length c2) (.slice A3 s[i].uniqs.length c3) (.slice A5 s[i].fks.length c5) s[i].checks db[i].rows[k].vals _ w9.drew ((s4.below CkR.stays hb1_0_f).drew CkR.stays) (Sl.cellz (fun _ => rfl) ((hv.below VlR.stays hb1_0_f).drew VlR.stays)) (by have := HTS.out; unfold Tb.sz at this; omega) hvn HX.out.2.1 HX.out.2.2.1)
            cases he : checksB s[i].checks db[i].rows[k].vals
            · have HV2 := Lib.hid he
              clear he
              have hbd2_1_f := hb1_0_f.drew
              have hld2_1_f := (Below.refl w9.heap.size w9).drew
              go_region_held3 (fun w' => w'.cell? ⟨b, off + i * 6, none⟩ = some (.string s[i].name) /\ w'.cell? ⟨b, off + i * 6 + 1, none⟩ = some (.slice A1 s[i].cols.length c1) /\ w'.cell? ⟨b, off + i * 6 + 2, none⟩ = some (.slice A2 s[i].key.length c2) /\ w'.cell? ⟨b, off + i * 6 + 3, none⟩ = some (.slice A3 s[i].uniqs.length c3) /\ w'.cell? ⟨b, off + i * 6 + 4, none⟩ = some (.slice A4 s[i].checks.length c4) /\ w'.cell? ⟨b, off + i * 6 + 5, none⟩ = some (.slice A5 s[i].fks.length c5) /\ w'.cell? ⟨bd, od + i, none⟩ = some (.slice (some ⟨bl, ol, none⟩) db[i].rows.length cL) /\ w'.cell? ⟨g, 0, none⟩ = some (.int .i64 db[i].rows[k].id) /\ w'.cell? ⟨g, 1, none⟩ = some (.slice B1 db[i].rows[k].vals.length e1))
                (first | go_keep | exact ⟨below_keep hb9 _ _ q0z, below_keep hb9 _ _ q1z, below_keep hb9 _ _ q2z, below_keep hb9 _ _ q3z, below_keep hb9 _ _ q4z, below_keep hb9 _ _ q5z, below_keep hb9 _ _ p0z, below_keep hb9 _ _ d0, below_keep hb9 _ _ d1⟩)
                (first | (go_at_call 118; refine HC.out.mono ?_; rintro e w9 ⟨rfl, hb9⟩; rw [HV2.out]))
              have hl2_1_f := hld2_1_f.trans (hb9.mono hld2_1_f.size)
              have hb2_1_f := hb1_0_f.trans (hl2_1_f.mono hb1_0_f.size)
              have own2_1_f := Lib.hid (OwnG.below own1_0_f.out hl2_1_f)
              have RX := Lib.hid (RX.out.below hl2_1_f)
              clear HC d0 d1 p0z q0z q1z q2z q3z q4z q5z
              obtain ⟨⟨d0, d1⟩, -⟩ := RX.out.all2
              have hne := Lib.hid (own_ne_row own2_1_f.out RX.out (by decide))
              go_wp2_with (at_builtin; refine wpList_append_own _ rfl _ _ 26 rfl w.heap.size 97 i0 (.agg #[.int .i64 0, .int .i64 0, .int .i64 0]) 3 24 Tryz.underlying26 H1.out H2.out H3.out H4.out rfl (by decide) _ _ _ rfl (World.ownsRow.alloc own2_1_f.out _) ⟨_, 0, none⟩ 1 1 (Fw.cells ⟨2, i, db[i].rows[k].id⟩) rfl rfl ?c12_1_f ?c22_1_f ?c32_1_f ?c42_1_f ?c52_1_f ?_)
              case c12_1_f => exact cells_newAt _ (Fw.cells ⟨2, i, db[i].rows[k].id⟩) _ (by simp)
              case c22_1_f => intro u hu; simp [Fw.cells] at hu; rcases hu with rfl | rfl | rfl <;> rfl
              case c32_1_f => have := HLE.out; (try simp only [List.length_append, List.length_cons, List.length_nil]); unfold maxLen; omega
              case c42_1_f => have := HLE.out; (try simp only [List.length_append, List.length_cons, List.length_nil]); omega
              case c52_1_f => have := hb2_1_f.size; simp; omega
              intro v2_1_f w9 hown3 hgrow _
              have R := Lib.hid (OwnG.app own2_1_f.out hb2_1_f.size hown3 hgrow)
              have RX := Lib.hid (grown_rowK hgrow (RX.out.alloc _) hne.out)
              have hb2_1_f := hb2_1_f.trans R.out.2
              have own2_1_f := Lib.hid R.out.1
              clear hown3 hgrow hne R d0 d1
              generalize hyz : y1_0_f ++ [⟨2, i, db[i].rows[k].id⟩] = y2_1_f at *
              have HY2_1_f := Lib.hid hyz
              clear hyz
              have HLE := Lib.hid (show y2_1_f.length <= 4398046511106 by have h1 := HLE.out; rw [<- HY2_1_f.out, List.length_append, List.length_cons, List.length_nil]; omega)
              go_wp2_with fail
              obtain ⟨⟨d0, d1⟩, -⟩ := RX.out.all2
              have q0z := below_keep hb2_1_f _ _ q0
              have q1z := below_keep hb2_1_f _ _ q1
              have q2z := below_keep hb2_1_f _ _ q2
              have q3z := below_keep hb2_1_f _ _ q3
              have q4z := below_keep hb2_1_f _ _ q4
              have q5z := below_keep hb2_1_f _ _ q5
              have p0z := below_keep hb2_1_f _ _ p0
              have HC := Lib.hid (specL5Unique A1 A2 A3 A4 A5 (some ⟨bl, ol, none⟩) B1 s[i].cols.length c1 s[i].key.length c2 s[i].uniqs.length c3 s[i].checks.length c4 s[i].fks.length c5 db[i].rows.length cL db[i].rows[k].vals.length e1 s[i] db[i].rows db[i].rows[k] _ _ _ _ w9.drew ((s2.below IntR.stays hb2_1_f).drew IntR.stays) ((s3.below UqR.stays hb2_1_f).drew UqR.stays) ((hrw.below RwR.stays hb2_1_f).drew RwR.stays) ((hv.below VlR.stays hb2_1_f).drew VlR.stays) hrn (by have := HTS.out; unfold Tb.sz szL at this; omega) (by have := HTS.out; unfold Tb.sz szL at this; omega) HUM.out hvn (fun r hr => (HRI.out r hr).2.2.2.2.2.2) (fun r hr => (HRI.out r hr).2.2.2.1) HX.out.2.2.2.1 (fun u hu => ⟨fun r hr => (HRI.out r hr).2.2.2.2.1 u hu, HX.out.2.2.2.2.1 u hu⟩))
              cases he : uniqueB s[i] db[i].rows db[i].rows[k]
              · have HV3 := Lib.hid he
                clear he
                have hbd3_2_f := hb2_1_f.drew
                have hld3_2_f := (Below.refl w9.heap.size w9).drew
                go_region_held3 (fun w' => w'.cell? ⟨b, off + i * 6, none⟩ = some (.string s[i].name) /\ w'.cell? ⟨b, off + i * 6 + 1, none⟩ = some (.slice A1 s[i].cols.length c1) /\ w'.cell? ⟨b, off + i * 6 + 2, none⟩ = some (.slice A2 s[i].key.length c2) /\ w'.cell? ⟨b, off + i * 6 + 3, none⟩ = some (.slice A3 s[i].uniqs.length c3) /\ w'.cell? ⟨b, off + i * 6 + 4, none⟩ = some (.slice A4 s[i].checks.length c4) /\ w'.cell? ⟨b, off + i * 6 + 5, none⟩ = some (.slice A5 s[i].fks.length c5) /\ w'.cell? ⟨bd, od + i, none⟩ = some (.slice (some ⟨bl, ol, none⟩) db[i].rows.length cL) /\ w'.cell? ⟨g, 0, none⟩ = some (.int .i64 db[i].rows[k].id) /\ w'.cell? ⟨g, 1, none⟩ = some (.slice B1 db[i].rows[k].vals.length e1))
                  (first | go_keep | exact ⟨below_keep hb9 _ _ q0z, below_keep hb9 _ _ q1z, below_keep hb9 _ _ q2z, below_keep hb9 _ _ q3z, below_keep hb9 _ _ q4z, below_keep hb9 _ _ q5z, below_keep hb9 _ _ p0z, below_keep hb9 _ _ d0, below_keep hb9 _ _ d1⟩)
                  (first | (go_at_call 119; refine HC.out.mono ?_; rintro e w9 ⟨rfl, hb9⟩; rw [HV3.out]))
                have hl3_2_f := hld3_2_f.trans (hb9.mono hld3_2_f.size)
                have hb3_2_f := hb2_1_f.trans (hl3_2_f.mono hb2_1_f.size)
                have own3_2_f := Lib.hid (OwnG.below own2_1_f.out hl3_2_f)
                have RX := Lib.hid (RX.out.below hl3_2_f)
                clear HC d0 d1 p0z q0z q1z q2z q3z q4z q5z
                obtain ⟨⟨d0, d1⟩, -⟩ := RX.out.all2
                have hne := Lib.hid (own_ne_row own3_2_f.out RX.out (by decide))
                go_wp2_with (at_builtin; refine wpList_append_own _ rfl _ _ 26 rfl w.heap.size 97 i0 (.agg #[.int .i64 0, .int .i64 0, .int .i64 0]) 3 24 Tryz.underlying26 H1.out H2.out H3.out H4.out rfl (by decide) _ _ _ rfl (World.ownsRow.alloc own3_2_f.out _) ⟨_, 0, none⟩ 1 1 (Fw.cells ⟨3, i, db[i].rows[k].id⟩) rfl rfl ?c13_2_f ?c23_2_f ?c33_2_f ?c43_2_f ?c53_2_f ?_)
                case c13_2_f => exact cells_newAt _ (Fw.cells ⟨3, i, db[i].rows[k].id⟩) _ (by simp)
                case c23_2_f => intro u hu; simp [Fw.cells] at hu; rcases hu with rfl | rfl | rfl <;> rfl
                case c33_2_f => have := HLE.out; (try simp only [List.length_append, List.length_cons, List.length_nil]); unfold maxLen; omega
                case c43_2_f => have := HLE.out; (try simp only [List.length_append, List.length_cons, List.length_nil]); omega
                case c53_2_f => have := hb3_2_f.size; simp; omega
                intro v3_2_f w9 hown3 hgrow _
                have R := Lib.hid (OwnG.app own3_2_f.out hb3_2_f.size hown3 hgrow)
                have RX := Lib.hid (grown_rowK hgrow (RX.out.alloc _) hne.out)
                have hb3_2_f := hb3_2_f.trans R.out.2
                have own3_2_f := Lib.hid R.out.1
                clear hown3 hgrow hne R d0 d1
                generalize hyz : y2_1_f ++ [⟨3, i, db[i].rows[k].id⟩] = y3_2_f at *
                have HY3_2_f := Lib.hid hyz
                clear hyz
                have HLE := Lib.hid (show y3_2_f.length <= 4398046511107 by have h1 := HLE.out; rw [<- HY3_2_f.out, List.length_append, List.length_cons, List.length_nil]; omega)
                obtain ⟨⟨d0, d1⟩, -⟩ := RX.out.all2
                have q0z := below_keep hb3_2_f _ _ q0
                have q1z := below_keep hb3_2_f _ _ q1
                have q2z := below_keep hb3_2_f _ _ q2
                have q3z := below_keep hb3_2_f _ _ q3
                have q4z := below_keep hb3_2_f _ _ q4
                have q5z := below_keep hb3_2_f _ _ q5
                have p0z := below_keep hb3_2_f _ _ p0
                have HC := Lib.hid (specL5Refers (some ⟨b, off, none⟩) (some ⟨bd, od, none⟩) B1 s.length cS db.length cD db[i].rows[k].vals.length e1 s db i db[i].rows[k].vals wait _ _ _ w9 (hs.below TbR.stays hb3_2_f) (hd.below DtR.stays hb3_2_f) (hv.below VlR.stays hb3_2_f) hsn (by have := HLN.out; omega) hvn hlt (by have := HTS.out; unfold Tb.sz szL at this; omega) HX.out.2.2.2.2.2.1)
                cases he : refersB s db s[i] db[i].rows[k].vals wait
                · have HV4 := Lib.hid he
                  clear he
                  go_wp2_with fail
                  refine HC.out.mono ?_
                  rintro e w9 ⟨rfl, hb9⟩
                  rw [HV4.out]
                  have hl4_3_f := hb9
                  have hb4_3_f := hb3_2_f.trans (hl4_3_f.mono hb3_2_f.size)
                  have own4_3_f := Lib.hid (OwnG.below own3_2_f.out hl4_3_f)
                  have RX := Lib.hid (RX.out.below hl4_3_f)
                  clear HC d0 d1 p0z q0z q1z q2z q3z q4z q5z
                  obtain ⟨⟨d0, d1⟩, -⟩ := RX.out.all2
                  have hne := Lib.hid (own_ne_row own4_3_f.out RX.out (by decide))
                  go_wp2_with (at_builtin; refine wpList_append_own _ rfl _ _ 26 rfl w.heap.size 97 i0 (.agg #[.int .i64 0, .int .i64 0, .int .i64 0]) 3 24 Tryz.underlying26 H1.out H2.out H3.out H4.out rfl (by decide) _ _ _ rfl (World.ownsRow.alloc own4_3_f.out _) ⟨_, 0, none⟩ 1 1 (Fw.cells ⟨4, i, db[i].rows[k].id⟩) rfl rfl ?c14_3_f ?c24_3_f ?c34_3_f ?c44_3_f ?c54_3_f ?_)
                  case c14_3_f => exact cells_newAt _ (Fw.cells ⟨4, i, db[i].rows[k].id⟩) _ (by simp)
                  case c24_3_f => intro u hu; simp [Fw.cells] at hu; rcases hu with rfl | rfl | rfl <;> rfl
                  case c34_3_f => have := HLE.out; (try simp only [List.length_append, List.length_cons, List.length_nil]); unfold maxLen; omega
                  case c44_3_f => have := HLE.out; (try simp only [List.length_append, List.length_cons, List.length_nil]); omega
                  case c54_3_f => have := hb4_3_f.size; simp; omega
                  intro v4_3_f w9 hown3 hgrow _
                  have R := Lib.hid (OwnG.app own4_3_f.out hb4_3_f.size hown3 hgrow)
                  have RX := Lib.hid (grown_rowK hgrow (RX.out.alloc _) hne.out)
                  have hb4_3_f := hb4_3_f.trans R.out.2
                  have own4_3_f := Lib.hid R.out.1
                  clear hown3 hgrow hne R d0 d1
                  generalize hyz : y3_2_f ++ [⟨4, i, db[i].rows[k].id⟩] = y4_3_f at *
                  have HY4_3_f := Lib.hid hyz
                  clear hyz
                  have HLE := Lib.hid (show y4_3_f.length <= 4398046511108 by have h1 := HLE.out; rw [<- HY4_3_f.out, List.length_append, List.length_cons, List.length_nil]; omega)
                  have HT := Lib.hid (show dbFw s db wait i ++ (db[i].rows.take (k + 1)).flatMap (rowFw s db s[i] db[i].rows wait i) = y4_3_f by
                    rw [HFT.out, <- List.append_assoc, HYS.out]; unfold rowFw; rw [HV1.out, HV2.out, HV3.out, HV4.out, <- HY4_3_f.out, <- HY3_2_f.out, <- HY2_1_f.out, <- HY1_0_f.out]; simp [oneFw])
                  go_wp2_with fail
                  go_roundw
                  case rel => exact ⟨k + 1, by omega, by go_num, Lib.hid (by rw [HT.out]; exact own4_3_f.out), hb4_3_f⟩
                  case measure => simp [intOf]; omega
                · have HV4 := Lib.hid he
                  clear he
                  go_wp2_with fail
                  refine HC.out.mono ?_
                  rintro e w9 ⟨rfl, hb9⟩
                  rw [HV4.out]
                  have hl4_3_t := hb9
                  have hb4_3_t := hb3_2_f.trans (hl4_3_t.mono hb3_2_f.size)
                  have own4_3_t := Lib.hid (OwnG.below own3_2_f.out hl4_3_t)
                  have RX := Lib.hid (RX.out.below hl4_3_t)
                  clear HC d0 d1 p0z q0z q1z q2z q3z q4z q5z
                  have HT := Lib.hid (show dbFw s db wait i ++ (db[i].rows.take (k + 1)).flatMap (rowFw s db s[i] db[i].rows wait i) = y3_2_f by
                    rw [HFT.out, <- List.append_assoc, HYS.out]; unfold rowFw; rw [HV1.out, HV2.out, HV3.out, HV4.out, <- HY3_2_f.out, <- HY2_1_f.out, <- HY1_0_f.out]; simp [oneFw])
                  go_wp2_with fail
                  go_roundw
                  case rel => exact ⟨k + 1, by omega, by go_num, Lib.hid (by rw [HT.out]; exact own4_3_t.out), hb4_3_t⟩
                  case measure => simp [intOf]; omega
              · have HV3 := Lib.hid he
                clear he
                have hbd3_2_t := hb2_1_f.drew
                have hld3_2_t := (Below.refl w9.heap.size w9).drew
                go_region_held3 (fun w' => w'.cell? ⟨b, off + i * 6, none⟩ = some (.string s[i].name) /\ w'.cell? ⟨b, off + i * 6 + 1, none⟩ = some (.slice A1 s[i].cols.length c1) /\ w'.cell? ⟨b, off + i * 6 + 2, none⟩ = some (.slice A2 s[i].key.length c2) /\ w'.cell? ⟨b, off + i * 6 + 3, none⟩ = some (.slice A3 s[i].uniqs.length c3) /\ w'.cell? ⟨b, off + i * 6 + 4, none⟩ = some (.slice A4 s[i].checks.length c4) /\ w'.cell? ⟨b, off + i * 6 + 5, none⟩ = some (.slice A5 s[i].fks.length c5) /\ w'.cell? ⟨bd, od + i, none⟩ = some (.slice (some ⟨bl, ol, none⟩) db[i].rows.length cL) /\ w'.cell? ⟨g, 0, none⟩ = some (.int .i64 db[i].rows[k].id) /\ w'.cell? ⟨g, 1, none⟩ = some (.slice B1 db[i].rows[k].vals.length e1))
                  (first | go_keep | exact ⟨below_keep hb9 _ _ q0z, below_keep hb9 _ _ q1z, below_keep hb9 _ _ q2z, below_keep hb9 _ _ q3z, below_keep hb9 _ _ q4z, below_keep hb9 _ _ q5z, below_keep hb9 _ _ p0z, below_keep hb9 _ _ d0, below_keep hb9 _ _ d1⟩)
                  (first | (go_at_call 119; refine HC.out.mono ?_; rintro e w9 ⟨rfl, hb9⟩; rw [HV3.out]))
                have hl3_2_t := hld3_2_t.trans (hb9.mono hld3_2_t.size)
                have hb3_2_t := hb2_1_f.trans (hl3_2_t.mono hb2_1_f.size)
                have own3_2_t := Lib.hid (OwnG.below own2_1_f.out hl3_2_t)
                have RX := Lib.hid (RX.out.below hl3_2_t)
                clear HC d0 d1 p0z q0z q1z q2z q3z q4z q5z
                obtain ⟨⟨d0, d1⟩, -⟩ := RX.out.all2
                have q0z := below_keep hb3_2_t _ _ q0
                have q1z := below_keep hb3_2_t _ _ q1
                have q2z := below_keep hb3_2_t _ _ q2
                have q3z := below_keep hb3_2_t _ _ q3
                have q4z := below_keep hb3_2_t _ _ q4
                have q5z := below_keep hb3_2_t _ _ q5
                have p0z := below_keep hb3_2_t _ _ p0
                have HC := Lib.hid (specL5Refers (some ⟨b, off, none⟩) (some ⟨bd, od, none⟩) B1 s.length cS db.length cD db[i].rows[k].vals.length e1 s db i db[i].rows[k].vals wait _ _ _ w9 (hs.below TbR.stays hb3_2_t) (hd.below DtR.stays hb3_2_t) (hv.below VlR.stays hb3_2_t) hsn (by have := HLN.out; omega) hvn hlt (by have := HTS.out; unfold Tb.sz szL at this; omega) HX.out.2.2.2.2.2.1)
                cases he : refersB s db s[i] db[i].rows[k].vals wait
                · have HV4 := Lib.hid he
                  clear he
                  go_wp2_with fail
                  refine HC.out.mono ?_
                  rintro e w9 ⟨rfl, hb9⟩
                  rw [HV4.out]
                  have hl4_6_f := hb9
                  have hb4_6_f := hb3_2_t.trans (hl4_6_f.mono hb3_2_t.size)
                  have own4_6_f := Lib.hid (OwnG.below own3_2_t.out hl4_6_f)
                  have RX := Lib.hid (RX.out.below hl4_6_f)
                  clear HC d0 d1 p0z q0z q1z q2z q3z q4z q5z
                  obtain ⟨⟨d0, d1⟩, -⟩ := RX.out.all2
                  have hne := Lib.hid (own_ne_row own4_6_f.out RX.out (by decide))
                  go_wp2_with (at_builtin; refine wpList_append_own _ rfl _ _ 26 rfl w.heap.size 97 i0 (.agg #[.int .i64 0, .int .i64 0, .int .i64 0]) 3 24 Tryz.underlying26 H1.out H2.out H3.out H4.out rfl (by decide) _ _ _ rfl (World.ownsRow.alloc own4_6_f.out _) ⟨_, 0, none⟩ 1 1 (Fw.cells ⟨4, i, db[i].rows[k].id⟩) rfl rfl ?c14_6_f ?c24_6_f ?c34_6_f ?c44_6_f ?c54_6_f ?_)
                  case c14_6_f => exact cells_newAt _ (Fw.cells ⟨4, i, db[i].rows[k].id⟩) _ (by simp)
                  case c24_6_f => intro u hu; simp [Fw.cells] at hu; rcases hu with rfl | rfl | rfl <;> rfl
                  case c34_6_f => have := HLE.out; (try simp only [List.length_append, List.length_cons, List.length_nil]); unfold maxLen; omega
                  case c44_6_f => have := HLE.out; (try simp only [List.length_append, List.length_cons, List.length_nil]); omega
                  case c54_6_f => have := hb4_6_f.size; simp; omega
                  intro v4_6_f w9 hown3 hgrow _
                  have R := Lib.hid (OwnG.app own4_6_f.out hb4_6_f.size hown3 hgrow)
                  have RX := Lib.hid (grown_rowK hgrow (RX.out.alloc _) hne.out)
                  have hb4_6_f := hb4_6_f.trans R.out.2
                  have own4_6_f := Lib.hid R.out.1
                  clear hown3 hgrow hne R d0 d1
                  generalize hyz : y2_1_f ++ [⟨4, i, db[i].rows[k].id⟩] = y4_6_f at *
                  have HY4_6_f := Lib.hid hyz
                  clear hyz
                  have HLE := Lib.hid (show y4_6_f.length <= 4398046511108 by have h1 := HLE.out; rw [<- HY4_6_f.out, List.length_append, List.length_cons, List.length_nil]; omega)
                  have HT := Lib.hid (show dbFw s db wait i ++ (db[i].rows.take (k + 1)).flatMap (rowFw s db s[i] db[i].rows wait i) = y4_6_f by
                    rw [HFT.out, <- List.append_assoc, HYS.out]; unfold rowFw; rw [HV1.out, HV2.out, HV3.out, HV4.out, <- HY4_6_f.out, <- HY2_1_f.out, <- HY1_0_f.out]; simp [oneFw])
                  go_wp2_with fail
                  go_roundw
                  case rel => exact ⟨k + 1, by omega, by go_num, Lib.hid (by rw [HT.out]; exact own4_6_f.out), hb4_6_f⟩
                  case measure => simp [intOf]; omega
                · have HV4 := Lib.hid he
                  clear he
                  go_wp2_with fail
                  refine HC.out.mono ?_
                  rintro e w9 ⟨rfl, hb9⟩
                  rw [HV4.out]
                  have hl4_6_t := hb9
                  have hb4_6_t := hb3_2_t.trans (hl4_6_t.mono hb3_2_t.size)
                  have own4_6_t := Lib.hid (OwnG.below own3_2_t.out hl4_6_t)
                  have RX := Lib.hid (RX.out.below hl4_6_t)
                  clear HC d0 d1 p0z q0z q1z q2z q3z q4z q5z
                  have HT := Lib.hid (show dbFw s db wait i ++ (db[i].rows.take (k + 1)).flatMap (rowFw s db s[i] db[i].rows wait i) = y2_1_f by
                    rw [HFT.out, <- List.append_assoc, HYS.out]; unfold rowFw; rw [HV1.out, HV2.out, HV3.out, HV4.out, <- HY2_1_f.out, <- HY1_0_f.out]; simp [oneFw])
                  go_wp2_with fail
                  go_roundw
                  case rel => exact ⟨k + 1, by omega, by go_num, Lib.hid (by rw [HT.out]; exact own4_6_t.out), hb4_6_t⟩
                  case measure => simp [intOf]; omega
            · have HV2 := Lib.hid he
              clear he
              have hbd2_1_t := hb1_0_f.drew
              have hld2_1_t := (Below.refl w9.heap.size w9).drew
              go_region_held3 (fun w' => w'.cell? ⟨b, off + i * 6, none⟩ = some (.string s[i].name) /\ w'.cell? ⟨b, off + i * 6 + 1, none⟩ = some (.slice A1 s[i].cols.length c1) /\ w'.cell? ⟨b, off + i * 6 + 2, none⟩ = some (.slice A2 s[i].key.length c2) /\ w'.cell? ⟨b, off + i * 6 + 3, none⟩ = some (.slice A3 s[i].uniqs.length c3) /\ w'.cell? ⟨b, off + i * 6 + 4, none⟩ = some (.slice A4 s[i].checks.length c4) /\ w'.cell? ⟨b, off + i * 6 + 5, none⟩ = some (.slice A5 s[i].fks.length c5) /\ w'.cell? ⟨bd, od + i, none⟩ = some (.slice (some ⟨bl, ol, none⟩) db[i].rows.length cL) /\ w'.cell? ⟨g, 0, none⟩ = some (.int .i64 db[i].rows[k].id) /\ w'.cell? ⟨g, 1, none⟩ = some (.slice B1 db[i].rows[k].vals.length e1))
                (first | go_keep | exact ⟨below_keep hb9 _ _ q0z, below_keep hb9 _ _ q1z, below_keep hb9 _ _ q2z, below_keep hb9 _ _ q3z, below_keep hb9 _ _ q4z, below_keep hb9 _ _ q5z, below_keep hb9 _ _ p0z, below_keep hb9 _ _ d0, below_keep hb9 _ _ d1⟩)
                (first | (go_at_call 118; refine HC.out.mono ?_; rintro e w9 ⟨rfl, hb9⟩; rw [HV2.out]))
              have hl2_1_t := hld2_1_t.trans (hb9.mono hld2_1_t.size)
              have hb2_1_t := hb1_0_f.trans (hl2_1_t.mono hb1_0_f.size)
              have own2_1_t := Lib.hid (OwnG.below own1_0_f.out hl2_1_t)
              have RX := Lib.hid (RX.out.below hl2_1_t)
              clear HC d0 d1 p0z q0z q1z q2z q3z q4z q5z
              go_wp2_with fail
              obtain ⟨⟨d0, d1⟩, -⟩ := RX.out.all2
              have q0z := below_keep hb2_1_t _ _ q0
              have q1z := below_keep hb2_1_t _ _ q1
              have q2z := below_keep hb2_1_t _ _ q2
              have q3z := below_keep hb2_1_t _ _ q3
              have q4z := below_keep hb2_1_t _ _ q4
              have q5z := below_keep hb2_1_t _ _ q5
              have p0z := below_keep hb2_1_t _ _ p0
              have HC := Lib.hid (specL5Unique A1 A2 A3 A4 A5 (some ⟨bl, ol, none⟩) B1 s[i].cols.length c1 s[i].key.length c2 s[i].uniqs.length c3 s[i].checks.length c4 s[i].fks.length c5 db[i].rows.length cL db[i].rows[k].vals.length e1 s[i] db[i].rows db[i].rows[k] _ _ _ _ w9.drew ((s2.below IntR.stays hb2_1_t).drew IntR.stays) ((s3.below UqR.stays hb2_1_t).drew UqR.stays) ((hrw.below RwR.stays hb2_1_t).drew RwR.stays) ((hv.below VlR.stays hb2_1_t).drew VlR.stays) hrn (by have := HTS.out; unfold Tb.sz szL at this; omega) (by have := HTS.out; unfold Tb.sz szL at this; omega) HUM.out hvn (fun r hr => (HRI.out r hr).2.2.2.2.2.2) (fun r hr => (HRI.out r hr).2.2.2.1) HX.out.2.2.2.1 (fun u hu => ⟨fun r hr => (HRI.out r hr).2.2.2.2.1 u hu, HX.out.2.2.2.2.1 u hu⟩))
              cases he : uniqueB s[i] db[i].rows db[i].rows[k]
              · have HV3 := Lib.hid he
                clear he
                have hbd3_9_f := hb2_1_t.drew
                have hld3_9_f := (Below.refl w9.heap.size w9).drew
                go_region_held3 (fun w' => w'.cell? ⟨b, off + i * 6, none⟩ = some (.string s[i].name) /\ w'.cell? ⟨b, off + i * 6 + 1, none⟩ = some (.slice A1 s[i].cols.length c1) /\ w'.cell? ⟨b, off + i * 6 + 2, none⟩ = some (.slice A2 s[i].key.length c2) /\ w'.cell? ⟨b, off + i * 6 + 3, none⟩ = some (.slice A3 s[i].uniqs.length c3) /\ w'.cell? ⟨b, off + i * 6 + 4, none⟩ = some (.slice A4 s[i].checks.length c4) /\ w'.cell? ⟨b, off + i * 6 + 5, none⟩ = some (.slice A5 s[i].fks.length c5) /\ w'.cell? ⟨bd, od + i, none⟩ = some (.slice (some ⟨bl, ol, none⟩) db[i].rows.length cL) /\ w'.cell? ⟨g, 0, none⟩ = some (.int .i64 db[i].rows[k].id) /\ w'.cell? ⟨g, 1, none⟩ = some (.slice B1 db[i].rows[k].vals.length e1))
                  (first | go_keep | exact ⟨below_keep hb9 _ _ q0z, below_keep hb9 _ _ q1z, below_keep hb9 _ _ q2z, below_keep hb9 _ _ q3z, below_keep hb9 _ _ q4z, below_keep hb9 _ _ q5z, below_keep hb9 _ _ p0z, below_keep hb9 _ _ d0, below_keep hb9 _ _ d1⟩)
                  (first | (go_at_call 119; refine HC.out.mono ?_; rintro e w9 ⟨rfl, hb9⟩; rw [HV3.out]))
                have hl3_9_f := hld3_9_f.trans (hb9.mono hld3_9_f.size)
                have hb3_9_f := hb2_1_t.trans (hl3_9_f.mono hb2_1_t.size)
                have own3_9_f := Lib.hid (OwnG.below own2_1_t.out hl3_9_f)
                have RX := Lib.hid (RX.out.below hl3_9_f)
                clear HC d0 d1 p0z q0z q1z q2z q3z q4z q5z
                obtain ⟨⟨d0, d1⟩, -⟩ := RX.out.all2
                have hne := Lib.hid (own_ne_row own3_9_f.out RX.out (by decide))
                go_wp2_with (at_builtin; refine wpList_append_own _ rfl _ _ 26 rfl w.heap.size 97 i0 (.agg #[.int .i64 0, .int .i64 0, .int .i64 0]) 3 24 Tryz.underlying26 H1.out H2.out H3.out H4.out rfl (by decide) _ _ _ rfl (World.ownsRow.alloc own3_9_f.out _) ⟨_, 0, none⟩ 1 1 (Fw.cells ⟨3, i, db[i].rows[k].id⟩) rfl rfl ?c13_9_f ?c23_9_f ?c33_9_f ?c43_9_f ?c53_9_f ?_)
                case c13_9_f => exact cells_newAt _ (Fw.cells ⟨3, i, db[i].rows[k].id⟩) _ (by simp)
                case c23_9_f => intro u hu; simp [Fw.cells] at hu; rcases hu with rfl | rfl | rfl <;> rfl
                case c33_9_f => have := HLE.out; (try simp only [List.length_append, List.length_cons, List.length_nil]); unfold maxLen; omega
                case c43_9_f => have := HLE.out; (try simp only [List.length_append, List.length_cons, List.length_nil]); omega
                case c53_9_f => have := hb3_9_f.size; simp; omega
                intro v3_9_f w9 hown3 hgrow _
                have R := Lib.hid (OwnG.app own3_9_f.out hb3_9_f.size hown3 hgrow)
                have RX := Lib.hid (grown_rowK hgrow (RX.out.alloc _) hne.out)
                have hb3_9_f := hb3_9_f.trans R.out.2
                have own3_9_f := Lib.hid R.out.1
                clear hown3 hgrow hne R d0 d1
                generalize hyz : y1_0_f ++ [⟨3, i, db[i].rows[k].id⟩] = y3_9_f at *
                have HY3_9_f := Lib.hid hyz
                clear hyz
                have HLE := Lib.hid (show y3_9_f.length <= 4398046511107 by have h1 := HLE.out; rw [<- HY3_9_f.out, List.length_append, List.length_cons, List.length_nil]; omega)
                obtain ⟨⟨d0, d1⟩, -⟩ := RX.out.all2
                have q0z := below_keep hb3_9_f _ _ q0
                have q1z := below_keep hb3_9_f _ _ q1
                have q2z := below_keep hb3_9_f _ _ q2
                have q3z := below_keep hb3_9_f _ _ q3
                have q4z := below_keep hb3_9_f _ _ q4
                have q5z := below_keep hb3_9_f _ _ q5
                have p0z := below_keep hb3_9_f _ _ p0
                have HC := Lib.hid (specL5Refers (some ⟨b, off, none⟩) (some ⟨bd, od, none⟩) B1 s.length cS db.length cD db[i].rows[k].vals.length e1 s db i db[i].rows[k].vals wait _ _ _ w9 (hs.below TbR.stays hb3_9_f) (hd.below DtR.stays hb3_9_f) (hv.below VlR.stays hb3_9_f) hsn (by have := HLN.out; omega) hvn hlt (by have := HTS.out; unfold Tb.sz szL at this; omega) HX.out.2.2.2.2.2.1)
                cases he : refersB s db s[i] db[i].rows[k].vals wait
                · have HV4 := Lib.hid he
                  clear he
                  go_wp2_with fail
                  refine HC.out.mono ?_
                  rintro e w9 ⟨rfl, hb9⟩
                  rw [HV4.out]
                  have hl4_10_f := hb9
                  have hb4_10_f := hb3_9_f.trans (hl4_10_f.mono hb3_9_f.size)
                  have own4_10_f := Lib.hid (OwnG.below own3_9_f.out hl4_10_f)
                  have RX := Lib.hid (RX.out.below hl4_10_f)
                  clear HC d0 d1 p0z q0z q1z q2z q3z q4z q5z
                  obtain ⟨⟨d0, d1⟩, -⟩ := RX.out.all2
                  have hne := Lib.hid (own_ne_row own4_10_f.out RX.out (by decide))
                  go_wp2_with (at_builtin; refine wpList_append_own _ rfl _ _ 26 rfl w.heap.size 97 i0 (.agg #[.int .i64 0, .int .i64 0, .int .i64 0]) 3 24 Tryz.underlying26 H1.out H2.out H3.out H4.out rfl (by decide) _ _ _ rfl (World.ownsRow.alloc own4_10_f.out _) ⟨_, 0, none⟩ 1 1 (Fw.cells ⟨4, i, db[i].rows[k].id⟩) rfl rfl ?c14_10_f ?c24_10_f ?c34_10_f ?c44_10_f ?c54_10_f ?_)
                  case c14_10_f => exact cells_newAt _ (Fw.cells ⟨4, i, db[i].rows[k].id⟩) _ (by simp)
                  case c24_10_f => intro u hu; simp [Fw.cells] at hu; rcases hu with rfl | rfl | rfl <;> rfl
                  case c34_10_f => have := HLE.out; (try simp only [List.length_append, List.length_cons, List.length_nil]); unfold maxLen; omega
                  case c44_10_f => have := HLE.out; (try simp only [List.length_append, List.length_cons, List.length_nil]); omega
                  case c54_10_f => have := hb4_10_f.size; simp; omega
                  intro v4_10_f w9 hown3 hgrow _
                  have R := Lib.hid (OwnG.app own4_10_f.out hb4_10_f.size hown3 hgrow)
                  have RX := Lib.hid (grown_rowK hgrow (RX.out.alloc _) hne.out)
                  have hb4_10_f := hb4_10_f.trans R.out.2
                  have own4_10_f := Lib.hid R.out.1
                  clear hown3 hgrow hne R d0 d1
                  generalize hyz : y3_9_f ++ [⟨4, i, db[i].rows[k].id⟩] = y4_10_f at *
                  have HY4_10_f := Lib.hid hyz
                  clear hyz
                  have HLE := Lib.hid (show y4_10_f.length <= 4398046511108 by have h1 := HLE.out; rw [<- HY4_10_f.out, List.length_append, List.length_cons, List.length_nil]; omega)
                  have HT := Lib.hid (show dbFw s db wait i ++ (db[i].rows.take (k + 1)).flatMap (rowFw s db s[i] db[i].rows wait i) = y4_10_f by
                    rw [HFT.out, <- List.append_assoc, HYS.out]; unfold rowFw; rw [HV1.out, HV2.out, HV3.out, HV4.out, <- HY4_10_f.out, <- HY3_9_f.out, <- HY1_0_f.out]; simp [oneFw])
                  go_wp2_with fail
                  go_roundw
                  case rel => exact ⟨k + 1, by omega, by go_num, Lib.hid (by rw [HT.out]; exact own4_10_f.out), hb4_10_f⟩
                  case measure => simp [intOf]; omega
                · have HV4 := Lib.hid he
                  clear he
                  go_wp2_with fail
                  refine HC.out.mono ?_
                  rintro e w9 ⟨rfl, hb9⟩
                  rw [HV4.out]
                  have hl4_10_t := hb9
                  have hb4_10_t := hb3_9_f.trans (hl4_10_t.mono hb3_9_f.size)
                  have own4_10_t := Lib.hid (OwnG.below own3_9_f.out hl4_10_t)
                  have RX := Lib.hid (RX.out.below hl4_10_t)
                  clear HC d0 d1 p0z q0z q1z q2z q3z q4z q5z
                  have HT := Lib.hid (show dbFw s db wait i ++ (db[i].rows.take (k + 1)).flatMap (rowFw s db s[i] db[i].rows wait i) = y3_9_f by
                    rw [HFT.out, <- List.append_assoc, HYS.out]; unfold rowFw; rw [HV1.out, HV2.out, HV3.out, HV4.out, <- HY3_9_f.out, <- HY1_0_f.out]; simp [oneFw])
                  go_wp2_with fail
                  go_roundw
                  case rel => exact ⟨k + 1, by omega, by go_num, Lib.hid (by rw [HT.out]; exact own4_10_t.out), hb4_10_t⟩
                  case measure => simp [intOf]; omega
              · have HV3 := Lib.hid he
                clear he
                have hbd3_9_t := hb2_1_t.drew
                have hld3_9_t := (Below.refl w9.heap.size w9).drew
                go_region_held3 (fun w' => w'.cell? ⟨b, off + i * 6, none⟩ = some (.string s[i].name) /\ w'.cell? ⟨b, off + i * 6 + 1, none⟩ = some (.slice A1 s[i].cols.length c1) /\ w'.cell? ⟨b, off + i * 6 + 2, none⟩ = some (.slice A2 s[i].key.length c2) /\ w'.cell? ⟨b, off + i * 6 + 3, none⟩ = some (.slice A3 s[i].uniqs.length c3) /\ w'.cell? ⟨b, off + i * 6 + 4, none⟩ = some (.slice A4 s[i].checks.length c4) /\ w'.cell? ⟨b, off + i * 6 + 5, none⟩ = some (.slice A5 s[i].fks.length c5) /\ w'.cell? ⟨bd, od + i, none⟩ = some (.slice (some ⟨bl, ol, none⟩) db[i].rows.length cL) /\ w'.cell? ⟨g, 0, none⟩ = some (.int .i64 db[i].rows[k].id) /\ w'.cell? ⟨g, 1, none⟩ = some (.slice B1 db[i].rows[k].vals.length e1))
                  (first | go_keep | exact ⟨below_keep hb9 _ _ q0z, below_keep hb9 _ _ q1z, below_keep hb9 _ _ q2z, below_keep hb9 _ _ q3z, below_keep hb9 _ _ q4z, below_keep hb9 _ _ q5z, below_keep hb9 _ _ p0z, below_keep hb9 _ _ d0, below_keep hb9 _ _ d1⟩)
                  (first | (go_at_call 119; refine HC.out.mono ?_; rintro e w9 ⟨rfl, hb9⟩; rw [HV3.out]))
                have hl3_9_t := hld3_9_t.trans (hb9.mono hld3_9_t.size)
                have hb3_9_t := hb2_1_t.trans (hl3_9_t.mono hb2_1_t.size)
                have own3_9_t := Lib.hid (OwnG.below own2_1_t.out hl3_9_t)
                have RX := Lib.hid (RX.out.below hl3_9_t)
                clear HC d0 d1 p0z q0z q1z q2z q3z q4z q5z
                obtain ⟨⟨d0, d1⟩, -⟩ := RX.out.all2
                have q0z := below_keep hb3_9_t _ _ q0
                have q1z := below_keep hb3_9_t _ _ q1
                have q2z := below_keep hb3_9_t _ _ q2
                have q3z := below_keep hb3_9_t _ _ q3
                have q4z := below_keep hb3_9_t _ _ q4
                have q5z := below_keep hb3_9_t _ _ q5
                have p0z := below_keep hb3_9_t _ _ p0
                have HC := Lib.hid (specL5Refers (some ⟨b, off, none⟩) (some ⟨bd, od, none⟩) B1 s.length cS db.length cD db[i].rows[k].vals.length e1 s db i db[i].rows[k].vals wait _ _ _ w9 (hs.below TbR.stays hb3_9_t) (hd.below DtR.stays hb3_9_t) (hv.below VlR.stays hb3_9_t) hsn (by have := HLN.out; omega) hvn hlt (by have := HTS.out; unfold Tb.sz szL at this; omega) HX.out.2.2.2.2.2.1)
                cases he : refersB s db s[i] db[i].rows[k].vals wait
                · have HV4 := Lib.hid he
                  clear he
                  go_wp2_with fail
                  refine HC.out.mono ?_
                  rintro e w9 ⟨rfl, hb9⟩
                  rw [HV4.out]
                  have hl4_13_f := hb9
                  have hb4_13_f := hb3_9_t.trans (hl4_13_f.mono hb3_9_t.size)
                  have own4_13_f := Lib.hid (OwnG.below own3_9_t.out hl4_13_f)
                  have RX := Lib.hid (RX.out.below hl4_13_f)
                  clear HC d0 d1 p0z q0z q1z q2z q3z q4z q5z
                  obtain ⟨⟨d0, d1⟩, -⟩ := RX.out.all2
                  have hne := Lib.hid (own_ne_row own4_13_f.out RX.out (by decide))
                  go_wp2_with (at_builtin; refine wpList_append_own _ rfl _ _ 26 rfl w.heap.size 97 i0 (.agg #[.int .i64 0, .int .i64 0, .int .i64 0]) 3 24 Tryz.underlying26 H1.out H2.out H3.out H4.out rfl (by decide) _ _ _ rfl (World.ownsRow.alloc own4_13_f.out _) ⟨_, 0, none⟩ 1 1 (Fw.cells ⟨4, i, db[i].rows[k].id⟩) rfl rfl ?c14_13_f ?c24_13_f ?c34_13_f ?c44_13_f ?c54_13_f ?_)
                  case c14_13_f => exact cells_newAt _ (Fw.cells ⟨4, i, db[i].rows[k].id⟩) _ (by simp)
                  case c24_13_f => intro u hu; simp [Fw.cells] at hu; rcases hu with rfl | rfl | rfl <;> rfl
                  case c34_13_f => have := HLE.out; (try simp only [List.length_append, List.length_cons, List.length_nil]); unfold maxLen; omega
                  case c44_13_f => have := HLE.out; (try simp only [List.length_append, List.length_cons, List.length_nil]); omega
                  case c54_13_f => have := hb4_13_f.size; simp; omega
                  intro v4_13_f w9 hown3 hgrow _
                  have R := Lib.hid (OwnG.app own4_13_f.out hb4_13_f.size hown3 hgrow)
                  have RX := Lib.hid (grown_rowK hgrow (RX.out.alloc _) hne.out)
                  have hb4_13_f := hb4_13_f.trans R.out.2
                  have own4_13_f := Lib.hid R.out.1
                  clear hown3 hgrow hne R d0 d1
                  generalize hyz : y1_0_f ++ [⟨4, i, db[i].rows[k].id⟩] = y4_13_f at *
                  have HY4_13_f := Lib.hid hyz
                  clear hyz
                  have HLE := Lib.hid (show y4_13_f.length <= 4398046511108 by have h1 := HLE.out; rw [<- HY4_13_f.out, List.length_append, List.length_cons, List.length_nil]; omega)
                  have HT := Lib.hid (show dbFw s db wait i ++ (db[i].rows.take (k + 1)).flatMap (rowFw s db s[i] db[i].rows wait i) = y4_13_f by
                    rw [HFT.out, <- List.append_assoc, HYS.out]; unfold rowFw; rw [HV1.out, HV2.out, HV3.out, HV4.out, <- HY4_13_f.out, <- HY1_0_f.out]; simp [oneFw])
                  go_wp2_with fail
                  go_roundw
                  case rel => exact ⟨k + 1, by omega, by go_num, Lib.hid (by rw [HT.out]; exact own4_13_f.out), hb4_13_f⟩
                  case measure => simp [intOf]; omega
                · have HV4 := Lib.hid he
                  clear he
                  go_wp2_with fail
                  refine HC.out.mono ?_
                  rintro e w9 ⟨rfl, hb9⟩
                  rw [HV4.out]
                  have hl4_13_t := hb9
                  have hb4_13_t := hb3_9_t.trans (hl4_13_t.mono hb3_9_t.size)
                  have own4_13_t := Lib.hid (OwnG.below own3_9_t.out hl4_13_t)
                  have RX := Lib.hid (RX.out.below hl4_13_t)
                  clear HC d0 d1 p0z q0z q1z q2z q3z q4z q5z
                  have HT := Lib.hid (show dbFw s db wait i ++ (db[i].rows.take (k + 1)).flatMap (rowFw s db s[i] db[i].rows wait i) = y1_0_f by
                    rw [HFT.out, <- List.append_assoc, HYS.out]; unfold rowFw; rw [HV1.out, HV2.out, HV3.out, HV4.out, <- HY1_0_f.out]; simp [oneFw])
                  go_wp2_with fail
                  go_roundw
                  case rel => exact ⟨k + 1, by omega, by go_num, Lib.hid (by rw [HT.out]; exact own4_13_t.out), hb4_13_t⟩
                  case measure => simp [intOf]; omega
          · have HV1 := Lib.hid he
            clear he
            have hbd1_0_t := hbW.drew
            have hld1_0_t := (Below.refl W0.heap.size W0).drew
            go_region_held3 (fun w' => w'.cell? ⟨b, off + i * 6, none⟩ = some (.string s[i].name) /\ w'.cell? ⟨b, off + i * 6 + 1, none⟩ = some (.slice A1 s[i].cols.length c1) /\ w'.cell? ⟨b, off + i * 6 + 2, none⟩ = some (.slice A2 s[i].key.length c2) /\ w'.cell? ⟨b, off + i * 6 + 3, none⟩ = some (.slice A3 s[i].uniqs.length c3) /\ w'.cell? ⟨b, off + i * 6 + 4, none⟩ = some (.slice A4 s[i].checks.length c4) /\ w'.cell? ⟨b, off + i * 6 + 5, none⟩ = some (.slice A5 s[i].fks.length c5) /\ w'.cell? ⟨bd, od + i, none⟩ = some (.slice (some ⟨bl, ol, none⟩) db[i].rows.length cL) /\ w'.cell? ⟨g, 0, none⟩ = some (.int .i64 db[i].rows[k].id) /\ w'.cell? ⟨g, 1, none⟩ = some (.slice B1 db[i].rows[k].vals.length e1))
              (first | go_keep | exact ⟨below_keep hb9 _ _ q0z, below_keep hb9 _ _ q1z, below_keep hb9 _ _ q2z, below_keep hb9 _ _ q3z, below_keep hb9 _ _ q4z, below_keep hb9 _ _ q5z, below_keep hb9 _ _ p0z, below_keep hb9 _ _ d0, below_keep hb9 _ _ d1⟩)
              (first | (go_at_call 117; refine HC.out.mono ?_; rintro e w9 ⟨rfl, hb9⟩; rw [HV1.out]))
            have hl1_0_t := hld1_0_t.trans (hb9.mono hld1_0_t.size)
            have hb1_0_t := hbW.trans (hl1_0_t.mono hbW.size)
            have own1_0_t := Lib.hid (OwnG.below own.out hl1_0_t)
            have RX := Lib.hid (RX.out.below hl1_0_t)
            clear HC d0 d1 p0z q0z q1z q2z q3z q4z q5z
            go_wp2_with fail
            obtain ⟨⟨d0, d1⟩, -⟩ := RX.out.all2
            have q0z := below_keep hb1_0_t _ _ q0
            have q1z := below_keep hb1_0_t _ _ q1
            have q2z := below_keep hb1_0_t _ _ q2
            have q3z := below_keep hb1_0_t _ _ q3
            have q4z := below_keep hb1_0_t _ _ q4
            have q5z := below_keep hb1_0_t _ _ q5
            have p0z := below_keep hb1_0_t _ _ p0
            have HC := Lib.hid (specChecks A4 B1 s[i].checks.length c4 db[i].rows[k].vals.length e1 (.string s[i].name) (.slice A1 s[i].cols.length c1) (.slice A2 s[i].key.length c2) (.slice A3 s[i].uniqs.length c3) (.slice A5 s[i].fks.length c5) s[i].checks db[i].rows[k].vals _ w9.drew ((s4.below CkR.stays hb1_0_t).drew CkR.stays) (Sl.cellz (fun _ => rfl) ((hv.below VlR.stays hb1_0_t).drew VlR.stays)) (by have := HTS.out; unfold Tb.sz at this; omega) hvn HX.out.2.1 HX.out.2.2.1)
            cases he : checksB s[i].checks db[i].rows[k].vals
            · have HV2 := Lib.hid he
              clear he
              have hbd2_16_f := hb1_0_t.drew
              have hld2_16_f := (Below.refl w9.heap.size w9).drew
              go_region_held3 (fun w' => w'.cell? ⟨b, off + i * 6, none⟩ = some (.string s[i].name) /\ w'.cell? ⟨b, off + i * 6 + 1, none⟩ = some (.slice A1 s[i].cols.length c1) /\ w'.cell? ⟨b, off + i * 6 + 2, none⟩ = some (.slice A2 s[i].key.length c2) /\ w'.cell? ⟨b, off + i * 6 + 3, none⟩ = some (.slice A3 s[i].uniqs.length c3) /\ w'.cell? ⟨b, off + i * 6 + 4, none⟩ = some (.slice A4 s[i].checks.length c4) /\ w'.cell? ⟨b, off + i * 6 + 5, none⟩ = some (.slice A5 s[i].fks.length c5) /\ w'.cell? ⟨bd, od + i, none⟩ = some (.slice (some ⟨bl, ol, none⟩) db[i].rows.length cL) /\ w'.cell? ⟨g, 0, none⟩ = some (.int .i64 db[i].rows[k].id) /\ w'.cell? ⟨g, 1, none⟩ = some (.slice B1 db[i].rows[k].vals.length e1))
                (first | go_keep | exact ⟨below_keep hb9 _ _ q0z, below_keep hb9 _ _ q1z, below_keep hb9 _ _ q2z, below_keep hb9 _ _ q3z, below_keep hb9 _ _ q4z, below_keep hb9 _ _ q5z, below_keep hb9 _ _ p0z, below_keep hb9 _ _ d0, below_keep hb9 _ _ d1⟩)
                (first | (go_at_call 118; refine HC.out.mono ?_; rintro e w9 ⟨rfl, hb9⟩; rw [HV2.out]))
              have hl2_16_f := hld2_16_f.trans (hb9.mono hld2_16_f.size)
              have hb2_16_f := hb1_0_t.trans (hl2_16_f.mono hb1_0_t.size)
              have own2_16_f := Lib.hid (OwnG.below own1_0_t.out hl2_16_f)
              have RX := Lib.hid (RX.out.below hl2_16_f)
              clear HC d0 d1 p0z q0z q1z q2z q3z q4z q5z
              obtain ⟨⟨d0, d1⟩, -⟩ := RX.out.all2
              have hne := Lib.hid (own_ne_row own2_16_f.out RX.out (by decide))
              go_wp2_with (at_builtin; refine wpList_append_own _ rfl _ _ 26 rfl w.heap.size 97 i0 (.agg #[.int .i64 0, .int .i64 0, .int .i64 0]) 3 24 Tryz.underlying26 H1.out H2.out H3.out H4.out rfl (by decide) _ _ _ rfl (World.ownsRow.alloc own2_16_f.out _) ⟨_, 0, none⟩ 1 1 (Fw.cells ⟨2, i, db[i].rows[k].id⟩) rfl rfl ?c12_16_f ?c22_16_f ?c32_16_f ?c42_16_f ?c52_16_f ?_)
              case c12_16_f => exact cells_newAt _ (Fw.cells ⟨2, i, db[i].rows[k].id⟩) _ (by simp)
              case c22_16_f => intro u hu; simp [Fw.cells] at hu; rcases hu with rfl | rfl | rfl <;> rfl
              case c32_16_f => have := HLE.out; (try simp only [List.length_append, List.length_cons, List.length_nil]); unfold maxLen; omega
              case c42_16_f => have := HLE.out; (try simp only [List.length_append, List.length_cons, List.length_nil]); omega
              case c52_16_f => have := hb2_16_f.size; simp; omega
              intro v2_16_f w9 hown3 hgrow _
              have R := Lib.hid (OwnG.app own2_16_f.out hb2_16_f.size hown3 hgrow)
              have RX := Lib.hid (grown_rowK hgrow (RX.out.alloc _) hne.out)
              have hb2_16_f := hb2_16_f.trans R.out.2
              have own2_16_f := Lib.hid R.out.1
              clear hown3 hgrow hne R d0 d1
              generalize hyz : ys ++ [⟨2, i, db[i].rows[k].id⟩] = y2_16_f at *
              have HY2_16_f := Lib.hid hyz
              clear hyz
              have HLE := Lib.hid (show y2_16_f.length <= 4398046511106 by have h1 := HLE.out; rw [<- HY2_16_f.out, List.length_append, List.length_cons, List.length_nil]; omega)
              go_wp2_with fail
              obtain ⟨⟨d0, d1⟩, -⟩ := RX.out.all2
              have q0z := below_keep hb2_16_f _ _ q0
              have q1z := below_keep hb2_16_f _ _ q1
              have q2z := below_keep hb2_16_f _ _ q2
              have q3z := below_keep hb2_16_f _ _ q3
              have q4z := below_keep hb2_16_f _ _ q4
              have q5z := below_keep hb2_16_f _ _ q5
              have p0z := below_keep hb2_16_f _ _ p0
              have HC := Lib.hid (specL5Unique A1 A2 A3 A4 A5 (some ⟨bl, ol, none⟩) B1 s[i].cols.length c1 s[i].key.length c2 s[i].uniqs.length c3 s[i].checks.length c4 s[i].fks.length c5 db[i].rows.length cL db[i].rows[k].vals.length e1 s[i] db[i].rows db[i].rows[k] _ _ _ _ w9.drew ((s2.below IntR.stays hb2_16_f).drew IntR.stays) ((s3.below UqR.stays hb2_16_f).drew UqR.stays) ((hrw.below RwR.stays hb2_16_f).drew RwR.stays) ((hv.below VlR.stays hb2_16_f).drew VlR.stays) hrn (by have := HTS.out; unfold Tb.sz szL at this; omega) (by have := HTS.out; unfold Tb.sz szL at this; omega) HUM.out hvn (fun r hr => (HRI.out r hr).2.2.2.2.2.2) (fun r hr => (HRI.out r hr).2.2.2.1) HX.out.2.2.2.1 (fun u hu => ⟨fun r hr => (HRI.out r hr).2.2.2.2.1 u hu, HX.out.2.2.2.2.1 u hu⟩))
              cases he : uniqueB s[i] db[i].rows db[i].rows[k]
              · have HV3 := Lib.hid he
                clear he
                have hbd3_17_f := hb2_16_f.drew
                have hld3_17_f := (Below.refl w9.heap.size w9).drew
                go_region_held3 (fun w' => w'.cell? ⟨b, off + i * 6, none⟩ = some (.string s[i].name) /\ w'.cell? ⟨b, off + i * 6 + 1, none⟩ = some (.slice A1 s[i].cols.length c1) /\ w'.cell? ⟨b, off + i * 6 + 2, none⟩ = some (.slice A2 s[i].key.length c2) /\ w'.cell? ⟨b, off + i * 6 + 3, none⟩ = some (.slice A3 s[i].uniqs.length c3) /\ w'.cell? ⟨b, off + i * 6 + 4, none⟩ = some (.slice A4 s[i].checks.length c4) /\ w'.cell? ⟨b, off + i * 6 + 5, none⟩ = some (.slice A5 s[i].fks.length c5) /\ w'.cell? ⟨bd, od + i, none⟩ = some (.slice (some ⟨bl, ol, none⟩) db[i].rows.length cL) /\ w'.cell? ⟨g, 0, none⟩ = some (.int .i64 db[i].rows[k].id) /\ w'.cell? ⟨g, 1, none⟩ = some (.slice B1 db[i].rows[k].vals.length e1))
                  (first | go_keep | exact ⟨below_keep hb9 _ _ q0z, below_keep hb9 _ _ q1z, below_keep hb9 _ _ q2z, below_keep hb9 _ _ q3z, below_keep hb9 _ _ q4z, below_keep hb9 _ _ q5z, below_keep hb9 _ _ p0z, below_keep hb9 _ _ d0, below_keep hb9 _ _ d1⟩)
                  (first | (go_at_call 119; refine HC.out.mono ?_; rintro e w9 ⟨rfl, hb9⟩; rw [HV3.out]))
                have hl3_17_f := hld3_17_f.trans (hb9.mono hld3_17_f.size)
                have hb3_17_f := hb2_16_f.trans (hl3_17_f.mono hb2_16_f.size)
                have own3_17_f := Lib.hid (OwnG.below own2_16_f.out hl3_17_f)
                have RX := Lib.hid (RX.out.below hl3_17_f)
                clear HC d0 d1 p0z q0z q1z q2z q3z q4z q5z
                obtain ⟨⟨d0, d1⟩, -⟩ := RX.out.all2
                have hne := Lib.hid (own_ne_row own3_17_f.out RX.out (by decide))
                go_wp2_with (at_builtin; refine wpList_append_own _ rfl _ _ 26 rfl w.heap.size 97 i0 (.agg #[.int .i64 0, .int .i64 0, .int .i64 0]) 3 24 Tryz.underlying26 H1.out H2.out H3.out H4.out rfl (by decide) _ _ _ rfl (World.ownsRow.alloc own3_17_f.out _) ⟨_, 0, none⟩ 1 1 (Fw.cells ⟨3, i, db[i].rows[k].id⟩) rfl rfl ?c13_17_f ?c23_17_f ?c33_17_f ?c43_17_f ?c53_17_f ?_)
                case c13_17_f => exact cells_newAt _ (Fw.cells ⟨3, i, db[i].rows[k].id⟩) _ (by simp)
                case c23_17_f => intro u hu; simp [Fw.cells] at hu; rcases hu with rfl | rfl | rfl <;> rfl
                case c33_17_f => have := HLE.out; (try simp only [List.length_append, List.length_cons, List.length_nil]); unfold maxLen; omega
                case c43_17_f => have := HLE.out; (try simp only [List.length_append, List.length_cons, List.length_nil]); omega
                case c53_17_f => have := hb3_17_f.size; simp; omega
                intro v3_17_f w9 hown3 hgrow _
                have R := Lib.hid (OwnG.app own3_17_f.out hb3_17_f.size hown3 hgrow)
                have RX := Lib.hid (grown_rowK hgrow (RX.out.alloc _) hne.out)
                have hb3_17_f := hb3_17_f.trans R.out.2
                have own3_17_f := Lib.hid R.out.1
                clear hown3 hgrow hne R d0 d1
                generalize hyz : y2_16_f ++ [⟨3, i, db[i].rows[k].id⟩] = y3_17_f at *
                have HY3_17_f := Lib.hid hyz
                clear hyz
                have HLE := Lib.hid (show y3_17_f.length <= 4398046511107 by have h1 := HLE.out; rw [<- HY3_17_f.out, List.length_append, List.length_cons, List.length_nil]; omega)
                obtain ⟨⟨d0, d1⟩, -⟩ := RX.out.all2
                have q0z := below_keep hb3_17_f _ _ q0
                have q1z := below_keep hb3_17_f _ _ q1
                have q2z := below_keep hb3_17_f _ _ q2
                have q3z := below_keep hb3_17_f _ _ q3
                have q4z := below_keep hb3_17_f _ _ q4
                have q5z := below_keep hb3_17_f _ _ q5
                have p0z := below_keep hb3_17_f _ _ p0
                have HC := Lib.hid (specL5Refers (some ⟨b, off, none⟩) (some ⟨bd, od, none⟩) B1 s.length cS db.length cD db[i].rows[k].vals.length e1 s db i db[i].rows[k].vals wait _ _ _ w9 (hs.below TbR.stays hb3_17_f) (hd.below DtR.stays hb3_17_f) (hv.below VlR.stays hb3_17_f) hsn (by have := HLN.out; omega) hvn hlt (by have := HTS.out; unfold Tb.sz szL at this; omega) HX.out.2.2.2.2.2.1)
                cases he : refersB s db s[i] db[i].rows[k].vals wait
                · have HV4 := Lib.hid he
                  clear he
                  go_wp2_with fail
                  refine HC.out.mono ?_
                  rintro e w9 ⟨rfl, hb9⟩
                  rw [HV4.out]
                  have hl4_18_f := hb9
                  have hb4_18_f := hb3_17_f.trans (hl4_18_f.mono hb3_17_f.size)
                  have own4_18_f := Lib.hid (OwnG.below own3_17_f.out hl4_18_f)
                  have RX := Lib.hid (RX.out.below hl4_18_f)
                  clear HC d0 d1 p0z q0z q1z q2z q3z q4z q5z
                  obtain ⟨⟨d0, d1⟩, -⟩ := RX.out.all2
                  have hne := Lib.hid (own_ne_row own4_18_f.out RX.out (by decide))
                  go_wp2_with (at_builtin; refine wpList_append_own _ rfl _ _ 26 rfl w.heap.size 97 i0 (.agg #[.int .i64 0, .int .i64 0, .int .i64 0]) 3 24 Tryz.underlying26 H1.out H2.out H3.out H4.out rfl (by decide) _ _ _ rfl (World.ownsRow.alloc own4_18_f.out _) ⟨_, 0, none⟩ 1 1 (Fw.cells ⟨4, i, db[i].rows[k].id⟩) rfl rfl ?c14_18_f ?c24_18_f ?c34_18_f ?c44_18_f ?c54_18_f ?_)
                  case c14_18_f => exact cells_newAt _ (Fw.cells ⟨4, i, db[i].rows[k].id⟩) _ (by simp)
                  case c24_18_f => intro u hu; simp [Fw.cells] at hu; rcases hu with rfl | rfl | rfl <;> rfl
                  case c34_18_f => have := HLE.out; (try simp only [List.length_append, List.length_cons, List.length_nil]); unfold maxLen; omega
                  case c44_18_f => have := HLE.out; (try simp only [List.length_append, List.length_cons, List.length_nil]); omega
                  case c54_18_f => have := hb4_18_f.size; simp; omega
                  intro v4_18_f w9 hown3 hgrow _
                  have R := Lib.hid (OwnG.app own4_18_f.out hb4_18_f.size hown3 hgrow)
                  have RX := Lib.hid (grown_rowK hgrow (RX.out.alloc _) hne.out)
                  have hb4_18_f := hb4_18_f.trans R.out.2
                  have own4_18_f := Lib.hid R.out.1
                  clear hown3 hgrow hne R d0 d1
                  generalize hyz : y3_17_f ++ [⟨4, i, db[i].rows[k].id⟩] = y4_18_f at *
                  have HY4_18_f := Lib.hid hyz
                  clear hyz
                  have HLE := Lib.hid (show y4_18_f.length <= 4398046511108 by have h1 := HLE.out; rw [<- HY4_18_f.out, List.length_append, List.length_cons, List.length_nil]; omega)
                  have HT := Lib.hid (show dbFw s db wait i ++ (db[i].rows.take (k + 1)).flatMap (rowFw s db s[i] db[i].rows wait i) = y4_18_f by
                    rw [HFT.out, <- List.append_assoc, HYS.out]; unfold rowFw; rw [HV1.out, HV2.out, HV3.out, HV4.out, <- HY4_18_f.out, <- HY3_17_f.out, <- HY2_16_f.out]; simp [oneFw])
                  go_wp2_with fail
                  go_roundw
                  case rel => exact ⟨k + 1, by omega, by go_num, Lib.hid (by rw [HT.out]; exact own4_18_f.out), hb4_18_f⟩
                  case measure => simp [intOf]; omega
                · have HV4 := Lib.hid he
                  clear he
                  go_wp2_with fail
                  refine HC.out.mono ?_
                  rintro e w9 ⟨rfl, hb9⟩
                  rw [HV4.out]
                  have hl4_18_t := hb9
                  have hb4_18_t := hb3_17_f.trans (hl4_18_t.mono hb3_17_f.size)
                  have own4_18_t := Lib.hid (OwnG.below own3_17_f.out hl4_18_t)
                  have RX := Lib.hid (RX.out.below hl4_18_t)
                  clear HC d0 d1 p0z q0z q1z q2z q3z q4z q5z
                  have HT := Lib.hid (show dbFw s db wait i ++ (db[i].rows.take (k + 1)).flatMap (rowFw s db s[i] db[i].rows wait i) = y3_17_f by
                    rw [HFT.out, <- List.append_assoc, HYS.out]; unfold rowFw; rw [HV1.out, HV2.out, HV3.out, HV4.out, <- HY3_17_f.out, <- HY2_16_f.out]; simp [oneFw])
                  go_wp2_with fail
                  go_roundw
                  case rel => exact ⟨k + 1, by omega, by go_num, Lib.hid (by rw [HT.out]; exact own4_18_t.out), hb4_18_t⟩
                  case measure => simp [intOf]; omega
              · have HV3 := Lib.hid he
                clear he
                have hbd3_17_t := hb2_16_f.drew
                have hld3_17_t := (Below.refl w9.heap.size w9).drew
                go_region_held3 (fun w' => w'.cell? ⟨b, off + i * 6, none⟩ = some (.string s[i].name) /\ w'.cell? ⟨b, off + i * 6 + 1, none⟩ = some (.slice A1 s[i].cols.length c1) /\ w'.cell? ⟨b, off + i * 6 + 2, none⟩ = some (.slice A2 s[i].key.length c2) /\ w'.cell? ⟨b, off + i * 6 + 3, none⟩ = some (.slice A3 s[i].uniqs.length c3) /\ w'.cell? ⟨b, off + i * 6 + 4, none⟩ = some (.slice A4 s[i].checks.length c4) /\ w'.cell? ⟨b, off + i * 6 + 5, none⟩ = some (.slice A5 s[i].fks.length c5) /\ w'.cell? ⟨bd, od + i, none⟩ = some (.slice (some ⟨bl, ol, none⟩) db[i].rows.length cL) /\ w'.cell? ⟨g, 0, none⟩ = some (.int .i64 db[i].rows[k].id) /\ w'.cell? ⟨g, 1, none⟩ = some (.slice B1 db[i].rows[k].vals.length e1))
                  (first | go_keep | exact ⟨below_keep hb9 _ _ q0z, below_keep hb9 _ _ q1z, below_keep hb9 _ _ q2z, below_keep hb9 _ _ q3z, below_keep hb9 _ _ q4z, below_keep hb9 _ _ q5z, below_keep hb9 _ _ p0z, below_keep hb9 _ _ d0, below_keep hb9 _ _ d1⟩)
                  (first | (go_at_call 119; refine HC.out.mono ?_; rintro e w9 ⟨rfl, hb9⟩; rw [HV3.out]))
                have hl3_17_t := hld3_17_t.trans (hb9.mono hld3_17_t.size)
                have hb3_17_t := hb2_16_f.trans (hl3_17_t.mono hb2_16_f.size)
                have own3_17_t := Lib.hid (OwnG.below own2_16_f.out hl3_17_t)
                have RX := Lib.hid (RX.out.below hl3_17_t)
                clear HC d0 d1 p0z q0z q1z q2z q3z q4z q5z
                obtain ⟨⟨d0, d1⟩, -⟩ := RX.out.all2
                have q0z := below_keep hb3_17_t _ _ q0
                have q1z := below_keep hb3_17_t _ _ q1
                have q2z := below_keep hb3_17_t _ _ q2
                have q3z := below_keep hb3_17_t _ _ q3
                have q4z := below_keep hb3_17_t _ _ q4
                have q5z := below_keep hb3_17_t _ _ q5
                have p0z := below_keep hb3_17_t _ _ p0
                have HC := Lib.hid (specL5Refers (some ⟨b, off, none⟩) (some ⟨bd, od, none⟩) B1 s.length cS db.length cD db[i].rows[k].vals.length e1 s db i db[i].rows[k].vals wait _ _ _ w9 (hs.below TbR.stays hb3_17_t) (hd.below DtR.stays hb3_17_t) (hv.below VlR.stays hb3_17_t) hsn (by have := HLN.out; omega) hvn hlt (by have := HTS.out; unfold Tb.sz szL at this; omega) HX.out.2.2.2.2.2.1)
                cases he : refersB s db s[i] db[i].rows[k].vals wait
                · have HV4 := Lib.hid he
                  clear he
                  go_wp2_with fail
                  refine HC.out.mono ?_
                  rintro e w9 ⟨rfl, hb9⟩
                  rw [HV4.out]
                  have hl4_21_f := hb9
                  have hb4_21_f := hb3_17_t.trans (hl4_21_f.mono hb3_17_t.size)
                  have own4_21_f := Lib.hid (OwnG.below own3_17_t.out hl4_21_f)
                  have RX := Lib.hid (RX.out.below hl4_21_f)
                  clear HC d0 d1 p0z q0z q1z q2z q3z q4z q5z
                  obtain ⟨⟨d0, d1⟩, -⟩ := RX.out.all2
                  have hne := Lib.hid (own_ne_row own4_21_f.out RX.out (by decide))
                  go_wp2_with (at_builtin; refine wpList_append_own _ rfl _ _ 26 rfl w.heap.size 97 i0 (.agg #[.int .i64 0, .int .i64 0, .int .i64 0]) 3 24 Tryz.underlying26 H1.out H2.out H3.out H4.out rfl (by decide) _ _ _ rfl (World.ownsRow.alloc own4_21_f.out _) ⟨_, 0, none⟩ 1 1 (Fw.cells ⟨4, i, db[i].rows[k].id⟩) rfl rfl ?c14_21_f ?c24_21_f ?c34_21_f ?c44_21_f ?c54_21_f ?_)
                  case c14_21_f => exact cells_newAt _ (Fw.cells ⟨4, i, db[i].rows[k].id⟩) _ (by simp)
                  case c24_21_f => intro u hu; simp [Fw.cells] at hu; rcases hu with rfl | rfl | rfl <;> rfl
                  case c34_21_f => have := HLE.out; (try simp only [List.length_append, List.length_cons, List.length_nil]); unfold maxLen; omega
                  case c44_21_f => have := HLE.out; (try simp only [List.length_append, List.length_cons, List.length_nil]); omega
                  case c54_21_f => have := hb4_21_f.size; simp; omega
                  intro v4_21_f w9 hown3 hgrow _
                  have R := Lib.hid (OwnG.app own4_21_f.out hb4_21_f.size hown3 hgrow)
                  have RX := Lib.hid (grown_rowK hgrow (RX.out.alloc _) hne.out)
                  have hb4_21_f := hb4_21_f.trans R.out.2
                  have own4_21_f := Lib.hid R.out.1
                  clear hown3 hgrow hne R d0 d1
                  generalize hyz : y2_16_f ++ [⟨4, i, db[i].rows[k].id⟩] = y4_21_f at *
                  have HY4_21_f := Lib.hid hyz
                  clear hyz
                  have HLE := Lib.hid (show y4_21_f.length <= 4398046511108 by have h1 := HLE.out; rw [<- HY4_21_f.out, List.length_append, List.length_cons, List.length_nil]; omega)
                  have HT := Lib.hid (show dbFw s db wait i ++ (db[i].rows.take (k + 1)).flatMap (rowFw s db s[i] db[i].rows wait i) = y4_21_f by
                    rw [HFT.out, <- List.append_assoc, HYS.out]; unfold rowFw; rw [HV1.out, HV2.out, HV3.out, HV4.out, <- HY4_21_f.out, <- HY2_16_f.out]; simp [oneFw])
                  go_wp2_with fail
                  go_roundw
                  case rel => exact ⟨k + 1, by omega, by go_num, Lib.hid (by rw [HT.out]; exact own4_21_f.out), hb4_21_f⟩
                  case measure => simp [intOf]; omega
                · have HV4 := Lib.hid he
                  clear he
                  go_wp2_with fail
                  refine HC.out.mono ?_
                  rintro e w9 ⟨rfl, hb9⟩
                  rw [HV4.out]
                  have hl4_21_t := hb9
                  have hb4_21_t := hb3_17_t.trans (hl4_21_t.mono hb3_17_t.size)
                  have own4_21_t := Lib.hid (OwnG.below own3_17_t.out hl4_21_t)
                  have RX := Lib.hid (RX.out.below hl4_21_t)
                  clear HC d0 d1 p0z q0z q1z q2z q3z q4z q5z
                  have HT := Lib.hid (show dbFw s db wait i ++ (db[i].rows.take (k + 1)).flatMap (rowFw s db s[i] db[i].rows wait i) = y2_16_f by
                    rw [HFT.out, <- List.append_assoc, HYS.out]; unfold rowFw; rw [HV1.out, HV2.out, HV3.out, HV4.out, <- HY2_16_f.out]; simp [oneFw])
                  go_wp2_with fail
                  go_roundw
                  case rel => exact ⟨k + 1, by omega, by go_num, Lib.hid (by rw [HT.out]; exact own4_21_t.out), hb4_21_t⟩
                  case measure => simp [intOf]; omega
            · have HV2 := Lib.hid he
              clear he
              have hbd2_16_t := hb1_0_t.drew
              have hld2_16_t := (Below.refl w9.heap.size w9).drew
              go_region_held3 (fun w' => w'.cell? ⟨b, off + i * 6, none⟩ = some (.string s[i].name) /\ w'.cell? ⟨b, off + i * 6 + 1, none⟩ = some (.slice A1 s[i].cols.length c1) /\ w'.cell? ⟨b, off + i * 6 + 2, none⟩ = some (.slice A2 s[i].key.length c2) /\ w'.cell? ⟨b, off + i * 6 + 3, none⟩ = some (.slice A3 s[i].uniqs.length c3) /\ w'.cell? ⟨b, off + i * 6 + 4, none⟩ = some (.slice A4 s[i].checks.length c4) /\ w'.cell? ⟨b, off + i * 6 + 5, none⟩ = some (.slice A5 s[i].fks.length c5) /\ w'.cell? ⟨bd, od + i, none⟩ = some (.slice (some ⟨bl, ol, none⟩) db[i].rows.length cL) /\ w'.cell? ⟨g, 0, none⟩ = some (.int .i64 db[i].rows[k].id) /\ w'.cell? ⟨g, 1, none⟩ = some (.slice B1 db[i].rows[k].vals.length e1))
                (first | go_keep | exact ⟨below_keep hb9 _ _ q0z, below_keep hb9 _ _ q1z, below_keep hb9 _ _ q2z, below_keep hb9 _ _ q3z, below_keep hb9 _ _ q4z, below_keep hb9 _ _ q5z, below_keep hb9 _ _ p0z, below_keep hb9 _ _ d0, below_keep hb9 _ _ d1⟩)
                (first | (go_at_call 118; refine HC.out.mono ?_; rintro e w9 ⟨rfl, hb9⟩; rw [HV2.out]))
              have hl2_16_t := hld2_16_t.trans (hb9.mono hld2_16_t.size)
              have hb2_16_t := hb1_0_t.trans (hl2_16_t.mono hb1_0_t.size)
              have own2_16_t := Lib.hid (OwnG.below own1_0_t.out hl2_16_t)
              have RX := Lib.hid (RX.out.below hl2_16_t)
              clear HC d0 d1 p0z q0z q1z q2z q3z q4z q5z
              go_wp2_with fail
              obtain ⟨⟨d0, d1⟩, -⟩ := RX.out.all2
              have q0z := below_keep hb2_16_t _ _ q0
              have q1z := below_keep hb2_16_t _ _ q1
              have q2z := below_keep hb2_16_t _ _ q2
              have q3z := below_keep hb2_16_t _ _ q3
              have q4z := below_keep hb2_16_t _ _ q4
              have q5z := below_keep hb2_16_t _ _ q5
              have p0z := below_keep hb2_16_t _ _ p0
              have HC := Lib.hid (specL5Unique A1 A2 A3 A4 A5 (some ⟨bl, ol, none⟩) B1 s[i].cols.length c1 s[i].key.length c2 s[i].uniqs.length c3 s[i].checks.length c4 s[i].fks.length c5 db[i].rows.length cL db[i].rows[k].vals.length e1 s[i] db[i].rows db[i].rows[k] _ _ _ _ w9.drew ((s2.below IntR.stays hb2_16_t).drew IntR.stays) ((s3.below UqR.stays hb2_16_t).drew UqR.stays) ((hrw.below RwR.stays hb2_16_t).drew RwR.stays) ((hv.below VlR.stays hb2_16_t).drew VlR.stays) hrn (by have := HTS.out; unfold Tb.sz szL at this; omega) (by have := HTS.out; unfold Tb.sz szL at this; omega) HUM.out hvn (fun r hr => (HRI.out r hr).2.2.2.2.2.2) (fun r hr => (HRI.out r hr).2.2.2.1) HX.out.2.2.2.1 (fun u hu => ⟨fun r hr => (HRI.out r hr).2.2.2.2.1 u hu, HX.out.2.2.2.2.1 u hu⟩))
              cases he : uniqueB s[i] db[i].rows db[i].rows[k]
              · have HV3 := Lib.hid he
                clear he
                have hbd3_24_f := hb2_16_t.drew
                have hld3_24_f := (Below.refl w9.heap.size w9).drew
                go_region_held3 (fun w' => w'.cell? ⟨b, off + i * 6, none⟩ = some (.string s[i].name) /\ w'.cell? ⟨b, off + i * 6 + 1, none⟩ = some (.slice A1 s[i].cols.length c1) /\ w'.cell? ⟨b, off + i * 6 + 2, none⟩ = some (.slice A2 s[i].key.length c2) /\ w'.cell? ⟨b, off + i * 6 + 3, none⟩ = some (.slice A3 s[i].uniqs.length c3) /\ w'.cell? ⟨b, off + i * 6 + 4, none⟩ = some (.slice A4 s[i].checks.length c4) /\ w'.cell? ⟨b, off + i * 6 + 5, none⟩ = some (.slice A5 s[i].fks.length c5) /\ w'.cell? ⟨bd, od + i, none⟩ = some (.slice (some ⟨bl, ol, none⟩) db[i].rows.length cL) /\ w'.cell? ⟨g, 0, none⟩ = some (.int .i64 db[i].rows[k].id) /\ w'.cell? ⟨g, 1, none⟩ = some (.slice B1 db[i].rows[k].vals.length e1))
                  (first | go_keep | exact ⟨below_keep hb9 _ _ q0z, below_keep hb9 _ _ q1z, below_keep hb9 _ _ q2z, below_keep hb9 _ _ q3z, below_keep hb9 _ _ q4z, below_keep hb9 _ _ q5z, below_keep hb9 _ _ p0z, below_keep hb9 _ _ d0, below_keep hb9 _ _ d1⟩)
                  (first | (go_at_call 119; refine HC.out.mono ?_; rintro e w9 ⟨rfl, hb9⟩; rw [HV3.out]))
                have hl3_24_f := hld3_24_f.trans (hb9.mono hld3_24_f.size)
                have hb3_24_f := hb2_16_t.trans (hl3_24_f.mono hb2_16_t.size)
                have own3_24_f := Lib.hid (OwnG.below own2_16_t.out hl3_24_f)
                have RX := Lib.hid (RX.out.below hl3_24_f)
                clear HC d0 d1 p0z q0z q1z q2z q3z q4z q5z
                obtain ⟨⟨d0, d1⟩, -⟩ := RX.out.all2
                have hne := Lib.hid (own_ne_row own3_24_f.out RX.out (by decide))
                go_wp2_with (at_builtin; refine wpList_append_own _ rfl _ _ 26 rfl w.heap.size 97 i0 (.agg #[.int .i64 0, .int .i64 0, .int .i64 0]) 3 24 Tryz.underlying26 H1.out H2.out H3.out H4.out rfl (by decide) _ _ _ rfl (World.ownsRow.alloc own3_24_f.out _) ⟨_, 0, none⟩ 1 1 (Fw.cells ⟨3, i, db[i].rows[k].id⟩) rfl rfl ?c13_24_f ?c23_24_f ?c33_24_f ?c43_24_f ?c53_24_f ?_)
                case c13_24_f => exact cells_newAt _ (Fw.cells ⟨3, i, db[i].rows[k].id⟩) _ (by simp)
                case c23_24_f => intro u hu; simp [Fw.cells] at hu; rcases hu with rfl | rfl | rfl <;> rfl
                case c33_24_f => have := HLE.out; (try simp only [List.length_append, List.length_cons, List.length_nil]); unfold maxLen; omega
                case c43_24_f => have := HLE.out; (try simp only [List.length_append, List.length_cons, List.length_nil]); omega
                case c53_24_f => have := hb3_24_f.size; simp; omega
                intro v3_24_f w9 hown3 hgrow _
                have R := Lib.hid (OwnG.app own3_24_f.out hb3_24_f.size hown3 hgrow)
                have RX := Lib.hid (grown_rowK hgrow (RX.out.alloc _) hne.out)
                have hb3_24_f := hb3_24_f.trans R.out.2
                have own3_24_f := Lib.hid R.out.1
                clear hown3 hgrow hne R d0 d1
                generalize hyz : ys ++ [⟨3, i, db[i].rows[k].id⟩] = y3_24_f at *
                have HY3_24_f := Lib.hid hyz
                clear hyz
                have HLE := Lib.hid (show y3_24_f.length <= 4398046511107 by have h1 := HLE.out; rw [<- HY3_24_f.out, List.length_append, List.length_cons, List.length_nil]; omega)
                obtain ⟨⟨d0, d1⟩, -⟩ := RX.out.all2
                have q0z := below_keep hb3_24_f _ _ q0
                have q1z := below_keep hb3_24_f _ _ q1
                have q2z := below_keep hb3_24_f _ _ q2
                have q3z := below_keep hb3_24_f _ _ q3
                have q4z := below_keep hb3_24_f _ _ q4
                have q5z := below_keep hb3_24_f _ _ q5
                have p0z := below_keep hb3_24_f _ _ p0
                have HC := Lib.hid (specL5Refers (some ⟨b, off, none⟩) (some ⟨bd, od, none⟩) B1 s.length cS db.length cD db[i].rows[k].vals.length e1 s db i db[i].rows[k].vals wait _ _ _ w9 (hs.below TbR.stays hb3_24_f) (hd.below DtR.stays hb3_24_f) (hv.below VlR.stays hb3_24_f) hsn (by have := HLN.out; omega) hvn hlt (by have := HTS.out; unfold Tb.sz szL at this; omega) HX.out.2.2.2.2.2.1)
                cases he : refersB s db s[i] db[i].rows[k].vals wait
                · have HV4 := Lib.hid he
                  clear he
                  go_wp2_with fail
                  refine HC.out.mono ?_
                  rintro e w9 ⟨rfl, hb9⟩
                  rw [HV4.out]
                  have hl4_25_f := hb9
                  have hb4_25_f := hb3_24_f.trans (hl4_25_f.mono hb3_24_f.size)
                  have own4_25_f := Lib.hid (OwnG.below own3_24_f.out hl4_25_f)
                  have RX := Lib.hid (RX.out.below hl4_25_f)
                  clear HC d0 d1 p0z q0z q1z q2z q3z q4z q5z
                  obtain ⟨⟨d0, d1⟩, -⟩ := RX.out.all2
                  have hne := Lib.hid (own_ne_row own4_25_f.out RX.out (by decide))
                  go_wp2_with (at_builtin; refine wpList_append_own _ rfl _ _ 26 rfl w.heap.size 97 i0 (.agg #[.int .i64 0, .int .i64 0, .int .i64 0]) 3 24 Tryz.underlying26 H1.out H2.out H3.out H4.out rfl (by decide) _ _ _ rfl (World.ownsRow.alloc own4_25_f.out _) ⟨_, 0, none⟩ 1 1 (Fw.cells ⟨4, i, db[i].rows[k].id⟩) rfl rfl ?c14_25_f ?c24_25_f ?c34_25_f ?c44_25_f ?c54_25_f ?_)
                  case c14_25_f => exact cells_newAt _ (Fw.cells ⟨4, i, db[i].rows[k].id⟩) _ (by simp)
                  case c24_25_f => intro u hu; simp [Fw.cells] at hu; rcases hu with rfl | rfl | rfl <;> rfl
                  case c34_25_f => have := HLE.out; (try simp only [List.length_append, List.length_cons, List.length_nil]); unfold maxLen; omega
                  case c44_25_f => have := HLE.out; (try simp only [List.length_append, List.length_cons, List.length_nil]); omega
                  case c54_25_f => have := hb4_25_f.size; simp; omega
                  intro v4_25_f w9 hown3 hgrow _
                  have R := Lib.hid (OwnG.app own4_25_f.out hb4_25_f.size hown3 hgrow)
                  have RX := Lib.hid (grown_rowK hgrow (RX.out.alloc _) hne.out)
                  have hb4_25_f := hb4_25_f.trans R.out.2
                  have own4_25_f := Lib.hid R.out.1
                  clear hown3 hgrow hne R d0 d1
                  generalize hyz : y3_24_f ++ [⟨4, i, db[i].rows[k].id⟩] = y4_25_f at *
                  have HY4_25_f := Lib.hid hyz
                  clear hyz
                  have HLE := Lib.hid (show y4_25_f.length <= 4398046511108 by have h1 := HLE.out; rw [<- HY4_25_f.out, List.length_append, List.length_cons, List.length_nil]; omega)
                  have HT := Lib.hid (show dbFw s db wait i ++ (db[i].rows.take (k + 1)).flatMap (rowFw s db s[i] db[i].rows wait i) = y4_25_f by
                    rw [HFT.out, <- List.append_assoc, HYS.out]; unfold rowFw; rw [HV1.out, HV2.out, HV3.out, HV4.out, <- HY4_25_f.out, <- HY3_24_f.out]; simp [oneFw])
                  go_wp2_with fail
                  go_roundw
                  case rel => exact ⟨k + 1, by omega, by go_num, Lib.hid (by rw [HT.out]; exact own4_25_f.out), hb4_25_f⟩
                  case measure => simp [intOf]; omega
                · have HV4 := Lib.hid he
                  clear he
                  go_wp2_with fail
                  refine HC.out.mono ?_
                  rintro e w9 ⟨rfl, hb9⟩
                  rw [HV4.out]
                  have hl4_25_t := hb9
                  have hb4_25_t := hb3_24_f.trans (hl4_25_t.mono hb3_24_f.size)
                  have own4_25_t := Lib.hid (OwnG.below own3_24_f.out hl4_25_t)
                  have RX := Lib.hid (RX.out.below hl4_25_t)
                  clear HC d0 d1 p0z q0z q1z q2z q3z q4z q5z
                  have HT := Lib.hid (show dbFw s db wait i ++ (db[i].rows.take (k + 1)).flatMap (rowFw s db s[i] db[i].rows wait i) = y3_24_f by
                    rw [HFT.out, <- List.append_assoc, HYS.out]; unfold rowFw; rw [HV1.out, HV2.out, HV3.out, HV4.out, <- HY3_24_f.out]; simp [oneFw])
                  go_wp2_with fail
                  go_roundw
                  case rel => exact ⟨k + 1, by omega, by go_num, Lib.hid (by rw [HT.out]; exact own4_25_t.out), hb4_25_t⟩
                  case measure => simp [intOf]; omega
              · have HV3 := Lib.hid he
                clear he
                have hbd3_24_t := hb2_16_t.drew
                have hld3_24_t := (Below.refl w9.heap.size w9).drew
                go_region_held3 (fun w' => w'.cell? ⟨b, off + i * 6, none⟩ = some (.string s[i].name) /\ w'.cell? ⟨b, off + i * 6 + 1, none⟩ = some (.slice A1 s[i].cols.length c1) /\ w'.cell? ⟨b, off + i * 6 + 2, none⟩ = some (.slice A2 s[i].key.length c2) /\ w'.cell? ⟨b, off + i * 6 + 3, none⟩ = some (.slice A3 s[i].uniqs.length c3) /\ w'.cell? ⟨b, off + i * 6 + 4, none⟩ = some (.slice A4 s[i].checks.length c4) /\ w'.cell? ⟨b, off + i * 6 + 5, none⟩ = some (.slice A5 s[i].fks.length c5) /\ w'.cell? ⟨bd, od + i, none⟩ = some (.slice (some ⟨bl, ol, none⟩) db[i].rows.length cL) /\ w'.cell? ⟨g, 0, none⟩ = some (.int .i64 db[i].rows[k].id) /\ w'.cell? ⟨g, 1, none⟩ = some (.slice B1 db[i].rows[k].vals.length e1))
                  (first | go_keep | exact ⟨below_keep hb9 _ _ q0z, below_keep hb9 _ _ q1z, below_keep hb9 _ _ q2z, below_keep hb9 _ _ q3z, below_keep hb9 _ _ q4z, below_keep hb9 _ _ q5z, below_keep hb9 _ _ p0z, below_keep hb9 _ _ d0, below_keep hb9 _ _ d1⟩)
                  (first | (go_at_call 119; refine HC.out.mono ?_; rintro e w9 ⟨rfl, hb9⟩; rw [HV3.out]))
                have hl3_24_t := hld3_24_t.trans (hb9.mono hld3_24_t.size)
                have hb3_24_t := hb2_16_t.trans (hl3_24_t.mono hb2_16_t.size)
                have own3_24_t := Lib.hid (OwnG.below own2_16_t.out hl3_24_t)
                have RX := Lib.hid (RX.out.below hl3_24_t)
                clear HC d0 d1 p0z q0z q1z q2z q3z q4z q5z
                obtain ⟨⟨d0, d1⟩, -⟩ := RX.out.all2
                have q0z := below_keep hb3_24_t _ _ q0
                have q1z := below_keep hb3_24_t _ _ q1
                have q2z := below_keep hb3_24_t _ _ q2
                have q3z := below_keep hb3_24_t _ _ q3
                have q4z := below_keep hb3_24_t _ _ q4
                have q5z := below_keep hb3_24_t _ _ q5
                have p0z := below_keep hb3_24_t _ _ p0
                have HC := Lib.hid (specL5Refers (some ⟨b, off, none⟩) (some ⟨bd, od, none⟩) B1 s.length cS db.length cD db[i].rows[k].vals.length e1 s db i db[i].rows[k].vals wait _ _ _ w9 (hs.below TbR.stays hb3_24_t) (hd.below DtR.stays hb3_24_t) (hv.below VlR.stays hb3_24_t) hsn (by have := HLN.out; omega) hvn hlt (by have := HTS.out; unfold Tb.sz szL at this; omega) HX.out.2.2.2.2.2.1)
                cases he : refersB s db s[i] db[i].rows[k].vals wait
                · have HV4 := Lib.hid he
                  clear he
                  go_wp2_with fail
                  refine HC.out.mono ?_
                  rintro e w9 ⟨rfl, hb9⟩
                  rw [HV4.out]
                  have hl4_28_f := hb9
                  have hb4_28_f := hb3_24_t.trans (hl4_28_f.mono hb3_24_t.size)
                  have own4_28_f := Lib.hid (OwnG.below own3_24_t.out hl4_28_f)
                  have RX := Lib.hid (RX.out.below hl4_28_f)
                  clear HC d0 d1 p0z q0z q1z q2z q3z q4z q5z
                  obtain ⟨⟨d0, d1⟩, -⟩ := RX.out.all2
                  have hne := Lib.hid (own_ne_row own4_28_f.out RX.out (by decide))
                  go_wp2_with (at_builtin; refine wpList_append_own _ rfl _ _ 26 rfl w.heap.size 97 i0 (.agg #[.int .i64 0, .int .i64 0, .int .i64 0]) 3 24 Tryz.underlying26 H1.out H2.out H3.out H4.out rfl (by decide) _ _ _ rfl (World.ownsRow.alloc own4_28_f.out _) ⟨_, 0, none⟩ 1 1 (Fw.cells ⟨4, i, db[i].rows[k].id⟩) rfl rfl ?c14_28_f ?c24_28_f ?c34_28_f ?c44_28_f ?c54_28_f ?_)
                  case c14_28_f => exact cells_newAt _ (Fw.cells ⟨4, i, db[i].rows[k].id⟩) _ (by simp)
                  case c24_28_f => intro u hu; simp [Fw.cells] at hu; rcases hu with rfl | rfl | rfl <;> rfl
                  case c34_28_f => have := HLE.out; (try simp only [List.length_append, List.length_cons, List.length_nil]); unfold maxLen; omega
                  case c44_28_f => have := HLE.out; (try simp only [List.length_append, List.length_cons, List.length_nil]); omega
                  case c54_28_f => have := hb4_28_f.size; simp; omega
                  intro v4_28_f w9 hown3 hgrow _
                  have R := Lib.hid (OwnG.app own4_28_f.out hb4_28_f.size hown3 hgrow)
                  have RX := Lib.hid (grown_rowK hgrow (RX.out.alloc _) hne.out)
                  have hb4_28_f := hb4_28_f.trans R.out.2
                  have own4_28_f := Lib.hid R.out.1
                  clear hown3 hgrow hne R d0 d1
                  generalize hyz : ys ++ [⟨4, i, db[i].rows[k].id⟩] = y4_28_f at *
                  have HY4_28_f := Lib.hid hyz
                  clear hyz
                  have HLE := Lib.hid (show y4_28_f.length <= 4398046511108 by have h1 := HLE.out; rw [<- HY4_28_f.out, List.length_append, List.length_cons, List.length_nil]; omega)
                  have HT := Lib.hid (show dbFw s db wait i ++ (db[i].rows.take (k + 1)).flatMap (rowFw s db s[i] db[i].rows wait i) = y4_28_f by
                    rw [HFT.out, <- List.append_assoc, HYS.out]; unfold rowFw; rw [HV1.out, HV2.out, HV3.out, HV4.out, <- HY4_28_f.out]; simp [oneFw])
                  go_wp2_with fail
                  go_roundw
                  case rel => exact ⟨k + 1, by omega, by go_num, Lib.hid (by rw [HT.out]; exact own4_28_f.out), hb4_28_f⟩
                  case measure => simp [intOf]; omega
                · have HV4 := Lib.hid he
                  clear he
                  go_wp2_with fail
                  refine HC.out.mono ?_
                  rintro e w9 ⟨rfl, hb9⟩
                  rw [HV4.out]
                  have hl4_28_t := hb9
                  have hb4_28_t := hb3_24_t.trans (hl4_28_t.mono hb3_24_t.size)
                  have own4_28_t := Lib.hid (OwnG.below own3_24_t.out hl4_28_t)
                  have RX := Lib.hid (RX.out.below hl4_28_t)
                  clear HC d0 d1 p0z q0z q1z q2z q3z q4z q5z
                  have HT := Lib.hid (show dbFw s db wait i ++ (db[i].rows.take (k + 1)).flatMap (rowFw s db s[i] db[i].rows wait i) = ys by
                    rw [HFT.out, <- List.append_assoc, HYS.out]; unfold rowFw; rw [HV1.out, HV2.out, HV3.out, HV4.out]; simp [oneFw])
                  go_wp2_with fail
                  go_roundw
                  case rel => exact ⟨k + 1, by omega, by go_num, Lib.hid (by rw [HT.out]; exact own4_28_t.out), hb4_28_t⟩
                  case measure => simp [intOf]; omega
        · obtain rfl : k = db[i].rows.length := by omega
          have ho := hown.out
          rw [List.take_of_length_le (Nat.le_refl _)] at ho
          have HO := Lib.hid ho
          clear hown ho
          go_wp2_with fail
          go_roundw
          case rel => exact ⟨i + 1, by omega, by go_num, Lib.hid (by rw [HTA.out]; exact HO.out), hb⟩
          case measure => simp [intOf]; omega
    · obtain rfl : i = s.length := by omega
      obtain ⟨AO, cO, rfl, hcO, hcm, hsl⟩ := OwnG.sl (f := Fw.cells) (sz := 3) (fun _ => rfl) hown.out
      have HSL := Lib.hid hsl
      clear hown hsl
      go_wp2_with fail
      go_ret
      exact ⟨AO, cO, rfl, hcO, HSL.out, hb⟩
end Go.Proofs.YtlpldhmanihnnaaGreat
namespace Go.Proofs.YtlpldhmanihnnaaGreat
open Go.RowKit
theorem schemaB_at {s : List Tb} (h : schemaB s = true) {i : Nat} (hi : i < s.length) : tableB s[i] = true /\ leadsB s s[i] = true := by
  simp only [schemaB, Bool.and_eq_true] at h
  exact ⟨List.all_eq_true.1 h.2.1 _ (List.getElem_mem hi), List.all_eq_true.1 h.2.2.2 _ (List.getElem_mem hi)⟩
theorem schemaB_le {s : List Tb} (h : schemaB s = true) : s.length <= 5 := by
  simp only [schemaB, Bool.and_eq_true, decide_eq_true_eq] at h
  exact h.1
theorem tableB_cols {t : Tb} (h : tableB t = true) : t.cols.length <= 8 := by
  simp only [tableB, colsB, Bool.and_eq_true, decide_eq_true_eq] at h
  exact h.2.1.2.1
theorem tableB_key {t : Tb} (h : tableB t = true) : colsInB t.key t.cols.length = true := by
  simp only [tableB, keyB, Bool.and_eq_true] at h
  exact h.2.2.1.1
theorem tableB_uniq {t : Tb} (h : tableB t = true) : ∀ u ∈ t.uniqs, colsInB u.cols t.cols.length = true := fun u hu => by
  simp only [tableB, uqsB, Bool.and_eq_true] at h
  exact List.all_eq_true.1 h.2.2.2.1.2 u hu
theorem tableB_fk {t : Tb} (h : tableB t = true) : ∀ f ∈ t.fks, colsInB f.cols t.cols.length = true := fun f hf => by
  simp only [tableB, fksB, Bool.and_eq_true] at h
  have := List.all_eq_true.1 h.2.2.2.2.2.2 f hf
  simp only [fkB, Bool.and_eq_true] at this
  exact this.1
theorem leadB_at {s : List Tb} {x : Tb} {f : Fk} (h : leadB s x f = true) : ∃ m : Nat, atN (s.map Tb.name) f.table = m /\ m < s.length := by
  simp only [leadB, Bool.and_eq_true, decide_eq_true_eq] at h
  rcases atN_rng (s.map Tb.name) f.table with h1 | ⟨h1, h2⟩
  · exact absurd h1 h.1
  · exact ⟨(atN (s.map Tb.name) f.table).toNat, by omega, by rw [List.length_map] at h2; omega⟩
theorem dbB_schema {s : List Tb} {db : List Dt} (h : dbB s db = true) : schemaB s = true := by
  simp only [dbB, Bool.and_eq_true] at h
  exact h.1
theorem dbB_data {s : List Tb} {db : List Dt} (h : dbB s db = true) {m : Nat} (h1 : m < s.length) (h2 : m < db.length) : dataB s[m].cols db[m].rows = true := by
  simp only [dbB, Bool.and_eq_true, decide_eq_true_eq] at h
  have h3 := List.all_eq_true.1 h.2.2 (s[m], db[m]) (by rw [List.mem_iff_getElem]; exact ⟨m, by rw [List.length_zip]; omega, by simp⟩)
  exact h3
theorem dbB_rows {s : List Tb} {db : List Dt} (h : dbB s db = true) {m : Nat} (h1 : m < s.length) (h2 : m < db.length) : db[m].rows.length <= 60 := by
  have h3 := dbB_data h h1 h2
  simp only [dataB, Bool.and_eq_true, decide_eq_true_eq] at h3
  exact h3.1
theorem dbB_kinds {s : List Tb} {db : List Dt} (h : dbB s db = true) {m : Nat} (h1 : m < s.length) (h2 : m < db.length) : ∀ r ∈ db[m].rows, kindsB s[m].cols r.vals = true := by
  have h3 := dbB_data h h1 h2
  simp only [dataB, Bool.and_eq_true, decide_eq_true_eq] at h3
  exact idsGo_mem h3.2
theorem fkIn_of {s : List Tb} {db : List Dt} (h : dbB s db = true) {i : Nat} (hi : i < s.length) {vals : List Vl} (hv : vals.length = s[i].cols.length) : ∀ f ∈ s[i].fks, FkIn s db vals f := fun f hf => by
  have hS := dbB_schema h
  have hT := schemaB_at hS hi
  have hl := dbB_len h
  have hc := tableB_fk hT.1 f hf
  have h8 := tableB_cols hT.1
  obtain ⟨m, e, hm⟩ := leadB_at (List.all_eq_true.1 hT.2 f hf)
  have hmd : m < db.length := by omega
  have hM := schemaB_at hS hm
  have hk := colsInB_len (tableB_key hM.1)
  have hm8 := tableB_cols hM.1
  have hr := dbB_row h hm hmd
  refine ⟨all_inV hc hv, by have := (colsInB_len hc).1; omega, m, e, hm, hmd, by omega, by have := dbB_rows h hm hmd; omega, fun r hr' => by rw [hr r hr']; omega, fun r hr' => all_inV (tableB_key hM.1) (hr r hr')⟩
theorem rowIn_of {s : List Tb} {db : List Dt} (h : dbB s db = true) (i : Nat) (hi : i < s.length) (hid : i < db.length) : ∀ x ∈ db[i].rows, RowIn s db s[i] x := fun x hx => by
  have hT := (schemaB_at (dbB_schema h) hi).1
  have hK := dbB_kinds h hi hid x hx
  have hl := dbB_row h hi hid x hx
  have h8 := tableB_cols hT
  exact ⟨hl, rowB_of hT hK, exprs_of hT hl, all_inV (tableB_key hT) hl, fun u hu => all_inV (tableB_uniq hT u hu) hl, fkIn_of h hi hl, by omega⟩
theorem dbB_all {s : List Tb} {db : List Dt} (h : dbB s db = true) : ∀ d ∈ db, d.rows.length <= 1048576 := fun d hd => by
  obtain ⟨i, hi, rfl⟩ := List.mem_iff_getElem.1 hd
  have := dbB_len h
  have := dbB_rows h (m := i) (by omega) hi
  omega
def flawsB (s : List Tb) (db : List Dt) (wait : Bool) : List Fw := if dbB s db then dbFw s db wait s.length else []
def soundB (s : List Tb) (db : List Dt) (wait : Bool) : Bool := dbB s db && decide ((dbFw s db wait s.length).length = 0)
end Go.Proofs.YtlpldhmanihnnaaGreat
namespace Go.Proofs.YtlpldhmanihnnaaGreat
open Go.RowKit Go.Maps
section
variable (AS AD : Option Addr) (nS cS nD cD : Nat) (s : List Tb) (db : List Dt) (ok okd : Nat -> Prop) (w : World)
set_option maxRecDepth 100000 in
set_option maxHeartbeats 1000000 in
theorem specFlaws (hs : Sl TbR 6 ok w AS nS s) (hd : Sl DtR 1 okd w AD nD db) (hcp : nS <= cS) (hss : szL Tb.sz s <= 1048576) (hds : szL Dt.sz db <= 1048576) :
    Calls Tryz.prog 17 #[.slice AS nS cS, .slice AD nD cD] w (MadeF (FlatR Fw.cells) 3 (flawsB s db false) (dbB s db) w) := by
  have HC := Lib.hid (specDbOk AS AD nS cS nD cD s db ok okd w hs hd hcp hss hds)
  cases hB : dbB s db
  · have HB := Lib.hid hB
    have HF := Lib.hid (show flawsB s db false = [] by unfold flawsB; rw [hB]; rfl)
    clear hB
    go_enter Tryz.func17, Tryz.ntmps17
    go_wp2_with fail
    refine HC.out.mono ?_
    rintro e w1 ⟨rfl, hb1⟩
    rw [HB.out]
    clear HC
    go_wp2_with fail
    go_ret2
    exact ⟨none, 0, by rw [HF.out]; rfl, by rw [HF.out]; exact Nat.le_refl _, by rw [HF.out]; exact ⟨rfl, fun h => by simp at h⟩, hb1⟩
  · have HB := Lib.hid hB
    have HF := Lib.hid (show flawsB s db false = dbFw s db false s.length by unfold flawsB; rw [hB]; rfl)
    have HR := Lib.hid (rowIn_of hB)
    have HL := Lib.hid (dbB_len hB)
    have HA := Lib.hid (dbB_all hB)
    clear hB
    go_enter Tryz.func17, Tryz.ntmps17
    go_wp2_with fail
    refine HC.out.mono ?_
    rintro e w1 ⟨rfl, hb1⟩
    rw [HB.out]
    clear HC
    go_wp2_with fail
    refine (specL5Flaws AS AD nS cS nD cD s db false _ _ w1 (hs.below TbR.stays hb1) (hd.below DtR.stays hb1) HL.out hss HA.out HR.out).mono ?_
    rintro e w2 ⟨AO, cO, rfl, hcO, hsl, hb2⟩
    have HSL := Lib.hid hsl
    clear hsl
    go_wp2_with fail
    go_ret2
    exact ⟨AO, cO, by rw [HF.out]; rfl, by rw [HF.out]; exact hcO, by rw [HF.out]; exact HSL.out.stays (FlatR.stays _) (fun b hb => hb.mono hb1.size) (fun _ _ _ h => h), hb1.trans (hb2.mono hb1.size)⟩
set_option maxRecDepth 100000 in
set_option maxHeartbeats 1000000 in
theorem specSound (hs : Sl TbR 6 ok w AS nS s) (hd : Sl DtR 1 okd w AD nD db) (hcp : nS <= cS) (hss : szL Tb.sz s <= 1048576) (hds : szL Dt.sz db <= 1048576) :
    Calls Tryz.prog 28 #[.slice AS nS cS, .slice AD nD cD] w fun e w' => e = .returned (.bool (soundB s db false)) /\ Below w.heap.size w w' := by
  have HC := Lib.hid (specDbOk AS AD nS cS nD cD s db ok okd w hs hd hcp hss hds)
  cases hB : dbB s db
  · have HB := Lib.hid hB
    have HF := Lib.hid (show soundB s db false = false by unfold soundB; rw [hB]; rfl)
    clear hB
    go_enter Tryz.func28, Tryz.ntmps28
    go_wp2_with fail
    refine HC.out.mono ?_
    rintro e w1 ⟨rfl, hb1⟩
    rw [HB.out]
    clear HC
    go_wp2_with fail
    go_ret
    exact ⟨retB HF.out.symm, hb1⟩
  · have HB := Lib.hid hB
    have HF := Lib.hid (show soundB s db false = decide ((dbFw s db false s.length).length = 0) by unfold soundB; rw [hB]; rfl)
    have HR := Lib.hid (rowIn_of hB)
    have HL := Lib.hid (dbB_len hB)
    have HA := Lib.hid (dbB_all hB)
    clear hB
    go_enter Tryz.func28, Tryz.ntmps28
    go_wp2_with fail
    refine HC.out.mono ?_
    rintro e w1 ⟨rfl, hb1⟩
    rw [HB.out]
    clear HC
    go_wp2_with fail
    refine (specL5Flaws AS AD nS cS nD cD s db false _ _ w1 (hs.below TbR.stays hb1) (hd.below DtR.stays hb1) HL.out hss HA.out HR.out).mono ?_
    rintro e w2 ⟨AO, cO, rfl, hcO, hsl, hb2⟩
    clear hsl
    have HQ := Lib.hid (show (((dbFw s db false s.length).length : Int) == 0) = soundB s db false by
      rw [HF.out]
      generalize (dbFw s db false s.length).length = q
      by_cases h : q = 0
      · subst h; rfl
      · rw [beq_eq_false_iff_ne.2 (show (q : Int) ≠ 0 by omega), decide_eq_false h])
    go_wp2_with fail
    go_ret
    exact ⟨retB HQ.out, hb1.trans (hb2.mono hb1.size)⟩
set_option maxRecDepth 100000 in
set_option maxHeartbeats 1000000 in
theorem specSoundNow (hs : Sl TbR 6 ok w AS nS s) (hd : Sl DtR 1 okd w AD nD db) (hcp : nS <= cS) (hss : szL Tb.sz s <= 1048576) (hds : szL Dt.sz db <= 1048576) :
    Calls Tryz.prog 30 #[.slice AS nS cS, .slice AD nD cD] w fun e w' => e = .returned (.bool (soundB s db true)) /\ Below w.heap.size w w' := by
  have HC := Lib.hid (specDbOk AS AD nS cS nD cD s db ok okd w hs hd hcp hss hds)
  cases hB : dbB s db
  · have HB := Lib.hid hB
    have HF := Lib.hid (show soundB s db true = false by unfold soundB; rw [hB]; rfl)
    clear hB
    go_enter Tryz.func30, Tryz.ntmps30
    go_wp2_with fail
    refine HC.out.mono ?_
    rintro e w1 ⟨rfl, hb1⟩
    rw [HB.out]
    clear HC
    go_wp2_with fail
    go_ret
    exact ⟨retB HF.out.symm, hb1⟩
  · have HB := Lib.hid hB
    have HF := Lib.hid (show soundB s db true = decide ((dbFw s db true s.length).length = 0) by unfold soundB; rw [hB]; rfl)
    have HR := Lib.hid (rowIn_of hB)
    have HL := Lib.hid (dbB_len hB)
    have HA := Lib.hid (dbB_all hB)
    clear hB
    go_enter Tryz.func30, Tryz.ntmps30
    go_wp2_with fail
    refine HC.out.mono ?_
    rintro e w1 ⟨rfl, hb1⟩
    rw [HB.out]
    clear HC
    go_wp2_with fail
    refine (specL5Flaws AS AD nS cS nD cD s db true _ _ w1 (hs.below TbR.stays hb1) (hd.below DtR.stays hb1) HL.out hss HA.out HR.out).mono ?_
    rintro e w2 ⟨AO, cO, rfl, hcO, hsl, hb2⟩
    clear hsl
    have HQ := Lib.hid (show (((dbFw s db true s.length).length : Int) == 0) = soundB s db true by
      rw [HF.out]
      generalize (dbFw s db true s.length).length = q
      by_cases h : q = 0
      · subst h; rfl
      · rw [beq_eq_false_iff_ne.2 (show (q : Int) ≠ 0 by omega), decide_eq_false h])
    go_wp2_with fail
    go_ret
    exact ⟨retB HQ.out, hb1.trans (hb2.mono hb1.size)⟩
end
end Go.Proofs.YtlpldhmanihnnaaGreat
namespace Go.Proofs.YtlpldhmanihnnaaGreat
open Go.RowKit Go.Maps Go.Sort
def rivL (t : Tb) (rows : List Rw) (x : Rw) : List Int := othL t.key rows x ++ t.uniqs.flatMap fun u => othL u.cols rows x
def sortL (l : List Int) : List Int := l.mergeSort fun x y => decide (x <= y)
def rivB (t : Tb) (rows : List Rw) (x : Rw) : List Int := Lib.compact (sortL (rivL t rows x))
theorem sortL_len (l : List Int) : (sortL l).length = l.length := List.length_mergeSort l
theorem sortL_nil : sortL [] = [] := by simp [sortL]
theorem compact_nil : Lib.compact ([] : List Int) = [] := rfl
theorem compact_len (l : List Int) : (Lib.compact l).length <= l.length := by
  unfold Lib.compact Lib.compactUpTo
  rw [List.length_map]
  exact Nat.le_trans (List.length_filter_le _ _) (by simp)
theorem compact_pos {l : List Int} (h : 0 < l.length) : 0 < (Lib.compact l).length := by
  unfold Lib.compact Lib.compactUpTo
  rw [List.length_map]
  exact List.length_pos_of_mem (a := 0) (List.mem_filter.2 ⟨List.mem_range.2 h, Lib.keeps_lt_one _ 0 (by omega)⟩)
theorem rivB_pos (t : Tb) (rows : List Rw) (x : Rw) : decide (0 < (rivB t rows x).length) = decide (0 < (rivL t rows x).length) := by
  unfold rivB
  by_cases h : 0 < (rivL t rows x).length
  · rw [decide_eq_true h, decide_eq_true (compact_pos (by rw [sortL_len]; exact h))]
  · rw [decide_eq_false h, decide_eq_false]
    have h1 := compact_len (sortL (rivL t rows x))
    rw [sortL_len] at h1
    omega
theorem rivL_len (t : Tb) (rows : List Rw) (x : Rw) : (rivL t rows x).length <= (1 + t.uniqs.length) * rows.length := by
  unfold rivL
  rw [List.length_append]
  have h1 := othL_len t.key rows x
  have h2 : (t.uniqs.flatMap fun u => othL u.cols rows x).length <= t.uniqs.length * rows.length := by
    induction t.uniqs with
    | nil => simp
    | cons u l ih =>
      rw [List.flatMap_cons, List.length_append, List.length_cons, Nat.add_mul, Nat.one_mul]
      have := othL_len u.cols rows x
      omega
  rw [Nat.add_mul, Nat.one_mul]
  omega
theorem uniqueB_riv (t : Tb) (rows : List Rw) (x : Rw) : uniqueB t rows x = !(decide (0 < (rivB t rows x).length)) := by
  rw [rivB_pos]
  have hz : ∀ l : List Uq, (l.any fun u => twiceB u.cols rows x) = decide (0 < (l.flatMap fun u => othL u.cols rows x).length) := fun l => by
    induction l with
    | nil => rfl
    | cons u l ih =>
      rw [List.any_cons, ih, twiceB_oth, List.flatMap_cons, List.length_append]
      by_cases h : 0 < (othL u.cols rows x).length
      · rw [decide_eq_true h, decide_eq_true (show 0 < (othL u.cols rows x).length + (l.flatMap fun u => othL u.cols rows x).length by omega)]; rfl
      · rw [decide_eq_false h, Bool.false_or]
        congr 1
        rw [show (othL u.cols rows x).length = 0 by omega, Nat.zero_add]
  have h2 : uniqueB t rows x = !(twiceB t.key rows x || t.uniqs.any fun u => twiceB u.cols rows x) := by
    unfold uniqueB
    rw [Bool.not_or]
    congr 1
    induction t.uniqs with
    | nil => rfl
    | cons u l ih => rw [List.all_cons, List.any_cons, Bool.not_or, ih]
  rw [h2, hz, twiceB_oth]
  congr 1
  unfold rivL
  rw [List.length_append]
  by_cases h : 0 < (othL t.key rows x).length
  · rw [decide_eq_true h, decide_eq_true (show 0 < (othL t.key rows x).length + (t.uniqs.flatMap fun u => othL u.cols rows x).length by omega)]; rfl
  · rw [decide_eq_false h, Bool.false_or]
    congr 1
    rw [show (othL t.key rows x).length = 0 by omega, Nat.zero_add]
theorem OwnI.prefix {w : World} {base g m cap : Nat} {xs ys : List Int} (h : OwnI w base (.slice (some ⟨g, 0, none⟩) m cap) xs) (hp : ys <+: xs) : OwnI w base (.slice (some ⟨g, 0, none⟩) ys.length cap) ys := by
  refine ⟨by simp, .inr ?_⟩
  rcases h.2 with ⟨h1, -⟩ | ⟨g', cap', cur, hv, h1, h2, h3, h4, h5, h6⟩
  · cases h1
  · injection hv with e1 e2 e3
    injection e1 with e1
    injection e1 with e1
    subst e1 e3
    obtain ⟨zs, rfl⟩ := hp
    refine ⟨g, cap, cur, rfl, h1, h2, by simp at h3; omega, h4, h5, ?_⟩
    rw [Nat.mul_one] at h6 ⊢
    have h7 := congrArg (List.take ys.length) h6
    rw [List.take_take, List.map_append, List.take_append_of_le_length (by simp)] at h7
    rw [show min ys.length (ys ++ zs).length = ys.length by simp] at h7
    rw [h7, <- List.map_take, List.take_length]
theorem OwnI.cells {w : World} {base g m cap : Nat} {xs : List Int} (h : OwnI w base (.slice (some ⟨g, 0, none⟩) m cap) xs) : ∀ j u, (xs.map (Value.int .i64))[j]? = some u -> w.cell? ((⟨g, 0, none⟩ : Addr).add j) = some u := fun j u hj => by
  rcases h.2 with ⟨h1, -⟩ | ⟨g', cap', cur, hv, h1, h2, h3, h4, h5, h6⟩
  · cases h1
  · injection hv with e1 e2 e3
    injection e1 with e1
    injection e1 with e1
    subst e1
    have hl : j < xs.length := by have := (List.getElem?_eq_some_iff.1 hj).1; simpa using this
    rw [addr_add, Nat.zero_add, cell_of_row _ _ _ _ _ _ h2, <- Array.getElem?_toList]
    rw [<- h6, List.getElem?_take, if_pos (by omega)] at hj
    exact hj
theorem OwnI.len {w : World} {base m cap : Nat} {A : Option Addr} {xs : List Int} (h : OwnI w base (.slice A m cap) xs) : xs.length = m := by
  rcases h.2 with ⟨h1, h2⟩ | ⟨g', cap', cur, hv, -⟩
  · injection h1 with e1 e2 e3; omega
  · injection hv with e1 e2 e3; exact e2.symm
theorem OwnI.apps {w w' : World} {base : Nat} {v v' : Value} {xs ys : List Int} (h : OwnI w base v xs) (hb : base <= w.heap.size)
    (h' : w'.ownsRow base 2 1 v' (xs.length + ys.length) (xs.map (Value.int .i64) ++ ys.map (Value.int .i64))) (hg : w.grownBy w' v.ownBlock) : OwnI w' base v' (xs ++ ys) /\ Below base w w' :=
  ⟨by unfold OwnI; rw [List.length_append, List.map_append]; exact h', (Below.refl base w).grown hg hb fun k hk => (h.block_lt k hk).1⟩
theorem libSort {w : World} {base : Nat} {A : Option Addr} {n cap : Nat} {xs : List Int} (h : OwnI w base (.slice A n cap) xs) (hn : xs.length <= 1099513724928) :
    Calls Tryz.prog 233 #[.slice A n cap] w fun e w' => e = .returned (.tuple #[]) /\ OwnI w' base (.slice A n cap) (sortL xs) /\ Below base w w' := by
  have hl := h.len
  rcases h.2 with ⟨h1, h2⟩ | ⟨g, cap', cur, hv, h1, h2, h3, h4, h5, h6⟩
  · injection h1 with e1 e2 e3
    subst e1 e2 e3
    obtain rfl : xs = [] := List.eq_nil_of_length_eq_zero h2
    have hc := AnyM.slices_Sort_int_none Tryz.sortI none 0 w
    change Calls Tryz.prog 233 _ _ _ at hc
    refine hc.mono ?_
    rintro e w' ⟨rfl, rfl⟩
    exact ⟨rfl, by rw [sortL_nil]; exact h, Below.refl _ _⟩
  · injection hv with e1 e2 e3
    subst e1 e2 e3
    have hH : Holds (Value.int .i64) w g 0 xs.toArray := holds_of_blockI h2 (by simpa using h6)
    have hgl : g < w.heap.size := lt_of_block h2
    have hc := AnyM.slices_Sort_int Tryz.sortI g 0 cap xs w hH hgl (by omega)
    change Calls Tryz.prog 233 _ _ _ at hc
    refine hc.mono ?_
    rintro e w' ⟨rfl, nn, os, rfl⟩
    refine ⟨rfl, ?_, (Below.refl base w).grown (grownBy_sortedI _) (by omega) (fun k hk => by cases hk; exact h1)⟩
    have hr := ownsRow_sortedI (n := nn) (os := os) (ts := sortL xs) (sortL_len xs) h1 h2 h3 h4 h5
    unfold OwnI
    rw [sortL_len]
    exact hr
theorem libCompact {w : World} {base : Nat} {A : Option Addr} {n cap : Nat} {xs : List Int} (h : OwnI w base (.slice A n cap) xs) (hn : xs.length <= 1099513724928) :
    Calls Tryz.prog 234 #[.slice A n cap] w fun e w' => ∃ v, e = .returned v /\ OwnI w' base v (Lib.compact xs) /\ Below base w w' := by
  have hl := h.len
  rcases h.2 with ⟨h1, h2⟩ | ⟨g, cap', cur, hv, h1, h2, h3, h4, h5, h6⟩
  · injection h1 with e1 e2 e3
    subst e1 e2 e3
    obtain rfl : xs = [] := List.eq_nil_of_length_eq_zero h2
    have hc := AnyG.slices_Compact_int_empty Tryz.compI none 0 w
    change Calls Tryz.prog 234 _ _ _ at hc
    refine hc.mono ?_
    rintro e w' ⟨rfl, rfl⟩
    exact ⟨_, rfl, by rw [compact_nil]; exact h, Below.refl _ _⟩
  · injection hv with e1 e2 e3
    subst e1 e2 e3
    have hH : Holds (Value.int .i64) w g 0 xs.toArray := holds_of_blockI h2 (by simpa using h6)
    have hgl : g < w.heap.size := lt_of_block h2
    have hc := AnyG.slices_Compact_int Tryz.compI g 0 cap xs w hH (by omega) h3
    change Calls Tryz.prog 234 _ _ _ at hc
    refine hc.mono ?_
    rintro e w' ⟨rfl, q, rfl⟩
    have hcl := compact_len xs
    have hlen : (Lib.compact xs ++ List.replicate (xs.length - (Lib.compact xs).length) (0 : Int)).length = xs.length := by simp; omega
    have hg := grownBy_sortedI (w := w) (g := g) (n := q) (os := #[]) (Lib.compact xs ++ List.replicate (xs.length - (Lib.compact xs).length) (0 : Int)).toArray
    have hr := ownsRow_sortedI (n := q) (os := #[]) (ts := Lib.compact xs ++ List.replicate (xs.length - (Lib.compact xs).length) (0 : Int)) hlen h1 h2 h3 h4 h5
    rw [grow_empty] at hg hr
    refine ⟨_, rfl, ?_, (Below.refl base w).grown hg (by omega) (fun k hk => by cases hk; exact h1)⟩
    refine OwnI.prefix (m := xs.length) (xs := Lib.compact xs ++ List.replicate (xs.length - (Lib.compact xs).length) (0 : Int)) ?_ (List.prefix_append _ _)
    unfold OwnI
    rw [hlen]
    exact hr
set_option maxRecDepth 100000 in
set_option maxHeartbeats 4000000 in
theorem implRivalsOf (bt ot bd od br orr : Nat) (AL A2 A3 AX : Option Addr) (nL cL n2 c2 n3 c3 nX cX : Nat) (rows : List Rw) (t : Tb) (x : Rw) (ok ok2 ok3 okx : Nat -> Prop) (w : World)
    (t2 : w.cell? ⟨bt, ot + 2, none⟩ = some (.slice A2 n2 c2)) (t3 : w.cell? ⟨bt, ot + 3, none⟩ = some (.slice A3 n3 c3)) (h2 : Sl IntR 1 ok2 w A2 n2 t.key) (h3 : Sl UqR 1 ok3 w A3 n3 t.uniqs)
    (p0 : w.cell? ⟨bd, od, none⟩ = some (.slice AL nL cL)) (hr : Sl RwR 2 ok w AL nL rows) (r0 : w.cell? ⟨br, orr, none⟩ = some (.int .i64 x.id)) (r1 : w.cell? ⟨br, orr + 1, none⟩ = some (.slice AX nX cX)) (hx : Sl VlR 3 okx w AX nX x.vals)
    (hrn : nL <= 1048576) (h2n : n2 <= 1048576) (h3n : n3 <= 1048576) (hun : ∀ u ∈ t.uniqs, u.cols.length <= 1048576) (hxn : nX <= 1048576) (hvn : ∀ r ∈ rows, r.vals.length <= 1048576)
    (hall : ∀ r ∈ rows, t.key.all (inV r.vals) = true) (hallu : ∀ u ∈ t.uniqs, ∀ r ∈ rows, u.cols.all (inV r.vals) = true) (hrow : rowB x.vals = true) (hxa : t.key.all (inV x.vals) = true) (hxu : ∀ u ∈ t.uniqs, u.cols.all (inV x.vals) = true) :
    Calls Tryz.prog 190 #[.pointer (some ⟨bt, ot, none⟩), .pointer (some ⟨bd, od, none⟩), .pointer (some ⟨br, orr, none⟩)] w (MadeO (rivB t rows x) w) := by
  obtain rfl : rows.length = nL := hr.1
  obtain rfl : t.uniqs.length = n3 := h3.1
  have HVN := Lib.hid hvn
  have HALL := Lib.hid hall
  have HALU := Lib.hid hallu
  have HUN := Lib.hid hun
  have HXU := Lib.hid hxu
  have HROW := Lib.hid hrow
  have HXA := Lib.hid hxa
  have HB := Lib.hid (show ∀ k, k <= t.uniqs.length -> (othL t.key rows x ++ (t.uniqs.take k).flatMap fun u => othL u.cols rows x).length + rows.length <= 1099513724928 from fun k hk => by
    have h1 := rivL_len { t with uniqs := t.uniqs.take k } rows x
    unfold rivL at h1
    simp only at h1
    rw [List.length_take] at h1
    have h4 : (1 + min k t.uniqs.length) * rows.length <= (1 + 1048576) * 1048576 - rows.length + rows.length := by
      have := Nat.mul_le_mul (show 1 + min k t.uniqs.length <= 1 + 1048576 by omega) hrn
      omega
    have h5 : (1 + min k t.uniqs.length) * rows.length <= (1 + 1048576) * 1048576 := Nat.mul_le_mul (by omega) hrn
    omega)
  obtain ⟨i0, hi, hz0, hz1, hz2⟩ := info_parts infoIntI
  have H1 := Lib.hid hi
  have H2 := Lib.hid hz0
  have H3 := Lib.hid hz1
  have H4 := Lib.hid hz2
  clear hi hz0 hz1 hz2 hvn hall hallu hun hxu hrow hxa
  have HC0 := Lib.hid (implOthersWith bd od br orr AL A2 AX rows.length cL n2 c2 nX cX rows t.key x ok ok2 okx w p0 hr h2 r0 r1 hx hrn h2n hxn HVN.out HALL.out HROW.out HXA.out)
  go_enter Tryz.func190, Tryz.ntmps190
  go_wp2_with fail
  refine HC0.out.mono ?_
  rintro e w1 ⟨v1, rfl, hown1, hb1⟩
  have HO1 := Lib.hid hown1
  have t3' := below_keep hb1 _ _ t3
  clear hown1 HC0
  go_wp2_with fail
  go_loopw [7, 22] (fun v iv wr => ∃ k : Nat, k <= t.uniqs.length /\ iv = .int .i64 k /\ Hid (OwnI wr w.heap.size v (othL t.key rows x ++ (t.uniqs.take k).flatMap fun u => othL u.cols rows x)) /\ Below w.heap.size w wr) (fun _ iv _ => t.uniqs.length - (intOf iv).toNat)
  case atStart => exact ⟨0, by omega, rfl, Lib.hid (by simpa using HO1.out), hb1⟩
  case round =>
    clear HO1 hb1 t3'
    obtain ⟨k, hk, rfl, hown, hb⟩ := hrel
    by_cases hlt : k < t.uniqs.length
    · obtain ⟨bu, ou, AU, nU, cU, -, rfl, u0, hu, -⟩ := UqR.at_ (h3.below UqR.stays hb) hlt
      obtain rfl : (t.uniqs[k]).cols.length = nU := hu.1
      have k0 : (0 : Int) <= k := by omega
      have k1 : (k : Int) < t.uniqs.length := by omega
      have hbx := (Below.refl wr.heap.size wr).alloc (Nat.le_refl _) (.cells #[.slice AU (t.uniqs[k]).cols.length cU] 183)
      have hba := hb.trans (hbx.mono hb.size)
      have RX := Row.new wr 183 #[.slice AU (t.uniqs[k]).cols.length cU]
      have d0 := RX.cell 0
      simp only [List.getElem?_toArray, List.getElem?_cons_zero] at d0
      have HC := Lib.hid (implOthersWith bd od br orr AL AU AX rows.length cL (t.uniqs[k]).cols.length cU nX cX rows (t.uniqs[k]).cols x ok _ okx _ (below_keep hba _ _ p0) (hr.below RwR.stays hba) (hu.below IntR.stays hbx) (below_keep hba _ _ r0) (below_keep hba _ _ r1) (hx.below VlR.stays hba) hrn (HUN.out _ (List.getElem_mem hlt)) hxn HVN.out (HALU.out _ (List.getElem_mem hlt)) HROW.out (HXU.out _ (List.getElem_mem hlt)))
      have hownb := Lib.hid (OwnI.below hown.out hbx)
      clear hown
      have HFT := Lib.hid (show othL t.key rows x ++ (t.uniqs.take (k + 1)).flatMap (fun u => othL u.cols rows x) = (othL t.key rows x ++ (t.uniqs.take k).flatMap fun u => othL u.cols rows x) ++ othL (t.uniqs[k]).cols rows x by
        rw [List.take_succ_eq_append_getElem hlt, List.flatMap_append]; simp)
      have HBK := Lib.hid (HB.out k (by omega))
      have HOL := Lib.hid (othL_len (t.uniqs[k]).cols rows x)
      generalize hys : (othL t.key rows x ++ (t.uniqs.take k).flatMap fun u => othL u.cols rows x) = ys at *
      generalize hzs : othL (t.uniqs[k]).cols rows x = zs at *
      have HYS := Lib.hid hys
      have HZS := Lib.hid hzs
      clear hys hzs
      go_wp2_with fail
      refine HC.out.mono ?_
      rintro e w5 ⟨v5, rfl, hown5, hb5⟩
      clear HC d0 RX
      have hb6 := hba.trans (hb5.mono hba.size)
      have ho6 := Lib.hid (OwnI.below hownb.out hb5)
      clear hownb
      have HO5 := Lib.hid hown5
      rcases hown5.2 with ⟨rfl, hn5⟩ | ⟨g5, cap5, cur5, rfl, -⟩
      · obtain rfl : zs = [] := List.eq_nil_of_length_eq_zero hn5
        clear hown5
        go_wp2_with (at_builtin; refine wpList_append_own_none rfl _ _ 70 rfl w.heap.size 2 i0 1 Tryz.underlying70 H1.out _ _ _ rfl ho6.out rfl ?_)
        go_wp2_with fail
        go_roundw
        case rel => exact ⟨k + 1, by omega, by go_num, Lib.hid (by rw [HFT.out, List.append_nil]; exact ho6.out), hb6⟩
        case measure => simp [intOf]; omega
      · clear hown5
        go_wp2_with (at_builtin; refine wpList_append_own _ rfl _ _ 70 rfl w.heap.size 2 i0 (.int .i64 0) 1 8 Tryz.underlying70 H1.out H2.out H3.out H4.out rfl (by decide) _ _ _ rfl ho6.out ⟨g5, 0, none⟩ zs.length cap5 (zs.map (Value.int .i64)) rfl (by simp) (OwnI.cells HO5.out) ?c2 ?c3 ?c4 ?c5 ?_)
        case c2 => intro u hu; obtain ⟨z, -, rfl⟩ := List.mem_map.1 hu; rfl
        case c3 => have h8 := HBK.out; have h9 := HOL.out; unfold maxLen; omega
        case c4 => have h8 := HBK.out; have h9 := HOL.out; omega
        case c5 => have := hb6.size; omega
        intro v' w7 hown3 hgrow _
        have R := Lib.hid (OwnI.apps ho6.out hb6.size hown3 hgrow)
        clear hown3 hgrow ho6
        go_wp2_with fail
        go_roundw
        case rel => exact ⟨k + 1, by omega, by go_num, Lib.hid (by rw [HFT.out]; exact R.out.1), hb6.trans R.out.2⟩
        case measure => simp [intOf]; omega
    · obtain rfl : k = t.uniqs.length := by omega
      have ho := hown.out
      have HLN := Lib.hid (show (rivL t rows x).length <= 1099513724928 by have h8 := HB.out t.uniqs.length (Nat.le_refl _); rw [List.take_of_length_le (Nat.le_refl _)] at h8; unfold rivL; omega)
      rw [List.take_of_length_le (Nat.le_refl _)] at ho
      change OwnI wr w.heap.size _ (rivL t rows x) at ho
      obtain ⟨AO, cO, rfl, -, -, -⟩ := OwnI.sl ho
      have HS := Lib.hid (libSort ho HLN.out)
      clear hown ho
      go_wp2_with fail
      refine HS.out.mono ?_
      rintro e w8 ⟨rfl, ho8, hb8⟩
      have HK := Lib.hid (libCompact ho8 (by rw [sortL_len]; exact HLN.out))
      clear HS ho8
      have hb9 := hb.trans hb8
      go_wp2_with fail
      refine HK.out.mono ?_
      rintro e w9 ⟨v9, rfl, ho9, hbq⟩
      have HO9 := Lib.hid ho9
      clear HK ho9
      go_wp2_with fail
      go_ret
      exact ⟨_, rfl, HO9.out, hb9.trans hbq⟩
end Go.Proofs.YtlpldhmanihnnaaGreat
namespace Go.Proofs.YtlpldhmanihnnaaGreat
open Go.RowKit Go.Maps Go.Shelf
attribute [local go_sem] Oper.semAt_some
def KpF (n0 : Nat) (W W' : World) : Prop := Below n0 W W' /\ ∀ b T cs, T ≠ 26 -> T ≠ 97 -> T ≠ 4 -> Row W b T cs -> Row W' b T cs
theorem KpF.refl (n0 : Nat) (W : World) : KpF n0 W W := ⟨Below.refl _ _, fun _ _ _ _ _ _ h => h⟩
theorem KpF.trans {n0 : Nat} {A B C : World} (h : KpF n0 A B) (k : KpF n0 B C) : KpF n0 A C := ⟨h.1.trans k.1, fun b T cs h1 h2 h3 hr => k.2 b T cs h1 h2 h3 (h.2 b T cs h1 h2 h3 hr)⟩
theorem KpF.below {n0 : Nat} {W W' : World} (hn : n0 <= W.heap.size) (hb : Below W.heap.size W W') : KpF n0 W W' := ⟨hb.mono hn, fun _ _ _ _ _ _ h => h.below hb⟩
theorem KpF.put {n0 : Nat} {W : World} {l : Nat} {o : Obj} (o' : Obj) (hl : n0 <= l) (h : W.heap[l]? = some o) (hc : o.isCells = false) : KpF n0 W (W.putObj l o') := by
  refine ⟨(Below.refl n0 W).grown (grownBy_putObj' W l o') (by have := (Array.getElem?_eq_some_iff.1 h).1; omega) (fun k e => by cases e; exact hl), fun b T cs _ _ _ hr => ?_⟩
  have hne : b ≠ l := fun e => by subst e; unfold Row at hr; rw [h] at hr; cases hr; cases hc
  exact (World.putObj_heap_other hne).trans hr
theorem Sl.low {α : Type} {R : Rd α} (hR : Stays R) {sz n0 : Nat} {w W : World} {A : Option Addr} {n : Nat} {ds : List α} (h : Sl R sz (fun b => b < n0) w A n ds) (hb : Below n0 w W) : Sl R sz (fun b => b < n0) W A n ds :=
  h.stays hR (fun _ h => h) fun p v hp hc => (hb.cell hp).trans hc
def askN : Bool -> Fn
  | true => .func 78
  | false => .func 66
structure RfIn (n0 : Nat) (AS AD AV : Option Addr) (nS cS nD cD cV : Nat) (b bl ol i : Nat) (s : List Tb) (db : List Dt) (x : Rw) (wait : Bool) (w : World) : Prop where
  low : n0 <= b
  s0 : Row w b 29 #[.slice AS nS cS]
  s1 : Row w (b + 1) 31 #[.slice AD nD cD]
  s2 : Row w (b + 2) 3 #[.int .i64 i]
  s3 : Row w (b + 3) 166 #[.pointer (some ⟨bl, ol, none⟩)]
  s4 : Row w (b + 4) 95 #[.func (askN wait) #[] #[]]
  hs : Sl TbR 6 (fun b => b < n0) w AS nS s
  hd : Sl DtR 1 (fun b => b < n0) w AD nD db
  hb : bl < n0
  z0 : w.cell? ⟨bl, ol, none⟩ = some (.int .i64 x.id)
  z1 : w.cell? ⟨bl, ol + 1, none⟩ = some (.slice AV x.vals.length cV)
  hv : Sl VlR 3 (fun b => b < n0) w AV x.vals.length x.vals
section
variable {n0 : Nat} {AS AD AV : Option Addr} {nS cS nD cD cV b bl ol i : Nat} {s : List Tb} {db : List Dt} {x : Rw} {wait : Bool}
theorem RfIn.kp {w W : World} (h : RfIn n0 AS AD AV nS cS nD cD cV b bl ol i s db x wait w) (k : KpF n0 w W) : RfIn n0 AS AD AV nS cS nD cD cV b bl ol i s db x wait W :=
  ⟨h.low, k.2 _ _ _ (by decide) (by decide) (by decide) h.s0, k.2 _ _ _ (by decide) (by decide) (by decide) h.s1, k.2 _ _ _ (by decide) (by decide) (by decide) h.s2, k.2 _ _ _ (by decide) (by decide) (by decide) h.s3, k.2 _ _ _ (by decide) (by decide) (by decide) h.s4,
   h.hs.low TbR.stays k.1, h.hd.low DtR.stays k.1, h.hb, (k.1.cell (p := ⟨bl, ol, none⟩) h.hb).trans h.z0, (k.1.cell (p := ⟨bl, ol + 1, none⟩) h.hb).trans h.z1, h.hv.low VlR.stays k.1⟩
theorem RfIn.n0_le {w : World} (h : RfIn n0 AS AD AV nS cS nD cD cV b bl ol i s db x wait w) : n0 <= w.heap.size := by
  have := lt_of_block h.s0; have := h.low; omega
theorem RfIn.cells {w : World} (h : RfIn n0 AS AD AV nS cS nD cD cV b bl ol i s db x wait w) :
    w.cell? ⟨b, 0, none⟩ = some (.slice AS nS cS) /\ w.cell? ⟨b + 1, 0, none⟩ = some (.slice AD nD cD) /\ w.cell? ⟨b + 2, 0, none⟩ = some (.int .i64 i) /\ w.cell? ⟨b + 3, 0, none⟩ = some (.pointer (some ⟨bl, ol, none⟩)) /\ w.cell? ⟨b + 4, 0, none⟩ = some (.func (askN wait) #[] #[]) :=
  ⟨h.s0.cell 0, h.s1.cell 0, h.s2.cell 0, h.s3.cell 0, h.s4.cell 0⟩
end
def oneK (ok : Bool) (k : Int) : List Int := if ok then [] else [k]
def rowK (s : List Tb) (db : List Dt) (t : Tb) (rows : List Rw) (wait : Bool) (x : Rw) : List Int :=
  oneK (nullsB t.cols x.vals) 1 ++ oneK (checksB t.checks x.vals) 2 ++ oneK (uniqueB t rows x) 3 ++ oneK (refersB s db t x.vals wait) 4
theorem rowFw_K (s : List Tb) (db : List Dt) (t : Tb) (rows : List Rw) (wait : Bool) (i : Int) (x : Rw) : rowFw s db t rows wait i x = (rowK s db t rows wait x).map fun k => ⟨k, i, x.id⟩ := by
  unfold rowFw rowK oneFw oneK
  cases nullsB t.cols x.vals <;> cases checksB t.checks x.vals <;> cases uniqueB t rows x <;> cases refersB s db t x.vals wait <;> rfl
def StK (J Jx : List Int -> World -> Prop) (full : List Int) (n0 : Nat) (W0 : World) (pre : List Int) (st : Bool) (W' : World) : Prop :=
  if st then ∃ q, q <+: full /\ Jx q W' else J pre W' /\ KpF n0 W0 W'
theorem abides_below {β : Type} {B : Nat} {J : β -> World -> Prop} (hJ : AbidesFrom B J) {s : β} {W W' : World} (h : J s W) (hb : Below W.heap.size W W') : J s W' :=
  hJ s W W' none h ⟨hb.os, hb.tape, hb.output, hb.size, fun k hk _ => hb.block k hk⟩ (fun r e => by cases e)
theorem implIsLost (AS AD A5 AV : Option Addr) (bt ot br orr nS cS nD cD n5 c5 nV cV : Nat) (s : List Tb) (db : List Dt) (i : Nat) (vals : List Vl) (wait : Bool) (ok okd ok5 okv : Nat -> Prop) (w : World)
    (hs : Sl TbR 6 ok w AS nS s) (hd : Sl DtR 1 okd w AD nD db) (hi : i < s.length) (h5 : Sl FkR 5 ok5 w A5 n5 s[i].fks) (hv : Sl VlR 3 okv w AV nV vals) (t5 : w.cell? ⟨bt, ot + 5, none⟩ = some (.slice A5 n5 c5)) (r1 : w.cell? ⟨br, orr + 1, none⟩ = some (.slice AV nV cV))
    (hss : szL Tb.sz s <= 1048576) (hdn : nD <= 1048576) (hvn : nV <= 1048576) (hrow : rowB vals = true) (hF : ∀ f ∈ s[i].fks, FkIn s db vals f) :
    Calls Tryz.prog 191 #[.slice AS nS cS, .slice AD nD cD, .pointer (some ⟨bt, ot, none⟩), .pointer (some ⟨br, orr, none⟩), .func (askN wait) #[] #[]] w fun e w' => e = .returned (.bool (!(refersB s db s[i] vals wait))) /\ Below w.heap.size w w' := by
  cases wait
  · have h := implIsLostEnd AS AD A5 AV bt ot br orr nS cS nD cD n5 c5 nV cV s db i vals ok okd ok5 okv w hs hd hi h5 hv t5 r1 hss hdn hvn hrow hF
    rw [lostB_refers] at h
    exact h
  · have h := implIsLostNow AS AD A5 AV bt ot br orr nS cS nD cD n5 c5 nV cV s db i vals ok okd ok5 okv w hs hd hi h5 hv t5 r1 hss hdn hvn hrow hF
    rw [lostB_refers] at h
    exact h
end Go.Proofs.YtlpldhmanihnnaaGreat
