/-
  Several texts in one: what the proof leans on, part 8.
-/
import Derived.Test.YtjhhamlnlalkoaaGreatPg
import Derived.Test.YtjhhamlnlalkoaaGreatPc
import Derived.Test.YtjhhamlnlalkoaaGreatPf
import Derived.Test.YtjhhamlnlalkoaaGreatPe
import Derived.Test.YtjhhamlnlalkoaaGreatPd
import Derived.Shelf.SortM.Plain
import Derived.Shelf.SortM.SortNone
import Derived.Shelf.SlicesG.CompactI
import Derived.Sort.OwnSortedInts
import Derived.Laws.AppendOwnNone
import Derived.Sort.CutIn
set_option linter.unusedVariables false
set_option linter.unusedSimpArgs false
namespace Go.Proofs.YtjhhamlnlalkoaaGreat
open Go.RowKit Go.Maps
def lostB (s : List Tb) (db : List Dt) (t : Tb) (vals : List Vl) (wait : Bool) : Bool := t.fks.any fun f => !(okFkB s db vals wait f)
theorem lostB_refers (s : List Tb) (db : List Dt) (t : Tb) (vals : List Vl) (wait : Bool) : lostB s db t vals wait = !(refersB s db t vals wait) := by
 unfold lostB refersB
 induction t.fks with
 | nil => rfl
 | cons a l ih => rw [List.any_cons, List.all_cons, ih]; cases okFkB s db vals wait a <;> rfl
set_option maxHeartbeats 1000000 in
theorem implAskedEnd (v : Value) (w : World) : Calls Tryz.prog 30 #[v] w fun e w' => e = .returned (.bool true) ∧ Below w.heap.size w w' := by
 go_enter Tryz.func30, Tryz.ntmps30
 go_wp2_with fail
 go_ret
 exact ⟨rfl, Below.refl _ _⟩
set_option maxHeartbeats 1000000 in
theorem implAskedNow (b o : Nat) (d : Bool) (w : World) (h : w.cell? ⟨b, o + 4, none⟩ = some (.bool d)) : Calls Tryz.prog 42 #[.pointer (some ⟨b, o, none⟩)] w fun e w' => e = .returned (.bool (!d)) ∧ Below w.heap.size w w' := by
 go_enter Tryz.func42, Tryz.ntmps42
 go_wp2_with fail
 go_ret
 exact ⟨rfl, Below.refl _ _⟩
set_option maxRecDepth 100000 in
set_option maxHeartbeats 4000000 in
theorem implIsLostEnd (AS AD A5 AV : Option Addr) (bt ot br orr nS cS nD cD n5 c5 nV cV : Nat) (s : List Tb) (db : List Dt) (i : Nat) (vals : List Vl) (ok okd ok5 okv : Nat → Prop) (w : World)
  (hs : Sl TbR 6 ok w AS nS s) (hd : Sl DtR 1 okd w AD nD db) (hi : i < s.length) (h5 : Sl FkR 5 ok5 w A5 n5 s[i].fks) (hv : Sl VlR 3 okv w AV nV vals) (t5 : w.cell? ⟨bt, ot + 5, none⟩ = some (.slice A5 n5 c5)) (r1 : w.cell? ⟨br, orr + 1, none⟩ = some (.slice AV nV cV))
  (hss : szL Tb.sz s ≤ 1048576) (hdn : nD ≤ 1048576) (hvn : nV ≤ 1048576) (hrow : rowB vals = true) (hF : ∀ f ∈ s[i].fks, FkIn s db vals f) :
  Calls Tryz.prog 102 #[.slice AS nS cS, .slice AD nD cD, .pointer (some ⟨bt, ot, none⟩), .pointer (some ⟨br, orr, none⟩), .func (.func 30) #[] #[]] w fun e w' => e = .returned (.bool (lostB s db s[i] vals false)) ∧ Below w.heap.size w w' := by
 obtain rfl : s[i].fks.length = n5 := h5.1
 have HF := Lib.hid hF
 have HQN := Lib.hid (show s[i].fks.length ≤ 1048576 by
  have h1 := szL_mem Tb.sz s s[i] (List.getElem_mem hi); have h2 : s[i].fks.length ≤ s[i].sz := by unfold Tb.sz szL; omega
  omega)
 have HTS := Lib.hid (show ∀ f ∈ s[i].fks, f.table.size ≤ maxLen from fun f hf => by
  have h1 := szL_mem Tb.sz s s[i] (List.getElem_mem hi)
  have h2 := szL_mem Fk.sz s[i].fks f hf
  have h3 : szL Fk.sz s[i].fks ≤ s[i].sz := by unfold Tb.sz; omega
  have h4 : f.table.size ≤ f.sz := by unfold Fk.sz; omega
  unfold maxLen; omega)
 have hfn := HQN.out
 clear hF
 have hb0 := Below.refl w.heap.size w
 go_enter Tryz.func102, Tryz.ntmps102
 go_wp2_with fail
 go_loopw [18] (fun j wr => ∃ k : Nat, k ≤ s[i].fks.length ∧ j = .int .i64 k ∧ Hid ((s[i].fks.take k).all (okFkB s db vals false) = true) ∧ Below w.heap.size w wr) (fun j _ => s[i].fks.length - (intOf j).toNat)
 case atStart => exact ⟨0, by omega, rfl, Lib.hid (by simp), hb0⟩
 case round =>
  clear hb0
  obtain ⟨k, hk', rfl, hall, hb⟩ := hrel
  have t5' := below_keep hb _ _ t5
  have r1' := below_keep hb _ _ r1
  by_cases hlt : k < s[i].fks.length
  ·obtain ⟨bf, of, AC, nC, cC, -, rfl, g0, g1, g2, g3, g4, hc, -⟩ := FkR.at_ (h5.below FkR.stays hb) hlt
   have j0 : (0 : Int) ≤ k := by omega
   have j1 : (k : Int) < s[i].fks.length := by omega
   have hst := all_take_one (okFkB s db vals false) s[i].fks k hlt
   rw [hall.out, Bool.true_and] at hst
   have hno : okFkB s db vals false s[i].fks[k] = false → lostB s db s[i] vals false = true := fun hf => by
    unfold lostB; rw [List.any_eq_true]; exact ⟨s[i].fks[k], List.getElem_mem hlt, by simp [hf]⟩
   have HL := Lib.hid (fun w5 (hb5 : Below wr.heap.size wr w5) => implLeadsNowhere AS AD AC AV bf (of + k * 5) br orr nS cS nD cD nC cC nV cV s db s[i].fks[k] vals _ _ _ _ w5 (hs.below TbR.stays (hb.trans (hb5.mono hb.size))) (hd.below DtR.stays (hb.trans (hb5.mono hb.size))) (hc.below IntR.stays hb5) (hv.below VlR.stays (hb.trans (hb5.mono hb.size))) (below_keep hb5 _ _ g0) (below_keep hb5 _ _ g1) (below_keep hb5 _ _ r1') hss hdn hvn (HTS.out _ (List.getElem_mem hlt)) hrow (HF.out _ (List.getElem_mem hlt)))
   cases hp : parentB s db s[i].fks[k] vals
   ·have HP := Lib.hid hp
    have HN := Lib.hid (hno (by unfold okFkB; rw [hp]; rfl))
    clear hst hno hp
    go_wp2_with fail
    refine (implAskedEnd _ _).mono ?_
    rintro e w5 ⟨rfl, hb5⟩
    go_wp2_with fail
    refine (HL.out w5 hb5).mono ?_
    rintro e w6 ⟨rfl, hb6⟩
    rw [HP.out]
    have hb7 := hb5.trans (hb6.mono hb5.size)
    go_wp2_with fail
    go_ret
    exact ⟨retB HN.out.symm, hb.trans (hb7.mono hb.size)⟩
   ·have HP := Lib.hid hp
    have HA := Lib.hid (show (s[i].fks.take (k + 1)).all (okFkB s db vals false) = true by rw [hst]; unfold okFkB; rw [hp]; rfl)
    clear hst hno hp
    go_wp2_with fail
    refine (implAskedEnd _ _).mono ?_
    rintro e w5 ⟨rfl, hb5⟩
    go_wp2_with fail
    refine (HL.out w5 hb5).mono ?_
    rintro e w6 ⟨rfl, hb6⟩
    rw [HP.out]
    have hb7 := hb5.trans (hb6.mono hb5.size)
    go_wp2_with fail
    go_roundw
    case rel => exact ⟨k + 1, by omega, by go_num, HA, hb.trans (hb7.mono hb.size)⟩
    case measure => simp [intOf]; omega
  ·obtain rfl : k = s[i].fks.length := by omega
   have h1 := hall.out
   rw [List.take_of_length_le (Nat.le_refl _)] at h1
   have HR := Lib.hid (show lostB s db s[i] vals false = false by rw [lostB_refers]; unfold refersB; rw [h1]; rfl)
   clear hall h1
   go_wp2_with fail
   go_ret
   exact ⟨retB HR.out.symm, hb⟩
set_option maxRecDepth 100000 in
set_option maxHeartbeats 4000000 in
theorem implIsLostNow (AS AD A5 AV : Option Addr) (bt ot br orr nS cS nD cD n5 c5 nV cV : Nat) (s : List Tb) (db : List Dt) (i : Nat) (vals : List Vl) (ok okd ok5 okv : Nat → Prop) (w : World)
  (hs : Sl TbR 6 ok w AS nS s) (hd : Sl DtR 1 okd w AD nD db) (hi : i < s.length) (h5 : Sl FkR 5 ok5 w A5 n5 s[i].fks) (hv : Sl VlR 3 okv w AV nV vals) (t5 : w.cell? ⟨bt, ot + 5, none⟩ = some (.slice A5 n5 c5)) (r1 : w.cell? ⟨br, orr + 1, none⟩ = some (.slice AV nV cV))
  (hss : szL Tb.sz s ≤ 1048576) (hdn : nD ≤ 1048576) (hvn : nV ≤ 1048576) (hrow : rowB vals = true) (hF : ∀ f ∈ s[i].fks, FkIn s db vals f) :
  Calls Tryz.prog 102 #[.slice AS nS cS, .slice AD nD cD, .pointer (some ⟨bt, ot, none⟩), .pointer (some ⟨br, orr, none⟩), .func (.func 42) #[] #[]] w fun e w' => e = .returned (.bool (lostB s db s[i] vals true)) ∧ Below w.heap.size w w' := by
 obtain rfl : s[i].fks.length = n5 := h5.1
 have HF := Lib.hid hF
 have HQN := Lib.hid (show s[i].fks.length ≤ 1048576 by
  have h1 := szL_mem Tb.sz s s[i] (List.getElem_mem hi); have h2 : s[i].fks.length ≤ s[i].sz := by unfold Tb.sz szL; omega
  omega)
 have HTS := Lib.hid (show ∀ f ∈ s[i].fks, f.table.size ≤ maxLen from fun f hf => by
  have h1 := szL_mem Tb.sz s s[i] (List.getElem_mem hi)
  have h2 := szL_mem Fk.sz s[i].fks f hf
  have h3 : szL Fk.sz s[i].fks ≤ s[i].sz := by unfold Tb.sz; omega
  have h4 : f.table.size ≤ f.sz := by unfold Fk.sz; omega
  unfold maxLen; omega)
 have hfn := HQN.out
 clear hF
 have hb0 := Below.refl w.heap.size w
 go_enter Tryz.func102, Tryz.ntmps102
 go_wp2_with fail
 go_loopw [18] (fun j wr => ∃ k : Nat, k ≤ s[i].fks.length ∧ j = .int .i64 k ∧ Hid ((s[i].fks.take k).all (okFkB s db vals true) = true) ∧ Below w.heap.size w wr) (fun j _ => s[i].fks.length - (intOf j).toNat)
 case atStart => exact ⟨0, by omega, rfl, Lib.hid (by simp), hb0⟩
 case round =>
  clear hb0
  obtain ⟨k, hk', rfl, hall, hb⟩ := hrel
  have t5' := below_keep hb _ _ t5
  have r1' := below_keep hb _ _ r1
  by_cases hlt : k < s[i].fks.length
  ·obtain ⟨bf, of, AC, nC, cC, -, rfl, g0, g1, g2, g3, g4, hc, -⟩ := FkR.at_ (h5.below FkR.stays hb) hlt
   have j0 : (0 : Int) ≤ k := by omega
   have j1 : (k : Int) < s[i].fks.length := by omega
   have hst := all_take_one (okFkB s db vals true) s[i].fks k hlt
   rw [hall.out, Bool.true_and] at hst
   have hno : okFkB s db vals true s[i].fks[k] = false → lostB s db s[i] vals true = true := fun hf => by
    unfold lostB; rw [List.any_eq_true]; exact ⟨s[i].fks[k], List.getElem_mem hlt, by simp [hf]⟩
   have HL := Lib.hid (fun w5 (hb5 : Below wr.heap.size wr w5) => implLeadsNowhere AS AD AC AV bf (of + k * 5) br orr nS cS nD cD nC cC nV cV s db s[i].fks[k] vals _ _ _ _ w5 (hs.below TbR.stays (hb.trans (hb5.mono hb.size))) (hd.below DtR.stays (hb.trans (hb5.mono hb.size))) (hc.below IntR.stays hb5) (hv.below VlR.stays (hb.trans (hb5.mono hb.size))) (below_keep hb5 _ _ g0) (below_keep hb5 _ _ g1) (below_keep hb5 _ _ r1') hss hdn hvn (HTS.out _ (List.getElem_mem hlt)) hrow (HF.out _ (List.getElem_mem hlt)))
   generalize hdv : s[i].fks[k].dfr = dv at *
   cases dv
   ·have HD := Lib.hid hdv
    clear hdv
    cases hp : parentB s db s[i].fks[k] vals
    ·have HP := Lib.hid hp
     have HN := Lib.hid (hno (by unfold okFkB; rw [hp, HD.out]; rfl))
     clear hst hno hp
     go_wp2_with fail
     refine (implAskedNow bf (of + k * 5) _ _ g4).mono ?_
     rintro e w5 ⟨rfl, hb5⟩
     go_wp2_with fail
     refine (HL.out w5 hb5).mono ?_
     rintro e w6 ⟨rfl, hb6⟩
     rw [HP.out]
     have hb7 := hb5.trans (hb6.mono hb5.size)
     go_wp2_with fail
     go_ret
     exact ⟨retB HN.out.symm, hb.trans (hb7.mono hb.size)⟩
    ·have HP := Lib.hid hp
     have HA := Lib.hid (show (s[i].fks.take (k + 1)).all (okFkB s db vals true) = true by rw [hst]; unfold okFkB; rw [hp, HD.out]; rfl)
     clear hst hno hp
     go_wp2_with fail
     refine (implAskedNow bf (of + k * 5) _ _ g4).mono ?_
     rintro e w5 ⟨rfl, hb5⟩
     go_wp2_with fail
     refine (HL.out w5 hb5).mono ?_
     rintro e w6 ⟨rfl, hb6⟩
     rw [HP.out]
     have hb7 := hb5.trans (hb6.mono hb5.size)
     go_wp2_with fail
     go_roundw
     case rel => exact ⟨k + 1, by omega, by go_num, HA, hb.trans (hb7.mono hb.size)⟩
     case measure => simp [intOf]; omega
   ·have HA := Lib.hid (show (s[i].fks.take (k + 1)).all (okFkB s db vals true) = true by rw [hst]; unfold okFkB; rw [hdv]; rfl)
    clear hst hno hdv HL
    go_wp2_with fail
    refine (implAskedNow bf (of + k * 5) _ _ g4).mono ?_
    rintro e w5 ⟨rfl, hb5⟩
    go_wp2_with fail
    go_roundw
    case rel => exact ⟨k + 1, by omega, by go_num, HA, hb.trans (hb5.mono hb.size)⟩
    case measure => simp [intOf]; omega
  ·obtain rfl : k = s[i].fks.length := by omega
   have h1 := hall.out
   rw [List.take_of_length_le (Nat.le_refl _)] at h1
   have HR := Lib.hid (show lostB s db s[i] vals true = false by rw [lostB_refers]; unfold refersB; rw [h1]; rfl)
   clear hall h1
   go_wp2_with fail
   go_ret
   exact ⟨retB HR.out.symm, hb⟩
def othL (cols : List Int) (rows : List Rw) (x : Rw) : List Int := if knownL (keyL cols x.vals) then (findL cols (keyL cols x.vals) rows).filter (fun i => i != x.id) else []
theorem twiceB_oth (cols : List Int) (rows : List Rw) (x : Rw) : twiceB cols rows x = decide (0 < (othL cols rows x).length) := by
 unfold twiceB othL
 cases knownL (keyL cols x.vals)
 ·rfl
 ·rw [Bool.true_and, if_pos rfl]
  generalize findL cols (keyL cols x.vals) rows = l
  induction l with
  | nil => rfl
  | cons a l ih => rw [List.any_cons, List.filter_cons]; cases h : (a != x.id) <;> simp_all
theorem othL_len (cols : List Int) (rows : List Rw) (x : Rw) : (othL cols rows x).length ≤ rows.length := by
 unfold othL; split
 ·exact Nat.le_trans (List.length_filter_le _ _) (findL_len _ _ _)
 ·exact Nat.zero_le _
def MadeO (xs : List Int) (w : World) (e : Ending) (w' : World) : Prop := ∃ v, e = .returned v ∧ OwnI w' w.heap.size v xs ∧ Below w.heap.size w w'
theorem OwnI.base {w : World} {b b' : Nat} {v : Value} {xs : List Int} (h : OwnI w b v xs) (hb : b' ≤ b) : OwnI w b' v xs := by
 refine ⟨h.1, ?_⟩
 rcases h.2 with h | ⟨g, cap, cur, rfl, h1, h2⟩
 ·exact .inl h
 ·exact .inr ⟨g, cap, cur, rfl, by omega, h2⟩
set_option maxRecDepth 100000 in
set_option maxHeartbeats 4000000 in
theorem implOthersWith (bd od br orr : Nat) (AL AC AX : Option Addr) (nL cL nC cC nX cX : Nat) (rows : List Rw) (cols : List Int) (x : Rw) (ok okc okx : Nat → Prop) (w : World)
  (p0 : w.cell? ⟨bd, od, none⟩ = some (.slice AL nL cL)) (hr : Sl RwR 2 ok w AL nL rows) (hc : Sl IntR 1 okc w AC nC cols) (r0 : w.cell? ⟨br, orr, none⟩ = some (.int .i64 x.id)) (r1 : w.cell? ⟨br, orr + 1, none⟩ = some (.slice AX nX cX)) (hx : Sl VlR 3 okx w AX nX x.vals)
  (hrn : nL ≤ 1048576) (hcn : nC ≤ 1048576) (hxn : nX ≤ 1048576) (hvn : ∀ r ∈ rows, r.vals.length ≤ 1048576) (hall : ∀ r ∈ rows, cols.all (inV r.vals) = true) (hrow : rowB x.vals = true) (hxa : cols.all (inV x.vals) = true) :
  Calls Tryz.prog 127 #[.pointer (some ⟨bd, od, none⟩), .slice AC nC cC, .pointer (some ⟨br, orr, none⟩)] w (MadeO (othL cols rows x) w) := by
 obtain rfl : rows.length = nL := hr.1
 obtain rfl : cols.length = nC := hc.1
 obtain rfl : x.vals.length = nX := hx.1
 have HKF := Lib.hid (keyOf_in hrow hxa)
 have HVN := Lib.hid hvn
 have HALL := Lib.hid hall
 have HRN := Lib.hid hrn
 have HKL := Lib.hid (show (keyL cols x.vals).length ≤ 1048576 by rw [show (keyL cols x.vals).length = cols.length by simp [keyL]]; exact hcn)
 have HC := implKeyOf AC AX cols.length cC x.vals.length cX cols x.vals _ _ w hc hx hcn hxn
 rw [HKF.out.1, HKF.out.2] at HC
 have HC0 := Lib.hid HC
 obtain ⟨i0, hi, hz0, hz1, hz2⟩ := info_parts infoIntI
 have H1 := Lib.hid hi
 have H2 := Lib.hid hz0
 have H3 := Lib.hid hz1
 have H4 := Lib.hid hz2
 clear hi hz0 hz1 hz2 HC hvn hall hrow hxa
 go_enter Tryz.func127, Tryz.ntmps127
 go_wp2_with fail
 refine HC0.out.mono ?_
 rintro e w1 ⟨AO, cO, rfl, hcO, hsl, hb1⟩
 have HSL := Lib.hid hsl
 clear hsl
 cases hk : knownL (keyL cols x.vals)
 ·have HR := Lib.hid (show othL cols rows x = [] by unfold othL; rw [hk]; rfl)
  clear hk
  go_wp2_with fail
  go_ret
  exact ⟨_, rfl, by rw [HR.out]; exact OwnI.nil _ _, hb1⟩
 have HR := Lib.hid (show othL cols rows x = (idL rows (idxK cols (keyL cols x.vals) rows rows.length)).filter (fun i => i != x.id) by unfold othL; rw [hk]; rfl)
 clear hk
 have HP := Lib.hid (implRowsWith bd od AL AC AO rows.length cL cols.length cC (keyL cols x.vals).length cO rows cols (keyL cols x.vals) _ _ _ w1 (below_keep hb1 _ _ p0) (hr.below RwR.stays hb1) (hc.below IntR.stays hb1) HSL.out hrn hcn HKL.out HVN.out HALL.out)
 go_wp2_with fail
 refine HP.out.mono ?_
 rintro e w4 ⟨AP, cP, rfl, hcP, hsp, hb4⟩
 have hbz := hb1.trans (hb4.mono hb1.size)
 have hrs := hr.below RwR.stays hbz
 have r0z := below_keep hbz _ _ r0
 have HIL := Lib.hid (idxK_lt cols (keyL cols x.vals) rows rows.length)
 have HXL := Lib.hid (idxK_len cols (keyL cols x.vals) rows rows.length)
 clear hb4 HP hb1 p0 r0 r1 hr hx hc HSL HC0
 generalize hxg : idxK cols (keyL cols x.vals) rows rows.length = xs at *
 have HXG := Lib.hid hxg
 clear hxg
 go_wp2_with fail
 go_loopw [9, 28] (fun v i wr => ∃ j : Nat, j ≤ xs.length ∧ i = .int .i64 j ∧ Hid (OwnI wr w4.heap.size v ((idL rows (xs.take j)).filter (fun i => i != x.id))) ∧ Below w4.heap.size w4 wr) (fun _ i _ => xs.length - (intOf i).toNat)
 case atStart => exact ⟨0, by omega, rfl, Lib.hid (OwnI.nil _ _), Below.refl _ _⟩
 case round =>
  obtain ⟨j, hj, rfl, hown, hb⟩ := hrel
  have r0' := below_keep hb _ _ r0z
  by_cases hlt : j < xs.length
  ·have hix := (HIL.out _ (List.getElem_mem hlt)).2
   obtain ⟨bl, ol, B1, k1, d1, -, rfl, z0, -⟩ := RwR.at_ (hrs.below RwR.stays hb) hix
   obtain ⟨bp, op, rfl, z1⟩ := ptr_at (hsp.stays (FlatR.stays _) (fun _ h => h) (fun p v _ hp => below_keep hb p v hp)) rfl hlt
   have j0 : (0 : Int) ≤ j := by omega
   have j1 : (j : Int) < xs.length := by omega
   have hT := idL_app rows (xs.take j) xs[j] hix
   rw [← List.take_succ_eq_append_getElem hlt] at hT
   have hxj : xs.length ≤ 1048576 := by have h1 := HXL.out; have h2 := HRN.out; omega
   have HLI := Lib.hid (show ((idL rows (xs.take j)).filter (fun i => i != x.id)).length ≤ j by
    refine Nat.le_trans (List.length_filter_le _ _) ?_
    unfold idL; rw [List.length_map, List.length_take]; omega)
   cases hne : (rows[xs[j]].id != x.id)
   ·have HA := Lib.hid (show (idL rows (xs.take (j + 1))).filter (fun i => i != x.id) = (idL rows (xs.take j)).filter (fun i => i != x.id) by rw [hT, List.filter_append]; simp [hne])
    clear hT
    go_wp2_with fail
    go_quiet (fail)
    go_wp2_with fail
    go_roundw
    case rel => exact ⟨j + 1, by omega, by go_num, Lib.hid (by rw [HA.out]; exact OwnI.below hown.out (below_dN (Below.refl _ _) _)), below_dN hb _⟩
    case measure => simp [intOf]; omega
   ·have HA := Lib.hid (show (idL rows (xs.take (j + 1))).filter (fun i => i != x.id) = (idL rows (xs.take j)).filter (fun i => i != x.id) ++ [rows[xs[j]].id] by rw [hT, List.filter_append]; simp [hne])
    clear hT
    generalize hgv : (idL rows (xs.take j)).filter (fun i => i != x.id) = ys at *
    have HGV := Lib.hid hgv
    clear hgv
    go_wp2_with fail
    go_quiet (fail)
    have hbd := below_dN hb nq
    have z0d := below_keep (below_dN (Below.refl wr.heap.size wr) nq) _ _ z0
    have hoz := OwnI.below hown.out (below_dN (Below.refl wr.heap.size wr) nq)
    have hoz := Lib.hid hoz
    clear hown
    generalize wr.drewN nq = wd at *
    go_wp2_with (at_builtin; refine wpList_append_own _ rfl _ _ 40 rfl w4.heap.size 2 i0 (.int .i64 0) 1 8 Tryz.underlying40 H1.out H2.out H3.out H4.out rfl (by decide) _ _ _ rfl (World.ownsRow.alloc hoz.out _) ⟨_, 0, none⟩ 1 1 [.int .i64 rows[xs[j]].id] rfl rfl ?c1 ?c2 ?c3 ?c4 ?c5 ?_)
    case c1 => exact cell_one_new _ _ _
    case c2 => intro u hu; simp at hu; subst hu; rfl
    case c3 => have := HLI.out; unfold maxLen; omega
    case c4 => have := HLI.out; omega
    case c5 => have := hbd.size; simp; omega
    intro v' w5 hown3 hgrow _
    have R := Lib.hid (OwnI.app hoz.out hbd.size hown3 hgrow)
    clear hown3 hgrow hoz
    go_wp2_with fail
    go_roundw
    case rel => exact ⟨j + 1, by omega, by go_num, Lib.hid (by rw [HA.out]; exact R.out.1), hbd.trans R.out.2⟩
    case measure => simp [intOf]; omega
  ·obtain rfl : j = xs.length := by omega
   have ho := hown.out
   rw [List.take_of_length_le (Nat.le_refl _)] at ho
   have HO := Lib.hid ho
   clear hown ho
   have hbw := hbz.trans (hb.mono hbz.size)
   go_wp2_with fail
   go_ret
   exact ⟨_, rfl, by rw [HR.out]; exact OwnI.base HO.out hbz.size, hbw⟩
set_option maxRecDepth 100000 in
set_option maxHeartbeats 1000000 in
theorem implWrongNullAt (g o : Nat) (A1 AR : Option Addr) (n1 c1 nR cR : Nat) (cols : List Cl) (row : List Vl) (ok : Nat → Prop) (w : World)
  (t1 : w.cell? ⟨g, o + 1, none⟩ = some (.slice A1 n1 c1)) (h : Sl ClR 6 ok w A1 n1 cols) (hv : Vals w AR nR row) (hn1 : n1 ≤ 1048576) (hn2 : nR ≤ 1048576) (hlen : row.length = cols.length) :
  Calls Tryz.prog 53 #[.pointer (some ⟨g, o, none⟩), .slice AR nR cR] w fun e w' => e = .returned (.bool (!nullsB cols row)) ∧ Below w.heap.size w w' := by
 obtain rfl : cols.length = n1 := h.1
 obtain rfl : row.length = nR := hv.len
 have hz : (cols.zip row).length = cols.length := by simp [hlen]
 have HZ := Lib.hid hz
 have HL := Lib.hid hlen
 clear hz hlen
 go_enter Tryz.func53, Tryz.ntmps53
 go_wp2
 go_loopw [9] (fun i wr => ∃ k : Nat, k ≤ cols.length ∧ i = .int .i64 k ∧ Hid (((cols.zip row).take k).all nullV = true) ∧ Below w.heap.size w wr) (fun i _ => cols.length - (intOf i).toNat)
 case atStart => exact ⟨0, by omega, rfl, Lib.hid (by simp), Below.refl _ _⟩
 case round =>
  obtain ⟨k, hk, rfl, hall, hb⟩ := hrel
  by_cases hlt : k < cols.length
  ·have hlt2 : k < row.length := by have := HL.out; omega
   have hbx := (Below.refl wr.heap.size wr).alloc (Nat.le_refl _) (.cells #[.int .i64 row[k].k, .int .i64 row[k].n, .string row[k].s] 53)
   have hba := hb.trans (hbx.mono hb.size)
   have rv := Row.new wr 53 #[.int .i64 row[k].k, .int .i64 row[k].n, .string row[k].s]
   obtain ⟨b2, off2, rfl, p0, p1, p2⟩ := (hv.below hb).at_ hlt2
   obtain ⟨b, off, -, rfl, q0, q1, q2, q3, q4, q5⟩ := ClR.at_ (h.below ClR.stays hba) hlt
   have d1 := below_keep hba _ _ t1
   obtain ⟨⟨f0, f1, f2⟩, -⟩ := rv.three
   have hsn := all_take nullV (cols.zip row) k (by rw [HZ.out]; exact hlt)
   have hno := fun hf => all_no nullV (cols.zip row) k (by rw [HZ.out]; exact hlt) hf
   have eg : nullV ((cols.zip row)[k]'(by rw [HZ.out]; exact hlt)) = !(cols[k].nn && row[k].k == 0) := by rw [List.getElem_zip]; rfl
   rw [hall.out, Bool.true_and, eg] at hsn
   rw [eg] at hno
   have i0 : (0 : Int) ≤ k := by omega
   have i1 : (k : Int) < cols.length := by omega
   have i2 : (k : Int) < row.length := by have := HL.out; omega
   clear eg
   cases hc : (row[k].k == 0)
   ·have HA := Lib.hid (show ((cols.zip row).take (k + 1)).all nullV = true by rw [hsn, hc, Bool.and_false]; rfl)
    clear hsn hno hall
    go_wp2_with fail
    go_roundw
    case rel => exact ⟨k + 1, by omega, by go_num, Lib.hid HA.out, hba⟩
    case measure => simp [intOf]; omega
   cases hd : cols[k].nn
   ·have HA := Lib.hid (show ((cols.zip row).take (k + 1)).all nullV = true by rw [hsn, hc, hd]; rfl)
    rw [hd] at q2
    clear hsn hno hall
    go_wp2_with fail
    go_roundw
    case rel => exact ⟨k + 1, by omega, by go_num, Lib.hid HA.out, hba⟩
    case measure => simp [intOf]; omega
   ·have HF := Lib.hid (show nullsB cols row = false from hno (by rw [hc, hd]; rfl))
    rw [hd] at q2
    clear hsn hno hall
    go_wp2_with fail
    go_ret
    exact ⟨retB (by rw [HF.out]; rfl), hba⟩
  ·have e : (cols.zip row).take k = cols.zip row := List.take_of_length_le (by rw [HZ.out]; omega)
   have h1 := hall.out
   rw [e] at h1
   have HF := Lib.hid (show nullsB cols row = true from h1)
   have i3 : ¬ (k : Int) < row.length := by have := HL.out; omega
   clear e h1 hall
   go_wp2
   go_ret
   exact ⟨retB (by rw [HF.out]; rfl), hb⟩
set_option maxRecDepth 100000 in
set_option maxHeartbeats 1000000 in
theorem implFailsCheckAt (g o : Nat) (AL AR : Option Addr) (nL cL nR cR : Nat) (l : List Ck) (row : List Vl) (ok : Nat → Prop) (w : World)
  (t4 : w.cell? ⟨g, o + 4, none⟩ = some (.slice AL nL cL)) (h : Sl CkR 1 ok w AL nL l) (hv : Vals w AR nR row) (hs : szL Ck.sz l ≤ 1048576) (hn2 : nR ≤ 1048576) :
  Calls Tryz.prog 54 #[.pointer (some ⟨g, o, none⟩), .slice AR nR cR] w fun e w' => e = .returned (.bool (!checksB l row)) ∧ Below w.heap.size w w' := by
 obtain rfl : l.length = nL := h.1
 have hn1 : l.length ≤ 1048576 := by unfold szL at hs; omega
 have HSZ := Lib.hid hs
 have HM := Lib.hid (show nR ≤ maxLen by unfold maxLen; omega)
 clear hs
 have x4 := t4
 go_enter Tryz.func54, Tryz.ntmps54
 go_wp2
 go_loopw [13] (fun i wr => ∃ k : Nat, k ≤ l.length ∧ i = .int .i64 k ∧ Hid ((l.take k).all (ckV row) = true) ∧ Below w.heap.size w wr) (fun i _ => l.length - (intOf i).toNat)
 case atStart => exact ⟨0, by omega, rfl, Lib.hid (by simp), Below.refl _ _⟩
 case round =>
  obtain ⟨k, hk, rfl, hall, hb⟩ := hrel
  by_cases hlt : k < l.length
  ·obtain ⟨b, off, A9, n9, c9, -, rfl, q0, s0, hcp⟩ := CkR.at_ (h.below CkR.stays hb) hlt
   obtain rfl : l[k].expr.length = n9 := s0.1
   have hbx := (Below.refl wr.heap.size wr).alloc (Nat.le_refl _) (.cells #[.slice A9 l[k].expr.length c9] 59)
   have hba := hb.trans (hbx.mono hb.size)
   have s1 := s0.below TkR.stays hbx
   have hv1 := hv.below hba
   have hk9 : l[k].expr.length ≤ 1048576 := by have := HSZ.out; have := sum_mem_le Ck.sz l k hlt; unfold szL at *; simp only [Ck.sz] at *; (try unfold szL at *); (try simp only at *); omega
   have HK9 := Lib.hid (show l[k].expr.length ≤ maxLen by unfold maxLen; omega)
   have hsn := all_take (ckV row) l k hlt
   rw [hall.out, Bool.true_and] at hsn
   have hno := fun hf => all_no (ckV row) l k hlt hf
   have hcall := implTruth A9 AR l[k].expr.length nR c9 cR l[k].expr row _ (Sl.cellz (fun _ => rfl) s1) hv1 HK9.out HM.out
   have HCALL := Lib.hid hcall
   clear hk9 hcall
   by_cases h1 : truthB l[k].expr row = 1
   ·have HA := Lib.hid (show (l.take (k + 1)).all (ckV row) = true by rw [hsn]; unfold ckV truOkB; rw [h1]; rfl)
    have H1 := Lib.hid h1
    clear hsn hno hall h1
    go_wp2_with fail
    refine HCALL.out.mono ?_
    rintro e w1 ⟨rfl, hb1⟩
    rw [H1.out]
    clear HCALL
    go_wp2
    go_roundw
    case rel => exact ⟨k + 1, by omega, by go_num, Lib.hid HA.out, hba.trans (hb1.mono hba.size)⟩
    case measure => simp [intOf]; omega
   by_cases h2 : truthB l[k].expr row = 2
   ·have HA := Lib.hid (show (l.take (k + 1)).all (ckV row) = true by rw [hsn]; unfold ckV truOkB; rw [h2]; rfl)
    have H1 := Lib.hid h2
    clear hsn hno hall h1 h2
    go_wp2_with fail
    refine HCALL.out.mono ?_
    rintro e w1 ⟨rfl, hb1⟩
    rw [H1.out]
    clear HCALL
    go_wp2
    go_roundw
    case rel => exact ⟨k + 1, by omega, by go_num, Lib.hid HA.out, hba.trans (hb1.mono hba.size)⟩
    case measure => simp [intOf]; omega
   ·have HF := Lib.hid (show checksB l row = false from hno (by unfold ckV truOkB; rw [beq_eq_false_iff_ne.2 h1, beq_eq_false_iff_ne.2 h2]; rfl))
    have e1 : (truthB l[k].expr row != 1) = true := by simpa using h1
    have e2 : (truthB l[k].expr row != 2) = true := by simpa using h2
    have e3 : (truthB l[k].expr row != 1 && truthB l[k].expr row != 2) = true := by rw [e1, e2]; rfl
    clear hsn hno hall h1 h2
    generalize truthB l[k].expr row = tr at *
    go_wp2_with fail
    refine HCALL.out.mono ?_
    rintro e w1 ⟨rfl, hb1⟩
    clear HCALL
    go_wp2
    go_ret
    exact ⟨retB (by rw [HF.out]; rfl), hba.trans (hb1.mono hba.size)⟩
  ·have e : l.take k = l := List.take_of_length_le (by omega)
   have h1 := hall.out
   rw [e] at h1
   have HF := Lib.hid (show checksB l row = true from h1)
   clear e h1 hall
   go_wp2
   go_ret
   exact ⟨retB (by rw [HF.out]; rfl), hb⟩
structure Fw where
 k : Int
 t : Int
 id : Int
def Fw.cells (x : Fw) : List Value := [.int .i64 x.k, .int .i64 x.t, .int .i64 x.id]
theorem infoFlawF : (Tryz.prog.info? 48).map (fun i => (i.zero, i.size, i.bytes)) = some (some (.agg #[.int .i64 0, .int .i64 0, .int .i64 0]), 3, 24) := by kernel_rfl
def OwnF (w : World) (base : Nat) (v : Value) (xs : List Fw) : Prop := OwnG 48 3 Fw.cells w base v xs
def oneFw (ok : Bool) (k i : Int) (x : Rw) : List Fw := if ok then [] else [⟨k, i, x.id⟩]
def rowFw (s : List Tb) (db : List Dt) (t : Tb) (rows : List Rw) (wait : Bool) (i : Int) (x : Rw) : List Fw :=
 oneFw (nullsB t.cols x.vals) 1 i x ++ oneFw (checksB t.checks x.vals) 2 i x ++ oneFw (uniqueB t rows x) 3 i x ++ oneFw (refersB s db t x.vals wait) 4 i x
def tabFw (s : List Tb) (db : List Dt) (wait : Bool) (i : Nat) : List Fw :=
 match s[i]?, db[i]? with
 | some t, some d => d.rows.flatMap (rowFw s db t d.rows wait i)
 | _, _ => []
def dbFw (s : List Tb) (db : List Dt) (wait : Bool) (n : Nat) : List Fw := (List.range n).flatMap (tabFw s db wait)
theorem dbFw_succ (s : List Tb) (db : List Dt) (wait : Bool) (n : Nat) : dbFw s db wait (n + 1) = dbFw s db wait n ++ tabFw s db wait n := by
 unfold dbFw; rw [List.range_succ, List.flatMap_append]; simp
theorem tabFw_at {s : List Tb} {db : List Dt} (wait : Bool) {i : Nat} (h : i < s.length) (h' : i < db.length) : tabFw s db wait i = db[i].rows.flatMap (rowFw s db s[i] db[i].rows wait i) := by
 unfold tabFw; rw [List.getElem?_eq_getElem h, List.getElem?_eq_getElem h']
theorem flat_take {α β : Type} (f : α → List β) (l : List α) (k : Nat) (h : k < l.length) : (l.take (k + 1)).flatMap f = (l.take k).flatMap f ++ f l[k] := by
 rw [List.take_succ_eq_append_getElem h, List.flatMap_append]; simp
theorem oneFw_len (ok : Bool) (k i : Int) (x : Rw) : (oneFw ok k i x).length ≤ 1 := by unfold oneFw; split <;> simp
theorem rowFw_len (s : List Tb) (db : List Dt) (t : Tb) (rows : List Rw) (wait : Bool) (i : Int) (x : Rw) : (rowFw s db t rows wait i x).length ≤ 4 := by
 unfold rowFw
 simp only [List.length_append]
 have h1 := oneFw_len (nullsB t.cols x.vals) 1 i x
 have h2 := oneFw_len (checksB t.checks x.vals) 2 i x
 have h3 := oneFw_len (uniqueB t rows x) 3 i x
 have h4 := oneFw_len (refersB s db t x.vals wait) 4 i x
 omega
theorem flat_bound {α β : Type} (f : α → List β) (c : Nat) : ∀ l : List α, (∀ x ∈ l, (f x).length ≤ c) → (l.flatMap f).length ≤ c * l.length
 | [], _ => by simp
 | a :: l, h => by
  rw [List.flatMap_cons, List.length_append, List.length_cons, Nat.mul_add, Nat.mul_one]
  have h1 := h a (by simp)
  have h2 := flat_bound f c l fun x hx => h x (by simp [hx])
  omega
theorem tabFw_len {s : List Tb} {db : List Dt} (wait : Bool) (hd : ∀ d ∈ db, d.rows.length ≤ 1048576) (i : Nat) : (tabFw s db wait i).length ≤ 4194304 := by
 unfold tabFw
 split
 ·rename_i t d hs hdd
  have h1 := flat_bound (rowFw s db t d.rows wait i) 4 d.rows fun x _ => rowFw_len _ _ _ _ _ _ _
  have h2 := hd d (List.mem_of_getElem? hdd)
  omega
 ·simp
theorem dbFw_len {s : List Tb} {db : List Dt} (wait : Bool) (hd : ∀ d ∈ db, d.rows.length ≤ 1048576) (n : Nat) : (dbFw s db wait n).length ≤ 4194304 * n := by
 unfold dbFw
 have h := flat_bound (tabFw s db wait) 4194304 (List.range n) fun i _ => tabFw_len wait hd i
 rwa [List.length_range] at h
theorem own_ne_row {α : Type} {T : TypeId} {sz : Nat} {f : α → List Value} {w : World} {base : Nat} {v : Value} {xs : List α} (h : OwnG T sz f w base v xs) {g : Nat} {T' : TypeId} {cs : Array Value} (hr : Row w g T' cs) (hne : T ≠ T') : ∀ k, v.ownBlock = some k → k ≠ g := by
 intro k hk e
 subst e
 rcases h.2 with ⟨rfl, -⟩ | ⟨g', cap, cur, rfl, h1, h2, -⟩
 ·cases hk
 ·have e : g' = k := by simpa [Value.ownBlock] using hk
  subst e
  have h3 : w.heap[g']? = some (.cells cs T') := hr
  rw [h3] at h2
  injection h2 with h4
  injection h4 with h5 h6
  exact hne h6.symm
def RowIn (s : List Tb) (db : List Dt) (t : Tb) (x : Rw) : Prop := x.vals.length = t.cols.length ∧ rowB x.vals = true ∧ (∀ u ∈ t.checks, exprB u.expr x.vals.length = true) ∧ t.key.all (inV x.vals) = true ∧ (∀ u ∈ t.uniqs, u.cols.all (inV x.vals) = true) ∧ (∀ f ∈ t.fks, FkIn s db x.vals f) ∧ x.vals.length ≤ 1048576
set_option maxRecDepth 100000 in
set_option maxHeartbeats 16000000 in
theorem specL5Flaws (AS AD : Option Addr) (nS cS nD cD : Nat) (s : List Tb) (db : List Dt) (wait : Bool) (ok okd : Nat → Prop) (w : World)
  (hs : Sl TbR 6 ok w AS nS s) (hd : Sl DtR 1 okd w AD nD db) (hlen : db.length = s.length) (hss : szL Tb.sz s ≤ 1048576) (hdz : ∀ d ∈ db, d.rows.length ≤ 1048576)
  (hall : ∀ (i : Nat) (h : i < s.length) (h' : i < db.length), ∀ x ∈ db[i].rows, RowIn s db s[i] x) :
  Calls Tryz.prog 31 #[.slice AS nS cS, .slice AD nD cD, .bool wait] w (MadeG (FlatR Fw.cells) 3 (dbFw s db wait s.length) w) := by
 obtain rfl : s.length = nS := hs.1
 obtain rfl : db.length = nD := hd.1
 have hsn : s.length ≤ 1048576 := by unfold szL at hss; omega
 have HLN := Lib.hid hlen
 have HSS := Lib.hid hss
 have HDZ := Lib.hid hdz
 have HALL := Lib.hid hall
 obtain ⟨i0, hi, hz0, hz1, hz2⟩ := info_parts infoFlawF
 have H1 := Lib.hid hi
 have H2 := Lib.hid hz0
 have H3 := Lib.hid hz1
 have H4 := Lib.hid hz2
 clear hlen hss hdz hall hi hz0 hz1 hz2
 have hb0 := (Below.refl w.heap.size w).alloc (Nat.le_refl _) (.cells #[] 48)
 have ho0 : Hid (OwnF _ w.heap.size _ []) := Lib.hid (OwnG.lit (T := 48) (sz := 3) (f := Fw.cells) w (Nat.le_refl w.heap.size))
 go_enter Tryz.func31, Tryz.ntmps31
 go_wp2_with fail
 generalize w.alloc (.cells #[] 48) = z0 at *
 go_loopw [7, 8] (fun v iv wr => ∃ i : Nat, i ≤ s.length ∧ iv = .int .i64 i ∧ Hid (OwnF wr w.heap.size v (dbFw s db wait i)) ∧ Below w.heap.size w wr) (fun _ iv _ => s.length - (intOf iv).toNat)
 case atStart => exact ⟨0, by omega, rfl, ho0, hb0⟩
 case round =>
  clear hb0 ho0
  obtain ⟨i, hi', rfl, hown, hb⟩ := hrel
  by_cases hlt : i < s.length
  ·have hltd : i < db.length := by have := HLN.out; omega
   obtain ⟨b, off, A1, n1, c1, A2, n2, c2, A3, n3, c3, A4, n4, c4, A5, n5, c5, -, rfl, q0, q1, q2, q3, q4, q5, s1, s2, s3, s4, s5, -⟩ := TbR.at_ hs hlt
   obtain rfl : s[i].cols.length = n1 := s1.1
   obtain rfl : s[i].key.length = n2 := s2.1
   obtain rfl : s[i].uniqs.length = n3 := s3.1
   obtain rfl : s[i].checks.length = n4 := s4.1
   obtain rfl : s[i].fks.length = n5 := s5.1
   obtain ⟨bd, od, AL, nL, cL, -, rfl, p0, hrw, -⟩ := DtR.at_ hd hltd
   obtain rfl : db[i].rows.length = nL := hrw.1
   have i1 : (0 : Int) ≤ i := by omega
   have i2 : (i : Int) < s.length := by omega
   have i3 : (i : Int) < db.length := by omega
   have hrn : db[i].rows.length ≤ 1048576 := HDZ.out _ (List.getElem_mem hltd)
   have hts := szL_mem Tb.sz s s[i] (List.getElem_mem hlt)
   have HTS := Lib.hid (Nat.le_trans hts HSS.out)
   clear hts
   have HRI := Lib.hid (HALL.out i hlt hltd)
   have HTA := Lib.hid (show dbFw s db wait (i + 1) = dbFw s db wait i ++ db[i].rows.flatMap (rowFw s db s[i] db[i].rows wait i) by rw [dbFw_succ, tabFw_at wait hlt hltd])
   have HDL := Lib.hid (show (dbFw s db wait i).length ≤ 4194304 * i from dbFw_len wait HDZ.out i)
   have p0r := below_keep hb _ _ p0
   go_wp2_with fail
   go_loopw [7, 9] (fun v kv wq => ∃ k : Nat, k ≤ db[i].rows.length ∧ kv = .int .i64 k ∧ Hid (OwnF wq w.heap.size v (dbFw s db wait i ++ (db[i].rows.take k).flatMap (rowFw s db s[i] db[i].rows wait i))) ∧ Below w.heap.size w wq) (fun _ kv _ => db[i].rows.length - (intOf kv).toNat)
   case atStart => exact ⟨0, by omega, rfl, Lib.hid (by simpa using hown.out), hb⟩
   case round =>
    clear hown hb p0r
    obtain ⟨k, hk', rfl, hown, hb⟩ := hrel
    have p0r := below_keep hb _ _ p0
    by_cases hkt : k < db[i].rows.length
    ·obtain ⟨bl, ol, B1, k1, e1, -, rfl, z0', z1', hv, -⟩ := RwR.at_ hrw hkt
     obtain rfl : db[i].rows[k].vals.length = k1 := hv.1
     have x0 := below_keep hb _ _ z0'
     have x1 := below_keep hb _ _ z1'
     have k0 : (0 : Int) ≤ k := by omega
     have k1 : (k : Int) < db[i].rows.length := by omega
     have hrx := HRI.out _ (List.getElem_mem hkt)
     have HX := Lib.hid hrx
     have hvn := hrx.2.2.2.2.2.2
     clear hrx
     have HUM := Lib.hid (show ∀ u ∈ s[i].uniqs, u.cols.length ≤ 1048576 from fun u hu => by
      have h1 := szL_mem Uq.sz s[i].uniqs u hu
      have h2 := HTS.out
      have h3 : szL Uq.sz s[i].uniqs ≤ s[i].sz := by unfold Tb.sz; omega
      have h4 : u.cols.length ≤ u.sz := by unfold Uq.sz; omega
      omega)
     have HFT := Lib.hid (flat_take (rowFw s db s[i] db[i].rows wait i) db[i].rows k hkt)
     have HLE := Lib.hid (show (dbFw s db wait i ++ (db[i].rows.take k).flatMap (rowFw s db s[i] db[i].rows wait i)).length ≤ 4398046511104 by
      rw [List.length_append]
      have h1 := HDL.out
      have h2 := flat_bound (rowFw s db s[i] db[i].rows wait i) 4 (db[i].rows.take k) fun x _ => rowFw_len _ _ _ _ _ _ _
      rw [List.length_take] at h2
      have h3 : min k db[i].rows.length ≤ 1048576 := by omega
      omega)
     have hlb := (Below.refl wr.heap.size wr).alloc (Nat.le_refl _) (.cells #[.int .i64 db[i].rows[k].id, .slice B1 db[i].rows[k].vals.length e1] 36)
     have own := Lib.hid (OwnG.below hown.out hlb)
     have RX := Lib.hid (Row.new wr 36 #[.int .i64 db[i].rows[k].id, .slice B1 db[i].rows[k].vals.length e1])
     have hbW := hb.alloc hb.size (.cells #[.int .i64 db[i].rows[k].id, .slice B1 db[i].rows[k].vals.length e1] 36)
     generalize hys : dbFw s db wait i ++ (db[i].rows.take k).flatMap (rowFw s db s[i] db[i].rows wait i) = ys at *
     have HYS := Lib.hid hys
     clear hys hown
     go_wp2_with fail
     generalize hgg : wr.heap.size = g at *
     generalize wr.alloc (.cells #[.int .i64 db[i].rows[k].id, .slice B1 db[i].rows[k].vals.length e1] 36) = W0 at *
     clear hgg hlb x0 x1 p0r
     obtain ⟨⟨d0, d1⟩, -⟩ := RX.out.all2
     have q0z := below_keep hbW _ _ q0
     have q1z := below_keep hbW _ _ q1
     have q2z := below_keep hbW _ _ q2
     have q3z := below_keep hbW _ _ q3
     have q4z := below_keep hbW _ _ q4
     have q5z := below_keep hbW _ _ q5
     have p0z := below_keep hbW _ _ p0
     have HC := Lib.hid (specNulls A1 B1 s[i].cols.length c1 db[i].rows[k].vals.length e1 (.string s[i].name) (.slice A2 s[i].key.length c2) (.slice A3 s[i].uniqs.length c3) (.slice A4 s[i].checks.length c4) (.slice A5 s[i].fks.length c5) s[i].cols db[i].rows[k].vals _ W0.drew ((s1.below ClR.stays hbW).drew ClR.stays) (Sl.cellz (fun _ => rfl) ((hv.below VlR.stays hbW).drew VlR.stays)) (by have := HTS.out; unfold Tb.sz szL at this; omega) hvn HX.out.1)
     cases he : nullsB s[i].cols db[i].rows[k].vals
     ·have HV1 := Lib.hid he
      clear he
      have hbd1_0_f := hbW.drew
      have hld1_0_f := (Below.refl W0.heap.size W0).drew
      go_region_held3 (fun w' => w'.cell? ⟨b, off + i * 6, none⟩ = some (.string s[i].name) ∧ w'.cell? ⟨b, off + i * 6 + 1, none⟩ = some (.slice A1 s[i].cols.length c1) ∧ w'.cell? ⟨b, off + i * 6 + 2, none⟩ = some (.slice A2 s[i].key.length c2) ∧ w'.cell? ⟨b, off + i * 6 + 3, none⟩ = some (.slice A3 s[i].uniqs.length c3) ∧ w'.cell? ⟨b, off + i * 6 + 4, none⟩ = some (.slice A4 s[i].checks.length c4) ∧ w'.cell? ⟨b, off + i * 6 + 5, none⟩ = some (.slice A5 s[i].fks.length c5) ∧ w'.cell? ⟨bd, od + i, none⟩ = some (.slice (some ⟨bl, ol, none⟩) db[i].rows.length cL) ∧ w'.cell? ⟨g, 0, none⟩ = some (.int .i64 db[i].rows[k].id) ∧ w'.cell? ⟨g, 1, none⟩ = some (.slice B1 db[i].rows[k].vals.length e1))
       (first | go_keep | exact ⟨below_keep hb9 _ _ q0z, below_keep hb9 _ _ q1z, below_keep hb9 _ _ q2z, below_keep hb9 _ _ q3z, below_keep hb9 _ _ q4z, below_keep hb9 _ _ q5z, below_keep hb9 _ _ p0z, below_keep hb9 _ _ d0, below_keep hb9 _ _ d1⟩)
       (first | (go_at_call 57; refine HC.out.mono ?_; rintro e w9 ⟨rfl, hb9⟩; rw [HV1.out]))
      have hl1_0_f := hld1_0_f.trans (hb9.mono hld1_0_f.size)
      have hb1_0_f := hbW.trans (hl1_0_f.mono hbW.size)
      have own1_0_f := Lib.hid (OwnG.below own.out hl1_0_f)
      have RX := Lib.hid (RX.out.below hl1_0_f)
      clear HC d0 d1 p0z q0z q1z q2z q3z q4z q5z
      obtain ⟨⟨d0, d1⟩, -⟩ := RX.out.all2
      have hne := Lib.hid (own_ne_row own1_0_f.out RX.out (by decide))
      go_wp2_with (at_builtin; refine wpList_append_own _ rfl _ _ 28 rfl w.heap.size 48 i0 (.agg #[.int .i64 0, .int .i64 0, .int .i64 0]) 3 24 Tryz.underlying28 H1.out H2.out H3.out H4.out rfl (by decide) _ _ _ rfl (World.ownsRow.alloc own1_0_f.out _) ⟨_, 0, none⟩ 1 1 (Fw.cells ⟨1, i, db[i].rows[k].id⟩) rfl rfl ?c11_0_f ?c21_0_f ?c31_0_f ?c41_0_f ?c51_0_f ?_)
      case c11_0_f => exact cells_newAt _ (Fw.cells ⟨1, i, db[i].rows[k].id⟩) _ (by simp)
      case c21_0_f => intro u hu; simp [Fw.cells] at hu; rcases hu with rfl | rfl | rfl <;> rfl
      case c31_0_f => have := HLE.out; (try simp only [List.length_append, List.length_cons, List.length_nil]); unfold maxLen; omega
      case c41_0_f => have := HLE.out; (try simp only [List.length_append, List.length_cons, List.length_nil]); omega
      case c51_0_f => have := hb1_0_f.size; simp; omega
      intro v1_0_f w9 hown3 hgrow _
      have R := Lib.hid (OwnG.app own1_0_f.out hb1_0_f.size hown3 hgrow)
      have RX := Lib.hid (grown_rowK hgrow (RX.out.alloc _) hne.out)
      have hb1_0_f := hb1_0_f.trans R.out.2
      have own1_0_f := Lib.hid R.out.1
      clear hown3 hgrow hne R d0 d1
      generalize hyz : ys ++ [⟨1, i, db[i].rows[k].id⟩] = y1_0_f at *
      have HY1_0_f := Lib.hid hyz
      clear hyz
      have HLE := Lib.hid (show y1_0_f.length ≤ 4398046511105 by have h1 := HLE.out; rw [← HY1_0_f.out, List.length_append, List.length_cons, List.length_nil]; omega)
      go_wp2_with fail
      obtain ⟨⟨d0, d1⟩, -⟩ := RX.out.all2
      have q0z := below_keep hb1_0_f _ _ q0
      have q1z := below_keep hb1_0_f _ _ q1
      have q2z := below_keep hb1_0_f _ _ q2
      have q3z := below_keep hb1_0_f _ _ q3
      have q4z := below_keep hb1_0_f _ _ q4
      have q5z := below_keep hb1_0_f _ _ q5
      have p0z := below_keep hb1_0_f _ _ p0
      have HC := Lib.hid (specChecks A4 B1 s[i].checks.length c4 db[i].rows[k].vals.length e1 (.string s[i].name) (.slice A1 s[i].cols.length c1) (.slice A2 s[i].key.length c2) (.slice A3 s[i].uniqs.length c3) (.slice A5 s[i].fks.length c5) s[i].checks db[i].rows[k].vals _ w9.drew ((s4.below CkR.stays hb1_0_f).drew CkR.stays) (Sl.cellz (fun _ => rfl) ((hv.below VlR.stays hb1_0_f).drew VlR.stays)) (by have := HTS.out; unfold Tb.sz at this; omega) hvn HX.out.2.1 HX.out.2.2.1)
      cases he : checksB s[i].checks db[i].rows[k].vals
      ·have HV2 := Lib.hid he
       clear he
       have hbd2_1_f := hb1_0_f.drew
       have hld2_1_f := (Below.refl w9.heap.size w9).drew
       go_region_held3 (fun w' => w'.cell? ⟨b, off + i * 6, none⟩ = some (.string s[i].name) ∧ w'.cell? ⟨b, off + i * 6 + 1, none⟩ = some (.slice A1 s[i].cols.length c1) ∧ w'.cell? ⟨b, off + i * 6 + 2, none⟩ = some (.slice A2 s[i].key.length c2) ∧ w'.cell? ⟨b, off + i * 6 + 3, none⟩ = some (.slice A3 s[i].uniqs.length c3) ∧ w'.cell? ⟨b, off + i * 6 + 4, none⟩ = some (.slice A4 s[i].checks.length c4) ∧ w'.cell? ⟨b, off + i * 6 + 5, none⟩ = some (.slice A5 s[i].fks.length c5) ∧ w'.cell? ⟨bd, od + i, none⟩ = some (.slice (some ⟨bl, ol, none⟩) db[i].rows.length cL) ∧ w'.cell? ⟨g, 0, none⟩ = some (.int .i64 db[i].rows[k].id) ∧ w'.cell? ⟨g, 1, none⟩ = some (.slice B1 db[i].rows[k].vals.length e1))
        (first | go_keep | exact ⟨below_keep hb9 _ _ q0z, below_keep hb9 _ _ q1z, below_keep hb9 _ _ q2z, below_keep hb9 _ _ q3z, below_keep hb9 _ _ q4z, below_keep hb9 _ _ q5z, below_keep hb9 _ _ p0z, below_keep hb9 _ _ d0, below_keep hb9 _ _ d1⟩)
        (first | (go_at_call 58; refine HC.out.mono ?_; rintro e w9 ⟨rfl, hb9⟩; rw [HV2.out]))
       have hl2_1_f := hld2_1_f.trans (hb9.mono hld2_1_f.size)
       have hb2_1_f := hb1_0_f.trans (hl2_1_f.mono hb1_0_f.size)
       have own2_1_f := Lib.hid (OwnG.below own1_0_f.out hl2_1_f)
       have RX := Lib.hid (RX.out.below hl2_1_f)
       clear HC d0 d1 p0z q0z q1z q2z q3z q4z q5z
       obtain ⟨⟨d0, d1⟩, -⟩ := RX.out.all2
       have hne := Lib.hid (own_ne_row own2_1_f.out RX.out (by decide))
       go_wp2_with (at_builtin; refine wpList_append_own _ rfl _ _ 28 rfl w.heap.size 48 i0 (.agg #[.int .i64 0, .int .i64 0, .int .i64 0]) 3 24 Tryz.underlying28 H1.out H2.out H3.out H4.out rfl (by decide) _ _ _ rfl (World.ownsRow.alloc own2_1_f.out _) ⟨_, 0, none⟩ 1 1 (Fw.cells ⟨2, i, db[i].rows[k].id⟩) rfl rfl ?c12_1_f ?c22_1_f ?c32_1_f ?c42_1_f ?c52_1_f ?_)
       case c12_1_f => exact cells_newAt _ (Fw.cells ⟨2, i, db[i].rows[k].id⟩) _ (by simp)
       case c22_1_f => intro u hu; simp [Fw.cells] at hu; rcases hu with rfl | rfl | rfl <;> rfl
       case c32_1_f => have := HLE.out; (try simp only [List.length_append, List.length_cons, List.length_nil]); unfold maxLen; omega
       case c42_1_f => have := HLE.out; (try simp only [List.length_append, List.length_cons, List.length_nil]); omega
       case c52_1_f => have := hb2_1_f.size; simp; omega
       intro v2_1_f w9 hown3 hgrow _
       have R := Lib.hid (OwnG.app own2_1_f.out hb2_1_f.size hown3 hgrow)
       have RX := Lib.hid (grown_rowK hgrow (RX.out.alloc _) hne.out)
       have hb2_1_f := hb2_1_f.trans R.out.2
       have own2_1_f := Lib.hid R.out.1
       clear hown3 hgrow hne R d0 d1
       generalize hyz : y1_0_f ++ [⟨2, i, db[i].rows[k].id⟩] = y2_1_f at *
       have HY2_1_f := Lib.hid hyz
       clear hyz
       have HLE := Lib.hid (show y2_1_f.length ≤ 4398046511106 by have h1 := HLE.out; rw [← HY2_1_f.out, List.length_append, List.length_cons, List.length_nil]; omega)
       go_wp2_with fail
       obtain ⟨⟨d0, d1⟩, -⟩ := RX.out.all2
       have q0z := below_keep hb2_1_f _ _ q0
       have q1z := below_keep hb2_1_f _ _ q1
       have q2z := below_keep hb2_1_f _ _ q2
       have q3z := below_keep hb2_1_f _ _ q3
       have q4z := below_keep hb2_1_f _ _ q4
       have q5z := below_keep hb2_1_f _ _ q5
       have p0z := below_keep hb2_1_f _ _ p0
       have HC := Lib.hid (specL5Unique A1 A2 A3 A4 A5 (some ⟨bl, ol, none⟩) B1 s[i].cols.length c1 s[i].key.length c2 s[i].uniqs.length c3 s[i].checks.length c4 s[i].fks.length c5 db[i].rows.length cL db[i].rows[k].vals.length e1 s[i] db[i].rows db[i].rows[k] _ _ _ _ w9.drew ((s2.below IntR.stays hb2_1_f).drew IntR.stays) ((s3.below UqR.stays hb2_1_f).drew UqR.stays) ((hrw.below RwR.stays hb2_1_f).drew RwR.stays) ((hv.below VlR.stays hb2_1_f).drew VlR.stays) hrn (by have := HTS.out; unfold Tb.sz szL at this; omega) (by have := HTS.out; unfold Tb.sz szL at this; omega) HUM.out hvn (fun r hr => (HRI.out r hr).2.2.2.2.2.2) (fun r hr => (HRI.out r hr).2.2.2.1) HX.out.2.2.2.1 (fun u hu => ⟨fun r hr => (HRI.out r hr).2.2.2.2.1 u hu, HX.out.2.2.2.2.1 u hu⟩))
       cases he : uniqueB s[i] db[i].rows db[i].rows[k]
       ·have HV3 := Lib.hid he
        clear he
        have hbd3_2_f := hb2_1_f.drew
        have hld3_2_f := (Below.refl w9.heap.size w9).drew
        go_region_held3 (fun w' => w'.cell? ⟨b, off + i * 6, none⟩ = some (.string s[i].name) ∧ w'.cell? ⟨b, off + i * 6 + 1, none⟩ = some (.slice A1 s[i].cols.length c1) ∧ w'.cell? ⟨b, off + i * 6 + 2, none⟩ = some (.slice A2 s[i].key.length c2) ∧ w'.cell? ⟨b, off + i * 6 + 3, none⟩ = some (.slice A3 s[i].uniqs.length c3) ∧ w'.cell? ⟨b, off + i * 6 + 4, none⟩ = some (.slice A4 s[i].checks.length c4) ∧ w'.cell? ⟨b, off + i * 6 + 5, none⟩ = some (.slice A5 s[i].fks.length c5) ∧ w'.cell? ⟨bd, od + i, none⟩ = some (.slice (some ⟨bl, ol, none⟩) db[i].rows.length cL) ∧ w'.cell? ⟨g, 0, none⟩ = some (.int .i64 db[i].rows[k].id) ∧ w'.cell? ⟨g, 1, none⟩ = some (.slice B1 db[i].rows[k].vals.length e1))
         (first | go_keep | exact ⟨below_keep hb9 _ _ q0z, below_keep hb9 _ _ q1z, below_keep hb9 _ _ q2z, below_keep hb9 _ _ q3z, below_keep hb9 _ _ q4z, below_keep hb9 _ _ q5z, below_keep hb9 _ _ p0z, below_keep hb9 _ _ d0, below_keep hb9 _ _ d1⟩)
         (first | (go_at_call 64; refine HC.out.mono ?_; rintro e w9 ⟨rfl, hb9⟩; rw [HV3.out]))
        have hl3_2_f := hld3_2_f.trans (hb9.mono hld3_2_f.size)
        have hb3_2_f := hb2_1_f.trans (hl3_2_f.mono hb2_1_f.size)
        have own3_2_f := Lib.hid (OwnG.below own2_1_f.out hl3_2_f)
        have RX := Lib.hid (RX.out.below hl3_2_f)
        clear HC d0 d1 p0z q0z q1z q2z q3z q4z q5z
        obtain ⟨⟨d0, d1⟩, -⟩ := RX.out.all2
        have hne := Lib.hid (own_ne_row own3_2_f.out RX.out (by decide))
        go_wp2_with (at_builtin; refine wpList_append_own _ rfl _ _ 28 rfl w.heap.size 48 i0 (.agg #[.int .i64 0, .int .i64 0, .int .i64 0]) 3 24 Tryz.underlying28 H1.out H2.out H3.out H4.out rfl (by decide) _ _ _ rfl (World.ownsRow.alloc own3_2_f.out _) ⟨_, 0, none⟩ 1 1 (Fw.cells ⟨3, i, db[i].rows[k].id⟩) rfl rfl ?c13_2_f ?c23_2_f ?c33_2_f ?c43_2_f ?c53_2_f ?_)
        case c13_2_f => exact cells_newAt _ (Fw.cells ⟨3, i, db[i].rows[k].id⟩) _ (by simp)
        case c23_2_f => intro u hu; simp [Fw.cells] at hu; rcases hu with rfl | rfl | rfl <;> rfl
        case c33_2_f => have := HLE.out; (try simp only [List.length_append, List.length_cons, List.length_nil]); unfold maxLen; omega
        case c43_2_f => have := HLE.out; (try simp only [List.length_append, List.length_cons, List.length_nil]); omega
        case c53_2_f => have := hb3_2_f.size; simp; omega
        intro v3_2_f w9 hown3 hgrow _
        have R := Lib.hid (OwnG.app own3_2_f.out hb3_2_f.size hown3 hgrow)
        have RX := Lib.hid (grown_rowK hgrow (RX.out.alloc _) hne.out)
        have hb3_2_f := hb3_2_f.trans R.out.2
        have own3_2_f := Lib.hid R.out.1
        clear hown3 hgrow hne R d0 d1
        generalize hyz : y2_1_f ++ [⟨3, i, db[i].rows[k].id⟩] = y3_2_f at *
        have HY3_2_f := Lib.hid hyz
        clear hyz
        have HLE := Lib.hid (show y3_2_f.length ≤ 4398046511107 by have h1 := HLE.out; rw [← HY3_2_f.out, List.length_append, List.length_cons, List.length_nil]; omega)
        obtain ⟨⟨d0, d1⟩, -⟩ := RX.out.all2
        have q0z := below_keep hb3_2_f _ _ q0
        have q1z := below_keep hb3_2_f _ _ q1
        have q2z := below_keep hb3_2_f _ _ q2
        have q3z := below_keep hb3_2_f _ _ q3
        have q4z := below_keep hb3_2_f _ _ q4
        have q5z := below_keep hb3_2_f _ _ q5
        have p0z := below_keep hb3_2_f _ _ p0
        have HC := Lib.hid (specL5Refers (some ⟨b, off, none⟩) (some ⟨bd, od, none⟩) B1 s.length cS db.length cD db[i].rows[k].vals.length e1 s db i db[i].rows[k].vals wait _ _ _ w9 (hs.below TbR.stays hb3_2_f) (hd.below DtR.stays hb3_2_f) (hv.below VlR.stays hb3_2_f) hsn (by have := HLN.out; omega) hvn hlt (by have := HTS.out; unfold Tb.sz szL at this; omega) HX.out.2.2.2.2.2.1)
        cases he : refersB s db s[i] db[i].rows[k].vals wait
        ·have HV4 := Lib.hid he
         clear he
         go_wp2_with fail
         refine HC.out.mono ?_
         rintro e w9 ⟨rfl, hb9⟩
         rw [HV4.out]
         have hl4_3_f := hb9
         have hb4_3_f := hb3_2_f.trans (hl4_3_f.mono hb3_2_f.size)
         have own4_3_f := Lib.hid (OwnG.below own3_2_f.out hl4_3_f)
         have RX := Lib.hid (RX.out.below hl4_3_f)
         clear HC d0 d1 p0z q0z q1z q2z q3z q4z q5z
         obtain ⟨⟨d0, d1⟩, -⟩ := RX.out.all2
         have hne := Lib.hid (own_ne_row own4_3_f.out RX.out (by decide))
         go_wp2_with (at_builtin; refine wpList_append_own _ rfl _ _ 28 rfl w.heap.size 48 i0 (.agg #[.int .i64 0, .int .i64 0, .int .i64 0]) 3 24 Tryz.underlying28 H1.out H2.out H3.out H4.out rfl (by decide) _ _ _ rfl (World.ownsRow.alloc own4_3_f.out _) ⟨_, 0, none⟩ 1 1 (Fw.cells ⟨4, i, db[i].rows[k].id⟩) rfl rfl ?c14_3_f ?c24_3_f ?c34_3_f ?c44_3_f ?c54_3_f ?_)
         case c14_3_f => exact cells_newAt _ (Fw.cells ⟨4, i, db[i].rows[k].id⟩) _ (by simp)
         case c24_3_f => intro u hu; simp [Fw.cells] at hu; rcases hu with rfl | rfl | rfl <;> rfl
         case c34_3_f => have := HLE.out; (try simp only [List.length_append, List.length_cons, List.length_nil]); unfold maxLen; omega
         case c44_3_f => have := HLE.out; (try simp only [List.length_append, List.length_cons, List.length_nil]); omega
         case c54_3_f => have := hb4_3_f.size; simp; omega
         intro v4_3_f w9 hown3 hgrow _
         have R := Lib.hid (OwnG.app own4_3_f.out hb4_3_f.size hown3 hgrow)
         have RX := Lib.hid (grown_rowK hgrow (RX.out.alloc _) hne.out)
         have hb4_3_f := hb4_3_f.trans R.out.2
         have own4_3_f := Lib.hid R.out.1
         clear hown3 hgrow hne R d0 d1
         generalize hyz : y3_2_f ++ [⟨4, i, db[i].rows[k].id⟩] = y4_3_f at *
         have HY4_3_f := Lib.hid hyz
         clear hyz
         have HLE := Lib.hid (show y4_3_f.length ≤ 4398046511108 by have h1 := HLE.out; rw [← HY4_3_f.out, List.length_append, List.length_cons, List.length_nil]; omega)
         have HT := Lib.hid (show dbFw s db wait i ++ (db[i].rows.take (k + 1)).flatMap (rowFw s db s[i] db[i].rows wait i) = y4_3_f by
          rw [HFT.out, ← List.append_assoc, HYS.out]; unfold rowFw; rw [HV1.out, HV2.out, HV3.out, HV4.out, ← HY4_3_f.out, ← HY3_2_f.out, ← HY2_1_f.out, ← HY1_0_f.out]; simp [oneFw])
         go_wp2_with fail
         go_roundw
         case rel => exact ⟨k + 1, by omega, by go_num, Lib.hid (by rw [HT.out]; exact own4_3_f.out), hb4_3_f⟩
         case measure => simp [intOf]; omega
        ·have HV4 := Lib.hid he
         clear he
         go_wp2_with fail
         refine HC.out.mono ?_
         rintro e w9 ⟨rfl, hb9⟩
         rw [HV4.out]
         have hl4_3_t := hb9
         have hb4_3_t := hb3_2_f.trans (hl4_3_t.mono hb3_2_f.size)
         have own4_3_t := Lib.hid (OwnG.below own3_2_f.out hl4_3_t)
         have RX := Lib.hid (RX.out.below hl4_3_t)
         clear HC d0 d1 p0z q0z q1z q2z q3z q4z q5z
         have HT := Lib.hid (show dbFw s db wait i ++ (db[i].rows.take (k + 1)).flatMap (rowFw s db s[i] db[i].rows wait i) = y3_2_f by
          rw [HFT.out, ← List.append_assoc, HYS.out]; unfold rowFw; rw [HV1.out, HV2.out, HV3.out, HV4.out, ← HY3_2_f.out, ← HY2_1_f.out, ← HY1_0_f.out]; simp [oneFw])
         go_wp2_with fail
         go_roundw
         case rel => exact ⟨k + 1, by omega, by go_num, Lib.hid (by rw [HT.out]; exact own4_3_t.out), hb4_3_t⟩
         case measure => simp [intOf]; omega
       ·have HV3 := Lib.hid he
        clear he
        have hbd3_2_t := hb2_1_f.drew
        have hld3_2_t := (Below.refl w9.heap.size w9).drew
        go_region_held3 (fun w' => w'.cell? ⟨b, off + i * 6, none⟩ = some (.string s[i].name) ∧ w'.cell? ⟨b, off + i * 6 + 1, none⟩ = some (.slice A1 s[i].cols.length c1) ∧ w'.cell? ⟨b, off + i * 6 + 2, none⟩ = some (.slice A2 s[i].key.length c2) ∧ w'.cell? ⟨b, off + i * 6 + 3, none⟩ = some (.slice A3 s[i].uniqs.length c3) ∧ w'.cell? ⟨b, off + i * 6 + 4, none⟩ = some (.slice A4 s[i].checks.length c4) ∧ w'.cell? ⟨b, off + i * 6 + 5, none⟩ = some (.slice A5 s[i].fks.length c5) ∧ w'.cell? ⟨bd, od + i, none⟩ = some (.slice (some ⟨bl, ol, none⟩) db[i].rows.length cL) ∧ w'.cell? ⟨g, 0, none⟩ = some (.int .i64 db[i].rows[k].id) ∧ w'.cell? ⟨g, 1, none⟩ = some (.slice B1 db[i].rows[k].vals.length e1))
         (first | go_keep | exact ⟨below_keep hb9 _ _ q0z, below_keep hb9 _ _ q1z, below_keep hb9 _ _ q2z, below_keep hb9 _ _ q3z, below_keep hb9 _ _ q4z, below_keep hb9 _ _ q5z, below_keep hb9 _ _ p0z, below_keep hb9 _ _ d0, below_keep hb9 _ _ d1⟩)
         (first | (go_at_call 64; refine HC.out.mono ?_; rintro e w9 ⟨rfl, hb9⟩; rw [HV3.out]))
        have hl3_2_t := hld3_2_t.trans (hb9.mono hld3_2_t.size)
        have hb3_2_t := hb2_1_f.trans (hl3_2_t.mono hb2_1_f.size)
        have own3_2_t := Lib.hid (OwnG.below own2_1_f.out hl3_2_t)
        have RX := Lib.hid (RX.out.below hl3_2_t)
        clear HC d0 d1 p0z q0z q1z q2z q3z q4z q5z
        obtain ⟨⟨d0, d1⟩, -⟩ := RX.out.all2
        have q0z := below_keep hb3_2_t _ _ q0
        have q1z := below_keep hb3_2_t _ _ q1
        have q2z := below_keep hb3_2_t _ _ q2
        have q3z := below_keep hb3_2_t _ _ q3
        have q4z := below_keep hb3_2_t _ _ q4
        have q5z := below_keep hb3_2_t _ _ q5
        have p0z := below_keep hb3_2_t _ _ p0
        have HC := Lib.hid (specL5Refers (some ⟨b, off, none⟩) (some ⟨bd, od, none⟩) B1 s.length cS db.length cD db[i].rows[k].vals.length e1 s db i db[i].rows[k].vals wait _ _ _ w9 (hs.below TbR.stays hb3_2_t) (hd.below DtR.stays hb3_2_t) (hv.below VlR.stays hb3_2_t) hsn (by have := HLN.out; omega) hvn hlt (by have := HTS.out; unfold Tb.sz szL at this; omega) HX.out.2.2.2.2.2.1)
        cases he : refersB s db s[i] db[i].rows[k].vals wait
        ·have HV4 := Lib.hid he
         clear he
         go_wp2_with fail
         refine HC.out.mono ?_
         rintro e w9 ⟨rfl, hb9⟩
         rw [HV4.out]
         have hl4_6_f := hb9
         have hb4_6_f := hb3_2_t.trans (hl4_6_f.mono hb3_2_t.size)
         have own4_6_f := Lib.hid (OwnG.below own3_2_t.out hl4_6_f)
         have RX := Lib.hid (RX.out.below hl4_6_f)
         clear HC d0 d1 p0z q0z q1z q2z q3z q4z q5z
         obtain ⟨⟨d0, d1⟩, -⟩ := RX.out.all2
         have hne := Lib.hid (own_ne_row own4_6_f.out RX.out (by decide))
         go_wp2_with (at_builtin; refine wpList_append_own _ rfl _ _ 28 rfl w.heap.size 48 i0 (.agg #[.int .i64 0, .int .i64 0, .int .i64 0]) 3 24 Tryz.underlying28 H1.out H2.out H3.out H4.out rfl (by decide) _ _ _ rfl (World.ownsRow.alloc own4_6_f.out _) ⟨_, 0, none⟩ 1 1 (Fw.cells ⟨4, i, db[i].rows[k].id⟩) rfl rfl ?c14_6_f ?c24_6_f ?c34_6_f ?c44_6_f ?c54_6_f ?_)
         case c14_6_f => exact cells_newAt _ (Fw.cells ⟨4, i, db[i].rows[k].id⟩) _ (by simp)
         case c24_6_f => intro u hu; simp [Fw.cells] at hu; rcases hu with rfl | rfl | rfl <;> rfl
         case c34_6_f => have := HLE.out; (try simp only [List.length_append, List.length_cons, List.length_nil]); unfold maxLen; omega
         case c44_6_f => have := HLE.out; (try simp only [List.length_append, List.length_cons, List.length_nil]); omega
         case c54_6_f => have := hb4_6_f.size; simp; omega
         intro v4_6_f w9 hown3 hgrow _
         have R := Lib.hid (OwnG.app own4_6_f.out hb4_6_f.size hown3 hgrow)
         have RX := Lib.hid (grown_rowK hgrow (RX.out.alloc _) hne.out)
         have hb4_6_f := hb4_6_f.trans R.out.2
         have own4_6_f := Lib.hid R.out.1
         clear hown3 hgrow hne R d0 d1
         generalize hyz : y2_1_f ++ [⟨4, i, db[i].rows[k].id⟩] = y4_6_f at *
         have HY4_6_f := Lib.hid hyz
         clear hyz
         have HLE := Lib.hid (show y4_6_f.length ≤ 4398046511108 by have h1 := HLE.out; rw [← HY4_6_f.out, List.length_append, List.length_cons, List.length_nil]; omega)
         have HT := Lib.hid (show dbFw s db wait i ++ (db[i].rows.take (k + 1)).flatMap (rowFw s db s[i] db[i].rows wait i) = y4_6_f by
          rw [HFT.out, ← List.append_assoc, HYS.out]; unfold rowFw; rw [HV1.out, HV2.out, HV3.out, HV4.out, ← HY4_6_f.out, ← HY2_1_f.out, ← HY1_0_f.out]; simp [oneFw])
         go_wp2_with fail
         go_roundw
         case rel => exact ⟨k + 1, by omega, by go_num, Lib.hid (by rw [HT.out]; exact own4_6_f.out), hb4_6_f⟩
         case measure => simp [intOf]; omega
        ·have HV4 := Lib.hid he
         clear he
         go_wp2_with fail
         refine HC.out.mono ?_
         rintro e w9 ⟨rfl, hb9⟩
         rw [HV4.out]
         have hl4_6_t := hb9
         have hb4_6_t := hb3_2_t.trans (hl4_6_t.mono hb3_2_t.size)
         have own4_6_t := Lib.hid (OwnG.below own3_2_t.out hl4_6_t)
         have RX := Lib.hid (RX.out.below hl4_6_t)
         clear HC d0 d1 p0z q0z q1z q2z q3z q4z q5z
         have HT := Lib.hid (show dbFw s db wait i ++ (db[i].rows.take (k + 1)).flatMap (rowFw s db s[i] db[i].rows wait i) = y2_1_f by
          rw [HFT.out, ← List.append_assoc, HYS.out]; unfold rowFw; rw [HV1.out, HV2.out, HV3.out, HV4.out, ← HY2_1_f.out, ← HY1_0_f.out]; simp [oneFw])
         go_wp2_with fail
         go_roundw
         case rel => exact ⟨k + 1, by omega, by go_num, Lib.hid (by rw [HT.out]; exact own4_6_t.out), hb4_6_t⟩
         case measure => simp [intOf]; omega
      ·have HV2 := Lib.hid he
       clear he
       have hbd2_1_t := hb1_0_f.drew
       have hld2_1_t := (Below.refl w9.heap.size w9).drew
       go_region_held3 (fun w' => w'.cell? ⟨b, off + i * 6, none⟩ = some (.string s[i].name) ∧ w'.cell? ⟨b, off + i * 6 + 1, none⟩ = some (.slice A1 s[i].cols.length c1) ∧ w'.cell? ⟨b, off + i * 6 + 2, none⟩ = some (.slice A2 s[i].key.length c2) ∧ w'.cell? ⟨b, off + i * 6 + 3, none⟩ = some (.slice A3 s[i].uniqs.length c3) ∧ w'.cell? ⟨b, off + i * 6 + 4, none⟩ = some (.slice A4 s[i].checks.length c4) ∧ w'.cell? ⟨b, off + i * 6 + 5, none⟩ = some (.slice A5 s[i].fks.length c5) ∧ w'.cell? ⟨bd, od + i, none⟩ = some (.slice (some ⟨bl, ol, none⟩) db[i].rows.length cL) ∧ w'.cell? ⟨g, 0, none⟩ = some (.int .i64 db[i].rows[k].id) ∧ w'.cell? ⟨g, 1, none⟩ = some (.slice B1 db[i].rows[k].vals.length e1))
        (first | go_keep | exact ⟨below_keep hb9 _ _ q0z, below_keep hb9 _ _ q1z, below_keep hb9 _ _ q2z, below_keep hb9 _ _ q3z, below_keep hb9 _ _ q4z, below_keep hb9 _ _ q5z, below_keep hb9 _ _ p0z, below_keep hb9 _ _ d0, below_keep hb9 _ _ d1⟩)
        (first | (go_at_call 58; refine HC.out.mono ?_; rintro e w9 ⟨rfl, hb9⟩; rw [HV2.out]))
       have hl2_1_t := hld2_1_t.trans (hb9.mono hld2_1_t.size)
       have hb2_1_t := hb1_0_f.trans (hl2_1_t.mono hb1_0_f.size)
       have own2_1_t := Lib.hid (OwnG.below own1_0_f.out hl2_1_t)
       have RX := Lib.hid (RX.out.below hl2_1_t)
       clear HC d0 d1 p0z q0z q1z q2z q3z q4z q5z
       go_wp2_with fail
       obtain ⟨⟨d0, d1⟩, -⟩ := RX.out.all2
       have q0z := below_keep hb2_1_t _ _ q0
       have q1z := below_keep hb2_1_t _ _ q1
       have q2z := below_keep hb2_1_t _ _ q2
       have q3z := below_keep hb2_1_t _ _ q3
       have q4z := below_keep hb2_1_t _ _ q4
       have q5z := below_keep hb2_1_t _ _ q5
       have p0z := below_keep hb2_1_t _ _ p0
       have HC := Lib.hid (specL5Unique A1 A2 A3 A4 A5 (some ⟨bl, ol, none⟩) B1 s[i].cols.length c1 s[i].key.length c2 s[i].uniqs.length c3 s[i].checks.length c4 s[i].fks.length c5 db[i].rows.length cL db[i].rows[k].vals.length e1 s[i] db[i].rows db[i].rows[k] _ _ _ _ w9.drew ((s2.below IntR.stays hb2_1_t).drew IntR.stays) ((s3.below UqR.stays hb2_1_t).drew UqR.stays) ((hrw.below RwR.stays hb2_1_t).drew RwR.stays) ((hv.below VlR.stays hb2_1_t).drew VlR.stays) hrn (by have := HTS.out; unfold Tb.sz szL at this; omega) (by have := HTS.out; unfold Tb.sz szL at this; omega) HUM.out hvn (fun r hr => (HRI.out r hr).2.2.2.2.2.2) (fun r hr => (HRI.out r hr).2.2.2.1) HX.out.2.2.2.1 (fun u hu => ⟨fun r hr => (HRI.out r hr).2.2.2.2.1 u hu, HX.out.2.2.2.2.1 u hu⟩))
       cases he : uniqueB s[i] db[i].rows db[i].rows[k]
       ·have HV3 := Lib.hid he
        clear he
        have hbd3_9_f := hb2_1_t.drew
        have hld3_9_f := (Below.refl w9.heap.size w9).drew
        go_region_held3 (fun w' => w'.cell? ⟨b, off + i * 6, none⟩ = some (.string s[i].name) ∧ w'.cell? ⟨b, off + i * 6 + 1, none⟩ = some (.slice A1 s[i].cols.length c1) ∧ w'.cell? ⟨b, off + i * 6 + 2, none⟩ = some (.slice A2 s[i].key.length c2) ∧ w'.cell? ⟨b, off + i * 6 + 3, none⟩ = some (.slice A3 s[i].uniqs.length c3) ∧ w'.cell? ⟨b, off + i * 6 + 4, none⟩ = some (.slice A4 s[i].checks.length c4) ∧ w'.cell? ⟨b, off + i * 6 + 5, none⟩ = some (.slice A5 s[i].fks.length c5) ∧ w'.cell? ⟨bd, od + i, none⟩ = some (.slice (some ⟨bl, ol, none⟩) db[i].rows.length cL) ∧ w'.cell? ⟨g, 0, none⟩ = some (.int .i64 db[i].rows[k].id) ∧ w'.cell? ⟨g, 1, none⟩ = some (.slice B1 db[i].rows[k].vals.length e1))
         (first | go_keep | exact ⟨below_keep hb9 _ _ q0z, below_keep hb9 _ _ q1z, below_keep hb9 _ _ q2z, below_keep hb9 _ _ q3z, below_keep hb9 _ _ q4z, below_keep hb9 _ _ q5z, below_keep hb9 _ _ p0z, below_keep hb9 _ _ d0, below_keep hb9 _ _ d1⟩)
         (first | (go_at_call 64; refine HC.out.mono ?_; rintro e w9 ⟨rfl, hb9⟩; rw [HV3.out]))
        have hl3_9_f := hld3_9_f.trans (hb9.mono hld3_9_f.size)
        have hb3_9_f := hb2_1_t.trans (hl3_9_f.mono hb2_1_t.size)
        have own3_9_f := Lib.hid (OwnG.below own2_1_t.out hl3_9_f)
        have RX := Lib.hid (RX.out.below hl3_9_f)
        clear HC d0 d1 p0z q0z q1z q2z q3z q4z q5z
        obtain ⟨⟨d0, d1⟩, -⟩ := RX.out.all2
        have hne := Lib.hid (own_ne_row own3_9_f.out RX.out (by decide))
        go_wp2_with (at_builtin; refine wpList_append_own _ rfl _ _ 28 rfl w.heap.size 48 i0 (.agg #[.int .i64 0, .int .i64 0, .int .i64 0]) 3 24 Tryz.underlying28 H1.out H2.out H3.out H4.out rfl (by decide) _ _ _ rfl (World.ownsRow.alloc own3_9_f.out _) ⟨_, 0, none⟩ 1 1 (Fw.cells ⟨3, i, db[i].rows[k].id⟩) rfl rfl ?c13_9_f ?c23_9_f ?c33_9_f ?c43_9_f ?c53_9_f ?_)
        case c13_9_f => exact cells_newAt _ (Fw.cells ⟨3, i, db[i].rows[k].id⟩) _ (by simp)
        case c23_9_f => intro u hu; simp [Fw.cells] at hu; rcases hu with rfl | rfl | rfl <;> rfl
        case c33_9_f => have := HLE.out; (try simp only [List.length_append, List.length_cons, List.length_nil]); unfold maxLen; omega
        case c43_9_f => have := HLE.out; (try simp only [List.length_append, List.length_cons, List.length_nil]); omega
        case c53_9_f => have := hb3_9_f.size; simp; omega
        intro v3_9_f w9 hown3 hgrow _
        have R := Lib.hid (OwnG.app own3_9_f.out hb3_9_f.size hown3 hgrow)
        have RX := Lib.hid (grown_rowK hgrow (RX.out.alloc _) hne.out)
        have hb3_9_f := hb3_9_f.trans R.out.2
        have own3_9_f := Lib.hid R.out.1
        clear hown3 hgrow hne R d0 d1
        generalize hyz : y1_0_f ++ [⟨3, i, db[i].rows[k].id⟩] = y3_9_f at *
        have HY3_9_f := Lib.hid hyz
        clear hyz
        have HLE := Lib.hid (show y3_9_f.length ≤ 4398046511107 by have h1 := HLE.out; rw [← HY3_9_f.out, List.length_append, List.length_cons, List.length_nil]; omega)
        obtain ⟨⟨d0, d1⟩, -⟩ := RX.out.all2
        have q0z := below_keep hb3_9_f _ _ q0
        have q1z := below_keep hb3_9_f _ _ q1
        have q2z := below_keep hb3_9_f _ _ q2
        have q3z := below_keep hb3_9_f _ _ q3
        have q4z := below_keep hb3_9_f _ _ q4
        have q5z := below_keep hb3_9_f _ _ q5
        have p0z := below_keep hb3_9_f _ _ p0
        have HC := Lib.hid (specL5Refers (some ⟨b, off, none⟩) (some ⟨bd, od, none⟩) B1 s.length cS db.length cD db[i].rows[k].vals.length e1 s db i db[i].rows[k].vals wait _ _ _ w9 (hs.below TbR.stays hb3_9_f) (hd.below DtR.stays hb3_9_f) (hv.below VlR.stays hb3_9_f) hsn (by have := HLN.out; omega) hvn hlt (by have := HTS.out; unfold Tb.sz szL at this; omega) HX.out.2.2.2.2.2.1)
        cases he : refersB s db s[i] db[i].rows[k].vals wait
        ·have HV4 := Lib.hid he
         clear he
         go_wp2_with fail
         refine HC.out.mono ?_
         rintro e w9 ⟨rfl, hb9⟩
         rw [HV4.out]
         have hl4_10_f := hb9
         have hb4_10_f := hb3_9_f.trans (hl4_10_f.mono hb3_9_f.size)
         have own4_10_f := Lib.hid (OwnG.below own3_9_f.out hl4_10_f)
         have RX := Lib.hid (RX.out.below hl4_10_f)
         clear HC d0 d1 p0z q0z q1z q2z q3z q4z q5z
         obtain ⟨⟨d0, d1⟩, -⟩ := RX.out.all2
         have hne := Lib.hid (own_ne_row own4_10_f.out RX.out (by decide))
         go_wp2_with (at_builtin; refine wpList_append_own _ rfl _ _ 28 rfl w.heap.size 48 i0 (.agg #[.int .i64 0, .int .i64 0, .int .i64 0]) 3 24 Tryz.underlying28 H1.out H2.out H3.out H4.out rfl (by decide) _ _ _ rfl (World.ownsRow.alloc own4_10_f.out _) ⟨_, 0, none⟩ 1 1 (Fw.cells ⟨4, i, db[i].rows[k].id⟩) rfl rfl ?c14_10_f ?c24_10_f ?c34_10_f ?c44_10_f ?c54_10_f ?_)
         case c14_10_f => exact cells_newAt _ (Fw.cells ⟨4, i, db[i].rows[k].id⟩) _ (by simp)
         case c24_10_f => intro u hu; simp [Fw.cells] at hu; rcases hu with rfl | rfl | rfl <;> rfl
         case c34_10_f => have := HLE.out; (try simp only [List.length_append, List.length_cons, List.length_nil]); unfold maxLen; omega
         case c44_10_f => have := HLE.out; (try simp only [List.length_append, List.length_cons, List.length_nil]); omega
         case c54_10_f => have := hb4_10_f.size; simp; omega
         intro v4_10_f w9 hown3 hgrow _
         have R := Lib.hid (OwnG.app own4_10_f.out hb4_10_f.size hown3 hgrow)
         have RX := Lib.hid (grown_rowK hgrow (RX.out.alloc _) hne.out)
         have hb4_10_f := hb4_10_f.trans R.out.2
         have own4_10_f := Lib.hid R.out.1
         clear hown3 hgrow hne R d0 d1
         generalize hyz : y3_9_f ++ [⟨4, i, db[i].rows[k].id⟩] = y4_10_f at *
         have HY4_10_f := Lib.hid hyz
         clear hyz
         have HLE := Lib.hid (show y4_10_f.length ≤ 4398046511108 by have h1 := HLE.out; rw [← HY4_10_f.out, List.length_append, List.length_cons, List.length_nil]; omega)
         have HT := Lib.hid (show dbFw s db wait i ++ (db[i].rows.take (k + 1)).flatMap (rowFw s db s[i] db[i].rows wait i) = y4_10_f by
          rw [HFT.out, ← List.append_assoc, HYS.out]; unfold rowFw; rw [HV1.out, HV2.out, HV3.out, HV4.out, ← HY4_10_f.out, ← HY3_9_f.out, ← HY1_0_f.out]; simp [oneFw])
         go_wp2_with fail
         go_roundw
         case rel => exact ⟨k + 1, by omega, by go_num, Lib.hid (by rw [HT.out]; exact own4_10_f.out), hb4_10_f⟩
         case measure => simp [intOf]; omega
        ·have HV4 := Lib.hid he
         clear he
         go_wp2_with fail
         refine HC.out.mono ?_
         rintro e w9 ⟨rfl, hb9⟩
         rw [HV4.out]
         have hl4_10_t := hb9
         have hb4_10_t := hb3_9_f.trans (hl4_10_t.mono hb3_9_f.size)
         have own4_10_t := Lib.hid (OwnG.below own3_9_f.out hl4_10_t)
         have RX := Lib.hid (RX.out.below hl4_10_t)
         clear HC d0 d1 p0z q0z q1z q2z q3z q4z q5z
         have HT := Lib.hid (show dbFw s db wait i ++ (db[i].rows.take (k + 1)).flatMap (rowFw s db s[i] db[i].rows wait i) = y3_9_f by
          rw [HFT.out, ← List.append_assoc, HYS.out]; unfold rowFw; rw [HV1.out, HV2.out, HV3.out, HV4.out, ← HY3_9_f.out, ← HY1_0_f.out]; simp [oneFw])
         go_wp2_with fail
         go_roundw
         case rel => exact ⟨k + 1, by omega, by go_num, Lib.hid (by rw [HT.out]; exact own4_10_t.out), hb4_10_t⟩
         case measure => simp [intOf]; omega
       ·have HV3 := Lib.hid he
        clear he
        have hbd3_9_t := hb2_1_t.drew
        have hld3_9_t := (Below.refl w9.heap.size w9).drew
        go_region_held3 (fun w' => w'.cell? ⟨b, off + i * 6, none⟩ = some (.string s[i].name) ∧ w'.cell? ⟨b, off + i * 6 + 1, none⟩ = some (.slice A1 s[i].cols.length c1) ∧ w'.cell? ⟨b, off + i * 6 + 2, none⟩ = some (.slice A2 s[i].key.length c2) ∧ w'.cell? ⟨b, off + i * 6 + 3, none⟩ = some (.slice A3 s[i].uniqs.length c3) ∧ w'.cell? ⟨b, off + i * 6 + 4, none⟩ = some (.slice A4 s[i].checks.length c4) ∧ w'.cell? ⟨b, off + i * 6 + 5, none⟩ = some (.slice A5 s[i].fks.length c5) ∧ w'.cell? ⟨bd, od + i, none⟩ = some (.slice (some ⟨bl, ol, none⟩) db[i].rows.length cL) ∧ w'.cell? ⟨g, 0, none⟩ = some (.int .i64 db[i].rows[k].id) ∧ w'.cell? ⟨g, 1, none⟩ = some (.slice B1 db[i].rows[k].vals.length e1))
         (first | go_keep | exact ⟨below_keep hb9 _ _ q0z, below_keep hb9 _ _ q1z, below_keep hb9 _ _ q2z, below_keep hb9 _ _ q3z, below_keep hb9 _ _ q4z, below_keep hb9 _ _ q5z, below_keep hb9 _ _ p0z, below_keep hb9 _ _ d0, below_keep hb9 _ _ d1⟩)
         (first | (go_at_call 64; refine HC.out.mono ?_; rintro e w9 ⟨rfl, hb9⟩; rw [HV3.out]))
        have hl3_9_t := hld3_9_t.trans (hb9.mono hld3_9_t.size)
        have hb3_9_t := hb2_1_t.trans (hl3_9_t.mono hb2_1_t.size)
        have own3_9_t := Lib.hid (OwnG.below own2_1_t.out hl3_9_t)
        have RX := Lib.hid (RX.out.below hl3_9_t)
        clear HC d0 d1 p0z q0z q1z q2z q3z q4z q5z
        obtain ⟨⟨d0, d1⟩, -⟩ := RX.out.all2
        have q0z := below_keep hb3_9_t _ _ q0
        have q1z := below_keep hb3_9_t _ _ q1
        have q2z := below_keep hb3_9_t _ _ q2
        have q3z := below_keep hb3_9_t _ _ q3
        have q4z := below_keep hb3_9_t _ _ q4
        have q5z := below_keep hb3_9_t _ _ q5
        have p0z := below_keep hb3_9_t _ _ p0
        have HC := Lib.hid (specL5Refers (some ⟨b, off, none⟩) (some ⟨bd, od, none⟩) B1 s.length cS db.length cD db[i].rows[k].vals.length e1 s db i db[i].rows[k].vals wait _ _ _ w9 (hs.below TbR.stays hb3_9_t) (hd.below DtR.stays hb3_9_t) (hv.below VlR.stays hb3_9_t) hsn (by have := HLN.out; omega) hvn hlt (by have := HTS.out; unfold Tb.sz szL at this; omega) HX.out.2.2.2.2.2.1)
        cases he : refersB s db s[i] db[i].rows[k].vals wait
        ·have HV4 := Lib.hid he
         clear he
         go_wp2_with fail
         refine HC.out.mono ?_
         rintro e w9 ⟨rfl, hb9⟩
         rw [HV4.out]
         have hl4_13_f := hb9
         have hb4_13_f := hb3_9_t.trans (hl4_13_f.mono hb3_9_t.size)
         have own4_13_f := Lib.hid (OwnG.below own3_9_t.out hl4_13_f)
         have RX := Lib.hid (RX.out.below hl4_13_f)
         clear HC d0 d1 p0z q0z q1z q2z q3z q4z q5z
         obtain ⟨⟨d0, d1⟩, -⟩ := RX.out.all2
         have hne := Lib.hid (own_ne_row own4_13_f.out RX.out (by decide))
         go_wp2_with (at_builtin; refine wpList_append_own _ rfl _ _ 28 rfl w.heap.size 48 i0 (.agg #[.int .i64 0, .int .i64 0, .int .i64 0]) 3 24 Tryz.underlying28 H1.out H2.out H3.out H4.out rfl (by decide) _ _ _ rfl (World.ownsRow.alloc own4_13_f.out _) ⟨_, 0, none⟩ 1 1 (Fw.cells ⟨4, i, db[i].rows[k].id⟩) rfl rfl ?c14_13_f ?c24_13_f ?c34_13_f ?c44_13_f ?c54_13_f ?_)
         case c14_13_f => exact cells_newAt _ (Fw.cells ⟨4, i, db[i].rows[k].id⟩) _ (by simp)
         case c24_13_f => intro u hu; simp [Fw.cells] at hu; rcases hu with rfl | rfl | rfl <;> rfl
         case c34_13_f => have := HLE.out; (try simp only [List.length_append, List.length_cons, List.length_nil]); unfold maxLen; omega
         case c44_13_f => have := HLE.out; (try simp only [List.length_append, List.length_cons, List.length_nil]); omega
         case c54_13_f => have := hb4_13_f.size; simp; omega
         intro v4_13_f w9 hown3 hgrow _
         have R := Lib.hid (OwnG.app own4_13_f.out hb4_13_f.size hown3 hgrow)
         have RX := Lib.hid (grown_rowK hgrow (RX.out.alloc _) hne.out)
         have hb4_13_f := hb4_13_f.trans R.out.2
         have own4_13_f := Lib.hid R.out.1
         clear hown3 hgrow hne R d0 d1
         generalize hyz : y1_0_f ++ [⟨4, i, db[i].rows[k].id⟩] = y4_13_f at *
         have HY4_13_f := Lib.hid hyz
         clear hyz
         have HLE := Lib.hid (show y4_13_f.length ≤ 4398046511108 by have h1 := HLE.out; rw [← HY4_13_f.out, List.length_append, List.length_cons, List.length_nil]; omega)
         have HT := Lib.hid (show dbFw s db wait i ++ (db[i].rows.take (k + 1)).flatMap (rowFw s db s[i] db[i].rows wait i) = y4_13_f by
          rw [HFT.out, ← List.append_assoc, HYS.out]; unfold rowFw; rw [HV1.out, HV2.out, HV3.out, HV4.out, ← HY4_13_f.out, ← HY1_0_f.out]; simp [oneFw])
         go_wp2_with fail
         go_roundw
         case rel => exact ⟨k + 1, by omega, by go_num, Lib.hid (by rw [HT.out]; exact own4_13_f.out), hb4_13_f⟩
         case measure => simp [intOf]; omega
        ·have HV4 := Lib.hid he
         clear he
         go_wp2_with fail
         refine HC.out.mono ?_
         rintro e w9 ⟨rfl, hb9⟩
         rw [HV4.out]
         have hl4_13_t := hb9
         have hb4_13_t := hb3_9_t.trans (hl4_13_t.mono hb3_9_t.size)
         have own4_13_t := Lib.hid (OwnG.below own3_9_t.out hl4_13_t)
         have RX := Lib.hid (RX.out.below hl4_13_t)
         clear HC d0 d1 p0z q0z q1z q2z q3z q4z q5z
         have HT := Lib.hid (show dbFw s db wait i ++ (db[i].rows.take (k + 1)).flatMap (rowFw s db s[i] db[i].rows wait i) = y1_0_f by
          rw [HFT.out, ← List.append_assoc, HYS.out]; unfold rowFw; rw [HV1.out, HV2.out, HV3.out, HV4.out, ← HY1_0_f.out]; simp [oneFw])
         go_wp2_with fail
         go_roundw
         case rel => exact ⟨k + 1, by omega, by go_num, Lib.hid (by rw [HT.out]; exact own4_13_t.out), hb4_13_t⟩
         case measure => simp [intOf]; omega
     ·have HV1 := Lib.hid he
      clear he
      have hbd1_0_t := hbW.drew
      have hld1_0_t := (Below.refl W0.heap.size W0).drew
      go_region_held3 (fun w' => w'.cell? ⟨b, off + i * 6, none⟩ = some (.string s[i].name) ∧ w'.cell? ⟨b, off + i * 6 + 1, none⟩ = some (.slice A1 s[i].cols.length c1) ∧ w'.cell? ⟨b, off + i * 6 + 2, none⟩ = some (.slice A2 s[i].key.length c2) ∧ w'.cell? ⟨b, off + i * 6 + 3, none⟩ = some (.slice A3 s[i].uniqs.length c3) ∧ w'.cell? ⟨b, off + i * 6 + 4, none⟩ = some (.slice A4 s[i].checks.length c4) ∧ w'.cell? ⟨b, off + i * 6 + 5, none⟩ = some (.slice A5 s[i].fks.length c5) ∧ w'.cell? ⟨bd, od + i, none⟩ = some (.slice (some ⟨bl, ol, none⟩) db[i].rows.length cL) ∧ w'.cell? ⟨g, 0, none⟩ = some (.int .i64 db[i].rows[k].id) ∧ w'.cell? ⟨g, 1, none⟩ = some (.slice B1 db[i].rows[k].vals.length e1))
       (first | go_keep | exact ⟨below_keep hb9 _ _ q0z, below_keep hb9 _ _ q1z, below_keep hb9 _ _ q2z, below_keep hb9 _ _ q3z, below_keep hb9 _ _ q4z, below_keep hb9 _ _ q5z, below_keep hb9 _ _ p0z, below_keep hb9 _ _ d0, below_keep hb9 _ _ d1⟩)
       (first | (go_at_call 57; refine HC.out.mono ?_; rintro e w9 ⟨rfl, hb9⟩; rw [HV1.out]))
      have hl1_0_t := hld1_0_t.trans (hb9.mono hld1_0_t.size)
      have hb1_0_t := hbW.trans (hl1_0_t.mono hbW.size)
      have own1_0_t := Lib.hid (OwnG.below own.out hl1_0_t)
      have RX := Lib.hid (RX.out.below hl1_0_t)
      clear HC d0 d1 p0z q0z q1z q2z q3z q4z q5z
      go_wp2_with fail
      obtain ⟨⟨d0, d1⟩, -⟩ := RX.out.all2
      have q0z := below_keep hb1_0_t _ _ q0
      have q1z := below_keep hb1_0_t _ _ q1
      have q2z := below_keep hb1_0_t _ _ q2
      have q3z := below_keep hb1_0_t _ _ q3
      have q4z := below_keep hb1_0_t _ _ q4
      have q5z := below_keep hb1_0_t _ _ q5
      have p0z := below_keep hb1_0_t _ _ p0
      have HC := Lib.hid (specChecks A4 B1 s[i].checks.length c4 db[i].rows[k].vals.length e1 (.string s[i].name) (.slice A1 s[i].cols.length c1) (.slice A2 s[i].key.length c2) (.slice A3 s[i].uniqs.length c3) (.slice A5 s[i].fks.length c5) s[i].checks db[i].rows[k].vals _ w9.drew ((s4.below CkR.stays hb1_0_t).drew CkR.stays) (Sl.cellz (fun _ => rfl) ((hv.below VlR.stays hb1_0_t).drew VlR.stays)) (by have := HTS.out; unfold Tb.sz at this; omega) hvn HX.out.2.1 HX.out.2.2.1)
      cases he : checksB s[i].checks db[i].rows[k].vals
      ·have HV2 := Lib.hid he
       clear he
       have hbd2_16_f := hb1_0_t.drew
       have hld2_16_f := (Below.refl w9.heap.size w9).drew
       go_region_held3 (fun w' => w'.cell? ⟨b, off + i * 6, none⟩ = some (.string s[i].name) ∧ w'.cell? ⟨b, off + i * 6 + 1, none⟩ = some (.slice A1 s[i].cols.length c1) ∧ w'.cell? ⟨b, off + i * 6 + 2, none⟩ = some (.slice A2 s[i].key.length c2) ∧ w'.cell? ⟨b, off + i * 6 + 3, none⟩ = some (.slice A3 s[i].uniqs.length c3) ∧ w'.cell? ⟨b, off + i * 6 + 4, none⟩ = some (.slice A4 s[i].checks.length c4) ∧ w'.cell? ⟨b, off + i * 6 + 5, none⟩ = some (.slice A5 s[i].fks.length c5) ∧ w'.cell? ⟨bd, od + i, none⟩ = some (.slice (some ⟨bl, ol, none⟩) db[i].rows.length cL) ∧ w'.cell? ⟨g, 0, none⟩ = some (.int .i64 db[i].rows[k].id) ∧ w'.cell? ⟨g, 1, none⟩ = some (.slice B1 db[i].rows[k].vals.length e1))
        (first | go_keep | exact ⟨below_keep hb9 _ _ q0z, below_keep hb9 _ _ q1z, below_keep hb9 _ _ q2z, below_keep hb9 _ _ q3z, below_keep hb9 _ _ q4z, below_keep hb9 _ _ q5z, below_keep hb9 _ _ p0z, below_keep hb9 _ _ d0, below_keep hb9 _ _ d1⟩)
        (first | (go_at_call 58; refine HC.out.mono ?_; rintro e w9 ⟨rfl, hb9⟩; rw [HV2.out]))
       have hl2_16_f := hld2_16_f.trans (hb9.mono hld2_16_f.size)
       have hb2_16_f := hb1_0_t.trans (hl2_16_f.mono hb1_0_t.size)
       have own2_16_f := Lib.hid (OwnG.below own1_0_t.out hl2_16_f)
       have RX := Lib.hid (RX.out.below hl2_16_f)
       clear HC d0 d1 p0z q0z q1z q2z q3z q4z q5z
       obtain ⟨⟨d0, d1⟩, -⟩ := RX.out.all2
       have hne := Lib.hid (own_ne_row own2_16_f.out RX.out (by decide))
       go_wp2_with (at_builtin; refine wpList_append_own _ rfl _ _ 28 rfl w.heap.size 48 i0 (.agg #[.int .i64 0, .int .i64 0, .int .i64 0]) 3 24 Tryz.underlying28 H1.out H2.out H3.out H4.out rfl (by decide) _ _ _ rfl (World.ownsRow.alloc own2_16_f.out _) ⟨_, 0, none⟩ 1 1 (Fw.cells ⟨2, i, db[i].rows[k].id⟩) rfl rfl ?c12_16_f ?c22_16_f ?c32_16_f ?c42_16_f ?c52_16_f ?_)
       case c12_16_f => exact cells_newAt _ (Fw.cells ⟨2, i, db[i].rows[k].id⟩) _ (by simp)
       case c22_16_f => intro u hu; simp [Fw.cells] at hu; rcases hu with rfl | rfl | rfl <;> rfl
       case c32_16_f => have := HLE.out; (try simp only [List.length_append, List.length_cons, List.length_nil]); unfold maxLen; omega
       case c42_16_f => have := HLE.out; (try simp only [List.length_append, List.length_cons, List.length_nil]); omega
       case c52_16_f => have := hb2_16_f.size; simp; omega
       intro v2_16_f w9 hown3 hgrow _
       have R := Lib.hid (OwnG.app own2_16_f.out hb2_16_f.size hown3 hgrow)
       have RX := Lib.hid (grown_rowK hgrow (RX.out.alloc _) hne.out)
       have hb2_16_f := hb2_16_f.trans R.out.2
       have own2_16_f := Lib.hid R.out.1
       clear hown3 hgrow hne R d0 d1
       generalize hyz : ys ++ [⟨2, i, db[i].rows[k].id⟩] = y2_16_f at *
       have HY2_16_f := Lib.hid hyz
       clear hyz
       have HLE := Lib.hid (show y2_16_f.length ≤ 4398046511106 by have h1 := HLE.out; rw [← HY2_16_f.out, List.length_append, List.length_cons, List.length_nil]; omega)
       go_wp2_with fail
       obtain ⟨⟨d0, d1⟩, -⟩ := RX.out.all2
       have q0z := below_keep hb2_16_f _ _ q0
       have q1z := below_keep hb2_16_f _ _ q1
       have q2z := below_keep hb2_16_f _ _ q2
       have q3z := below_keep hb2_16_f _ _ q3
       have q4z := below_keep hb2_16_f _ _ q4
       have q5z := below_keep hb2_16_f _ _ q5
       have p0z := below_keep hb2_16_f _ _ p0
       have HC := Lib.hid (specL5Unique A1 A2 A3 A4 A5 (some ⟨bl, ol, none⟩) B1 s[i].cols.length c1 s[i].key.length c2 s[i].uniqs.length c3 s[i].checks.length c4 s[i].fks.length c5 db[i].rows.length cL db[i].rows[k].vals.length e1 s[i] db[i].rows db[i].rows[k] _ _ _ _ w9.drew ((s2.below IntR.stays hb2_16_f).drew IntR.stays) ((s3.below UqR.stays hb2_16_f).drew UqR.stays) ((hrw.below RwR.stays hb2_16_f).drew RwR.stays) ((hv.below VlR.stays hb2_16_f).drew VlR.stays) hrn (by have := HTS.out; unfold Tb.sz szL at this; omega) (by have := HTS.out; unfold Tb.sz szL at this; omega) HUM.out hvn (fun r hr => (HRI.out r hr).2.2.2.2.2.2) (fun r hr => (HRI.out r hr).2.2.2.1) HX.out.2.2.2.1 (fun u hu => ⟨fun r hr => (HRI.out r hr).2.2.2.2.1 u hu, HX.out.2.2.2.2.1 u hu⟩))
       cases he : uniqueB s[i] db[i].rows db[i].rows[k]
       ·have HV3 := Lib.hid he
        clear he
        have hbd3_17_f := hb2_16_f.drew
        have hld3_17_f := (Below.refl w9.heap.size w9).drew
        go_region_held3 (fun w' => w'.cell? ⟨b, off + i * 6, none⟩ = some (.string s[i].name) ∧ w'.cell? ⟨b, off + i * 6 + 1, none⟩ = some (.slice A1 s[i].cols.length c1) ∧ w'.cell? ⟨b, off + i * 6 + 2, none⟩ = some (.slice A2 s[i].key.length c2) ∧ w'.cell? ⟨b, off + i * 6 + 3, none⟩ = some (.slice A3 s[i].uniqs.length c3) ∧ w'.cell? ⟨b, off + i * 6 + 4, none⟩ = some (.slice A4 s[i].checks.length c4) ∧ w'.cell? ⟨b, off + i * 6 + 5, none⟩ = some (.slice A5 s[i].fks.length c5) ∧ w'.cell? ⟨bd, od + i, none⟩ = some (.slice (some ⟨bl, ol, none⟩) db[i].rows.length cL) ∧ w'.cell? ⟨g, 0, none⟩ = some (.int .i64 db[i].rows[k].id) ∧ w'.cell? ⟨g, 1, none⟩ = some (.slice B1 db[i].rows[k].vals.length e1))
         (first | go_keep | exact ⟨below_keep hb9 _ _ q0z, below_keep hb9 _ _ q1z, below_keep hb9 _ _ q2z, below_keep hb9 _ _ q3z, below_keep hb9 _ _ q4z, below_keep hb9 _ _ q5z, below_keep hb9 _ _ p0z, below_keep hb9 _ _ d0, below_keep hb9 _ _ d1⟩)
         (first | (go_at_call 64; refine HC.out.mono ?_; rintro e w9 ⟨rfl, hb9⟩; rw [HV3.out]))
        have hl3_17_f := hld3_17_f.trans (hb9.mono hld3_17_f.size)
        have hb3_17_f := hb2_16_f.trans (hl3_17_f.mono hb2_16_f.size)
        have own3_17_f := Lib.hid (OwnG.below own2_16_f.out hl3_17_f)
        have RX := Lib.hid (RX.out.below hl3_17_f)
        clear HC d0 d1 p0z q0z q1z q2z q3z q4z q5z
        obtain ⟨⟨d0, d1⟩, -⟩ := RX.out.all2
        have hne := Lib.hid (own_ne_row own3_17_f.out RX.out (by decide))
        go_wp2_with (at_builtin; refine wpList_append_own _ rfl _ _ 28 rfl w.heap.size 48 i0 (.agg #[.int .i64 0, .int .i64 0, .int .i64 0]) 3 24 Tryz.underlying28 H1.out H2.out H3.out H4.out rfl (by decide) _ _ _ rfl (World.ownsRow.alloc own3_17_f.out _) ⟨_, 0, none⟩ 1 1 (Fw.cells ⟨3, i, db[i].rows[k].id⟩) rfl rfl ?c13_17_f ?c23_17_f ?c33_17_f ?c43_17_f ?c53_17_f ?_)
        case c13_17_f => exact cells_newAt _ (Fw.cells ⟨3, i, db[i].rows[k].id⟩) _ (by simp)
        case c23_17_f => intro u hu; simp [Fw.cells] at hu; rcases hu with rfl | rfl | rfl <;> rfl
        case c33_17_f => have := HLE.out; (try simp only [List.length_append, List.length_cons, List.length_nil]); unfold maxLen; omega
        case c43_17_f => have := HLE.out; (try simp only [List.length_append, List.length_cons, List.length_nil]); omega
        case c53_17_f => have := hb3_17_f.size; simp; omega
        intro v3_17_f w9 hown3 hgrow _
        have R := Lib.hid (OwnG.app own3_17_f.out hb3_17_f.size hown3 hgrow)
        have RX := Lib.hid (grown_rowK hgrow (RX.out.alloc _) hne.out)
        have hb3_17_f := hb3_17_f.trans R.out.2
        have own3_17_f := Lib.hid R.out.1
        clear hown3 hgrow hne R d0 d1
        generalize hyz : y2_16_f ++ [⟨3, i, db[i].rows[k].id⟩] = y3_17_f at *
        have HY3_17_f := Lib.hid hyz
        clear hyz
        have HLE := Lib.hid (show y3_17_f.length ≤ 4398046511107 by have h1 := HLE.out; rw [← HY3_17_f.out, List.length_append, List.length_cons, List.length_nil]; omega)
        obtain ⟨⟨d0, d1⟩, -⟩ := RX.out.all2
        have q0z := below_keep hb3_17_f _ _ q0
        have q1z := below_keep hb3_17_f _ _ q1
        have q2z := below_keep hb3_17_f _ _ q2
        have q3z := below_keep hb3_17_f _ _ q3
        have q4z := below_keep hb3_17_f _ _ q4
        have q5z := below_keep hb3_17_f _ _ q5
        have p0z := below_keep hb3_17_f _ _ p0
        have HC := Lib.hid (specL5Refers (some ⟨b, off, none⟩) (some ⟨bd, od, none⟩) B1 s.length cS db.length cD db[i].rows[k].vals.length e1 s db i db[i].rows[k].vals wait _ _ _ w9 (hs.below TbR.stays hb3_17_f) (hd.below DtR.stays hb3_17_f) (hv.below VlR.stays hb3_17_f) hsn (by have := HLN.out; omega) hvn hlt (by have := HTS.out; unfold Tb.sz szL at this; omega) HX.out.2.2.2.2.2.1)
        cases he : refersB s db s[i] db[i].rows[k].vals wait
        ·have HV4 := Lib.hid he
         clear he
         go_wp2_with fail
         refine HC.out.mono ?_
         rintro e w9 ⟨rfl, hb9⟩
         rw [HV4.out]
         have hl4_18_f := hb9
         have hb4_18_f := hb3_17_f.trans (hl4_18_f.mono hb3_17_f.size)
         have own4_18_f := Lib.hid (OwnG.below own3_17_f.out hl4_18_f)
         have RX := Lib.hid (RX.out.below hl4_18_f)
         clear HC d0 d1 p0z q0z q1z q2z q3z q4z q5z
         obtain ⟨⟨d0, d1⟩, -⟩ := RX.out.all2
         have hne := Lib.hid (own_ne_row own4_18_f.out RX.out (by decide))
         go_wp2_with (at_builtin; refine wpList_append_own _ rfl _ _ 28 rfl w.heap.size 48 i0 (.agg #[.int .i64 0, .int .i64 0, .int .i64 0]) 3 24 Tryz.underlying28 H1.out H2.out H3.out H4.out rfl (by decide) _ _ _ rfl (World.ownsRow.alloc own4_18_f.out _) ⟨_, 0, none⟩ 1 1 (Fw.cells ⟨4, i, db[i].rows[k].id⟩) rfl rfl ?c14_18_f ?c24_18_f ?c34_18_f ?c44_18_f ?c54_18_f ?_)
         case c14_18_f => exact cells_newAt _ (Fw.cells ⟨4, i, db[i].rows[k].id⟩) _ (by simp)
         case c24_18_f => intro u hu; simp [Fw.cells] at hu; rcases hu with rfl | rfl | rfl <;> rfl
         case c34_18_f => have := HLE.out; (try simp only [List.length_append, List.length_cons, List.length_nil]); unfold maxLen; omega
         case c44_18_f => have := HLE.out; (try simp only [List.length_append, List.length_cons, List.length_nil]); omega
         case c54_18_f => have := hb4_18_f.size; simp; omega
         intro v4_18_f w9 hown3 hgrow _
         have R := Lib.hid (OwnG.app own4_18_f.out hb4_18_f.size hown3 hgrow)
         have RX := Lib.hid (grown_rowK hgrow (RX.out.alloc _) hne.out)
         have hb4_18_f := hb4_18_f.trans R.out.2
         have own4_18_f := Lib.hid R.out.1
         clear hown3 hgrow hne R d0 d1
         generalize hyz : y3_17_f ++ [⟨4, i, db[i].rows[k].id⟩] = y4_18_f at *
         have HY4_18_f := Lib.hid hyz
         clear hyz
         have HLE := Lib.hid (show y4_18_f.length ≤ 4398046511108 by have h1 := HLE.out; rw [← HY4_18_f.out, List.length_append, List.length_cons, List.length_nil]; omega)
         have HT := Lib.hid (show dbFw s db wait i ++ (db[i].rows.take (k + 1)).flatMap (rowFw s db s[i] db[i].rows wait i) = y4_18_f by
          rw [HFT.out, ← List.append_assoc, HYS.out]; unfold rowFw; rw [HV1.out, HV2.out, HV3.out, HV4.out, ← HY4_18_f.out, ← HY3_17_f.out, ← HY2_16_f.out]; simp [oneFw])
         go_wp2_with fail
         go_roundw
         case rel => exact ⟨k + 1, by omega, by go_num, Lib.hid (by rw [HT.out]; exact own4_18_f.out), hb4_18_f⟩
         case measure => simp [intOf]; omega
        ·have HV4 := Lib.hid he
         clear he
         go_wp2_with fail
         refine HC.out.mono ?_
         rintro e w9 ⟨rfl, hb9⟩
         rw [HV4.out]
         have hl4_18_t := hb9
         have hb4_18_t := hb3_17_f.trans (hl4_18_t.mono hb3_17_f.size)
         have own4_18_t := Lib.hid (OwnG.below own3_17_f.out hl4_18_t)
         have RX := Lib.hid (RX.out.below hl4_18_t)
         clear HC d0 d1 p0z q0z q1z q2z q3z q4z q5z
         have HT := Lib.hid (show dbFw s db wait i ++ (db[i].rows.take (k + 1)).flatMap (rowFw s db s[i] db[i].rows wait i) = y3_17_f by
          rw [HFT.out, ← List.append_assoc, HYS.out]; unfold rowFw; rw [HV1.out, HV2.out, HV3.out, HV4.out, ← HY3_17_f.out, ← HY2_16_f.out]; simp [oneFw])
         go_wp2_with fail
         go_roundw
         case rel => exact ⟨k + 1, by omega, by go_num, Lib.hid (by rw [HT.out]; exact own4_18_t.out), hb4_18_t⟩
         case measure => simp [intOf]; omega
       ·have HV3 := Lib.hid he
        clear he
        have hbd3_17_t := hb2_16_f.drew
        have hld3_17_t := (Below.refl w9.heap.size w9).drew
        go_region_held3 (fun w' => w'.cell? ⟨b, off + i * 6, none⟩ = some (.string s[i].name) ∧ w'.cell? ⟨b, off + i * 6 + 1, none⟩ = some (.slice A1 s[i].cols.length c1) ∧ w'.cell? ⟨b, off + i * 6 + 2, none⟩ = some (.slice A2 s[i].key.length c2) ∧ w'.cell? ⟨b, off + i * 6 + 3, none⟩ = some (.slice A3 s[i].uniqs.length c3) ∧ w'.cell? ⟨b, off + i * 6 + 4, none⟩ = some (.slice A4 s[i].checks.length c4) ∧ w'.cell? ⟨b, off + i * 6 + 5, none⟩ = some (.slice A5 s[i].fks.length c5) ∧ w'.cell? ⟨bd, od + i, none⟩ = some (.slice (some ⟨bl, ol, none⟩) db[i].rows.length cL) ∧ w'.cell? ⟨g, 0, none⟩ = some (.int .i64 db[i].rows[k].id) ∧ w'.cell? ⟨g, 1, none⟩ = some (.slice B1 db[i].rows[k].vals.length e1))
         (first | go_keep | exact ⟨below_keep hb9 _ _ q0z, below_keep hb9 _ _ q1z, below_keep hb9 _ _ q2z, below_keep hb9 _ _ q3z, below_keep hb9 _ _ q4z, below_keep hb9 _ _ q5z, below_keep hb9 _ _ p0z, below_keep hb9 _ _ d0, below_keep hb9 _ _ d1⟩)
         (first | (go_at_call 64; refine HC.out.mono ?_; rintro e w9 ⟨rfl, hb9⟩; rw [HV3.out]))
        have hl3_17_t := hld3_17_t.trans (hb9.mono hld3_17_t.size)
        have hb3_17_t := hb2_16_f.trans (hl3_17_t.mono hb2_16_f.size)
        have own3_17_t := Lib.hid (OwnG.below own2_16_f.out hl3_17_t)
        have RX := Lib.hid (RX.out.below hl3_17_t)
        clear HC d0 d1 p0z q0z q1z q2z q3z q4z q5z
        obtain ⟨⟨d0, d1⟩, -⟩ := RX.out.all2
        have q0z := below_keep hb3_17_t _ _ q0
        have q1z := below_keep hb3_17_t _ _ q1
        have q2z := below_keep hb3_17_t _ _ q2
        have q3z := below_keep hb3_17_t _ _ q3
        have q4z := below_keep hb3_17_t _ _ q4
        have q5z := below_keep hb3_17_t _ _ q5
        have p0z := below_keep hb3_17_t _ _ p0
        have HC := Lib.hid (specL5Refers (some ⟨b, off, none⟩) (some ⟨bd, od, none⟩) B1 s.length cS db.length cD db[i].rows[k].vals.length e1 s db i db[i].rows[k].vals wait _ _ _ w9 (hs.below TbR.stays hb3_17_t) (hd.below DtR.stays hb3_17_t) (hv.below VlR.stays hb3_17_t) hsn (by have := HLN.out; omega) hvn hlt (by have := HTS.out; unfold Tb.sz szL at this; omega) HX.out.2.2.2.2.2.1)
        cases he : refersB s db s[i] db[i].rows[k].vals wait
        ·have HV4 := Lib.hid he
         clear he
         go_wp2_with fail
         refine HC.out.mono ?_
         rintro e w9 ⟨rfl, hb9⟩
         rw [HV4.out]
         have hl4_21_f := hb9
         have hb4_21_f := hb3_17_t.trans (hl4_21_f.mono hb3_17_t.size)
         have own4_21_f := Lib.hid (OwnG.below own3_17_t.out hl4_21_f)
         have RX := Lib.hid (RX.out.below hl4_21_f)
         clear HC d0 d1 p0z q0z q1z q2z q3z q4z q5z
         obtain ⟨⟨d0, d1⟩, -⟩ := RX.out.all2
         have hne := Lib.hid (own_ne_row own4_21_f.out RX.out (by decide))
         go_wp2_with (at_builtin; refine wpList_append_own _ rfl _ _ 28 rfl w.heap.size 48 i0 (.agg #[.int .i64 0, .int .i64 0, .int .i64 0]) 3 24 Tryz.underlying28 H1.out H2.out H3.out H4.out rfl (by decide) _ _ _ rfl (World.ownsRow.alloc own4_21_f.out _) ⟨_, 0, none⟩ 1 1 (Fw.cells ⟨4, i, db[i].rows[k].id⟩) rfl rfl ?c14_21_f ?c24_21_f ?c34_21_f ?c44_21_f ?c54_21_f ?_)
         case c14_21_f => exact cells_newAt _ (Fw.cells ⟨4, i, db[i].rows[k].id⟩) _ (by simp)
         case c24_21_f => intro u hu; simp [Fw.cells] at hu; rcases hu with rfl | rfl | rfl <;> rfl
         case c34_21_f => have := HLE.out; (try simp only [List.length_append, List.length_cons, List.length_nil]); unfold maxLen; omega
         case c44_21_f => have := HLE.out; (try simp only [List.length_append, List.length_cons, List.length_nil]); omega
         case c54_21_f => have := hb4_21_f.size; simp; omega
         intro v4_21_f w9 hown3 hgrow _
         have R := Lib.hid (OwnG.app own4_21_f.out hb4_21_f.size hown3 hgrow)
         have RX := Lib.hid (grown_rowK hgrow (RX.out.alloc _) hne.out)
         have hb4_21_f := hb4_21_f.trans R.out.2
         have own4_21_f := Lib.hid R.out.1
         clear hown3 hgrow hne R d0 d1
         generalize hyz : y2_16_f ++ [⟨4, i, db[i].rows[k].id⟩] = y4_21_f at *
         have HY4_21_f := Lib.hid hyz
         clear hyz
         have HLE := Lib.hid (show y4_21_f.length ≤ 4398046511108 by have h1 := HLE.out; rw [← HY4_21_f.out, List.length_append, List.length_cons, List.length_nil]; omega)
         have HT := Lib.hid (show dbFw s db wait i ++ (db[i].rows.take (k + 1)).flatMap (rowFw s db s[i] db[i].rows wait i) = y4_21_f by
          rw [HFT.out, ← List.append_assoc, HYS.out]; unfold rowFw; rw [HV1.out, HV2.out, HV3.out, HV4.out, ← HY4_21_f.out, ← HY2_16_f.out]; simp [oneFw])
         go_wp2_with fail
         go_roundw
         case rel => exact ⟨k + 1, by omega, by go_num, Lib.hid (by rw [HT.out]; exact own4_21_f.out), hb4_21_f⟩
         case measure => simp [intOf]; omega
        ·have HV4 := Lib.hid he
         clear he
         go_wp2_with fail
         refine HC.out.mono ?_
         rintro e w9 ⟨rfl, hb9⟩
         rw [HV4.out]
         have hl4_21_t := hb9
         have hb4_21_t := hb3_17_t.trans (hl4_21_t.mono hb3_17_t.size)
         have own4_21_t := Lib.hid (OwnG.below own3_17_t.out hl4_21_t)
         have RX := Lib.hid (RX.out.below hl4_21_t)
         clear HC d0 d1 p0z q0z q1z q2z q3z q4z q5z
         have HT := Lib.hid (show dbFw s db wait i ++ (db[i].rows.take (k + 1)).flatMap (rowFw s db s[i] db[i].rows wait i) = y2_16_f by
          rw [HFT.out, ← List.append_assoc, HYS.out]; unfold rowFw; rw [HV1.out, HV2.out, HV3.out, HV4.out, ← HY2_16_f.out]; simp [oneFw])
         go_wp2_with fail
         go_roundw
         case rel => exact ⟨k + 1, by omega, by go_num, Lib.hid (by rw [HT.out]; exact own4_21_t.out), hb4_21_t⟩
         case measure => simp [intOf]; omega
      ·have HV2 := Lib.hid he
       clear he
       have hbd2_16_t := hb1_0_t.drew
       have hld2_16_t := (Below.refl w9.heap.size w9).drew
       go_region_held3 (fun w' => w'.cell? ⟨b, off + i * 6, none⟩ = some (.string s[i].name) ∧ w'.cell? ⟨b, off + i * 6 + 1, none⟩ = some (.slice A1 s[i].cols.length c1) ∧ w'.cell? ⟨b, off + i * 6 + 2, none⟩ = some (.slice A2 s[i].key.length c2) ∧ w'.cell? ⟨b, off + i * 6 + 3, none⟩ = some (.slice A3 s[i].uniqs.length c3) ∧ w'.cell? ⟨b, off + i * 6 + 4, none⟩ = some (.slice A4 s[i].checks.length c4) ∧ w'.cell? ⟨b, off + i * 6 + 5, none⟩ = some (.slice A5 s[i].fks.length c5) ∧ w'.cell? ⟨bd, od + i, none⟩ = some (.slice (some ⟨bl, ol, none⟩) db[i].rows.length cL) ∧ w'.cell? ⟨g, 0, none⟩ = some (.int .i64 db[i].rows[k].id) ∧ w'.cell? ⟨g, 1, none⟩ = some (.slice B1 db[i].rows[k].vals.length e1))
        (first | go_keep | exact ⟨below_keep hb9 _ _ q0z, below_keep hb9 _ _ q1z, below_keep hb9 _ _ q2z, below_keep hb9 _ _ q3z, below_keep hb9 _ _ q4z, below_keep hb9 _ _ q5z, below_keep hb9 _ _ p0z, below_keep hb9 _ _ d0, below_keep hb9 _ _ d1⟩)
        (first | (go_at_call 58; refine HC.out.mono ?_; rintro e w9 ⟨rfl, hb9⟩; rw [HV2.out]))
       have hl2_16_t := hld2_16_t.trans (hb9.mono hld2_16_t.size)
       have hb2_16_t := hb1_0_t.trans (hl2_16_t.mono hb1_0_t.size)
       have own2_16_t := Lib.hid (OwnG.below own1_0_t.out hl2_16_t)
       have RX := Lib.hid (RX.out.below hl2_16_t)
       clear HC d0 d1 p0z q0z q1z q2z q3z q4z q5z
       go_wp2_with fail
       obtain ⟨⟨d0, d1⟩, -⟩ := RX.out.all2
       have q0z := below_keep hb2_16_t _ _ q0
       have q1z := below_keep hb2_16_t _ _ q1
       have q2z := below_keep hb2_16_t _ _ q2
       have q3z := below_keep hb2_16_t _ _ q3
       have q4z := below_keep hb2_16_t _ _ q4
       have q5z := below_keep hb2_16_t _ _ q5
       have p0z := below_keep hb2_16_t _ _ p0
       have HC := Lib.hid (specL5Unique A1 A2 A3 A4 A5 (some ⟨bl, ol, none⟩) B1 s[i].cols.length c1 s[i].key.length c2 s[i].uniqs.length c3 s[i].checks.length c4 s[i].fks.length c5 db[i].rows.length cL db[i].rows[k].vals.length e1 s[i] db[i].rows db[i].rows[k] _ _ _ _ w9.drew ((s2.below IntR.stays hb2_16_t).drew IntR.stays) ((s3.below UqR.stays hb2_16_t).drew UqR.stays) ((hrw.below RwR.stays hb2_16_t).drew RwR.stays) ((hv.below VlR.stays hb2_16_t).drew VlR.stays) hrn (by have := HTS.out; unfold Tb.sz szL at this; omega) (by have := HTS.out; unfold Tb.sz szL at this; omega) HUM.out hvn (fun r hr => (HRI.out r hr).2.2.2.2.2.2) (fun r hr => (HRI.out r hr).2.2.2.1) HX.out.2.2.2.1 (fun u hu => ⟨fun r hr => (HRI.out r hr).2.2.2.2.1 u hu, HX.out.2.2.2.2.1 u hu⟩))
       cases he : uniqueB s[i] db[i].rows db[i].rows[k]
       ·have HV3 := Lib.hid he
        clear he
        have hbd3_24_f := hb2_16_t.drew
        have hld3_24_f := (Below.refl w9.heap.size w9).drew
        go_region_held3 (fun w' => w'.cell? ⟨b, off + i * 6, none⟩ = some (.string s[i].name) ∧ w'.cell? ⟨b, off + i * 6 + 1, none⟩ = some (.slice A1 s[i].cols.length c1) ∧ w'.cell? ⟨b, off + i * 6 + 2, none⟩ = some (.slice A2 s[i].key.length c2) ∧ w'.cell? ⟨b, off + i * 6 + 3, none⟩ = some (.slice A3 s[i].uniqs.length c3) ∧ w'.cell? ⟨b, off + i * 6 + 4, none⟩ = some (.slice A4 s[i].checks.length c4) ∧ w'.cell? ⟨b, off + i * 6 + 5, none⟩ = some (.slice A5 s[i].fks.length c5) ∧ w'.cell? ⟨bd, od + i, none⟩ = some (.slice (some ⟨bl, ol, none⟩) db[i].rows.length cL) ∧ w'.cell? ⟨g, 0, none⟩ = some (.int .i64 db[i].rows[k].id) ∧ w'.cell? ⟨g, 1, none⟩ = some (.slice B1 db[i].rows[k].vals.length e1))
         (first | go_keep | exact ⟨below_keep hb9 _ _ q0z, below_keep hb9 _ _ q1z, below_keep hb9 _ _ q2z, below_keep hb9 _ _ q3z, below_keep hb9 _ _ q4z, below_keep hb9 _ _ q5z, below_keep hb9 _ _ p0z, below_keep hb9 _ _ d0, below_keep hb9 _ _ d1⟩)
         (first | (go_at_call 64; refine HC.out.mono ?_; rintro e w9 ⟨rfl, hb9⟩; rw [HV3.out]))
        have hl3_24_f := hld3_24_f.trans (hb9.mono hld3_24_f.size)
        have hb3_24_f := hb2_16_t.trans (hl3_24_f.mono hb2_16_t.size)
        have own3_24_f := Lib.hid (OwnG.below own2_16_t.out hl3_24_f)
        have RX := Lib.hid (RX.out.below hl3_24_f)
        clear HC d0 d1 p0z q0z q1z q2z q3z q4z q5z
        obtain ⟨⟨d0, d1⟩, -⟩ := RX.out.all2
        have hne := Lib.hid (own_ne_row own3_24_f.out RX.out (by decide))
        go_wp2_with (at_builtin; refine wpList_append_own _ rfl _ _ 28 rfl w.heap.size 48 i0 (.agg #[.int .i64 0, .int .i64 0, .int .i64 0]) 3 24 Tryz.underlying28 H1.out H2.out H3.out H4.out rfl (by decide) _ _ _ rfl (World.ownsRow.alloc own3_24_f.out _) ⟨_, 0, none⟩ 1 1 (Fw.cells ⟨3, i, db[i].rows[k].id⟩) rfl rfl ?c13_24_f ?c23_24_f ?c33_24_f ?c43_24_f ?c53_24_f ?_)
        case c13_24_f => exact cells_newAt _ (Fw.cells ⟨3, i, db[i].rows[k].id⟩) _ (by simp)
        case c23_24_f => intro u hu; simp [Fw.cells] at hu; rcases hu with rfl | rfl | rfl <;> rfl
        case c33_24_f => have := HLE.out; (try simp only [List.length_append, List.length_cons, List.length_nil]); unfold maxLen; omega
        case c43_24_f => have := HLE.out; (try simp only [List.length_append, List.length_cons, List.length_nil]); omega
        case c53_24_f => have := hb3_24_f.size; simp; omega
        intro v3_24_f w9 hown3 hgrow _
        have R := Lib.hid (OwnG.app own3_24_f.out hb3_24_f.size hown3 hgrow)
        have RX := Lib.hid (grown_rowK hgrow (RX.out.alloc _) hne.out)
        have hb3_24_f := hb3_24_f.trans R.out.2
        have own3_24_f := Lib.hid R.out.1
        clear hown3 hgrow hne R d0 d1
        generalize hyz : ys ++ [⟨3, i, db[i].rows[k].id⟩] = y3_24_f at *
        have HY3_24_f := Lib.hid hyz
        clear hyz
        have HLE := Lib.hid (show y3_24_f.length ≤ 4398046511107 by have h1 := HLE.out; rw [← HY3_24_f.out, List.length_append, List.length_cons, List.length_nil]; omega)
        obtain ⟨⟨d0, d1⟩, -⟩ := RX.out.all2
        have q0z := below_keep hb3_24_f _ _ q0
        have q1z := below_keep hb3_24_f _ _ q1
        have q2z := below_keep hb3_24_f _ _ q2
        have q3z := below_keep hb3_24_f _ _ q3
        have q4z := below_keep hb3_24_f _ _ q4
        have q5z := below_keep hb3_24_f _ _ q5
        have p0z := below_keep hb3_24_f _ _ p0
        have HC := Lib.hid (specL5Refers (some ⟨b, off, none⟩) (some ⟨bd, od, none⟩) B1 s.length cS db.length cD db[i].rows[k].vals.length e1 s db i db[i].rows[k].vals wait _ _ _ w9 (hs.below TbR.stays hb3_24_f) (hd.below DtR.stays hb3_24_f) (hv.below VlR.stays hb3_24_f) hsn (by have := HLN.out; omega) hvn hlt (by have := HTS.out; unfold Tb.sz szL at this; omega) HX.out.2.2.2.2.2.1)
        cases he : refersB s db s[i] db[i].rows[k].vals wait
        ·have HV4 := Lib.hid he
         clear he
         go_wp2_with fail
         refine HC.out.mono ?_
         rintro e w9 ⟨rfl, hb9⟩
         rw [HV4.out]
         have hl4_25_f := hb9
         have hb4_25_f := hb3_24_f.trans (hl4_25_f.mono hb3_24_f.size)
         have own4_25_f := Lib.hid (OwnG.below own3_24_f.out hl4_25_f)
         have RX := Lib.hid (RX.out.below hl4_25_f)
         clear HC d0 d1 p0z q0z q1z q2z q3z q4z q5z
         obtain ⟨⟨d0, d1⟩, -⟩ := RX.out.all2
         have hne := Lib.hid (own_ne_row own4_25_f.out RX.out (by decide))
         go_wp2_with (at_builtin; refine wpList_append_own _ rfl _ _ 28 rfl w.heap.size 48 i0 (.agg #[.int .i64 0, .int .i64 0, .int .i64 0]) 3 24 Tryz.underlying28 H1.out H2.out H3.out H4.out rfl (by decide) _ _ _ rfl (World.ownsRow.alloc own4_25_f.out _) ⟨_, 0, none⟩ 1 1 (Fw.cells ⟨4, i, db[i].rows[k].id⟩) rfl rfl ?c14_25_f ?c24_25_f ?c34_25_f ?c44_25_f ?c54_25_f ?_)
         case c14_25_f => exact cells_newAt _ (Fw.cells ⟨4, i, db[i].rows[k].id⟩) _ (by simp)
         case c24_25_f => intro u hu; simp [Fw.cells] at hu; rcases hu with rfl | rfl | rfl <;> rfl
         case c34_25_f => have := HLE.out; (try simp only [List.length_append, List.length_cons, List.length_nil]); unfold maxLen; omega
         case c44_25_f => have := HLE.out; (try simp only [List.length_append, List.length_cons, List.length_nil]); omega
         case c54_25_f => have := hb4_25_f.size; simp; omega
         intro v4_25_f w9 hown3 hgrow _
         have R := Lib.hid (OwnG.app own4_25_f.out hb4_25_f.size hown3 hgrow)
         have RX := Lib.hid (grown_rowK hgrow (RX.out.alloc _) hne.out)
         have hb4_25_f := hb4_25_f.trans R.out.2
         have own4_25_f := Lib.hid R.out.1
         clear hown3 hgrow hne R d0 d1
         generalize hyz : y3_24_f ++ [⟨4, i, db[i].rows[k].id⟩] = y4_25_f at *
         have HY4_25_f := Lib.hid hyz
         clear hyz
         have HLE := Lib.hid (show y4_25_f.length ≤ 4398046511108 by have h1 := HLE.out; rw [← HY4_25_f.out, List.length_append, List.length_cons, List.length_nil]; omega)
         have HT := Lib.hid (show dbFw s db wait i ++ (db[i].rows.take (k + 1)).flatMap (rowFw s db s[i] db[i].rows wait i) = y4_25_f by
          rw [HFT.out, ← List.append_assoc, HYS.out]; unfold rowFw; rw [HV1.out, HV2.out, HV3.out, HV4.out, ← HY4_25_f.out, ← HY3_24_f.out]; simp [oneFw])
         go_wp2_with fail
         go_roundw
         case rel => exact ⟨k + 1, by omega, by go_num, Lib.hid (by rw [HT.out]; exact own4_25_f.out), hb4_25_f⟩
         case measure => simp [intOf]; omega
        ·have HV4 := Lib.hid he
         clear he
         go_wp2_with fail
         refine HC.out.mono ?_
         rintro e w9 ⟨rfl, hb9⟩
         rw [HV4.out]
         have hl4_25_t := hb9
         have hb4_25_t := hb3_24_f.trans (hl4_25_t.mono hb3_24_f.size)
         have own4_25_t := Lib.hid (OwnG.below own3_24_f.out hl4_25_t)
         have RX := Lib.hid (RX.out.below hl4_25_t)
         clear HC d0 d1 p0z q0z q1z q2z q3z q4z q5z
         have HT := Lib.hid (show dbFw s db wait i ++ (db[i].rows.take (k + 1)).flatMap (rowFw s db s[i] db[i].rows wait i) = y3_24_f by
          rw [HFT.out, ← List.append_assoc, HYS.out]; unfold rowFw; rw [HV1.out, HV2.out, HV3.out, HV4.out, ← HY3_24_f.out]; simp [oneFw])
         go_wp2_with fail
         go_roundw
         case rel => exact ⟨k + 1, by omega, by go_num, Lib.hid (by rw [HT.out]; exact own4_25_t.out), hb4_25_t⟩
         case measure => simp [intOf]; omega
       ·have HV3 := Lib.hid he
        clear he
        have hbd3_24_t := hb2_16_t.drew
        have hld3_24_t := (Below.refl w9.heap.size w9).drew
        go_region_held3 (fun w' => w'.cell? ⟨b, off + i * 6, none⟩ = some (.string s[i].name) ∧ w'.cell? ⟨b, off + i * 6 + 1, none⟩ = some (.slice A1 s[i].cols.length c1) ∧ w'.cell? ⟨b, off + i * 6 + 2, none⟩ = some (.slice A2 s[i].key.length c2) ∧ w'.cell? ⟨b, off + i * 6 + 3, none⟩ = some (.slice A3 s[i].uniqs.length c3) ∧ w'.cell? ⟨b, off + i * 6 + 4, none⟩ = some (.slice A4 s[i].checks.length c4) ∧ w'.cell? ⟨b, off + i * 6 + 5, none⟩ = some (.slice A5 s[i].fks.length c5) ∧ w'.cell? ⟨bd, od + i, none⟩ = some (.slice (some ⟨bl, ol, none⟩) db[i].rows.length cL) ∧ w'.cell? ⟨g, 0, none⟩ = some (.int .i64 db[i].rows[k].id) ∧ w'.cell? ⟨g, 1, none⟩ = some (.slice B1 db[i].rows[k].vals.length e1))
         (first | go_keep | exact ⟨below_keep hb9 _ _ q0z, below_keep hb9 _ _ q1z, below_keep hb9 _ _ q2z, below_keep hb9 _ _ q3z, below_keep hb9 _ _ q4z, below_keep hb9 _ _ q5z, below_keep hb9 _ _ p0z, below_keep hb9 _ _ d0, below_keep hb9 _ _ d1⟩)
         (first | (go_at_call 64; refine HC.out.mono ?_; rintro e w9 ⟨rfl, hb9⟩; rw [HV3.out]))
        have hl3_24_t := hld3_24_t.trans (hb9.mono hld3_24_t.size)
        have hb3_24_t := hb2_16_t.trans (hl3_24_t.mono hb2_16_t.size)
        have own3_24_t := Lib.hid (OwnG.below own2_16_t.out hl3_24_t)
        have RX := Lib.hid (RX.out.below hl3_24_t)
        clear HC d0 d1 p0z q0z q1z q2z q3z q4z q5z
        obtain ⟨⟨d0, d1⟩, -⟩ := RX.out.all2
        have q0z := below_keep hb3_24_t _ _ q0
        have q1z := below_keep hb3_24_t _ _ q1
        have q2z := below_keep hb3_24_t _ _ q2
        have q3z := below_keep hb3_24_t _ _ q3
        have q4z := below_keep hb3_24_t _ _ q4
        have q5z := below_keep hb3_24_t _ _ q5
        have p0z := below_keep hb3_24_t _ _ p0
        have HC := Lib.hid (specL5Refers (some ⟨b, off, none⟩) (some ⟨bd, od, none⟩) B1 s.length cS db.length cD db[i].rows[k].vals.length e1 s db i db[i].rows[k].vals wait _ _ _ w9 (hs.below TbR.stays hb3_24_t) (hd.below DtR.stays hb3_24_t) (hv.below VlR.stays hb3_24_t) hsn (by have := HLN.out; omega) hvn hlt (by have := HTS.out; unfold Tb.sz szL at this; omega) HX.out.2.2.2.2.2.1)
        cases he : refersB s db s[i] db[i].rows[k].vals wait
        ·have HV4 := Lib.hid he
         clear he
         go_wp2_with fail
         refine HC.out.mono ?_
         rintro e w9 ⟨rfl, hb9⟩
         rw [HV4.out]
         have hl4_28_f := hb9
         have hb4_28_f := hb3_24_t.trans (hl4_28_f.mono hb3_24_t.size)
         have own4_28_f := Lib.hid (OwnG.below own3_24_t.out hl4_28_f)
         have RX := Lib.hid (RX.out.below hl4_28_f)
         clear HC d0 d1 p0z q0z q1z q2z q3z q4z q5z
         obtain ⟨⟨d0, d1⟩, -⟩ := RX.out.all2
         have hne := Lib.hid (own_ne_row own4_28_f.out RX.out (by decide))
         go_wp2_with (at_builtin; refine wpList_append_own _ rfl _ _ 28 rfl w.heap.size 48 i0 (.agg #[.int .i64 0, .int .i64 0, .int .i64 0]) 3 24 Tryz.underlying28 H1.out H2.out H3.out H4.out rfl (by decide) _ _ _ rfl (World.ownsRow.alloc own4_28_f.out _) ⟨_, 0, none⟩ 1 1 (Fw.cells ⟨4, i, db[i].rows[k].id⟩) rfl rfl ?c14_28_f ?c24_28_f ?c34_28_f ?c44_28_f ?c54_28_f ?_)
         case c14_28_f => exact cells_newAt _ (Fw.cells ⟨4, i, db[i].rows[k].id⟩) _ (by simp)
         case c24_28_f => intro u hu; simp [Fw.cells] at hu; rcases hu with rfl | rfl | rfl <;> rfl
         case c34_28_f => have := HLE.out; (try simp only [List.length_append, List.length_cons, List.length_nil]); unfold maxLen; omega
         case c44_28_f => have := HLE.out; (try simp only [List.length_append, List.length_cons, List.length_nil]); omega
         case c54_28_f => have := hb4_28_f.size; simp; omega
         intro v4_28_f w9 hown3 hgrow _
         have R := Lib.hid (OwnG.app own4_28_f.out hb4_28_f.size hown3 hgrow)
         have RX := Lib.hid (grown_rowK hgrow (RX.out.alloc _) hne.out)
         have hb4_28_f := hb4_28_f.trans R.out.2
         have own4_28_f := Lib.hid R.out.1
         clear hown3 hgrow hne R d0 d1
         generalize hyz : ys ++ [⟨4, i, db[i].rows[k].id⟩] = y4_28_f at *
         have HY4_28_f := Lib.hid hyz
         clear hyz
         have HLE := Lib.hid (show y4_28_f.length ≤ 4398046511108 by have h1 := HLE.out; rw [← HY4_28_f.out, List.length_append, List.length_cons, List.length_nil]; omega)
         have HT := Lib.hid (show dbFw s db wait i ++ (db[i].rows.take (k + 1)).flatMap (rowFw s db s[i] db[i].rows wait i) = y4_28_f by
          rw [HFT.out, ← List.append_assoc, HYS.out]; unfold rowFw; rw [HV1.out, HV2.out, HV3.out, HV4.out, ← HY4_28_f.out]; simp [oneFw])
         go_wp2_with fail
         go_roundw
         case rel => exact ⟨k + 1, by omega, by go_num, Lib.hid (by rw [HT.out]; exact own4_28_f.out), hb4_28_f⟩
         case measure => simp [intOf]; omega
        ·have HV4 := Lib.hid he
         clear he
         go_wp2_with fail
         refine HC.out.mono ?_
         rintro e w9 ⟨rfl, hb9⟩
         rw [HV4.out]
         have hl4_28_t := hb9
         have hb4_28_t := hb3_24_t.trans (hl4_28_t.mono hb3_24_t.size)
         have own4_28_t := Lib.hid (OwnG.below own3_24_t.out hl4_28_t)
         have RX := Lib.hid (RX.out.below hl4_28_t)
         clear HC d0 d1 p0z q0z q1z q2z q3z q4z q5z
         have HT := Lib.hid (show dbFw s db wait i ++ (db[i].rows.take (k + 1)).flatMap (rowFw s db s[i] db[i].rows wait i) = ys by
          rw [HFT.out, ← List.append_assoc, HYS.out]; unfold rowFw; rw [HV1.out, HV2.out, HV3.out, HV4.out]; simp [oneFw])
         go_wp2_with fail
         go_roundw
         case rel => exact ⟨k + 1, by omega, by go_num, Lib.hid (by rw [HT.out]; exact own4_28_t.out), hb4_28_t⟩
         case measure => simp [intOf]; omega
    ·obtain rfl : k = db[i].rows.length := by omega
     have ho := hown.out
     rw [List.take_of_length_le (Nat.le_refl _)] at ho
     have HO := Lib.hid ho
     clear hown ho
     go_wp2_with fail
     go_roundw
     case rel => exact ⟨i + 1, by omega, by go_num, Lib.hid (by rw [HTA.out]; exact HO.out), hb⟩
     case measure => simp [intOf]; omega
  ·obtain rfl : i = s.length := by omega
   obtain ⟨AO, cO, rfl, hcO, hcm, hsl⟩ := OwnG.sl (f := Fw.cells) (sz := 3) (fun _ => rfl) hown.out
   have HSL := Lib.hid hsl
   clear hown hsl
   go_wp2_with fail
   go_ret
   exact ⟨AO, cO, rfl, hcO, HSL.out, hb⟩
end Go.Proofs.YtjhhamlnlalkoaaGreat
namespace Go.Proofs.YtjhhamlnlalkoaaGreat
open Go.RowKit
theorem rowIn_of {s : List Tb} {db : List Dt} (h : dbB s db = true) (i : Nat) (hi : i < s.length) (hid : i < db.length) : ∀ x ∈ db[i].rows, RowIn s db s[i] x := fun x hx => by
 have hT := (schemaB_at (dbB_schema h) hi).1
 have hK := dbB_kinds h hi hid x hx
 have hl := dbB_row h hi hid x hx
 have h8 := tableB_cols hT
 exact ⟨hl, rowB_of hT hK, exprs_of hT hl, all_inV (tableB_key hT) hl, fun u hu => all_inV (tableB_uniq hT u hu) hl, fkIn_of h hi hl, by omega⟩
theorem dbB_all {s : List Tb} {db : List Dt} (h : dbB s db = true) : ∀ d ∈ db, d.rows.length ≤ 1048576 := fun d hd => by
 obtain ⟨i, hi, rfl⟩ := List.mem_iff_getElem.1 hd
 have := dbB_len h
 have := dbB_rows h (m := i) (by omega) hi
 omega
def soundB (s : List Tb) (db : List Dt) (wait : Bool) : Bool := dbB s db && decide ((dbFw s db wait s.length).length = 0)
end Go.Proofs.YtjhhamlnlalkoaaGreat
namespace Go.Proofs.YtjhhamlnlalkoaaGreat
open Go.RowKit
theorem rowFw_nil {s : List Tb} {db : List Dt} {t : Tb} {rows : List Rw} {wait : Bool} {i : Int} {x : Rw} : rowFw s db t rows wait i x = [] ↔ (nullsB t.cols x.vals = true ∧ checksB t.checks x.vals = true ∧ uniqueB t rows x = true ∧ refersB s db t x.vals wait = true) := by
 unfold rowFw oneFw
 cases nullsB t.cols x.vals <;> cases checksB t.checks x.vals <;> cases uniqueB t rows x <;> cases refersB s db t x.vals wait <;> simp
theorem snd_iff {s : List Tb} {db : List Dt} {wait : Bool} (hB : dbB s db = true) : soundB s db wait = true ↔ ∀ i (h : i < s.length) (h' : i < db.length), ∀ x ∈ db[i].rows, nullsB s[i].cols x.vals = true ∧ checksB s[i].checks x.vals = true ∧ uniqueB s[i] db[i].rows x = true ∧ refersB s db s[i] x.vals wait = true := by
 have hl := dbB_len hB
 unfold soundB
 rw [hB, Bool.true_and, decide_eq_true_eq, List.length_eq_zero_iff]
 unfold dbFw
 rw [List.flatMap_eq_nil_iff]
 constructor
 ·intro h i hi hi' x hx
  have h1 := h i (List.mem_range.2 hi)
  rw [tabFw_at _ hi hi', List.flatMap_eq_nil_iff] at h1
  exact rowFw_nil.1 (h1 x hx)
 ·intro h i hi
  have hi1 := List.mem_range.1 hi
  have hi2 : i < db.length := by omega
  rw [tabFw_at _ hi1 hi2, List.flatMap_eq_nil_iff]
  exact fun x hx => rowFw_nil.2 (h i hi1 hi2 x hx)
theorem snd_ok {s : List Tb} {db : List Dt} {wait : Bool} (h : soundB s db wait = true) : dbB s db = true := by
 unfold soundB at h
 rw [Bool.and_eq_true] at h
 exact h.1
theorem snd_now {s : List Tb} {db : List Dt} (h : soundB s db false = true) : soundB s db true = true := by
 have hB := snd_ok h
 rw [snd_iff hB] at h ⊢
 intro i hi hi' x hx
 obtain ⟨h1, h2, h3, h4⟩ := h i hi hi' x hx
 refine ⟨h1, h2, h3, ?_⟩
 unfold refersB at h4 ⊢
 rw [List.all_eq_true] at h4 ⊢
 intro f hf
 have := h4 f hf
 unfold okFkB at this ⊢
 rw [Bool.false_and, Bool.false_or] at this
 rw [this, Bool.or_true]
theorem idx_mem {cols : List Int} {key : List Vl} {rows : List Rw} {x : Int} : ∀ k, k ≤ rows.length → (x ∈ idL rows (idxK cols key rows k) ↔ ∃ j, ∃ hj : j < rows.length, j < k ∧ hitB cols key rows[j].vals = true ∧ rows[j].id = x)
 | 0, _ => ⟨fun h => (by cases h), fun ⟨j, hj, h, _⟩ => (by omega)⟩
 | k + 1, hk => by
  have hk' : k < rows.length := by omega
  have IH := idx_mem (cols := cols) (key := key) (rows := rows) (x := x) k (by omega)
  cases hh : hitB cols key rows[k].vals
  ·rw [idxK_no hk' hh, IH]
   constructor
   ·rintro ⟨j, hj, h1, h2⟩
    exact ⟨j, hj, by omega, h2⟩
   ·rintro ⟨j, hj, h1, h2, h3⟩
    by_cases e : j = k
    ·subst e; rw [hh] at h2; cases h2
    ·exact ⟨j, hj, by omega, h2, h3⟩
  ·rw [idxK_yes hk' hh, idL_app _ _ _ hk', List.mem_append, IH, List.mem_singleton]
   constructor
   ·rintro (⟨j, hj, h1, h2⟩ | rfl)
    ·exact ⟨j, hj, by omega, h2⟩
    ·exact ⟨k, hk', by omega, hh, rfl⟩
   ·rintro ⟨j, hj, h1, h2, h3⟩
    by_cases e : j = k
    ·subst e; exact .inr h3.symm
    ·exact .inl ⟨j, hj, by omega, h2, h3⟩
theorem findL_mem {cols : List Int} {key : List Vl} {rows : List Rw} {x : Int} : x ∈ findL cols key rows ↔ ∃ r ∈ rows, hitB cols key r.vals = true ∧ r.id = x := by
 unfold findL
 rw [idx_mem _ (Nat.le_refl _)]
 constructor
 ·rintro ⟨j, hj, -, h2, h3⟩
  exact ⟨rows[j], List.getElem_mem hj, h2, h3⟩
 ·rintro ⟨r, hr, h2, h3⟩
  obtain ⟨j, hj, rfl⟩ := List.mem_iff_getElem.1 hr
  exact ⟨j, hj, hj, h2, h3⟩
theorem twice_sub {cols : List Int} {rows rows' : List Rw} {x : Rw} (hs : ∀ r ∈ rows', r ∈ rows) (h : twiceB cols rows x = false) : twiceB cols rows' x = false := by
 unfold twiceB at h ⊢
 cases hk : knownL (keyL cols x.vals)
 ·rfl
 ·rw [hk, Bool.true_and] at h
  rw [Bool.true_and]
  rw [List.any_eq_false] at h ⊢
  intro i hi
  obtain ⟨r, hr, h2, h3⟩ := findL_mem.1 hi
  exact h i (findL_mem.2 ⟨r, hs r hr, h2, h3⟩)
theorem unique_sub {t : Tb} {rows rows' : List Rw} {x : Rw} (hs : ∀ r ∈ rows', r ∈ rows) (h : uniqueB t rows x = true) : uniqueB t rows' x = true := by
 unfold uniqueB at h ⊢
 rw [Bool.and_eq_true, Bool.not_eq_true', List.all_eq_true] at h ⊢
 refine ⟨twice_sub hs h.1, fun u hu => ?_⟩
 have := h.2 u hu
 rw [Bool.not_eq_true'] at this ⊢
 exact twice_sub hs this
theorem idsGo_low {cols : List Cl} {a b : Int} {l : List Rw} (hab : a ≤ b) (h : idsGo cols b l = true) : idsGo cols a l = true := by
 cases l with
 | nil => rfl
 | cons r rs =>
  rw [idsGo] at h ⊢
  simp only [Bool.and_eq_true, decide_eq_true_eq] at h ⊢
  exact ⟨by omega, h.2⟩
theorem data_tail {cols : List Cl} {l : List Rw} (h : dataB cols l = true) : dataB cols (l.drop 1) = true := by
 unfold dataB at h ⊢
 rw [Bool.and_eq_true, decide_eq_true_eq] at h ⊢
 refine ⟨by rw [List.length_drop]; omega, ?_⟩
 cases l with
 | nil => rfl
 | cons r rs =>
  have h2 := h.2
  rw [idsGo] at h2
  simp only [Bool.and_eq_true, decide_eq_true_eq] at h2
  exact idsGo_low (by omega) h2.2.2.2
def lessD (db : List Dt) (n : Nat) : List Dt := db.set n ⟨((db[n]?.map Dt.rows).getD []).drop 1⟩
theorem lessD_at {db : List Dt} {n i : Nat} (hi : i < db.length) (hi' : i < (lessD db n).length) : (lessD db n)[i].rows = if n = i then db[i].rows.drop 1 else db[i].rows := by
 have h1 : (lessD db n)[i]? = some (if n = i then ⟨db[i].rows.drop 1⟩ else db[i]) := by
  unfold lessD
  rw [List.getElem?_set]
  by_cases e : n = i
  ·subst e
   rw [if_pos rfl, if_pos hi, if_pos rfl, List.getElem?_eq_getElem hi]; rfl
  ·rw [if_neg e, if_neg e, List.getElem?_eq_getElem hi]
 rw [List.getElem?_eq_getElem hi'] at h1
 rw [Option.some.inj h1]
 split <;> rfl
theorem lessD_len (db : List Dt) (n : Nat) : (lessD db n).length = db.length := by unfold lessD; rw [List.length_set]
theorem less_sub {db : List Dt} {n i : Nat} (hi : i < db.length) (hi' : i < (lessD db n).length) : ∀ r ∈ (lessD db n)[i].rows, r ∈ db[i].rows := fun r hr => by
 rw [lessD_at hi hi'] at hr
 split at hr
 ·exact List.mem_of_mem_drop hr
 ·exact hr
theorem less_db {s : List Tb} {db : List Dt} {n : Nat} (h : dbB s db = true) : dbB s (lessD db n) = true := by
 have hl := dbB_len h
 have hl2 := lessD_len db n
 have hsc := dbB_schema h
 unfold dbB
 rw [hsc, decide_eq_true (show (lessD db n).length = s.length by omega), Bool.true_and, Bool.true_and, List.all_eq_true]
 intro p hp
 obtain ⟨i, hi, rfl⟩ := List.mem_iff_getElem.1 hp
 rw [List.length_zip] at hi
 rw [List.getElem_zip]
 have hd := dbB_data h (m := i) (by omega) (by omega)
 unfold dbV
 show dataB s[i].cols (lessD db n)[i].rows = true
 rw [lessD_at (by omega) (by omega)]
 split
 ·exact data_tail hd
 ·exact hd
theorem snd_less {s : List Tb} {db : List Dt} {n : Nat} (h : soundB s db false = true) (hn : n < s.length) (hr : refsB s[n].name s = []) : soundB s (lessD db n) false = true := by
 have hB := snd_ok h
 have hl := dbB_len hB
 have hl2 := lessD_len db n
 rw [snd_iff hB] at h
 rw [snd_iff (less_db hB)]
 intro i hi hi' x hx
 have hid : i < db.length := by omega
 have hxm := less_sub hid hi' x hx
 obtain ⟨h1, h2, h3, h4⟩ := h i hi hid x hxm
 refine ⟨h1, h2, unique_sub (less_sub hid hi') h3, ?_⟩
 unfold refersB at h4 ⊢
 rw [List.all_eq_true] at h4 ⊢
 intro f hf
 have h5 := h4 f hf
 unfold okFkB at h5 ⊢
 rw [Bool.false_and, Bool.false_or] at h5 ⊢
 obtain ⟨-, -, -, -, -, r6, -⟩ := rowIn_of hB i hi hid x hxm
 obtain ⟨-, -, m, hm, hml, hmd, -⟩ := r6 f hf
 have hmn : n ≠ m := by
  rintro rfl
  obtain ⟨hk, e⟩ := atN_at hm
  rw [List.getElem_map] at e
  unfold refsB at hr
  rw [if_pos (dbB_schema hB)] at hr
  have hmem := (refsK_has s[n].name s s.length i hi (by omega) (Nat.le_refl _)).2 (by
   unfold refB
   rw [List.any_eq_true]
   exact ⟨f, hf, by rw [e]; simp⟩)
  rw [hr] at hmem
  cases hmem
 rw [parentB_at hm hml (by omega)] at h5 ⊢
 rw [lessD_at hmd (by omega), if_neg hmn]
 exact h5
theorem dtv_less {ok : Nat → Prop} {w : World} {vs : List Value} {ds : List Dt} {q : Nat} {v : Value} (h : ∀ i (hi : i < ds.length) (hi' : i < vs.length), DtV ok w vs[i] ds[i]) (hq : q < ds.length) (hl : vs.length = ds.length) (hv : DtV ok w v ⟨ds[q].rows.drop 1⟩) :
  (vs.set q v).length = (lessD ds q).length ∧ ∀ i (hi : i < (lessD ds q).length) (hi' : i < (vs.set q v).length), DtV ok w (vs.set q v)[i] (lessD ds q)[i] := by
 have hl2 := lessD_len ds q
 refine ⟨by rw [List.length_set]; omega, fun i hi hi' => ?_⟩
 have hid : i < ds.length := by omega
 have hr := lessD_at (n := q) hid hi
 rw [List.getElem_set]
 split
 ·next e =>
  subst e
  rw [if_pos rfl] at hr
  obtain ⟨A, n, c, h1, h2, h3⟩ := hv
  exact ⟨A, n, c, h1, h2, by rw [hr]; exact h3⟩
 ·next e =>
  rw [if_neg e] at hr
  obtain ⟨A, n, c, h1, h2, h3⟩ := h i hid (by omega)
  exact ⟨A, n, c, h1, h2, by rw [hr]; exact h3⟩
theorem tail_dtv {ok : Nat → Prop} {w : World} {b off n c : Nat} {l : List Rw} (h : Sl RwR 2 ok w (some ⟨b, off, none⟩) n l) (hc : n ≤ c) (A : Option Addr) (hA : c ≠ 1 → A = some ⟨b, off + 2, none⟩) : DtV ok w (.slice A (n - 1) (c - 1)) ⟨l.drop 1⟩ := by
 refine ⟨A, n - 1, c - 1, rfl, by omega, ?_⟩
 by_cases e : c = 1
 ·have := h.1
  exact ⟨by show (l.drop 1).length = n - 1; rw [List.length_drop]; omega, fun hn => by omega⟩
 ·rw [hA e]; exact row_tail h
theorem lessD_sz {ds : List Dt} {q : Nat} (hq : q < ds.length) (h : szL Dt.sz ds ≤ 1048576) : szL Dt.sz (lessD ds q) ≤ 1048576 := by
 have hs : ∀ (f : Rw → Nat) (l : List Rw), ((l.drop 1).map f).sum ≤ (l.map f).sum := fun f l => by
  cases l with
  | nil => simp
  | cons r l => simp
 have hm : ∀ (ds : List Dt) (q : Nat) (d : Dt), (∀ x, ds[q]? = some x → Dt.sz d ≤ Dt.sz x) → ((ds.set q d).map Dt.sz).sum ≤ (ds.map Dt.sz).sum := fun ds => by
  induction ds with
  | nil => intro q d _; simp
  | cons x ds ih =>
   intro q d hd
   cases q with
   | zero =>
    have := hd x rfl
    simp only [List.set_cons_zero, List.map_cons, List.sum_cons]; omega
   | succ q =>
    have := ih q d (fun y hy => hd y (by simpa using hy))
    simp only [List.set_cons_succ, List.map_cons, List.sum_cons]; omega
 have h1 := hm ds q ⟨((ds[q]?.map Dt.rows).getD []).drop 1⟩ (fun x hx => by
  rw [hx]
  have := hs Rw.sz x.rows
  have h3 : ∀ d : Dt, d.sz = szL Rw.sz d.rows := fun d => rfl
  rw [h3, h3]
  unfold szL
  show ((x.rows.drop 1)).length + _ ≤ _
  rw [List.length_drop]
  simp only [Option.map_some, Option.getD_some] at *
  omega)
 unfold szL at h ⊢
 rw [lessD_len]
 unfold lessD
 omega
theorem ownsLitD (w : World) {base : Nat} (hb : base ≤ w.heap.size) (T : TypeId) (sz : Nat) : (w.alloc (.cells #[] T)).ownsRow base T sz (.slice (some ⟨w.heap.size, 0, none⟩) 0 0) 0 [] :=
 ⟨by simp, .inr ⟨w.heap.size, 0, #[], rfl, hb, Go.heap_alloc_last w _, Nat.le_refl _, by simp [maxLen], by simp, by simp⟩⟩
theorem own_at {w : World} {base : Nat} {T : TypeId} {sz n : Nat} {v : Value} {xs : List Value} (h : w.ownsRow base T sz v n xs) (hn : 0 < n) : ∃ g c, v = .slice (some ⟨g, 0, none⟩) n c ∧ base ≤ g := by
 rcases h.2 with ⟨-, e⟩ | ⟨g, c, cur, e, h1, -⟩
 ·omega
 ·exact ⟨g, c, e, h1⟩
theorem own_cellsD {w : World} {base : Nat} {T : TypeId} {sz n c g : Nat} {xs : List Value} (h : w.ownsRow base T sz (.slice (some ⟨g, 0, none⟩) n c) n xs) : (∀ j y, xs[j]? = some y → w.cell? ⟨g, j, none⟩ = some y) ∧ ∀ j, w.frozen? ⟨g, j, none⟩ = false := by
 rcases h.2 with ⟨e, -⟩ | ⟨g', cap, cur, e, h1, h2, h3, h4, h5, h6⟩
 ·cases e
 ·cases e
  refine ⟨fun j y hj => ?_, fun j => by simp [World.frozen?, h2]⟩
  rw [cell_of_row _ _ _ _ _ _ h2, ← Array.getElem?_toList]
  rw [← h6, List.getElem?_take] at hj
  split at hj
  ·exact hj
  ·cases hj
theorem dtv_one {ok : Nat → Prop} {w : World} {vs : List Value} {ds : List Dt} (hl : vs.length = ds.length) (h : ∀ i (hi : i < ds.length) (hi' : i < vs.length), DtV ok w vs[i] ds[i]) : ∀ u ∈ vs, u.oneCell' = true := fun u hu => by
 obtain ⟨i, hi, rfl⟩ := List.mem_iff_getElem.1 hu
 obtain ⟨A, n, c, e, -⟩ := h i (by omega) hi
 rw [e]; rfl
end Go.Proofs.YtjhhamlnlalkoaaGreat
namespace Go.Proofs.YtjhhamlnlalkoaaGreat
open Go.RowKit Go.Maps
section
variable (AS AD : Option Addr) (nS cS nD cD : Nat) (s : List Tb) (db : List Dt) (ok okd : Nat → Prop) (w : World)
set_option maxRecDepth 100000 in
set_option maxHeartbeats 1000000 in
theorem specSound (hs : Sl TbR 6 ok w AS nS s) (hd : Sl DtR 1 okd w AD nD db) (hcp : nS ≤ cS) (hss : szL Tb.sz s ≤ 1048576) (hds : szL Dt.sz db ≤ 1048576) :
  Calls Tryz.prog 17 #[.slice AS nS cS, .slice AD nD cD] w fun e w' => e = .returned (.bool (soundB s db false)) ∧ Below w.heap.size w w' := by
 have HC := Lib.hid (specDbOk AS AD nS cS nD cD s db ok okd w hs hd hcp hss hds)
 cases hB : dbB s db
 ·have HB := Lib.hid hB
  have HF := Lib.hid (show soundB s db false = false by unfold soundB; rw [hB]; rfl)
  clear hB
  go_enter Tryz.func17, Tryz.ntmps17
  go_wp2_with fail
  refine HC.out.mono ?_
  rintro e w1 ⟨rfl, hb1⟩
  rw [HB.out]
  clear HC
  go_wp2_with fail
  go_ret
  exact ⟨retB HF.out.symm, hb1⟩
 ·have HB := Lib.hid hB
  have HF := Lib.hid (show soundB s db false = decide ((dbFw s db false s.length).length = 0) by unfold soundB; rw [hB]; rfl)
  have HR := Lib.hid (rowIn_of hB)
  have HL := Lib.hid (dbB_len hB)
  have HA := Lib.hid (dbB_all hB)
  clear hB
  go_enter Tryz.func17, Tryz.ntmps17
  go_wp2_with fail
  refine HC.out.mono ?_
  rintro e w1 ⟨rfl, hb1⟩
  rw [HB.out]
  clear HC
  go_wp2_with fail
  refine (specL5Flaws AS AD nS cS nD cD s db false _ _ w1 (hs.below TbR.stays hb1) (hd.below DtR.stays hb1) HL.out hss HA.out HR.out).mono ?_
  rintro e w2 ⟨AO, cO, rfl, hcO, hsl, hb2⟩
  clear hsl
  have HQ := Lib.hid (show (((dbFw s db false s.length).length : Int) == 0) = soundB s db false by
   rw [HF.out]
   generalize (dbFw s db false s.length).length = q
   by_cases h : q = 0
   ·subst h; rfl
   ·rw [beq_eq_false_iff_ne.2 (show (q : Int) ≠ 0 by omega), decide_eq_false h])
  go_wp2_with fail
  go_ret
  exact ⟨retB HQ.out, hb1.trans (hb2.mono hb1.size)⟩
set_option maxRecDepth 100000 in
set_option maxHeartbeats 1000000 in
theorem specSoundNow (hs : Sl TbR 6 ok w AS nS s) (hd : Sl DtR 1 okd w AD nD db) (hcp : nS ≤ cS) (hss : szL Tb.sz s ≤ 1048576) (hds : szL Dt.sz db ≤ 1048576) :
  Calls Tryz.prog 18 #[.slice AS nS cS, .slice AD nD cD] w fun e w' => e = .returned (.bool (soundB s db true)) ∧ Below w.heap.size w w' := by
 have HC := Lib.hid (specDbOk AS AD nS cS nD cD s db ok okd w hs hd hcp hss hds)
 cases hB : dbB s db
 ·have HB := Lib.hid hB
  have HF := Lib.hid (show soundB s db true = false by unfold soundB; rw [hB]; rfl)
  clear hB
  go_enter Tryz.func18, Tryz.ntmps18
  go_wp2_with fail
  refine HC.out.mono ?_
  rintro e w1 ⟨rfl, hb1⟩
  rw [HB.out]
  clear HC
  go_wp2_with fail
  go_ret
  exact ⟨retB HF.out.symm, hb1⟩
 ·have HB := Lib.hid hB
  have HF := Lib.hid (show soundB s db true = decide ((dbFw s db true s.length).length = 0) by unfold soundB; rw [hB]; rfl)
  have HR := Lib.hid (rowIn_of hB)
  have HL := Lib.hid (dbB_len hB)
  have HA := Lib.hid (dbB_all hB)
  clear hB
  go_enter Tryz.func18, Tryz.ntmps18
  go_wp2_with fail
  refine HC.out.mono ?_
  rintro e w1 ⟨rfl, hb1⟩
  rw [HB.out]
  clear HC
  go_wp2_with fail
  refine (specL5Flaws AS AD nS cS nD cD s db true _ _ w1 (hs.below TbR.stays hb1) (hd.below DtR.stays hb1) HL.out hss HA.out HR.out).mono ?_
  rintro e w2 ⟨AO, cO, rfl, hcO, hsl, hb2⟩
  clear hsl
  have HQ := Lib.hid (show (((dbFw s db true s.length).length : Int) == 0) = soundB s db true by
   rw [HF.out]
   generalize (dbFw s db true s.length).length = q
   by_cases h : q = 0
   ·subst h; rfl
   ·rw [beq_eq_false_iff_ne.2 (show (q : Int) ≠ 0 by omega), decide_eq_false h])
  go_wp2_with fail
  go_ret
  exact ⟨retB HQ.out, hb1.trans (hb2.mono hb1.size)⟩
end
end Go.Proofs.YtjhhamlnlalkoaaGreat
namespace Go.Proofs.YtjhhamlnlalkoaaGreat
open Go.RowKit Go.Maps Go.Sort
def rivL (t : Tb) (rows : List Rw) (x : Rw) : List Int := othL t.key rows x ++ t.uniqs.flatMap fun u => othL u.cols rows x
def sortL (l : List Int) : List Int := l.mergeSort fun x y => decide (x ≤ y)
def rivB (t : Tb) (rows : List Rw) (x : Rw) : List Int := Lib.compact (sortL (rivL t rows x))
theorem sortL_len (l : List Int) : (sortL l).length = l.length := List.length_mergeSort l
theorem sortL_nil : sortL [] = [] := by simp [sortL]
theorem compact_nil : Lib.compact ([] : List Int) = [] := rfl
theorem compact_len (l : List Int) : (Lib.compact l).length ≤ l.length := by
 unfold Lib.compact Lib.compactUpTo
 rw [List.length_map]
 exact Nat.le_trans (List.length_filter_le _ _) (by simp)
theorem compact_pos {l : List Int} (h : 0 < l.length) : 0 < (Lib.compact l).length := by
 unfold Lib.compact Lib.compactUpTo
 rw [List.length_map]
 exact List.length_pos_of_mem (a := 0) (List.mem_filter.2 ⟨List.mem_range.2 h, Lib.keeps_lt_one _ 0 (by omega)⟩)
theorem rivB_pos (t : Tb) (rows : List Rw) (x : Rw) : decide (0 < (rivB t rows x).length) = decide (0 < (rivL t rows x).length) := by
 unfold rivB
 by_cases h : 0 < (rivL t rows x).length
 ·rw [decide_eq_true h, decide_eq_true (compact_pos (by rw [sortL_len]; exact h))]
 ·rw [decide_eq_false h, decide_eq_false]
  have h1 := compact_len (sortL (rivL t rows x))
  rw [sortL_len] at h1
  omega
theorem rivL_len (t : Tb) (rows : List Rw) (x : Rw) : (rivL t rows x).length ≤ (1 + t.uniqs.length) * rows.length := by
 unfold rivL
 rw [List.length_append]
 have h1 := othL_len t.key rows x
 have h2 : (t.uniqs.flatMap fun u => othL u.cols rows x).length ≤ t.uniqs.length * rows.length := by
  induction t.uniqs with
  | nil => simp
  | cons u l ih =>
   rw [List.flatMap_cons, List.length_append, List.length_cons, Nat.add_mul, Nat.one_mul]
   have := othL_len u.cols rows x
   omega
 rw [Nat.add_mul, Nat.one_mul]
 omega
theorem uniqueB_riv (t : Tb) (rows : List Rw) (x : Rw) : uniqueB t rows x = !(decide (0 < (rivB t rows x).length)) := by
 rw [rivB_pos]
 have hz : ∀ l : List Uq, (l.any fun u => twiceB u.cols rows x) = decide (0 < (l.flatMap fun u => othL u.cols rows x).length) := fun l => by
  induction l with
  | nil => rfl
  | cons u l ih =>
   rw [List.any_cons, ih, twiceB_oth, List.flatMap_cons, List.length_append]
   by_cases h : 0 < (othL u.cols rows x).length
   ·rw [decide_eq_true h, decide_eq_true (show 0 < (othL u.cols rows x).length + (l.flatMap fun u => othL u.cols rows x).length by omega)]; rfl
   ·rw [decide_eq_false h, Bool.false_or]
    congr 1
    rw [show (othL u.cols rows x).length = 0 by omega, Nat.zero_add]
 have h2 : uniqueB t rows x = !(twiceB t.key rows x || t.uniqs.any fun u => twiceB u.cols rows x) := by
  unfold uniqueB
  rw [Bool.not_or]
  congr 1
  induction t.uniqs with
  | nil => rfl
  | cons u l ih => rw [List.all_cons, List.any_cons, Bool.not_or, ih]
 rw [h2, hz, twiceB_oth]
 congr 1
 unfold rivL
 rw [List.length_append]
 by_cases h : 0 < (othL t.key rows x).length
 ·rw [decide_eq_true h, decide_eq_true (show 0 < (othL t.key rows x).length + (t.uniqs.flatMap fun u => othL u.cols rows x).length by omega)]; rfl
 ·rw [decide_eq_false h, Bool.false_or]
  congr 1
  rw [show (othL t.key rows x).length = 0 by omega, Nat.zero_add]
theorem OwnI.prefix {w : World} {base g m cap : Nat} {xs ys : List Int} (h : OwnI w base (.slice (some ⟨g, 0, none⟩) m cap) xs) (hp : ys <+: xs) : OwnI w base (.slice (some ⟨g, 0, none⟩) ys.length cap) ys := by
 refine ⟨by simp, .inr ?_⟩
 rcases h.2 with ⟨h1, -⟩ | ⟨g', cap', cur, hv, h1, h2, h3, h4, h5, h6⟩
 ·cases h1
 ·injection hv with e1 e2 e3
  injection e1 with e1
  injection e1 with e1
  subst e1 e3
  obtain ⟨zs, rfl⟩ := hp
  refine ⟨g, cap, cur, rfl, h1, h2, by simp at h3; omega, h4, h5, ?_⟩
  rw [Nat.mul_one] at h6 ⊢
  have h7 := congrArg (List.take ys.length) h6
  rw [List.take_take, List.map_append, List.take_append_of_le_length (by simp)] at h7
  rw [show min ys.length (ys ++ zs).length = ys.length by simp] at h7
  rw [h7, ← List.map_take, List.take_length]
theorem OwnI.cells {w : World} {base g m cap : Nat} {xs : List Int} (h : OwnI w base (.slice (some ⟨g, 0, none⟩) m cap) xs) : ∀ j u, (xs.map (Value.int .i64))[j]? = some u → w.cell? ((⟨g, 0, none⟩ : Addr).add j) = some u := fun j u hj => by
 rcases h.2 with ⟨h1, -⟩ | ⟨g', cap', cur, hv, h1, h2, h3, h4, h5, h6⟩
 ·cases h1
 ·injection hv with e1 e2 e3
  injection e1 with e1
  injection e1 with e1
  subst e1
  have hl : j < xs.length := by have := (List.getElem?_eq_some_iff.1 hj).1; simpa using this
  rw [addr_add, Nat.zero_add, cell_of_row _ _ _ _ _ _ h2, ← Array.getElem?_toList]
  rw [← h6, List.getElem?_take, if_pos (by omega)] at hj
  exact hj
theorem OwnI.len {w : World} {base m cap : Nat} {A : Option Addr} {xs : List Int} (h : OwnI w base (.slice A m cap) xs) : xs.length = m := by
 rcases h.2 with ⟨h1, h2⟩ | ⟨g', cap', cur, hv, -⟩
 ·injection h1 with e1 e2 e3; omega
 ·injection hv with e1 e2 e3; exact e2.symm
theorem OwnI.apps {w w' : World} {base : Nat} {v v' : Value} {xs ys : List Int} (h : OwnI w base v xs) (hb : base ≤ w.heap.size)
  (h' : w'.ownsRow base 2 1 v' (xs.length + ys.length) (xs.map (Value.int .i64) ++ ys.map (Value.int .i64))) (hg : w.grownBy w' v.ownBlock) : OwnI w' base v' (xs ++ ys) ∧ Below base w w' :=
 ⟨by unfold OwnI; rw [List.length_append, List.map_append]; exact h', (Below.refl base w).grown hg hb fun k hk => (h.block_lt k hk).1⟩
theorem libSort {w : World} {base : Nat} {A : Option Addr} {n cap : Nat} {xs : List Int} (h : OwnI w base (.slice A n cap) xs) (hn : xs.length ≤ 1099513724928) :
  Calls Tryz.prog 128 #[.slice A n cap] w fun e w' => e = .returned (.tuple #[]) ∧ OwnI w' base (.slice A n cap) (sortL xs) ∧ Below base w w' := by
 have hl := h.len
 rcases h.2 with ⟨h1, h2⟩ | ⟨g, cap', cur, hv, h1, h2, h3, h4, h5, h6⟩
 ·injection h1 with e1 e2 e3
  subst e1 e2 e3
  obtain rfl : xs = [] := List.eq_nil_of_length_eq_zero h2
  have hc := AnyM.slices_Sort_int_none Tryz.sortI none 0 w
  change Calls Tryz.prog 128 _ _ _ at hc
  refine hc.mono ?_
  rintro e w' ⟨rfl, rfl⟩
  exact ⟨rfl, by rw [sortL_nil]; exact h, Below.refl _ _⟩
 ·injection hv with e1 e2 e3
  subst e1 e2 e3
  have hH : Holds (Value.int .i64) w g 0 xs.toArray := holds_of_blockI h2 (by simpa using h6)
  have hgl : g < w.heap.size := lt_of_block h2
  have hc := AnyM.slices_Sort_int Tryz.sortI g 0 cap xs w hH hgl (by omega)
  change Calls Tryz.prog 128 _ _ _ at hc
  refine hc.mono ?_
  rintro e w' ⟨rfl, nn, os, rfl⟩
  refine ⟨rfl, ?_, (Below.refl base w).grown (grownBy_sortedI _) (by omega) (fun k hk => by cases hk; exact h1)⟩
  have hr := ownsRow_sortedI (n := nn) (os := os) (ts := sortL xs) (sortL_len xs) h1 h2 h3 h4 h5
  unfold OwnI
  rw [sortL_len]
  exact hr
theorem libCompact {w : World} {base : Nat} {A : Option Addr} {n cap : Nat} {xs : List Int} (h : OwnI w base (.slice A n cap) xs) (hn : xs.length ≤ 1099513724928) :
  Calls Tryz.prog 129 #[.slice A n cap] w fun e w' => ∃ v, e = .returned v ∧ OwnI w' base v (Lib.compact xs) ∧ Below base w w' := by
 have hl := h.len
 rcases h.2 with ⟨h1, h2⟩ | ⟨g, cap', cur, hv, h1, h2, h3, h4, h5, h6⟩
 ·injection h1 with e1 e2 e3
  subst e1 e2 e3
  obtain rfl : xs = [] := List.eq_nil_of_length_eq_zero h2
  have hc := AnyG.slices_Compact_int_empty Tryz.compI none 0 w
  change Calls Tryz.prog 129 _ _ _ at hc
  refine hc.mono ?_
  rintro e w' ⟨rfl, rfl⟩
  exact ⟨_, rfl, by rw [compact_nil]; exact h, Below.refl _ _⟩
 ·injection hv with e1 e2 e3
  subst e1 e2 e3
  have hH : Holds (Value.int .i64) w g 0 xs.toArray := holds_of_blockI h2 (by simpa using h6)
  have hgl : g < w.heap.size := lt_of_block h2
  have hc := AnyG.slices_Compact_int Tryz.compI g 0 cap xs w hH (by omega) h3
  change Calls Tryz.prog 129 _ _ _ at hc
  refine hc.mono ?_
  rintro e w' ⟨rfl, q, rfl⟩
  have hcl := compact_len xs
  have hlen : (Lib.compact xs ++ List.replicate (xs.length - (Lib.compact xs).length) (0 : Int)).length = xs.length := by simp; omega
  have hg := grownBy_sortedI (w := w) (g := g) (n := q) (os := #[]) (Lib.compact xs ++ List.replicate (xs.length - (Lib.compact xs).length) (0 : Int)).toArray
  have hr := ownsRow_sortedI (n := q) (os := #[]) (ts := Lib.compact xs ++ List.replicate (xs.length - (Lib.compact xs).length) (0 : Int)) hlen h1 h2 h3 h4 h5
  rw [grow_empty] at hg hr
  refine ⟨_, rfl, ?_, (Below.refl base w).grown hg (by omega) (fun k hk => by cases hk; exact h1)⟩
  refine OwnI.prefix (m := xs.length) (xs := Lib.compact xs ++ List.replicate (xs.length - (Lib.compact xs).length) (0 : Int)) ?_ (List.prefix_append _ _)
  unfold OwnI
  rw [hlen]
  exact hr
set_option maxRecDepth 100000 in
set_option maxHeartbeats 4000000 in
theorem implRivalsOf (bt ot bd od br orr : Nat) (AL A2 A3 AX : Option Addr) (nL cL n2 c2 n3 c3 nX cX : Nat) (rows : List Rw) (t : Tb) (x : Rw) (ok ok2 ok3 okx : Nat → Prop) (w : World)
  (t2 : w.cell? ⟨bt, ot + 2, none⟩ = some (.slice A2 n2 c2)) (t3 : w.cell? ⟨bt, ot + 3, none⟩ = some (.slice A3 n3 c3)) (h2 : Sl IntR 1 ok2 w A2 n2 t.key) (h3 : Sl UqR 1 ok3 w A3 n3 t.uniqs)
  (p0 : w.cell? ⟨bd, od, none⟩ = some (.slice AL nL cL)) (hr : Sl RwR 2 ok w AL nL rows) (r0 : w.cell? ⟨br, orr, none⟩ = some (.int .i64 x.id)) (r1 : w.cell? ⟨br, orr + 1, none⟩ = some (.slice AX nX cX)) (hx : Sl VlR 3 okx w AX nX x.vals)
  (hrn : nL ≤ 1048576) (h2n : n2 ≤ 1048576) (h3n : n3 ≤ 1048576) (hun : ∀ u ∈ t.uniqs, u.cols.length ≤ 1048576) (hxn : nX ≤ 1048576) (hvn : ∀ r ∈ rows, r.vals.length ≤ 1048576)
  (hall : ∀ r ∈ rows, t.key.all (inV r.vals) = true) (hallu : ∀ u ∈ t.uniqs, ∀ r ∈ rows, u.cols.all (inV r.vals) = true) (hrow : rowB x.vals = true) (hxa : t.key.all (inV x.vals) = true) (hxu : ∀ u ∈ t.uniqs, u.cols.all (inV x.vals) = true) :
  Calls Tryz.prog 101 #[.pointer (some ⟨bt, ot, none⟩), .pointer (some ⟨bd, od, none⟩), .pointer (some ⟨br, orr, none⟩)] w (MadeO (rivB t rows x) w) := by
 obtain rfl : rows.length = nL := hr.1
 obtain rfl : t.uniqs.length = n3 := h3.1
 have HVN := Lib.hid hvn
 have HALL := Lib.hid hall
 have HALU := Lib.hid hallu
 have HUN := Lib.hid hun
 have HXU := Lib.hid hxu
 have HROW := Lib.hid hrow
 have HXA := Lib.hid hxa
 have HB := Lib.hid (show ∀ k, k ≤ t.uniqs.length → (othL t.key rows x ++ (t.uniqs.take k).flatMap fun u => othL u.cols rows x).length + rows.length ≤ 1099513724928 from fun k hk => by
  have h1 := rivL_len { t with uniqs := t.uniqs.take k } rows x
  unfold rivL at h1
  simp only at h1
  rw [List.length_take] at h1
  have h4 : (1 + min k t.uniqs.length) * rows.length ≤ (1 + 1048576) * 1048576 - rows.length + rows.length := by
   have := Nat.mul_le_mul (show 1 + min k t.uniqs.length ≤ 1 + 1048576 by omega) hrn
   omega
  have h5 : (1 + min k t.uniqs.length) * rows.length ≤ (1 + 1048576) * 1048576 := Nat.mul_le_mul (by omega) hrn
  omega)
 obtain ⟨i0, hi, hz0, hz1, hz2⟩ := info_parts infoIntI
 have H1 := Lib.hid hi
 have H2 := Lib.hid hz0
 have H3 := Lib.hid hz1
 have H4 := Lib.hid hz2
 clear hi hz0 hz1 hz2 hvn hall hallu hun hxu hrow hxa
 have HC0 := Lib.hid (implOthersWith bd od br orr AL A2 AX rows.length cL n2 c2 nX cX rows t.key x ok ok2 okx w p0 hr h2 r0 r1 hx hrn h2n hxn HVN.out HALL.out HROW.out HXA.out)
 go_enter Tryz.func101, Tryz.ntmps101
 go_wp2_with fail
 refine HC0.out.mono ?_
 rintro e w1 ⟨v1, rfl, hown1, hb1⟩
 have HO1 := Lib.hid hown1
 have t3' := below_keep hb1 _ _ t3
 clear hown1 HC0
 go_wp2_with fail
 go_loopw [7, 22] (fun v iv wr => ∃ k : Nat, k ≤ t.uniqs.length ∧ iv = .int .i64 k ∧ Hid (OwnI wr w.heap.size v (othL t.key rows x ++ (t.uniqs.take k).flatMap fun u => othL u.cols rows x)) ∧ Below w.heap.size w wr) (fun _ iv _ => t.uniqs.length - (intOf iv).toNat)
 case atStart => exact ⟨0, by omega, rfl, Lib.hid (by simpa using HO1.out), hb1⟩
 case round =>
  clear HO1 hb1 t3'
  obtain ⟨k, hk, rfl, hown, hb⟩ := hrel
  by_cases hlt : k < t.uniqs.length
  ·obtain ⟨bu, ou, AU, nU, cU, -, rfl, u0, hu, -⟩ := UqR.at_ (h3.below UqR.stays hb) hlt
   obtain rfl : (t.uniqs[k]).cols.length = nU := hu.1
   have k0 : (0 : Int) ≤ k := by omega
   have k1 : (k : Int) < t.uniqs.length := by omega
   have hbx := (Below.refl wr.heap.size wr).alloc (Nat.le_refl _) (.cells #[.slice AU (t.uniqs[k]).cols.length cU] 61)
   have hba := hb.trans (hbx.mono hb.size)
   have RX := Row.new wr 61 #[.slice AU (t.uniqs[k]).cols.length cU]
   have d0 := RX.cell 0
   simp only [List.getElem?_toArray, List.getElem?_cons_zero] at d0
   have HC := Lib.hid (implOthersWith bd od br orr AL AU AX rows.length cL (t.uniqs[k]).cols.length cU nX cX rows (t.uniqs[k]).cols x ok _ okx _ (below_keep hba _ _ p0) (hr.below RwR.stays hba) (hu.below IntR.stays hbx) (below_keep hba _ _ r0) (below_keep hba _ _ r1) (hx.below VlR.stays hba) hrn (HUN.out _ (List.getElem_mem hlt)) hxn HVN.out (HALU.out _ (List.getElem_mem hlt)) HROW.out (HXU.out _ (List.getElem_mem hlt)))
   have hownb := Lib.hid (OwnI.below hown.out hbx)
   clear hown
   have HFT := Lib.hid (show othL t.key rows x ++ (t.uniqs.take (k + 1)).flatMap (fun u => othL u.cols rows x) = (othL t.key rows x ++ (t.uniqs.take k).flatMap fun u => othL u.cols rows x) ++ othL (t.uniqs[k]).cols rows x by
    rw [List.take_succ_eq_append_getElem hlt, List.flatMap_append]; simp)
   have HBK := Lib.hid (HB.out k (by omega))
   have HOL := Lib.hid (othL_len (t.uniqs[k]).cols rows x)
   generalize hys : (othL t.key rows x ++ (t.uniqs.take k).flatMap fun u => othL u.cols rows x) = ys at *
   generalize hzs : othL (t.uniqs[k]).cols rows x = zs at *
   have HYS := Lib.hid hys
   have HZS := Lib.hid hzs
   clear hys hzs
   go_wp2_with fail
   refine HC.out.mono ?_
   rintro e w5 ⟨v5, rfl, hown5, hb5⟩
   clear HC d0 RX
   have hb6 := hba.trans (hb5.mono hba.size)
   have ho6 := Lib.hid (OwnI.below hownb.out hb5)
   clear hownb
   have HO5 := Lib.hid hown5
   rcases hown5.2 with ⟨rfl, hn5⟩ | ⟨g5, cap5, cur5, rfl, -⟩
   ·obtain rfl : zs = [] := List.eq_nil_of_length_eq_zero hn5
    clear hown5
    go_wp2_with (at_builtin; refine wpList_append_own_none rfl _ _ 40 rfl w.heap.size 2 i0 1 Tryz.underlying40 H1.out _ _ _ rfl ho6.out rfl ?_)
    go_wp2_with fail
    go_roundw
    case rel => exact ⟨k + 1, by omega, by go_num, Lib.hid (by rw [HFT.out, List.append_nil]; exact ho6.out), hb6⟩
    case measure => simp [intOf]; omega
   ·clear hown5
    go_wp2_with (at_builtin; refine wpList_append_own _ rfl _ _ 40 rfl w.heap.size 2 i0 (.int .i64 0) 1 8 Tryz.underlying40 H1.out H2.out H3.out H4.out rfl (by decide) _ _ _ rfl ho6.out ⟨g5, 0, none⟩ zs.length cap5 (zs.map (Value.int .i64)) rfl (by simp) (OwnI.cells HO5.out) ?c2 ?c3 ?c4 ?c5 ?_)
    case c2 => intro u hu; obtain ⟨z, -, rfl⟩ := List.mem_map.1 hu; rfl
    case c3 => have h8 := HBK.out; have h9 := HOL.out; unfold maxLen; omega
    case c4 => have h8 := HBK.out; have h9 := HOL.out; omega
    case c5 => have := hb6.size; omega
    intro v' w7 hown3 hgrow _
    have R := Lib.hid (OwnI.apps ho6.out hb6.size hown3 hgrow)
    clear hown3 hgrow ho6
    go_wp2_with fail
    go_roundw
    case rel => exact ⟨k + 1, by omega, by go_num, Lib.hid (by rw [HFT.out]; exact R.out.1), hb6.trans R.out.2⟩
    case measure => simp [intOf]; omega
  ·obtain rfl : k = t.uniqs.length := by omega
   have ho := hown.out
   have HLN := Lib.hid (show (rivL t rows x).length ≤ 1099513724928 by have h8 := HB.out t.uniqs.length (Nat.le_refl _); rw [List.take_of_length_le (Nat.le_refl _)] at h8; unfold rivL; omega)
   rw [List.take_of_length_le (Nat.le_refl _)] at ho
   change OwnI wr w.heap.size _ (rivL t rows x) at ho
   obtain ⟨AO, cO, rfl, -, -, -⟩ := OwnI.sl ho
   have HS := Lib.hid (libSort ho HLN.out)
   clear hown ho
   go_wp2_with fail
   refine HS.out.mono ?_
   rintro e w8 ⟨rfl, ho8, hb8⟩
   have HK := Lib.hid (libCompact ho8 (by rw [sortL_len]; exact HLN.out))
   clear HS ho8
   have hb9 := hb.trans hb8
   go_wp2_with fail
   refine HK.out.mono ?_
   rintro e w9 ⟨v9, rfl, ho9, hbq⟩
   have HO9 := Lib.hid ho9
   clear HK ho9
   go_wp2_with fail
   go_ret
   exact ⟨_, rfl, HO9.out, hb9.trans hbq⟩
end Go.Proofs.YtjhhamlnlalkoaaGreat
namespace Go.Proofs.YtjhhamlnlalkoaaGreat
open Go.RowKit Go.Maps Go.Shelf
attribute [local go_sem] Oper.semAt_some
def KpF (n0 : Nat) (W W' : World) : Prop := Below n0 W W' ∧ ∀ b T cs, T ≠ 28 → T ≠ 48 → T ≠ 4 → Row W b T cs → Row W' b T cs
theorem KpF.refl (n0 : Nat) (W : World) : KpF n0 W W := ⟨Below.refl _ _, fun _ _ _ _ _ _ h => h⟩
theorem KpF.trans {n0 : Nat} {A B C : World} (h : KpF n0 A B) (k : KpF n0 B C) : KpF n0 A C := ⟨h.1.trans k.1, fun b T cs h1 h2 h3 hr => k.2 b T cs h1 h2 h3 (h.2 b T cs h1 h2 h3 hr)⟩
theorem KpF.below {n0 : Nat} {W W' : World} (hn : n0 ≤ W.heap.size) (hb : Below W.heap.size W W') : KpF n0 W W' := ⟨hb.mono hn, fun _ _ _ _ _ _ h => h.below hb⟩
theorem KpF.put {n0 : Nat} {W : World} {l : Nat} {o : Obj} (o' : Obj) (hl : n0 ≤ l) (h : W.heap[l]? = some o) (hc : o.isCells = false) : KpF n0 W (W.putObj l o') := by
 refine ⟨(Below.refl n0 W).grown (grownBy_putObj' W l o') (by have := (Array.getElem?_eq_some_iff.1 h).1; omega) (fun k e => by cases e; exact hl), fun b T cs _ _ _ hr => ?_⟩
 have hne : b ≠ l := fun e => by subst e; unfold Row at hr; rw [h] at hr; cases hr; cases hc
 exact (World.putObj_heap_other hne).trans hr
def askN : Bool → Fn
 | true => .func 42
 | false => .func 30
structure RfIn (n0 : Nat) (AS AD AV : Option Addr) (nS cS nD cD cV : Nat) (b bl ol i : Nat) (s : List Tb) (db : List Dt) (x : Rw) (wait : Bool) (w : World) : Prop where
 low : n0 ≤ b
 s0 : Row w b 24 #[.slice AS nS cS]
 s1 : Row w (b + 1) 25 #[.slice AD nD cD]
 s2 : Row w (b + 2) 3 #[.int .i64 i]
 s3 : Row w (b + 3) 79 #[.pointer (some ⟨bl, ol, none⟩)]
 s4 : Row w (b + 4) 71 #[.func (askN wait) #[] #[]]
 hs : Sl TbR 6 (fun b => b < n0) w AS nS s
 hd : Sl DtR 1 (fun b => b < n0) w AD nD db
 hb : bl < n0
 z0 : w.cell? ⟨bl, ol, none⟩ = some (.int .i64 x.id)
 z1 : w.cell? ⟨bl, ol + 1, none⟩ = some (.slice AV x.vals.length cV)
 hv : Sl VlR 3 (fun b => b < n0) w AV x.vals.length x.vals
section
variable {n0 : Nat} {AS AD AV : Option Addr} {nS cS nD cD cV b bl ol i : Nat} {s : List Tb} {db : List Dt} {x : Rw} {wait : Bool}
theorem RfIn.kp {w W : World} (h : RfIn n0 AS AD AV nS cS nD cD cV b bl ol i s db x wait w) (k : KpF n0 w W) : RfIn n0 AS AD AV nS cS nD cD cV b bl ol i s db x wait W :=
 ⟨h.low, k.2 _ _ _ (by decide) (by decide) (by decide) h.s0, k.2 _ _ _ (by decide) (by decide) (by decide) h.s1, k.2 _ _ _ (by decide) (by decide) (by decide) h.s2, k.2 _ _ _ (by decide) (by decide) (by decide) h.s3, k.2 _ _ _ (by decide) (by decide) (by decide) h.s4,
  h.hs.low TbR.stays k.1, h.hd.low DtR.stays k.1, h.hb, (k.1.cell (p := ⟨bl, ol, none⟩) h.hb).trans h.z0, (k.1.cell (p := ⟨bl, ol + 1, none⟩) h.hb).trans h.z1, h.hv.low VlR.stays k.1⟩
theorem RfIn.n0_le {w : World} (h : RfIn n0 AS AD AV nS cS nD cD cV b bl ol i s db x wait w) : n0 ≤ w.heap.size := by
 have := lt_of_block h.s0; have := h.low; omega
theorem RfIn.cells {w : World} (h : RfIn n0 AS AD AV nS cS nD cD cV b bl ol i s db x wait w) :
  w.cell? ⟨b, 0, none⟩ = some (.slice AS nS cS) ∧ w.cell? ⟨b + 1, 0, none⟩ = some (.slice AD nD cD) ∧ w.cell? ⟨b + 2, 0, none⟩ = some (.int .i64 i) ∧ w.cell? ⟨b + 3, 0, none⟩ = some (.pointer (some ⟨bl, ol, none⟩)) ∧ w.cell? ⟨b + 4, 0, none⟩ = some (.func (askN wait) #[] #[]) :=
 ⟨h.s0.cell 0, h.s1.cell 0, h.s2.cell 0, h.s3.cell 0, h.s4.cell 0⟩
end
def oneK (ok : Bool) (k : Int) : List Int := if ok then [] else [k]
def rowK (s : List Tb) (db : List Dt) (t : Tb) (rows : List Rw) (wait : Bool) (x : Rw) : List Int :=
 oneK (nullsB t.cols x.vals) 1 ++ oneK (checksB t.checks x.vals) 2 ++ oneK (uniqueB t rows x) 3 ++ oneK (refersB s db t x.vals wait) 4
theorem rowFw_K (s : List Tb) (db : List Dt) (t : Tb) (rows : List Rw) (wait : Bool) (i : Int) (x : Rw) : rowFw s db t rows wait i x = (rowK s db t rows wait x).map fun k => ⟨k, i, x.id⟩ := by
 unfold rowFw rowK oneFw oneK
 cases nullsB t.cols x.vals <;> cases checksB t.checks x.vals <;> cases uniqueB t rows x <;> cases refersB s db t x.vals wait <;> rfl
def StK (J Jx : List Int → World → Prop) (full : List Int) (n0 : Nat) (W0 : World) (pre : List Int) (st : Bool) (W' : World) : Prop :=
 if st then ∃ q, q <+: full ∧ Jx q W' else J pre W' ∧ KpF n0 W0 W'
theorem abides_below {β : Type} {B : Nat} {J : β → World → Prop} (hJ : AbidesFrom B J) {s : β} {W W' : World} (h : J s W) (hb : Below W.heap.size W W') : J s W' :=
 hJ s W W' none h ⟨hb.os, hb.tape, hb.output, hb.size, fun k hk _ => hb.block k hk⟩ (fun r e => by cases e)
theorem implIsLost (AS AD A5 AV : Option Addr) (bt ot br orr nS cS nD cD n5 c5 nV cV : Nat) (s : List Tb) (db : List Dt) (i : Nat) (vals : List Vl) (wait : Bool) (ok okd ok5 okv : Nat → Prop) (w : World)
  (hs : Sl TbR 6 ok w AS nS s) (hd : Sl DtR 1 okd w AD nD db) (hi : i < s.length) (h5 : Sl FkR 5 ok5 w A5 n5 s[i].fks) (hv : Sl VlR 3 okv w AV nV vals) (t5 : w.cell? ⟨bt, ot + 5, none⟩ = some (.slice A5 n5 c5)) (r1 : w.cell? ⟨br, orr + 1, none⟩ = some (.slice AV nV cV))
  (hss : szL Tb.sz s ≤ 1048576) (hdn : nD ≤ 1048576) (hvn : nV ≤ 1048576) (hrow : rowB vals = true) (hF : ∀ f ∈ s[i].fks, FkIn s db vals f) :
  Calls Tryz.prog 102 #[.slice AS nS cS, .slice AD nD cD, .pointer (some ⟨bt, ot, none⟩), .pointer (some ⟨br, orr, none⟩), .func (askN wait) #[] #[]] w fun e w' => e = .returned (.bool (!(refersB s db s[i] vals wait))) ∧ Below w.heap.size w w' := by
 cases wait
 ·have h := implIsLostEnd AS AD A5 AV bt ot br orr nS cS nD cD n5 c5 nV cV s db i vals ok okd ok5 okv w hs hd hi h5 hv t5 r1 hss hdn hvn hrow hF
  rw [lostB_refers] at h
  exact h
 ·have h := implIsLostNow AS AD A5 AV bt ot br orr nS cS nD cD n5 c5 nV cV s db i vals ok okd ok5 okv w hs hd hi h5 hv t5 r1 hss hdn hvn hrow hF
  rw [lostB_refers] at h
  exact h
end Go.Proofs.YtjhhamlnlalkoaaGreat
