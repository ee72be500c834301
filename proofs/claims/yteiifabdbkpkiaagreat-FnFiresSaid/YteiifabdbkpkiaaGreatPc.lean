/-
  Several texts in one: what the proof leans on, part 3.
-/
import Derived.Test.YteiifabdbkpkiaaGreatPb
import Derived.Test.YteiifabdbkpkiaaGreatPa
import Derived.Maps.AppendAt
import Derived.OwnWalk
import Derived.Deep.RegionLaw
import Derived.Deep.AppendLies
import Derived.Deep.DeepMust
set_option linter.unusedVariables false
set_option linter.unusedSimpArgs false
namespace Go.Proofs.YteiifabdbkpkiaaGreat
open Go.RowKit Go.Maps
def fitsB (k : Int) (v : Vl) : Bool := valOkB v.k v.n v.s && (v.k == 0 || v.k == k)
def colB (c : Cl) : Bool := nameB c.name && ((c.kind == 1 || c.kind == 2) && fitsB c.kind c.d)
def colsB (l : List Cl) : Bool := decide (1 ≤ l.length) && (decide (l.length ≤ 8) && (l.all colB && uniqGo [] (l.map Cl.name)))
def nnAt (cols : List Cl) (i : Int) : Bool := (cols[i.toNat]?.map Cl.nn).getD false
def keyB (cols : List Cl) (key : List Int) : Bool := colsInB key cols.length && key.all (nnAt cols)
def uqsB (cols : List Cl) (l : List Uq) : Bool := decide (l.length ≤ 3) && l.all (fun u => colsInB u.cols cols.length)
def cksB (cols : List Cl) (l : List Ck) : Bool := decide (l.length ≤ 3) && l.all (fun u => exprB u.expr cols.length)
def actB (a : Int) : Bool := a == 0 || (a == 1 || a == 2)
def fkB (n : Nat) (f : Fk) : Bool := colsInB f.cols n && (nameB f.table && (actB f.del && actB f.upd))
def fksB (cols : List Cl) (l : List Fk) : Bool := decide (l.length ≤ 3) && l.all (fkB cols.length)
def tableB (t : Tb) : Bool := nameB t.name && (colsB t.cols && (keyB t.cols t.key && (uqsB t.cols t.uniqs && (cksB t.cols t.checks && fksB t.cols t.fks))))
theorem implValFits (k : Int) (v : Vl) (w : World) :
  Calls Tryz.prog 56 #[.int .i64 k, .agg #[.int .i64 v.k, .int .i64 v.n, .string v.s]] w fun e w' => e = .returned (.bool (fitsB k v)) ∧ Below w.heap.size w w' := by
 have hb0 := (Below.refl w.heap.size w).alloc (Nat.le_refl _) (.cells #[.int .i64 v.k, .int .i64 v.n, .string v.s] 66)
 have r0 := Row.new w 66 #[.int .i64 v.k, .int .i64 v.n, .string v.s]
 unfold fitsB
 cases hok : valOkB v.k v.n v.s
 ·have HO := Lib.hid hok
  clear hok
  go_enter Tryz.func56, Tryz.ntmps56
  go_wp2_with fail
  refine (implValOk _ _ _ _).mono ?_
  rintro e w1 ⟨rfl, hb1⟩
  rw [HO.out]
  go_wp2
  go_ret
  exact ⟨rfl, hb0.trans (hb1.mono hb0.size)⟩
 ·have HO := Lib.hid hok
  clear hok
  by_cases h0 : v.k = 0
  ·have e0 : (v.k == 0) = true := by simpa using h0
   clear h0
   have HE := Lib.hid e0
   go_enter Tryz.func56, Tryz.ntmps56
   go_wp2_with fail
   refine (implValOk _ _ _ _).mono ?_
   rintro e w1 ⟨rfl, hb1⟩
   rw [HO.out]
   obtain ⟨⟨c0, c1, c2⟩, -⟩ := (r0.below hb1).three
   go_wp2
   go_ret
   exact ⟨retB (by rw [HE.out]; rfl), hb0.trans (hb1.mono hb0.size)⟩
  ·have e0 : (v.k == 0) = false := by simpa using h0
   clear h0
   have HE := Lib.hid e0
   go_enter Tryz.func56, Tryz.ntmps56
   go_wp2_with fail
   refine (implValOk _ _ _ _).mono ?_
   rintro e w1 ⟨rfl, hb1⟩
   rw [HO.out]
   obtain ⟨⟨c0, c1, c2⟩, -⟩ := (r0.below hb1).three
   go_wp2
   go_ret
   exact ⟨retB (by rw [HE.out]; rfl), hb0.trans (hb1.mono hb0.size)⟩
set_option maxRecDepth 100000 in
set_option maxHeartbeats 400000 in
theorem implColOk (x : Cl) (w : World) (hs : x.name.size ≤ maxLen) :
  Calls Tryz.prog 88 #[.agg #[.string x.name, .int .i64 x.kind, .bool x.nn, .int .i64 x.d.k, .int .i64 x.d.n, .string x.d.s]] w fun e w' => e = .returned (.bool (colB x)) ∧ Below w.heap.size w w' := by
 have hb0 := (Below.refl w.heap.size w).alloc (Nat.le_refl _) (.cells #[.string x.name, .int .i64 x.kind, .bool x.nn, .int .i64 x.d.k, .int .i64 x.d.n, .string x.d.s] 68)
 have HB := Lib.hid hb0
 unfold colB
 cases hn : nameB x.name
 ·have HN := Lib.hid hn
  clear hn
  go_enter Tryz.func88, Tryz.ntmps88
  go_wp2_with fail
  refine (implIsName _ _ hs).mono ?_
  rintro e w1 ⟨rfl, rfl⟩
  rw [HN.out]
  go_wp2
  go_ret
  exact ⟨rfl, HB.out⟩
 have HN := Lib.hid hn
 clear hn
 by_cases h1 : x.kind = 1
 ·have e1 : (x.kind == 1) = true := by simpa using h1
  have HE := Lib.hid e1
  clear h1
  go_enter Tryz.func88, Tryz.ntmps88
  go_wp2_with fail
  refine (implIsName _ _ hs).mono ?_
  rintro e w1 ⟨rfl, rfl⟩
  rw [HN.out]
  go_wp2_with fail
  refine (implValFits _ x.d _).mono ?_
  rintro e w1 ⟨rfl, hb1⟩
  go_wp2
  go_ret
  exact ⟨retB (by rw [HE.out]; rfl), HB.out.trans (hb1.mono HB.out.size)⟩
 have e1 : (x.kind == 1) = false := by simpa using h1
 by_cases h2 : x.kind = 2
 ·have e2 : (x.kind == 2) = true := by simpa using h2
  have HE := Lib.hid e1
  have HE2 := Lib.hid e2
  clear h1 h2
  go_enter Tryz.func88, Tryz.ntmps88
  go_wp2_with fail
  refine (implIsName _ _ hs).mono ?_
  rintro e w1 ⟨rfl, rfl⟩
  rw [HN.out]
  go_wp2_with fail
  refine (implValFits _ x.d _).mono ?_
  rintro e w1 ⟨rfl, hb1⟩
  go_wp2
  go_ret
  exact ⟨retB (by rw [HE.out, HE2.out]; rfl), HB.out.trans (hb1.mono HB.out.size)⟩
 ·have e2 : (x.kind == 2) = false := by simpa using h2
  have HE := Lib.hid e1
  have HE2 := Lib.hid e2
  clear h1 h2
  go_enter Tryz.func88, Tryz.ntmps88
  go_wp2_with fail
  refine (implIsName _ _ hs).mono ?_
  rintro e w1 ⟨rfl, rfl⟩
  rw [HN.out]
  go_wp2
  go_ret
  exact ⟨retB (by rw [HE.out, HE2.out]; rfl), HB.out⟩
theorem implAction (a : Int) (w : World) : Calls Tryz.prog 91 #[.int .i64 a] w fun e w' => e = .returned (.bool (actB a)) ∧ w = w' := by
 unfold actB
 by_cases h0 : a = 0
 ·subst h0
  go_enter Tryz.func91, Tryz.ntmps91
  go_wp2
  go_ret
  exact ⟨rfl, rfl⟩
 have e0 : (a == 0) = false := by simpa using h0
 by_cases h1 : a = 1
 ·subst h1
  go_enter Tryz.func91, Tryz.ntmps91
  go_wp2
  go_ret
  exact ⟨rfl, rfl⟩
 have e1 : (a == 1) = false := by simpa using h1
 have HE := Lib.hid e0
 have HE1 := Lib.hid e1
 go_enter Tryz.func91, Tryz.ntmps91
 go_wp2
 go_ret
 exact ⟨retB (by rw [HE.out, HE1.out]; rfl), rfl⟩
set_option maxRecDepth 100000 in
set_option maxHeartbeats 1000000 in
theorem implColsOk (A : Option Addr) (n c : Nat) (l : List Cl) (ok : Nat → Prop) (w : World) (h : Sl ClR 6 ok w A n l) (hs : szL Cl.sz l ≤ 1048576) :
  Calls Tryz.prog 68 #[.slice A n c] w fun e w' => e = .returned (.bool (colsB l)) ∧ Below w.heap.size w w' := by
 obtain rfl : l.length = n := h.1
 have hn : l.length ≤ 1048576 := by unfold szL at hs; omega
 have HS := Lib.hid hs
 clear hs
 by_cases h1 : (l.length : Int) < 1
 ·have HF := Lib.hid (show colsB l = false by unfold colsB; rw [decide_eq_false (p := 1 ≤ l.length) (by omega)]; rfl)
  go_enter Tryz.func68, Tryz.ntmps68
  go_wp2
  go_ret
  exact ⟨retB HF.out.symm, Below.refl _ _⟩
 have h1' : decide ((l.length : Int) < 1) = false := by simpa using h1
 by_cases h8 : 8 < (l.length : Int)
 ·have HF := Lib.hid (show colsB l = false by unfold colsB; rw [decide_eq_false (p := l.length ≤ 8) (by omega), Bool.false_and, Bool.and_false])
  go_enter Tryz.func68, Tryz.ntmps68
  go_wp2
  go_ret
  exact ⟨retB HF.out.symm, Below.refl _ _⟩
 have h8' : decide (8 < (l.length : Int)) = false := by simpa using h8
 have HLEN := Lib.hid (show decide (1 ≤ l.length) = true ∧ decide (l.length ≤ 8) = true from ⟨decide_eq_true (by omega), decide_eq_true (by omega)⟩)
 go_enter Tryz.func68, Tryz.ntmps68
 go_wp2
 go_loopw [15] (fun i wr => ∃ k : Nat, k ≤ l.length ∧ i = .int .i64 k ∧ Hid ((l.take k).all colB = true) ∧ Below w.heap.size w wr) (fun i _ => l.length - (intOf i).toNat)
 case atStart => exact ⟨0, by omega, rfl, Lib.hid (by simp), Below.refl _ _⟩
 case round =>
  obtain ⟨k, hk, rfl, hall, hb⟩ := hrel
  by_cases hlt : k < l.length
  ·obtain ⟨b, off, -, rfl, q0, q1, q2, q3, q4, q5⟩ := ClR.at_ (h.below ClR.stays hb) hlt
   have hsn := all_take colB l k hlt
   rw [hall.out, Bool.true_and] at hsn
   have HZ := Lib.hid (cl_name_le HS.out k hlt)
   have hba := hb.alloc hb.size (.cells #[.string l[k].name, .int .i64 l[k].kind, .bool l[k].nn, .int .i64 l[k].d.k, .int .i64 l[k].d.n, .string l[k].d.s] 68)
   cases hc : colB l[k]
   ·have HC := Lib.hid hc
    have HF := Lib.hid (show colsB l = false by unfold colsB; rw [all_no colB l k hlt hc]; simp)
    clear hsn hc hall
    go_wp2_with fail
    refine (implColOk _ _ HZ.out).mono ?_
    rintro e w1 ⟨rfl, hb1⟩
    rw [HC.out]
    go_wp2
    go_ret
    exact ⟨retB HF.out.symm, hba.trans (hb1.mono hba.size)⟩
   ·have HC := Lib.hid hc
    have HA := Lib.hid (hsn.trans hc)
    clear hsn hc hall
    go_wp2_with fail
    refine (implColOk _ _ HZ.out).mono ?_
    rintro e w1 ⟨rfl, hb1⟩
    rw [HC.out]
    go_wp2
    go_roundw
    case rel => exact ⟨k + 1, by omega, by go_num, HA, hba.trans (hb1.mono hba.size)⟩
    case measure => simp [intOf]; omega
  ·have e : l.take k = l := List.take_of_length_le (by omega)
   have h2 := hall.out
   rw [e] at h2
   have HA := Lib.hid h2
   have HF := Lib.hid (show colsB l = uniqGo [] (l.map Cl.name) by unfold colsB; rw [h2, HLEN.out.1, HLEN.out.2]; simp)
   clear h2 e hall
   go_wp2_with fail
   refine (implColPlaces A l.length c l ok _ (h.below ClR.stays hb) HS.out).mono ?_
   rintro e w1 ⟨bm, rfl, hp, hbb, hb1⟩
   obtain ⟨D, p1, p2, p3, p4, p5⟩ := hp
   have HU := Lib.hid (cntGo_uniq (l.map Cl.name) [])
   have HP := Lib.hid p5
   clear p3 p4 p5
   go_wp2_with (first | (at_len; refine wpList_len_own _ rfl _ 98 rfl 9 2 Tryz.underlying98 _ bm _ D rfl p1 ?_))
   go_ret
   refine ⟨retB ?_, hb.trans (hb1.mono hb.size)⟩
   rw [HF.out, ← HU.out, HP.out, Bool.eq_iff_iff]
   simp
   try omega
set_option maxRecDepth 100000 in
set_option maxHeartbeats 1000000 in
theorem implKeyOk (A1 A2 : Option Addr) (n1 c1 n2 c2 : Nat) (v0 v3 v4 v5 : Value) (cols : List Cl) (key : List Int) (ok : Nat → Prop) (w : World) (h : Sl ClR 6 ok w A1 n1 cols) (hk : Sl IntR 1 ok w A2 n2 key) (hn1 : n1 ≤ 1048576) (hn2 : n2 ≤ 1048576) :
  Calls Tryz.prog 69 #[.agg #[v0, .slice A1 n1 c1, .slice A2 n2 c2, v3, v4, v5]] w fun e w' => e = .returned (.bool (keyB cols key)) ∧ Below w.heap.size w w' := by
 obtain rfl : cols.length = n1 := h.1
 obtain rfl : key.length = n2 := hk.1
 have hb0 := (Below.refl w.heap.size w).alloc (Nat.le_refl _) (.cells #[v0, .slice A1 cols.length c1, .slice A2 key.length c2, v3, v4, v5] 42)
 have r0 := Row.new w 42 #[v0, .slice A1 cols.length c1, .slice A2 key.length c2, v3, v4, v5]
 cases hc : colsInB key cols.length
 ·have HC := Lib.hid hc
  clear hc
  go_enter Tryz.func69, Tryz.ntmps69
  go_wp2_with fail
  refine (implAreColumns A2 key.length c2 key cols.length ok _ (hk.below IntR.stays hb0) hn2 hn1).mono ?_
  rintro e w1 ⟨rfl, hb1⟩
  rw [HC.out]
  go_wp2
  go_ret
  exact ⟨retB (by unfold keyB; rw [HC.out]; rfl), hb0.trans (hb1.mono hb0.size)⟩
 have HIN := Lib.hid (colsInB_len hc).2
 have HC := Lib.hid hc
 clear hc
 go_enter Tryz.func69, Tryz.ntmps69
 go_wp2_with fail
 refine (implAreColumns A2 key.length c2 key cols.length ok _ (hk.below IntR.stays hb0) hn2 hn1).mono ?_
 rintro e w1 ⟨rfl, hb1⟩
 rw [HC.out]
 have hbb := hb0.trans (hb1.mono hb0.size)
 have r1 := r0.below hb1
 obtain ⟨⟨a0, a1, a2, a3, a4, a5⟩, -⟩ := r1.all6
 have h1' := h.below ClR.stays hbb
 have hk1 := hk.below IntR.stays hbb
 clear r0 r1
 go_wp2_with fail
 go_loop [15] (fun i => ∃ k : Nat, k ≤ key.length ∧ i = .int .i64 k ∧ Hid ((key.take k).all (nnAt cols) = true)) (fun i => key.length - (intOf i).toNat)
 case atStart => exact ⟨0, by omega, rfl, Lib.hid (by simp)⟩
 case round =>
  obtain ⟨k, hkk, rfl, hall⟩ := hrel
  by_cases hlt : k < key.length
  ·obtain ⟨b, off, -, rfl, q0⟩ := IntR.at_ hk1 hlt
   have hin := HIN.out _ (List.getElem_mem hlt)
   have hsn := all_take (nnAt cols) key k hlt
   rw [hall.out, Bool.true_and] at hsn
   have hno := fun hf => all_no (nnAt cols) key k hlt hf
   obtain ⟨j, hj⟩ : ∃ j : Nat, key[k] = (j : Int) := ⟨key[k].toNat, by omega⟩
   rw [hj] at q0 hsn hno hin
   have hjl : j < cols.length := by omega
   obtain ⟨b', off', -, rfl, p0, p1, p2, p3, p4, p5⟩ := ClR.at_ h1' hjl
   have hnn : nnAt cols j = cols[j].nn := by unfold nnAt; simp [List.getElem?_eq_getElem hjl]
   have i0 : (0 : Int) ≤ j := by omega
   have i1 : (j : Int) < cols.length := by omega
   cases hnb : cols[j].nn
   ·rw [hnb] at p2
    have HF := Lib.hid (show keyB cols key = false by unfold keyB; rw [hno (hnn.trans hnb), Bool.and_false])
    clear hsn hno hnn hnb hj hall
    go_wp2
    go_ret
    exact ⟨retB HF.out.symm, hbb⟩
   ·rw [hnb] at p2
    have HA := Lib.hid (hsn.trans (hnn.trans hnb))
    clear hsn hno hnn hnb hj hall
    go_wp2
    go_round
    case rel => exact ⟨k + 1, by omega, by go_num, HA⟩
    case measure => simp [intOf]; omega
  ·have e : key.take k = key := List.take_of_length_le (by omega)
   have h2 := hall.out
   rw [e] at h2
   have HF := Lib.hid (show keyB cols key = true by unfold keyB; rw [h2, HC.out]; rfl)
   clear h2 e hall
   go_wp2
   go_ret
   exact ⟨retB HF.out.symm, hbb⟩
set_option maxRecDepth 100000 in
set_option maxHeartbeats 1000000 in
theorem implUniquesOk (A1 AL : Option Addr) (n1 c1 nL cL : Nat) (v0 v2 v4 v5 : Value) (cols : List Cl) (l : List Uq) (ok : Nat → Prop) (w : World) (h : Sl ClR 6 ok w A1 n1 cols) (hl : Sl UqR 1 ok w AL nL l) (hn1 : n1 ≤ 1048576) (hs : szL Uq.sz l ≤ 1048576) :
  Calls Tryz.prog 70 #[.agg #[v0, .slice A1 n1 c1, v2, .slice AL nL cL, v4, v5]] w fun e w' => e = .returned (.bool (uqsB cols l)) ∧ Below w.heap.size w w' := by
 obtain rfl : cols.length = n1 := h.1
 obtain rfl : l.length = nL := hl.1
 have hn2 : l.length ≤ 1048576 := by unfold szL at hs; omega
 have HSZ := Lib.hid hs
 clear hs
 have hb0 := (Below.refl w.heap.size w).alloc (Nat.le_refl _) (.cells #[v0, .slice A1 cols.length c1, v2, .slice AL l.length cL, v4, v5] 42)
 have r0 := Row.new w 42 #[v0, .slice A1 cols.length c1, v2, .slice AL l.length cL, v4, v5]
 by_cases hbig : 3 < (l.length : Int)
 ·have HF := Lib.hid (show uqsB cols l = false by unfold uqsB; rw [decide_eq_false (by omega), Bool.false_and])
  go_enter Tryz.func70, Tryz.ntmps70
  go_wp2
  go_ret
  exact ⟨retB HF.out.symm, hb0⟩
 have hbig' : decide (3 < (l.length : Int)) = false := by simpa using hbig
 have H3 := Lib.hid (show decide (l.length ≤ 3) = true from decide_eq_true (by omega))
 go_enter Tryz.func70, Tryz.ntmps70
 go_wp2_with fail
 generalize w.alloc (.cells #[v0, .slice A1 cols.length c1, v2, .slice AL l.length cL, v4, v5] 42) = x0 at *
 go_loopw [12] (fun i wr => ∃ k : Nat, k ≤ l.length ∧ i = .int .i64 k ∧ Hid ((l.take k).all (fun u : Uq => colsInB u.cols cols.length) = true) ∧ Row wr w.heap.size 42 #[v0, .slice A1 cols.length c1, v2, .slice AL l.length cL, v4, v5] ∧ Below w.heap.size w wr) (fun i _ => l.length - (intOf i).toNat)
 case atStart => exact ⟨0, by omega, rfl, Lib.hid (by simp), r0, hb0⟩
 case round =>
  obtain ⟨k, hkk, rfl, hall, hr, hb⟩ := hrel
  obtain ⟨⟨a0, a1, a2, a3, a4, a5⟩, -⟩ := hr.all6
  by_cases hlt : k < l.length
  ·obtain ⟨b, off, A9, n9, c9, -, rfl, q0, s0, hcp⟩ := UqR.at_ (hl.below UqR.stays hb) hlt
   obtain rfl : l[k].cols.length = n9 := s0.1
   have hsn := all_take (fun u : Uq => colsInB u.cols cols.length) l k hlt
   rw [hall.out, Bool.true_and] at hsn
   have hno := fun hf => all_no (fun u : Uq => colsInB u.cols cols.length) l k hlt hf
   have hk9 : l[k].cols.length ≤ 1048576 := by have := HSZ.out; have := sum_mem_le Uq.sz l k hlt; unfold szL at *; simp only [Uq.sz] at *;  omega
   have HK9 := Lib.hid hk9
   clear hk9
   have hbx := (Below.refl wr.heap.size wr).alloc (Nat.le_refl _) (.cells #[.slice A9 l[k].cols.length c9] 71)
   have hba := hb.trans (hbx.mono hb.size)
   have s1 := s0.below IntR.stays hbx
   have hr1 := hr.below hbx
   obtain ⟨⟨d0, d1, d2, d3, d4, d5⟩, -⟩ := hr1.all6
   cases hc : colsInB l[k].cols cols.length
   ·have HC := Lib.hid hc
    have HF := Lib.hid (show uqsB cols l = false by unfold uqsB; rw [hno hc, Bool.and_false])
    clear hsn hno hc hall hr
    go_wp2_with fail
    refine (implAreColumns A9 l[k].cols.length c9 l[k].cols cols.length ok _ s1 HK9.out hn1).mono ?_
    rintro e w1 ⟨rfl, hb1⟩
    rw [HC.out]
    go_wp2
    go_ret
    exact ⟨retB HF.out.symm, hba.trans (hb1.mono hba.size)⟩
   ·have HC := Lib.hid hc
    have HA := Lib.hid (hsn.trans hc)
    clear hsn hno hc hall hr
    go_wp2_with fail
    refine (implAreColumns A9 l[k].cols.length c9 l[k].cols cols.length ok _ s1 HK9.out hn1).mono ?_
    rintro e w1 ⟨rfl, hb1⟩
    rw [HC.out]
    have hr2 := hr1.below hb1
    go_wp2
    go_roundw
    case rel => exact ⟨k + 1, by omega, by go_num, HA, hr2, hba.trans (hb1.mono hba.size)⟩
    case measure => simp [intOf]; omega
  ·have e : l.take k = l := List.take_of_length_le (by omega)
   have h2 := hall.out
   rw [e] at h2
   have HF := Lib.hid (show uqsB cols l = true by unfold uqsB; rw [h2, H3.out]; rfl)
   clear h2 e hall
   go_wp2
   go_ret
   exact ⟨retB HF.out.symm, hb⟩
set_option maxRecDepth 100000 in
set_option maxHeartbeats 1000000 in
theorem implChecksOk (A1 AL : Option Addr) (n1 c1 nL cL : Nat) (v0 v2 v3 v5 : Value) (cols : List Cl) (l : List Ck) (ok : Nat → Prop) (w : World) (h : Sl ClR 6 ok w A1 n1 cols) (hl : Sl CkR 1 ok w AL nL l) (hn1 : n1 ≤ 1048576) (hs : szL Ck.sz l ≤ 1048576) :
  Calls Tryz.prog 71 #[.agg #[v0, .slice A1 n1 c1, v2, v3, .slice AL nL cL, v5]] w fun e w' => e = .returned (.bool (cksB cols l)) ∧ Below w.heap.size w w' := by
 obtain rfl : cols.length = n1 := h.1
 obtain rfl : l.length = nL := hl.1
 have hn2 : l.length ≤ 1048576 := by unfold szL at hs; omega
 have HSZ := Lib.hid hs
 clear hs
 have hb0 := (Below.refl w.heap.size w).alloc (Nat.le_refl _) (.cells #[v0, .slice A1 cols.length c1, v2, v3, .slice AL l.length cL, v5] 42)
 have r0 := Row.new w 42 #[v0, .slice A1 cols.length c1, v2, v3, .slice AL l.length cL, v5]
 by_cases hbig : 3 < (l.length : Int)
 ·have HF := Lib.hid (show cksB cols l = false by unfold cksB; rw [decide_eq_false (by omega), Bool.false_and])
  go_enter Tryz.func71, Tryz.ntmps71
  go_wp2
  go_ret
  exact ⟨retB HF.out.symm, hb0⟩
 have hbig' : decide (3 < (l.length : Int)) = false := by simpa using hbig
 have H3 := Lib.hid (show decide (l.length ≤ 3) = true from decide_eq_true (by omega))
 go_enter Tryz.func71, Tryz.ntmps71
 go_wp2_with fail
 generalize w.alloc (.cells #[v0, .slice A1 cols.length c1, v2, v3, .slice AL l.length cL, v5] 42) = x0 at *
 go_loopw [12] (fun i wr => ∃ k : Nat, k ≤ l.length ∧ i = .int .i64 k ∧ Hid ((l.take k).all (fun u : Ck => exprB u.expr cols.length) = true) ∧ Row wr w.heap.size 42 #[v0, .slice A1 cols.length c1, v2, v3, .slice AL l.length cL, v5] ∧ Below w.heap.size w wr) (fun i _ => l.length - (intOf i).toNat)
 case atStart => exact ⟨0, by omega, rfl, Lib.hid (by simp), r0, hb0⟩
 case round =>
  obtain ⟨k, hkk, rfl, hall, hr, hb⟩ := hrel
  obtain ⟨⟨a0, a1, a2, a3, a4, a5⟩, -⟩ := hr.all6
  by_cases hlt : k < l.length
  ·obtain ⟨b, off, A9, n9, c9, -, rfl, q0, s0, hcp⟩ := CkR.at_ (hl.below CkR.stays hb) hlt
   obtain rfl : l[k].expr.length = n9 := s0.1
   have hsn := all_take (fun u : Ck => exprB u.expr cols.length) l k hlt
   rw [hall.out, Bool.true_and] at hsn
   have hno := fun hf => all_no (fun u : Ck => exprB u.expr cols.length) l k hlt hf
   have hk9 : l[k].expr.length ≤ 1048576 := by have := HSZ.out; have := sum_mem_le Ck.sz l k hlt; unfold szL at *; simp only [Ck.sz] at *; (try unfold szL at *); (try simp only at *); omega
   have HK9 := Lib.hid hk9
   clear hk9
   have hbx := (Below.refl wr.heap.size wr).alloc (Nat.le_refl _) (.cells #[.slice A9 l[k].expr.length c9] 77)
   have hba := hb.trans (hbx.mono hb.size)
   have s1 := s0.below TkR.stays hbx
   have hr1 := hr.below hbx
   obtain ⟨⟨d0, d1, d2, d3, d4, d5⟩, -⟩ := hr1.all6
   cases hc : exprB l[k].expr cols.length
   ·have HC := Lib.hid hc
    have HF := Lib.hid (show cksB cols l = false by unfold cksB; rw [hno hc, Bool.and_false])
    clear hsn hno hc hall hr
    go_wp2_with fail
    refine (implExprOk A9 l[k].expr.length c9 l[k].expr cols.length _ (Sl.cellz (fun _ => rfl) s1) (by have := HK9.out; unfold maxLen; omega)).mono ?_
    rintro e w1 ⟨rfl, hb1⟩
    rw [HC.out]
    go_wp2
    go_ret
    exact ⟨retB HF.out.symm, hba.trans (hb1.mono hba.size)⟩
   ·have HC := Lib.hid hc
    have HA := Lib.hid (hsn.trans hc)
    clear hsn hno hc hall hr
    go_wp2_with fail
    refine (implExprOk A9 l[k].expr.length c9 l[k].expr cols.length _ (Sl.cellz (fun _ => rfl) s1) (by have := HK9.out; unfold maxLen; omega)).mono ?_
    rintro e w1 ⟨rfl, hb1⟩
    rw [HC.out]
    have hr2 := hr1.below hb1
    go_wp2
    go_roundw
    case rel => exact ⟨k + 1, by omega, by go_num, HA, hr2, hba.trans (hb1.mono hba.size)⟩
    case measure => simp [intOf]; omega
  ·have e : l.take k = l := List.take_of_length_le (by omega)
   have h2 := hall.out
   rw [e] at h2
   have HF := Lib.hid (show cksB cols l = true by unfold cksB; rw [h2, H3.out]; rfl)
   clear h2 e hall
   go_wp2
   go_ret
   exact ⟨retB HF.out.symm, hb⟩
set_option maxRecDepth 100000 in
set_option maxHeartbeats 1000000 in
theorem implFksOk (A1 AL : Option Addr) (n1 c1 nL cL : Nat) (v0 v2 v3 v4 : Value) (cols : List Cl) (l : List Fk) (ok : Nat → Prop) (w : World) (h : Sl ClR 6 ok w A1 n1 cols) (hl : Sl FkR 5 ok w AL nL l) (hn1 : n1 ≤ 1048576) (hs : szL Fk.sz l ≤ 1048576) :
  Calls Tryz.prog 72 #[.agg #[v0, .slice A1 n1 c1, v2, v3, v4, .slice AL nL cL]] w fun e w' => e = .returned (.bool (fksB cols l)) ∧ Below w.heap.size w w' := by
 obtain rfl : cols.length = n1 := h.1
 obtain rfl : l.length = nL := hl.1
 have hn2 : l.length ≤ 1048576 := by unfold szL at hs; omega
 have HSZ := Lib.hid hs
 clear hs
 have hb0 := (Below.refl w.heap.size w).alloc (Nat.le_refl _) (.cells #[v0, .slice A1 cols.length c1, v2, v3, v4, .slice AL l.length cL] 42)
 have r0 := Row.new w 42 #[v0, .slice A1 cols.length c1, v2, v3, v4, .slice AL l.length cL]
 by_cases hbig : 3 < (l.length : Int)
 ·have HF := Lib.hid (show fksB cols l = false by unfold fksB; rw [decide_eq_false (by omega), Bool.false_and])
  go_enter Tryz.func72, Tryz.ntmps72
  go_wp2
  go_ret
  exact ⟨retB HF.out.symm, hb0⟩
 have hbig' : decide (3 < (l.length : Int)) = false := by simpa using hbig
 have H3 := Lib.hid (show decide (l.length ≤ 3) = true from decide_eq_true (by omega))
 go_enter Tryz.func72, Tryz.ntmps72
 go_wp2_with fail
 generalize w.alloc (.cells #[v0, .slice A1 cols.length c1, v2, v3, v4, .slice AL l.length cL] 42) = x0 at *
 go_loopw [12] (fun i wr => ∃ k : Nat, k ≤ l.length ∧ i = .int .i64 k ∧ Hid ((l.take k).all (fkB cols.length) = true) ∧ Row wr w.heap.size 42 #[v0, .slice A1 cols.length c1, v2, v3, v4, .slice AL l.length cL] ∧ Below w.heap.size w wr) (fun i _ => l.length - (intOf i).toNat)
 case atStart => exact ⟨0, by omega, rfl, Lib.hid (by simp), r0, hb0⟩
 case round =>
  obtain ⟨k, hkk, rfl, hall, hr, hb⟩ := hrel
  obtain ⟨⟨a0, a1, a2, a3, a4, a5⟩, -⟩ := hr.all6
  by_cases hlt : k < l.length
  ·obtain ⟨b, off, A9, n9, c9, -, rfl, q0, q1, q2, q3, q4, s0, hcp⟩ := FkR.at_ (hl.below FkR.stays hb) hlt
   obtain rfl : l[k].cols.length = n9 := s0.1
   have hsn := all_take (fkB cols.length) l k hlt
   rw [hall.out, Bool.true_and] at hsn
   have hno := fun hf => all_no (fkB cols.length) l k hlt hf
   obtain ⟨hk9, hk8⟩ : l[k].cols.length ≤ 1048576 ∧ l[k].table.size ≤ 1048576 := by have := HSZ.out; have := sum_mem_le Fk.sz l k hlt; unfold szL at *; simp only [Fk.sz] at *; omega
   have HK9 := Lib.hid hk9
   have HK8 := Lib.hid (show l[k].table.size ≤ maxLen by unfold maxLen; omega)
   clear hk9 hk8
   have hbx := (Below.refl wr.heap.size wr).alloc (Nat.le_refl _) (.cells #[.slice A9 l[k].cols.length c9, .string l[k].table, .int .i64 l[k].del, .int .i64 l[k].upd, .bool l[k].dfr] 80)
   have hba := hb.trans (hbx.mono hb.size)
   have s1 := s0.below IntR.stays hbx
   have hr1 := hr.below hbx
   have rf := Row.new wr 80 #[.slice A9 l[k].cols.length c9, .string l[k].table, .int .i64 l[k].del, .int .i64 l[k].upd, .bool l[k].dfr]
   obtain ⟨⟨d0, d1, d2, d3, d4, d5⟩, -⟩ := hr1.all6
   have hcall := fun (w' : World) (hw : Sl IntR 1 ok w' A9 l[k].cols.length l[k].cols) => implAreColumns A9 l[k].cols.length c9 l[k].cols cols.length ok w' hw HK9.out hn1
   cases hc : colsInB l[k].cols cols.length
   ·have HC := Lib.hid hc
    have HF := Lib.hid (show fksB cols l = false by unfold fksB; rw [hno (by unfold fkB; rw [hc]; rfl), Bool.and_false])
    clear hsn hno hc hall hr
    go_wp2_with fail
    refine (hcall _ s1).mono ?_
    rintro e w1 ⟨rfl, hb1⟩
    rw [HC.out]
    clear hcall
    go_wp2
    go_ret
    exact ⟨retB HF.out.symm, hba.trans (hb1.mono hba.size)⟩
   have HC := Lib.hid hc
   cases hnm : nameB l[k].table
   ·have HN := Lib.hid hnm
    have HF := Lib.hid (show fksB cols l = false by unfold fksB; rw [hno (by unfold fkB; rw [hc, hnm]; rfl), Bool.and_false])
    clear hsn hno hc hall hr hnm
    go_wp2_with fail
    refine (hcall _ s1).mono ?_
    rintro e w1 ⟨rfl, hb1⟩
    rw [HC.out]
    clear hcall
    obtain ⟨⟨f0, f1, f2, f3, f4⟩, -⟩ := (rf.below hb1).five
    go_wp2_with fail
    refine (implIsName _ _ HK8.out).mono ?_
    rintro e w2 ⟨rfl, rfl⟩
    rw [HN.out]
    go_wp2
    go_ret
    exact ⟨retB HF.out.symm, hba.trans (hb1.mono hba.size)⟩
   have HN := Lib.hid hnm
   cases hd : actB l[k].del
   ·have HD := Lib.hid hd
    have HF := Lib.hid (show fksB cols l = false by unfold fksB; rw [hno (by unfold fkB; rw [hc, hnm, hd]; rfl), Bool.and_false])
    clear hsn hno hc hall hr hnm hd
    go_wp2_with fail
    refine (hcall _ s1).mono ?_
    rintro e w1 ⟨rfl, hb1⟩
    rw [HC.out]
    clear hcall
    obtain ⟨⟨f0, f1, f2, f3, f4⟩, -⟩ := (rf.below hb1).five
    go_wp2_with fail
    refine (implIsName _ _ HK8.out).mono ?_
    rintro e w2 ⟨rfl, rfl⟩
    rw [HN.out]
    go_wp2_with fail
    refine (implAction _ _).mono ?_
    rintro e w2 ⟨rfl, rfl⟩
    rw [HD.out]
    go_wp2
    go_ret
    exact ⟨retB HF.out.symm, hba.trans (hb1.mono hba.size)⟩
   have HD := Lib.hid hd
   cases hu : actB l[k].upd
   ·have HU := Lib.hid hu
    have HF := Lib.hid (show fksB cols l = false by unfold fksB; rw [hno (by unfold fkB; rw [hc, hnm, hd, hu]; rfl), Bool.and_false])
    clear hsn hno hc hall hr hnm hd hu
    go_wp2_with fail
    refine (hcall _ s1).mono ?_
    rintro e w1 ⟨rfl, hb1⟩
    rw [HC.out]
    clear hcall
    obtain ⟨⟨f0, f1, f2, f3, f4⟩, -⟩ := (rf.below hb1).five
    go_wp2_with fail
    refine (implIsName _ _ HK8.out).mono ?_
    rintro e w2 ⟨rfl, rfl⟩
    rw [HN.out]
    go_wp2_with fail
    refine (implAction _ _).mono ?_
    rintro e w2 ⟨rfl, rfl⟩
    rw [HD.out]
    go_wp2_with fail
    refine (implAction _ _).mono ?_
    rintro e w2 ⟨rfl, rfl⟩
    rw [HU.out]
    go_wp2
    go_ret
    exact ⟨retB HF.out.symm, hba.trans (hb1.mono hba.size)⟩
   ·have HU := Lib.hid hu
    have HA := Lib.hid (hsn.trans (show fkB cols.length l[k] = true by unfold fkB; rw [hc, hnm, hd, hu]; rfl))
    clear hsn hno hc hall hr hnm hd hu
    go_wp2_with fail
    refine (hcall _ s1).mono ?_
    rintro e w1 ⟨rfl, hb1⟩
    rw [HC.out]
    clear hcall
    obtain ⟨⟨f0, f1, f2, f3, f4⟩, -⟩ := (rf.below hb1).five
    go_wp2_with fail
    refine (implIsName _ _ HK8.out).mono ?_
    rintro e w2 ⟨rfl, rfl⟩
    rw [HN.out]
    go_wp2_with fail
    refine (implAction _ _).mono ?_
    rintro e w2 ⟨rfl, rfl⟩
    rw [HD.out]
    go_wp2_with fail
    refine (implAction _ _).mono ?_
    rintro e w2 ⟨rfl, rfl⟩
    rw [HU.out]
    have hr2 := hr1.below hb1
    go_wp2
    go_roundw
    case rel => exact ⟨k + 1, by omega, by go_num, HA, hr2, hba.trans (hb1.mono hba.size)⟩
    case measure => simp [intOf]; omega
  ·have e : l.take k = l := List.take_of_length_le (by omega)
   have h2 := hall.out
   rw [e] at h2
   have HF := Lib.hid (show fksB cols l = true by unfold fksB; rw [h2, H3.out]; rfl)
   clear h2 e hall
   go_wp2
   go_ret
   exact ⟨retB HF.out.symm, hb⟩
set_option maxRecDepth 100000 in
set_option maxHeartbeats 1000000 in
theorem implTableOk (x : Tb) (A1 : Option Addr) (n1 c1 : Nat) (A2 : Option Addr) (n2 c2 : Nat) (A3 : Option Addr) (n3 c3 : Nat) (A4 : Option Addr) (n4 c4 : Nat) (A5 : Option Addr) (n5 c5 : Nat) (ok : Nat → Prop) (w : World)
  (h1 : Sl ClR 6 ok w A1 n1 x.cols) (h2 : Sl IntR 1 ok w A2 n2 x.key) (h3 : Sl UqR 1 ok w A3 n3 x.uniqs) (h4 : Sl CkR 1 ok w A4 n4 x.checks) (h5 : Sl FkR 5 ok w A5 n5 x.fks) (hs : x.sz ≤ 1048576) :
  Calls Tryz.prog 49 #[.agg #[.string x.name, .slice A1 n1 c1, .slice A2 n2 c2, .slice A3 n3 c3, .slice A4 n4 c4, .slice A5 n5 c5]] w fun e w' => e = .returned (.bool (tableB x)) ∧ Below w.heap.size w w' := by
 have e1 := h1.1
 have e2 := h2.1
 have HNM := Lib.hid (show x.name.size ≤ maxLen by unfold Tb.sz at hs; unfold maxLen; omega)
 have HS1 := Lib.hid (show szL Cl.sz x.cols ≤ 1048576 by unfold Tb.sz at hs; omega)
 have HS3 := Lib.hid (show szL Uq.sz x.uniqs ≤ 1048576 by unfold Tb.sz at hs; omega)
 have HS4 := Lib.hid (show szL Ck.sz x.checks ≤ 1048576 by unfold Tb.sz at hs; omega)
 have HS5 := Lib.hid (show szL Fk.sz x.fks ≤ 1048576 by unfold Tb.sz at hs; omega)
 have HL1 := Lib.hid (show n1 ≤ 1048576 by unfold Tb.sz szL at hs; omega)
 have HL2 := Lib.hid (show n2 ≤ 1048576 by unfold Tb.sz szL at hs; omega)
 clear e1 e2 hs
 have hb0 := (Below.refl w.heap.size w).alloc (Nat.le_refl _) (.cells #[.string x.name, .slice A1 n1 c1, .slice A2 n2 c2, .slice A3 n3 c3, .slice A4 n4 c4, .slice A5 n5 c5] 42)
 have r0 := Row.new w 42 #[.string x.name, .slice A1 n1 c1, .slice A2 n2 c2, .slice A3 n3 c3, .slice A4 n4 c4, .slice A5 n5 c5]
 cases hN : nameB x.name
 ·have HN := Lib.hid hN
  clear hN
  go_enter Tryz.func49, Tryz.ntmps49
  go_wp2_with fail
  refine (implIsName _ _ HNM.out).mono ?_
  rintro e w1 ⟨rfl, rfl⟩
  rw [HN.out]
  go_wp2_with fail
  go_ret
  exact ⟨retB (by unfold tableB; rw [HN.out]; rfl), hb0⟩
 have HN := Lib.hid hN
 clear hN
 cases hC : colsB x.cols
 ·have HC := Lib.hid hC
  clear hC
  go_enter Tryz.func49, Tryz.ntmps49
  go_wp2_with fail
  refine (implIsName _ _ HNM.out).mono ?_
  rintro e w1 ⟨rfl, rfl⟩
  rw [HN.out]
  go_wp2_with fail
  refine (implColsOk A1 n1 c1 x.cols ok _ (h1.below ClR.stays hb0) HS1.out).mono ?_
  rintro e w2 ⟨rfl, hq2⟩
  have hb2 := hb0.trans (hq2.mono hb0.size)
  have r2 := r0.below hq2
  obtain ⟨⟨x2_0, x2_1, x2_2, x2_3, x2_4, x2_5⟩, -⟩ := r2.all6
  rw [HC.out]
  go_wp2_with fail
  go_ret
  exact ⟨retB (by unfold tableB; rw [HN.out, HC.out]; rfl), hb2⟩
 have HC := Lib.hid hC
 clear hC
 cases hK : keyB x.cols x.key
 ·have HK := Lib.hid hK
  clear hK
  go_enter Tryz.func49, Tryz.ntmps49
  go_wp2_with fail
  refine (implIsName _ _ HNM.out).mono ?_
  rintro e w1 ⟨rfl, rfl⟩
  rw [HN.out]
  go_wp2_with fail
  refine (implColsOk A1 n1 c1 x.cols ok _ (h1.below ClR.stays hb0) HS1.out).mono ?_
  rintro e w2 ⟨rfl, hq2⟩
  have hb2 := hb0.trans (hq2.mono hb0.size)
  have r2 := r0.below hq2
  obtain ⟨⟨x2_0, x2_1, x2_2, x2_3, x2_4, x2_5⟩, -⟩ := r2.all6
  rw [HC.out]
  go_wp2_with fail
  refine (implKeyOk A1 A2 n1 c1 n2 c2 _ _ _ _ x.cols x.key ok _ (h1.below ClR.stays hb2) (h2.below IntR.stays hb2) HL1.out HL2.out).mono ?_
  rintro e w3 ⟨rfl, hq3⟩
  have hb3 := hb2.trans (hq3.mono hb2.size)
  have r3 := r2.below hq3
  obtain ⟨⟨x3_0, x3_1, x3_2, x3_3, x3_4, x3_5⟩, -⟩ := r3.all6
  rw [HK.out]
  go_wp2_with fail
  go_ret
  exact ⟨retB (by unfold tableB; rw [HN.out, HC.out, HK.out]; rfl), hb3⟩
 have HK := Lib.hid hK
 clear hK
 cases hU : uqsB x.cols x.uniqs
 ·have HU := Lib.hid hU
  clear hU
  go_enter Tryz.func49, Tryz.ntmps49
  go_wp2_with fail
  refine (implIsName _ _ HNM.out).mono ?_
  rintro e w1 ⟨rfl, rfl⟩
  rw [HN.out]
  go_wp2_with fail
  refine (implColsOk A1 n1 c1 x.cols ok _ (h1.below ClR.stays hb0) HS1.out).mono ?_
  rintro e w2 ⟨rfl, hq2⟩
  have hb2 := hb0.trans (hq2.mono hb0.size)
  have r2 := r0.below hq2
  obtain ⟨⟨x2_0, x2_1, x2_2, x2_3, x2_4, x2_5⟩, -⟩ := r2.all6
  rw [HC.out]
  go_wp2_with fail
  refine (implKeyOk A1 A2 n1 c1 n2 c2 _ _ _ _ x.cols x.key ok _ (h1.below ClR.stays hb2) (h2.below IntR.stays hb2) HL1.out HL2.out).mono ?_
  rintro e w3 ⟨rfl, hq3⟩
  have hb3 := hb2.trans (hq3.mono hb2.size)
  have r3 := r2.below hq3
  obtain ⟨⟨x3_0, x3_1, x3_2, x3_3, x3_4, x3_5⟩, -⟩ := r3.all6
  rw [HK.out]
  go_wp2_with fail
  refine (implUniquesOk A1 A3 n1 c1 n3 c3 _ _ _ _ x.cols x.uniqs ok _ (h1.below ClR.stays hb3) (h3.below UqR.stays hb3) HL1.out HS3.out).mono ?_
  rintro e w4 ⟨rfl, hq4⟩
  have hb4 := hb3.trans (hq4.mono hb3.size)
  have r4 := r3.below hq4
  obtain ⟨⟨x4_0, x4_1, x4_2, x4_3, x4_4, x4_5⟩, -⟩ := r4.all6
  rw [HU.out]
  go_wp2_with fail
  go_ret
  exact ⟨retB (by unfold tableB; rw [HN.out, HC.out, HK.out, HU.out]; rfl), hb4⟩
 have HU := Lib.hid hU
 clear hU
 cases hE : cksB x.cols x.checks
 ·have HE := Lib.hid hE
  clear hE
  go_enter Tryz.func49, Tryz.ntmps49
  go_wp2_with fail
  refine (implIsName _ _ HNM.out).mono ?_
  rintro e w1 ⟨rfl, rfl⟩
  rw [HN.out]
  go_wp2_with fail
  refine (implColsOk A1 n1 c1 x.cols ok _ (h1.below ClR.stays hb0) HS1.out).mono ?_
  rintro e w2 ⟨rfl, hq2⟩
  have hb2 := hb0.trans (hq2.mono hb0.size)
  have r2 := r0.below hq2
  obtain ⟨⟨x2_0, x2_1, x2_2, x2_3, x2_4, x2_5⟩, -⟩ := r2.all6
  rw [HC.out]
  go_wp2_with fail
  refine (implKeyOk A1 A2 n1 c1 n2 c2 _ _ _ _ x.cols x.key ok _ (h1.below ClR.stays hb2) (h2.below IntR.stays hb2) HL1.out HL2.out).mono ?_
  rintro e w3 ⟨rfl, hq3⟩
  have hb3 := hb2.trans (hq3.mono hb2.size)
  have r3 := r2.below hq3
  obtain ⟨⟨x3_0, x3_1, x3_2, x3_3, x3_4, x3_5⟩, -⟩ := r3.all6
  rw [HK.out]
  go_wp2_with fail
  refine (implUniquesOk A1 A3 n1 c1 n3 c3 _ _ _ _ x.cols x.uniqs ok _ (h1.below ClR.stays hb3) (h3.below UqR.stays hb3) HL1.out HS3.out).mono ?_
  rintro e w4 ⟨rfl, hq4⟩
  have hb4 := hb3.trans (hq4.mono hb3.size)
  have r4 := r3.below hq4
  obtain ⟨⟨x4_0, x4_1, x4_2, x4_3, x4_4, x4_5⟩, -⟩ := r4.all6
  rw [HU.out]
  go_wp2_with fail
  refine (implChecksOk A1 A4 n1 c1 n4 c4 _ _ _ _ x.cols x.checks ok _ (h1.below ClR.stays hb4) (h4.below CkR.stays hb4) HL1.out HS4.out).mono ?_
  rintro e w5 ⟨rfl, hq5⟩
  have hb5 := hb4.trans (hq5.mono hb4.size)
  have r5 := r4.below hq5
  obtain ⟨⟨x5_0, x5_1, x5_2, x5_3, x5_4, x5_5⟩, -⟩ := r5.all6
  rw [HE.out]
  go_wp2_with fail
  go_ret
  exact ⟨retB (by unfold tableB; rw [HN.out, HC.out, HK.out, HU.out, HE.out]; rfl), hb5⟩
 have HE := Lib.hid hE
 clear hE
 cases hF : fksB x.cols x.fks
 ·have HF := Lib.hid hF
  clear hF
  go_enter Tryz.func49, Tryz.ntmps49
  go_wp2_with fail
  refine (implIsName _ _ HNM.out).mono ?_
  rintro e w1 ⟨rfl, rfl⟩
  rw [HN.out]
  go_wp2_with fail
  refine (implColsOk A1 n1 c1 x.cols ok _ (h1.below ClR.stays hb0) HS1.out).mono ?_
  rintro e w2 ⟨rfl, hq2⟩
  have hb2 := hb0.trans (hq2.mono hb0.size)
  have r2 := r0.below hq2
  obtain ⟨⟨x2_0, x2_1, x2_2, x2_3, x2_4, x2_5⟩, -⟩ := r2.all6
  rw [HC.out]
  go_wp2_with fail
  refine (implKeyOk A1 A2 n1 c1 n2 c2 _ _ _ _ x.cols x.key ok _ (h1.below ClR.stays hb2) (h2.below IntR.stays hb2) HL1.out HL2.out).mono ?_
  rintro e w3 ⟨rfl, hq3⟩
  have hb3 := hb2.trans (hq3.mono hb2.size)
  have r3 := r2.below hq3
  obtain ⟨⟨x3_0, x3_1, x3_2, x3_3, x3_4, x3_5⟩, -⟩ := r3.all6
  rw [HK.out]
  go_wp2_with fail
  refine (implUniquesOk A1 A3 n1 c1 n3 c3 _ _ _ _ x.cols x.uniqs ok _ (h1.below ClR.stays hb3) (h3.below UqR.stays hb3) HL1.out HS3.out).mono ?_
  rintro e w4 ⟨rfl, hq4⟩
  have hb4 := hb3.trans (hq4.mono hb3.size)
  have r4 := r3.below hq4
  obtain ⟨⟨x4_0, x4_1, x4_2, x4_3, x4_4, x4_5⟩, -⟩ := r4.all6
  rw [HU.out]
  go_wp2_with fail
  refine (implChecksOk A1 A4 n1 c1 n4 c4 _ _ _ _ x.cols x.checks ok _ (h1.below ClR.stays hb4) (h4.below CkR.stays hb4) HL1.out HS4.out).mono ?_
  rintro e w5 ⟨rfl, hq5⟩
  have hb5 := hb4.trans (hq5.mono hb4.size)
  have r5 := r4.below hq5
  obtain ⟨⟨x5_0, x5_1, x5_2, x5_3, x5_4, x5_5⟩, -⟩ := r5.all6
  rw [HE.out]
  go_wp2_with fail
  refine (implFksOk A1 A5 n1 c1 n5 c5 _ _ _ _ x.cols x.fks ok _ (h1.below ClR.stays hb5) (h5.below FkR.stays hb5) HL1.out HS5.out).mono ?_
  rintro e w6 ⟨rfl, hq6⟩
  have hb6 := hb5.trans (hq6.mono hb5.size)
  have r6 := r5.below hq6
  obtain ⟨⟨x6_0, x6_1, x6_2, x6_3, x6_4, x6_5⟩, -⟩ := r6.all6
  rw [HF.out]
  go_wp2_with fail
  go_ret
  exact ⟨retB (by unfold tableB; rw [HN.out, HC.out, HK.out, HU.out, HE.out, HF.out]; rfl), hb6⟩
 have HF := Lib.hid hF
 clear hF
 go_enter Tryz.func49, Tryz.ntmps49
 go_wp2_with fail
 refine (implIsName _ _ HNM.out).mono ?_
 rintro e w1 ⟨rfl, rfl⟩
 rw [HN.out]
 go_wp2_with fail
 refine (implColsOk A1 n1 c1 x.cols ok _ (h1.below ClR.stays hb0) HS1.out).mono ?_
 rintro e w2 ⟨rfl, hq2⟩
 have hb2 := hb0.trans (hq2.mono hb0.size)
 have r2 := r0.below hq2
 obtain ⟨⟨x2_0, x2_1, x2_2, x2_3, x2_4, x2_5⟩, -⟩ := r2.all6
 rw [HC.out]
 go_wp2_with fail
 refine (implKeyOk A1 A2 n1 c1 n2 c2 _ _ _ _ x.cols x.key ok _ (h1.below ClR.stays hb2) (h2.below IntR.stays hb2) HL1.out HL2.out).mono ?_
 rintro e w3 ⟨rfl, hq3⟩
 have hb3 := hb2.trans (hq3.mono hb2.size)
 have r3 := r2.below hq3
 obtain ⟨⟨x3_0, x3_1, x3_2, x3_3, x3_4, x3_5⟩, -⟩ := r3.all6
 rw [HK.out]
 go_wp2_with fail
 refine (implUniquesOk A1 A3 n1 c1 n3 c3 _ _ _ _ x.cols x.uniqs ok _ (h1.below ClR.stays hb3) (h3.below UqR.stays hb3) HL1.out HS3.out).mono ?_
 rintro e w4 ⟨rfl, hq4⟩
 have hb4 := hb3.trans (hq4.mono hb3.size)
 have r4 := r3.below hq4
 obtain ⟨⟨x4_0, x4_1, x4_2, x4_3, x4_4, x4_5⟩, -⟩ := r4.all6
 rw [HU.out]
 go_wp2_with fail
 refine (implChecksOk A1 A4 n1 c1 n4 c4 _ _ _ _ x.cols x.checks ok _ (h1.below ClR.stays hb4) (h4.below CkR.stays hb4) HL1.out HS4.out).mono ?_
 rintro e w5 ⟨rfl, hq5⟩
 have hb5 := hb4.trans (hq5.mono hb4.size)
 have r5 := r4.below hq5
 obtain ⟨⟨x5_0, x5_1, x5_2, x5_3, x5_4, x5_5⟩, -⟩ := r5.all6
 rw [HE.out]
 go_wp2_with fail
 refine (implFksOk A1 A5 n1 c1 n5 c5 _ _ _ _ x.cols x.fks ok _ (h1.below ClR.stays hb5) (h5.below FkR.stays hb5) HL1.out HS5.out).mono ?_
 rintro e w6 ⟨rfl, hq6⟩
 have hb6 := hb5.trans (hq6.mono hb5.size)
 have r6 := r5.below hq6
 obtain ⟨⟨x6_0, x6_1, x6_2, x6_3, x6_4, x6_5⟩, -⟩ := r6.all6
 rw [HF.out]
 go_wp2_with fail
 go_ret
 exact ⟨retB (by unfold tableB; rw [HN.out, HC.out, HK.out, HU.out, HE.out, HF.out]; rfl), hb6⟩
def kindAt (cols : List Cl) (i : Int) : Int := (cols[i.toNat]?.map Cl.kind).getD 0
def kindV (c1 c2 : List Cl) (p : Int × Int) : Bool := kindAt c1 p.1 == kindAt c2 p.2
def sameB (c1 : List Cl) (l1 : List Int) (c2 : List Cl) (l2 : List Int) : Bool := decide (l1.length = l2.length) && (l1.zip l2).all (kindV c1 c2)
def leadB (s : List Tb) (x : Tb) (f : Fk) : Bool := decide (atN (s.map Tb.name) f.table ≠ -1) && (match s[(atN (s.map Tb.name) f.table).toNat]? with | some o => sameB x.cols f.cols o.cols o.key | none => false)
def leadsB (s : List Tb) (x : Tb) : Bool := x.fks.all (leadB s x)
def schemaB (s : List Tb) : Bool := decide (s.length ≤ 5) && (s.all tableB && (uniqGo [] (s.map Tb.name) && s.all (leadsB s)))
theorem kindAt_nat {cols : List Cl} {j : Nat} (h : j < cols.length) : kindAt cols j = cols[j].kind := by
 unfold kindAt; simp [List.getElem?_eq_getElem h]
theorem PlacesIn.below {w w' : World} {b : Nat} {names : List ByteArray} (h : PlacesIn w b names) (hb : Below w.heap.size w w') : PlacesIn w' b names :=
 h.kept (row := none) ⟨hb.os, hb.tape, hb.output, hb.size, fun k hk _ => hb.block k hk⟩ (by simp)
set_option maxRecDepth 100000 in
set_option maxHeartbeats 1000000 in
theorem implSameKinds (A1 AK B1 BK : Option Addr) (n1 c1 nK cK m1 d1 mK dK : Nat) (v0 v2 v3 v4 v5 u0 u2 u3 u4 u5 : Value) (cols1 cols2 : List Cl) (l1 l2 : List Int) (ok : Nat → Prop) (w : World)
  (h1 : Sl ClR 6 ok w A1 n1 cols1) (hk1 : Sl IntR 1 ok w AK nK l1) (h2 : Sl ClR 6 ok w B1 m1 cols2) (hk2 : Sl IntR 1 ok w BK mK l2) (hin1 : ∀ x ∈ l1, 0 ≤ x ∧ x < cols1.length) (hin2 : ∀ x ∈ l2, 0 ≤ x ∧ x < cols2.length)
  (hn1 : n1 ≤ 1048576) (hnK : nK ≤ 1048576) (hm1 : m1 ≤ 1048576) (hmK : mK ≤ 1048576) :
  Calls Tryz.prog 74 #[.agg #[v0, .slice A1 n1 c1, v2, v3, v4, v5], .slice AK nK cK, .agg #[u0, .slice B1 m1 d1, u2, u3, u4, u5], .slice BK mK dK] w fun e w' => e = .returned (.bool (sameB cols1 l1 cols2 l2)) ∧ Below w.heap.size w w' := by
 obtain rfl : cols1.length = n1 := h1.1
 obtain rfl : cols2.length = m1 := h2.1
 obtain rfl : l1.length = nK := hk1.1
 obtain rfl : l2.length = mK := hk2.1
 have HI1 := Lib.hid hin1
 have HI2 := Lib.hid hin2
 clear hin1 hin2
 have hb0 := ((Below.refl w.heap.size w).alloc (Nat.le_refl _) (.cells #[v0, .slice A1 cols1.length c1, v2, v3, v4, v5] 42)).alloc (by simp) (.cells #[u0, .slice B1 cols2.length d1, u2, u3, u4, u5] 42)
 have r1 := (Row.new w 42 #[v0, .slice A1 cols1.length c1, v2, v3, v4, v5]).alloc (.cells #[u0, .slice B1 cols2.length d1, u2, u3, u4, u5] 42)
 have r2 := Row.newAt (w.alloc (.cells #[v0, .slice A1 cols1.length c1, v2, v3, v4, v5] 42)) 42 #[u0, .slice B1 cols2.length d1, u2, u3, u4, u5] (w.heap.size + 1) (by simp)
 cases hl : (l1.length == l2.length)
 ·have hl' : ¬ ((l1.length : Int) = l2.length) := by have := beq_eq_false_iff_ne.1 hl; omega
  have HF := Lib.hid (show sameB cols1 l1 cols2 l2 = false by unfold sameB; rw [decide_eq_false (beq_eq_false_iff_ne.1 hl)]; rfl)
  clear hl
  go_enter Tryz.func74, Tryz.ntmps74
  go_wp2
  go_ret
  exact ⟨retB HF.out.symm, hb0⟩
 have hlen : l1.length = l2.length := by simpa using hl
 have hl' : (l1.length : Int) = l2.length := by omega
 have hz : (l1.zip l2).length = l1.length := by simp [hlen]
 have HZ := Lib.hid hz
 have HL := Lib.hid hlen
 have HE := Lib.hid (show sameB cols1 l1 cols2 l2 = (l1.zip l2).all (kindV cols1 cols2) by unfold sameB; rw [decide_eq_true hlen]; rfl)
 clear hl hz hlen
 go_enter Tryz.func74, Tryz.ntmps74
 go_wp2_with fail
 clear hl'
 generalize (w.alloc (.cells #[v0, .slice A1 cols1.length c1, v2, v3, v4, v5] 42)).alloc (.cells #[u0, .slice B1 cols2.length d1, u2, u3, u4, u5] 42) = x0 at *
 go_loopw [17] (fun i wr => ∃ k : Nat, k ≤ l1.length ∧ i = .int .i64 k ∧ Hid (((l1.zip l2).take k).all (kindV cols1 cols2) = true) ∧ Row wr w.heap.size 42 #[v0, .slice A1 cols1.length c1, v2, v3, v4, v5] ∧ Row wr (w.heap.size + 1) 42 #[u0, .slice B1 cols2.length d1, u2, u3, u4, u5] ∧ Below w.heap.size w wr) (fun i _ => l1.length - (intOf i).toNat)
 case atStart => exact ⟨0, by omega, rfl, Lib.hid (by simp), r1, r2, hb0⟩
 case round =>
  obtain ⟨k, hk, rfl, hall, hr1, hr2, hb⟩ := hrel
  by_cases hlt : k < l1.length
  ·have hlt2 : k < l2.length := by have := HL.out; omega
   obtain ⟨⟨a0, a1, a2, a3, a4, a5⟩, -⟩ := hr1.all6
   obtain ⟨⟨z0, z1, z2, z3, z4, z5⟩, -⟩ := hr2.all6
   obtain ⟨bk, offk, -, rfl, p0⟩ := IntR.at_ (hk1.below IntR.stays hb) hlt
   obtain ⟨bl, offl, -, rfl, p1⟩ := IntR.at_ (hk2.below IntR.stays hb) hlt2
   have hi1 := HI1.out _ (List.getElem_mem hlt)
   have hi2 := HI2.out _ (List.getElem_mem hlt2)
   have hsn := all_take (kindV cols1 cols2) (l1.zip l2) k (by rw [HZ.out]; exact hlt)
   have hno := fun hf => all_no (kindV cols1 cols2) (l1.zip l2) k (by rw [HZ.out]; exact hlt) hf
   obtain ⟨j1, hj1⟩ : ∃ j : Nat, l1[k] = (j : Int) := ⟨l1[k].toNat, by omega⟩
   obtain ⟨j2, hj2⟩ : ∃ j : Nat, l2[k] = (j : Int) := ⟨l2[k].toNat, by omega⟩
   rw [hj1] at p0 hi1
   rw [hj2] at p1 hi2
   have hjl1 : j1 < cols1.length := by omega
   have hjl2 : j2 < cols2.length := by omega
   have eg : kindV cols1 cols2 ((l1.zip l2)[k]'(by rw [HZ.out]; exact hlt)) = (cols1[j1].kind == cols2[j2].kind) := by
    rw [List.getElem_zip]; unfold kindV; simp only [hj1, hj2, kindAt_nat hjl1, kindAt_nat hjl2]
   rw [hall.out, Bool.true_and, eg] at hsn
   rw [eg] at hno
   obtain ⟨b, off, -, rfl, q0, q1, q2, q3, q4, q5⟩ := ClR.at_ (h1.below ClR.stays hb) hjl1
   obtain ⟨b', off', -, rfl, y0, y1, y2, y3, y4, y5⟩ := ClR.at_ (h2.below ClR.stays hb) hjl2
   have i0 : (0 : Int) ≤ k := by omega
   have i1 : (k : Int) < l1.length := by omega
   have i2 : (k : Int) < l2.length := by omega
   have i3 : (0 : Int) ≤ j1 := by omega
   have i4 : (j1 : Int) < cols1.length := by omega
   have i5 : (0 : Int) ≤ j2 := by omega
   have i6 : (j2 : Int) < cols2.length := by omega
   clear eg hj1 hj2 hi1 hi2
   cases hc : (cols1[j1].kind == cols2[j2].kind)
   ·have HF := Lib.hid (show sameB cols1 l1 cols2 l2 = false by rw [HE.out]; exact hno hc)
    have hc2 : (cols1[j1].kind != cols2[j2].kind) = true := by rw [bne, hc]; rfl
    clear hsn hno hall
    go_wp2_with fail
    go_quiet (fail)
    go_wp2_with fail
    go_ret
    exact ⟨retB HF.out.symm, below_drewN hb _⟩
   ·have HA := Lib.hid (hsn.trans hc)
    have hc2 : (cols1[j1].kind != cols2[j2].kind) = false := by rw [bne, hc]; rfl
    clear hsn hno hall
    go_wp2_with fail
    go_quiet (fail)
    go_wp2_with fail
    go_roundw
    case rel => exact ⟨k + 1, by omega, by go_num, Lib.hid HA.out, hr1.drewN _, hr2.drewN _, below_drewN hb _⟩
    case measure => simp [intOf]; omega
  ·have e : (l1.zip l2).take k = l1.zip l2 := List.take_of_length_le (by rw [HZ.out]; omega)
   have h1 := hall.out
   rw [e] at h1
   have HF := Lib.hid (show sameB cols1 l1 cols2 l2 = true by rw [HE.out]; exact h1)
   have i3 : ¬ (k : Int) < l2.length := by have := HL.out; omega
   clear e h1 hall
   go_wp2
   go_ret
   exact ⟨retB HF.out.symm, hb⟩
theorem fk_cols {x : Tb} (hx : tableB x = true) {k : Nat} (hlt : k < x.fks.length) : ∀ y ∈ x.fks[k].cols, 0 ≤ y ∧ y < x.cols.length := by
 unfold tableB fksB at hx
 simp only [Bool.and_eq_true, decide_eq_true_eq] at hx
 have := List.all_eq_true.1 hx.2.2.2.2.2.2 _ (List.getElem_mem hlt)
 unfold fkB at this
 rw [Bool.and_eq_true] at this
 exact (colsInB_len this.1).2
theorem key_cols {x : Tb} (hx : tableB x = true) : ∀ y ∈ x.key, 0 ≤ y ∧ y < x.cols.length := by
 unfold tableB keyB at hx
 simp only [Bool.and_eq_true] at hx
 exact (colsInB_len hx.2.2.1.1).2
set_option maxRecDepth 100000 in
set_option maxHeartbeats 2000000 in
theorem implFksLead (s : List Tb) (x : Tb) (AS : Option Addr) (nS cS bm : Nat) (A1 : Option Addr) (n1 c1 : Nat) (A2 : Option Addr) (n2 c2 : Nat) (A3 : Option Addr) (n3 c3 : Nat) (A4 : Option Addr) (n4 c4 : Nat) (A5 : Option Addr) (n5 c5 : Nat) (ok : Nat → Prop) (w : World)
  (hs : Sl TbR 6 ok w AS nS s) (hp : PlacesIn w bm (s.map Tb.name)) (h1 : Sl ClR 6 ok w A1 n1 x.cols) (h5 : Sl FkR 5 ok w A5 n5 x.fks) (hx : tableB x = true) (hall : s.all tableB = true) (hsz : szL Tb.sz s ≤ 1048576) (hxs : x.sz ≤ 1048576) :
  Calls Tryz.prog 51 #[.slice AS nS cS, .map (some bm), .agg #[.string x.name, .slice A1 n1 c1, .slice A2 n2 c2, .slice A3 n3 c3, .slice A4 n4 c4, .slice A5 n5 c5]] w fun e w' => e = .returned (.bool (leadsB s x)) ∧ Below w.heap.size w w' := by
 obtain rfl : s.length = nS := hs.1
 obtain rfl : x.fks.length = n5 := h5.1
 have e1 := h1.1
 have HN1 := Lib.hid (show n1 ≤ 1048576 by unfold Tb.sz szL at hxs; omega)
 have hn5 : x.fks.length ≤ 1048576 := by unfold Tb.sz szL at hxs; omega
 have HXS := Lib.hid (show szL Fk.sz x.fks ≤ 1048576 by unfold Tb.sz at hxs; omega)
 have HSZ := Lib.hid hsz
 have HX := Lib.hid hx
 have HALL := Lib.hid hall
 clear hsz hxs hx hall e1
 have hb0 := (Below.refl w.heap.size w).alloc (Nat.le_refl _) (.cells #[.string x.name, .slice A1 n1 c1, .slice A2 n2 c2, .slice A3 n3 c3, .slice A4 n4 c4, .slice A5 x.fks.length c5] 42)
 have r0 := Row.new w 42 #[.string x.name, .slice A1 n1 c1, .slice A2 n2 c2, .slice A3 n3 c3, .slice A4 n4 c4, .slice A5 x.fks.length c5]
 have hp0 := hp.alloc (.cells #[.string x.name, .slice A1 n1 c1, .slice A2 n2 c2, .slice A3 n3 c3, .slice A4 n4 c4, .slice A5 x.fks.length c5] 42)
 go_enter Tryz.func51, Tryz.ntmps51
 go_wp2_with fail
 generalize w.alloc (.cells #[.string x.name, .slice A1 n1 c1, .slice A2 n2 c2, .slice A3 n3 c3, .slice A4 n4 c4, .slice A5 x.fks.length c5] 42) = x0 at *
 go_loopw [14] (fun i wr => ∃ k : Nat, k ≤ x.fks.length ∧ i = .int .i64 k ∧ Hid ((x.fks.take k).all (leadB s x) = true) ∧ Row wr w.heap.size 42 #[.string x.name, .slice A1 n1 c1, .slice A2 n2 c2, .slice A3 n3 c3, .slice A4 n4 c4, .slice A5 x.fks.length c5] ∧ PlacesIn wr bm (s.map Tb.name) ∧ Below w.heap.size w wr) (fun i _ => x.fks.length - (intOf i).toNat)
 case atStart => exact ⟨0, by omega, rfl, Lib.hid (by simp), r0, hp0, hb0⟩
 case round =>
  clear hp hp0 r0 hb0
  obtain ⟨k, hk, rfl, hall, hr, hp, hb⟩ := hrel
  by_cases hlt : k < x.fks.length
  ·obtain ⟨b, off, A9, n9, c9, -, rfl, q0, q1, q2, q3, q4, hfc, -⟩ := FkR.at_ (h5.below FkR.stays hb) hlt
   obtain rfl : x.fks[k].cols.length = n9 := hfc.1
   have hsn := all_take (leadB s x) x.fks k hlt
   rw [hall.out, Bool.true_and] at hsn
   have hno := fun hf : leadB s x x.fks[k] = false => show leadsB s x = false from all_no (leadB s x) x.fks k hlt hf
   have hfk : x.fks[k].cols.length ≤ 1048576 ∧ x.fks[k].table.size ≤ 1048576 := by have := HXS.out; have := sum_mem_le Fk.sz x.fks k hlt; unfold szL at *; simp only [Fk.sz] at *; omega
   have HN9 := Lib.hid hfk.1
   have HTB := Lib.hid (show x.fks[k].table.size ≤ maxLen by have := hfk.2; unfold maxLen; omega)
   have HI1 := Lib.hid (show ∀ y ∈ x.fks[k].cols, 0 ≤ y ∧ y < x.cols.length from fk_cols HX.out hlt)
   clear hfk
   generalize x.fks[k] = f at *
   have hbx := (Below.refl wr.heap.size wr).alloc (Nat.le_refl _) (.cells #[.slice A9 f.cols.length c9, .string f.table, .int .i64 f.del, .int .i64 f.upd, .bool f.dfr] 80)
   have hba := hb.trans (hbx.mono hb.size)
   have rf := Row.new wr 80 #[.slice A9 f.cols.length c9, .string f.table, .int .i64 f.del, .int .i64 f.upd, .bool f.dfr]
   have hr1 := hr.below hbx
   have hp1 := hp.below hbx
   obtain ⟨⟨f0, f1, f2, f3, f4⟩, -⟩ := rf.five
   obtain ⟨⟨x0, x1, x2, x3, x4, x5⟩, -⟩ := hr1.all6
   obtain ⟨D, m1', m2', m3, m4, m5⟩ := id hp1
   have hh := m3 f.table
   clear m5 m3 m2'
   by_cases hno1 : atN (s.map Tb.name) f.table = -1
   ·rw [decide_eq_false (by simp [hno1])] at hh
    have HH := Lib.hid hh
    have HF := Lib.hid (hno (by unfold leadB; rw [decide_eq_false (by simp [hno1])]; rfl))
    clear hh hno1 hno hsn hall m4
    go_wp2_with (first
     | (at_lookup; refine wpList_lookup_own_ok_int _ rfl _ _ 98 rfl 9 2 .i64 lawS Tryz.underlying98 Tryz.underlying2 (zeroI _) bm _ D rfl m1' _ _ rfl (keyS_of f.table HTB.out) ?_; intro c hat hwc; rw [HH.out]))
    clear hat hwc m1'
    go_quiet (fail)
    go_wp2_with fail
    go_ret
    exact ⟨retB HF.out.symm, below_drewN hba _⟩
   rw [decide_eq_true hno1] at hh
   have HH := Lib.hid hh
   obtain ⟨j, hj, hjl⟩ : ∃ j : Nat, atN (s.map Tb.name) f.table = (j : Int) ∧ j < s.length := by
    rcases atN_rng (s.map Tb.name) f.table with h | h
    ·exact absurd h hno1
    ·rw [List.length_map] at h; exact ⟨(atN (s.map Tb.name) f.table).toNat, by omega, by omega⟩
   have hm4 := m4 f.table hno1
   rw [hj] at hm4
   have HA := Lib.hid hm4
   have hld : leadB s x f = sameB x.cols f.cols s[j].cols s[j].key := by
    unfold leadB; rw [decide_eq_true hno1, hj]; simp [List.getElem?_eq_getElem hjl]
   rw [hld] at hsn hno
   obtain ⟨bs, offs, B1, m1, d1, B2, m2, d2, B3, m3, d3, B4, m4', d4, B5, m5, d5, -, rfl, y0, y1, y2, y3, y4, y5, hs1, hs2, -, -, -, -⟩ := TbR.at_ (hs.below TbR.stays hba) hjl
   have hx1 := h1.below ClR.stays hba
   have hfc := hfc.below IntR.stays hbx
   have hto : tableB s[j] = true := List.all_eq_true.1 HALL.out _ (List.getElem_mem hjl)
   have HI2 := Lib.hid (show ∀ y ∈ s[j].key, 0 ≤ y ∧ y < s[j].cols.length from key_cols hto)
   have hsj : m1 ≤ 1048576 ∧ m2 ≤ 1048576 := by have := HSZ.out; have := sum_mem_le Tb.sz s j hjl; have := hs1.1; have := hs2.1; unfold szL at *; simp only [Tb.sz] at *; unfold szL at *; omega
   have HM1 := Lib.hid hsj.1
   have HM2 := Lib.hid hsj.2
   have i0 : (0 : Int) ≤ j := by omega
   have i1 : (j : Int) < s.length := by omega
   clear hh hno1 hall m4 hm4 hj hld hto hsj
   cases hsm : sameB x.cols f.cols s[j].cols s[j].key
   ·have HSM := Lib.hid hsm
    have HF := Lib.hid (hno hsm)
    clear hsn hno hsm
    go_wp2_with (first
     | (at_lookup; refine wpList_lookup_own_ok_int _ rfl _ _ 98 rfl 9 2 .i64 lawS Tryz.underlying98 Tryz.underlying2 (zeroI _) bm _ D rfl m1' _ _ rfl (keyS_of f.table HTB.out) ?_; intro c hat hwc; rw [HH.out]))
    obtain rfl : c = (j : Int) := by have := HA.out; rw [hat] at this; simpa using this
    clear hat hwc m1'
    generalize wr.alloc (.cells #[.slice A9 f.cols.length c9, .string f.table, .int .i64 f.del, .int .i64 f.upd, .bool f.dfr] 80) = z1 at *
    refine wp_region_noPanic ?_
    refine wp_region_held_drew (S := fun w' => w'.cell? ⟨w.heap.size, 0, none⟩ = some (.string x.name) ∧ w'.cell? ⟨w.heap.size, 1, none⟩ = some (.slice A1 n1 c1) ∧ w'.cell? ⟨w.heap.size, 2, none⟩ = some (.slice A2 n2 c2) ∧ w'.cell? ⟨w.heap.size, 3, none⟩ = some (.slice A3 n3 c3) ∧ w'.cell? ⟨w.heap.size, 4, none⟩ = some (.slice A4 n4 c4) ∧ w'.cell? ⟨w.heap.size, 5, none⟩ = some (.slice (some ⟨b,off,none⟩) x.fks.length c5) ∧ w'.cell? ⟨wr.heap.size, 0, none⟩ = some (.slice A9 f.cols.length c9) ∧ w'.cell? ⟨bs, offs + j * 6, none⟩ = some (.string s[j].name) ∧ w'.cell? ⟨bs, offs + j * 6 + 1, none⟩ = some (.slice B1 m1 d1) ∧ w'.cell? ⟨bs, offs + j * 6 + 2, none⟩ = some (.slice B2 m2 d2) ∧ w'.cell? ⟨bs, offs + j * 6 + 3, none⟩ = some (.slice B3 m3 d3) ∧ w'.cell? ⟨bs, offs + j * 6 + 4, none⟩ = some (.slice B4 m4' d4) ∧ w'.cell? ⟨bs, offs + j * 6 + 5, none⟩ = some (.slice B5 m5 d5)) (by kernel_rfl) ⟨x0, x1, x2, x3, x4, x5, f0, y0, y1, y2, y3, y4, y5⟩ (fun hHeld => ?_)
    refine tk 0 ?_
    refine tk 1 ?_
    refine tk 2 ?_
    refine tk 3 ?_
    refine tk 4 ?_
    refine tk 5 ?_
    refine tk 6 ?_
    refine tk 7 ?_
    refine tk 8 ?_
    refine tk 9 ?_
    refine tk 10 ?_
    refine tk 11 ?_
    refine tk 12 ?_
    refine tk 13 ?_
    refine tk 14 ?_
    refine wpAnyH_ready (rs := [15]) (by kernel_rfl) (by simp) ?_
    refine AllReadyH.cons rfl (fun K hK => ?_) AllReadyH.nil
    go_simp
    refine (implSameKinds A1 A9 B1 B2 n1 c1 f.cols.length c9 m1 d1 m2 d2 _ _ _ _ _ _ _ _ _ _ x.cols s[j].cols f.cols s[j].key ok _ (hx1.drew ClR.stays) (hfc.drew IntR.stays) (hs1.drew ClR.stays) (hs2.drew IntR.stays) HI1.out HI2.out HN1.out HN9.out HM1.out HM2.out).mono ?_
    rintro e wd ⟨rfl, hqd⟩
    rw [HSM.out]
    go_wp2_with fail
    refine hK.out _ _ ⟨below_keep hqd _ _ hHeld.1, below_keep hqd _ _ hHeld.2.1, below_keep hqd _ _ hHeld.2.2.1, below_keep hqd _ _ hHeld.2.2.2.1, below_keep hqd _ _ hHeld.2.2.2.2.1, below_keep hqd _ _ hHeld.2.2.2.2.2.1, below_keep hqd _ _ hHeld.2.2.2.2.2.2.1, below_keep hqd _ _ hHeld.2.2.2.2.2.2.2.1, below_keep hqd _ _ hHeld.2.2.2.2.2.2.2.2.1, below_keep hqd _ _ hHeld.2.2.2.2.2.2.2.2.2.1, below_keep hqd _ _ hHeld.2.2.2.2.2.2.2.2.2.2.1, below_keep hqd _ _ hHeld.2.2.2.2.2.2.2.2.2.2.2.1, below_keep hqd _ _ hHeld.2.2.2.2.2.2.2.2.2.2.2.2⟩ (fun hHeld => ?_)
    clear hK K
    (try simp only [Act.put, pz0, pz1, pz2, pz3, pz4, pz5])
    refine tk 16 ?_
    refine tk 17 ?_
    refine wpAnyH_done (by kernel_rfl) ?_ _
    refine NoPanic.normal ?_
    have hz := hba.drew.trans (hqd.mono hba.drew.size)
    have rz := hr1.drew.below hqd
    have hpz := hp1.drew.below hqd
    clear hHeld x0 x1 x2 x3 x4 x5 f0 y0 y1 y2 y3 y4 y5
    go_wp2_with fail
    go_ret
    exact ⟨retB HF.out.symm, hz⟩
   ·have HSM := Lib.hid hsm
    have HG := Lib.hid (hsn.trans hsm)
    clear hsn hno hsm
    go_wp2_with (first
     | (at_lookup; refine wpList_lookup_own_ok_int _ rfl _ _ 98 rfl 9 2 .i64 lawS Tryz.underlying98 Tryz.underlying2 (zeroI _) bm _ D rfl m1' _ _ rfl (keyS_of f.table HTB.out) ?_; intro c hat hwc; rw [HH.out]))
    obtain rfl : c = (j : Int) := by have := HA.out; rw [hat] at this; simpa using this
    clear hat hwc m1'
    generalize wr.alloc (.cells #[.slice A9 f.cols.length c9, .string f.table, .int .i64 f.del, .int .i64 f.upd, .bool f.dfr] 80) = z1 at *
    refine wp_region_noPanic ?_
    refine wp_region_held_drew (S := fun w' => w'.cell? ⟨w.heap.size, 0, none⟩ = some (.string x.name) ∧ w'.cell? ⟨w.heap.size, 1, none⟩ = some (.slice A1 n1 c1) ∧ w'.cell? ⟨w.heap.size, 2, none⟩ = some (.slice A2 n2 c2) ∧ w'.cell? ⟨w.heap.size, 3, none⟩ = some (.slice A3 n3 c3) ∧ w'.cell? ⟨w.heap.size, 4, none⟩ = some (.slice A4 n4 c4) ∧ w'.cell? ⟨w.heap.size, 5, none⟩ = some (.slice (some ⟨b,off,none⟩) x.fks.length c5) ∧ w'.cell? ⟨wr.heap.size, 0, none⟩ = some (.slice A9 f.cols.length c9) ∧ w'.cell? ⟨bs, offs + j * 6, none⟩ = some (.string s[j].name) ∧ w'.cell? ⟨bs, offs + j * 6 + 1, none⟩ = some (.slice B1 m1 d1) ∧ w'.cell? ⟨bs, offs + j * 6 + 2, none⟩ = some (.slice B2 m2 d2) ∧ w'.cell? ⟨bs, offs + j * 6 + 3, none⟩ = some (.slice B3 m3 d3) ∧ w'.cell? ⟨bs, offs + j * 6 + 4, none⟩ = some (.slice B4 m4' d4) ∧ w'.cell? ⟨bs, offs + j * 6 + 5, none⟩ = some (.slice B5 m5 d5)) (by kernel_rfl) ⟨x0, x1, x2, x3, x4, x5, f0, y0, y1, y2, y3, y4, y5⟩ (fun hHeld => ?_)
    refine tk 0 ?_
    refine tk 1 ?_
    refine tk 2 ?_
    refine tk 3 ?_
    refine tk 4 ?_
    refine tk 5 ?_
    refine tk 6 ?_
    refine tk 7 ?_
    refine tk 8 ?_
    refine tk 9 ?_
    refine tk 10 ?_
    refine tk 11 ?_
    refine tk 12 ?_
    refine tk 13 ?_
    refine tk 14 ?_
    refine wpAnyH_ready (rs := [15]) (by kernel_rfl) (by simp) ?_
    refine AllReadyH.cons rfl (fun K hK => ?_) AllReadyH.nil
    go_simp
    refine (implSameKinds A1 A9 B1 B2 n1 c1 f.cols.length c9 m1 d1 m2 d2 _ _ _ _ _ _ _ _ _ _ x.cols s[j].cols f.cols s[j].key ok _ (hx1.drew ClR.stays) (hfc.drew IntR.stays) (hs1.drew ClR.stays) (hs2.drew IntR.stays) HI1.out HI2.out HN1.out HN9.out HM1.out HM2.out).mono ?_
    rintro e wd ⟨rfl, hqd⟩
    rw [HSM.out]
    go_wp2_with fail
    refine hK.out _ _ ⟨below_keep hqd _ _ hHeld.1, below_keep hqd _ _ hHeld.2.1, below_keep hqd _ _ hHeld.2.2.1, below_keep hqd _ _ hHeld.2.2.2.1, below_keep hqd _ _ hHeld.2.2.2.2.1, below_keep hqd _ _ hHeld.2.2.2.2.2.1, below_keep hqd _ _ hHeld.2.2.2.2.2.2.1, below_keep hqd _ _ hHeld.2.2.2.2.2.2.2.1, below_keep hqd _ _ hHeld.2.2.2.2.2.2.2.2.1, below_keep hqd _ _ hHeld.2.2.2.2.2.2.2.2.2.1, below_keep hqd _ _ hHeld.2.2.2.2.2.2.2.2.2.2.1, below_keep hqd _ _ hHeld.2.2.2.2.2.2.2.2.2.2.2.1, below_keep hqd _ _ hHeld.2.2.2.2.2.2.2.2.2.2.2.2⟩ (fun hHeld => ?_)
    clear hK K
    (try simp only [Act.put, pz0, pz1, pz2, pz3, pz4, pz5])
    refine tk 16 ?_
    refine tk 17 ?_
    refine wpAnyH_done (by kernel_rfl) ?_ _
    refine NoPanic.normal ?_
    have hz := hba.drew.trans (hqd.mono hba.drew.size)
    have rz := hr1.drew.below hqd
    have hpz := hp1.drew.below hqd
    clear hHeld x0 x1 x2 x3 x4 x5 f0 y0 y1 y2 y3 y4 y5
    go_wp2_with fail
    go_roundw
    case rel => exact ⟨k + 1, by omega, by go_num, Lib.hid HG.out, rz, hpz, hz⟩
    case measure => simp [intOf]; omega
  ·have e : x.fks.take k = x.fks := List.take_of_length_le (by omega)
   have g1 := hall.out
   rw [e] at g1
   have HF := Lib.hid (show leadsB s x = true from g1)
   clear e g1 hall
   go_wp2
   go_ret
   exact ⟨retB HF.out.symm, hb⟩
end Go.Proofs.YteiifabdbkpkiaaGreat
namespace Go.Proofs.YteiifabdbkpkiaaGreat
open Go.RowKit
theorem run_app {P : Program} (w : World) (base : Nat) (t ty e : TypeId) (i : TypeInfo) (z : Value) (size bytes : Nat) (ht : P.underlying t = some (.slice e)) (hi : P.info? e = some i) (hz : i.zero = some z)
  (hsize : i.size = size) (hby : i.bytes = bytes) (hzs : z.cells.size = size) (hsz : 0 < size)
  (b : Addr) (n cp : Nat) (xs : List Value) (hown : w.ownsRow base e size (.slice (some b) n cp) n xs)
  (a : Addr) (m c : Nat) (news : List Value) (hl : news.length = m * size) (hnews : ∀ j u, news[j]? = some u → w.cell? (a.add j) = some u) (h1 : ∀ u ∈ news, u.oneCell' = true)
  (h63 : n + m ≤ maxLen) (hbytes : (n + m) * bytes ≤ 140737488355328) (hbase : base ≤ w.heap.size) :
  ∃ g cap w', (Builtin.append_ #[t, t] ty #[.slice (some b) n cp, .slice (some a) m c]).run P w = .ok (.slice (some ⟨g, 0, none⟩) (n + m) cap) w' ∧ w'.ownsRow base e size (.slice (some ⟨g, 0, none⟩) (n + m) cap) (n + m) (xs ++ news) ∧ w.grownBy w' (some b.block) ∧ base ≤ g := by
 obtain ⟨v', w', hrun, ho, hg, hnil, _⟩ := run_append_own_at (P := P) w base t ty e i z size bytes ht hi hz hsize hby hzs hsz _ n xs hown a m c news hl hnews h1 h63 hbytes hbase
 rcases ho.2 with ⟨rfl, _⟩ | ⟨g, cap, cur, rfl, hbg, _⟩
 ·have := (hnil.1 rfl).1
  cases this
 ·exact ⟨g, cap, w', hrun, ho, hg, hbg⟩
theorem step_app {P : Program} {w : World} {ops : Array Oper} {o : Oper} {a : Act} {K : Act → World → Prop} {Q : Exit → Act → World → Prop} {E : Prop} (hgd : o.guard = none) (s x : Operand) (t : TypeId)
  (ho : o.op = .call { callee := .builtin .append, args := #[s, x], argTypes := #[t, t] })
  (base : Nat) (e : TypeId) (i : TypeInfo) (z : Value) (size bytes : Nat) (ht : P.underlying t = some (.slice e)) (hi : P.info? e = some i) (hz : i.zero = some z)
  (hsize : i.size = size) (hby : i.bytes = bytes) (hzs : z.cells.size = size) (hsz : 0 < size)
  (b : Addr) (n cp : Nat) (xs : List Value) (hs : a.eval s = .slice (some b) n cp) (hown : w.ownsRow base e size (.slice (some b) n cp) n xs)
  (ad : Addr) (m c : Nat) (news : List Value) (hx : a.eval x = .slice (some ad) m c) (hl : news.length = m * size) (hnews : ∀ j u, news[j]? = some u → w.cell? (ad.add j) = some u) (h1 : ∀ u ∈ news, u.oneCell' = true)
  (h63 : n + m ≤ maxLen) (hbytes : (n + m) * bytes ≤ 140737488355328) (hbase : base ≤ w.heap.size)
  (h : ∀ g cap w', w'.ownsRow base e size (.slice (some ⟨g, 0, none⟩) (n + m) cap) (n + m) (xs ++ news) → w.grownBy w' (some b.block) → base ≤ g → K (a.put o.dst (.slice (some ⟨g, 0, none⟩) (n + m) cap)) w') :
  if Region.wanted o (yielded ops a.tmps) = true then Oper.wp P o a w K Q else E := by
 have hw : Region.wanted o (yielded ops a.tmps) = true := by simp [Region.wanted, hgd]
 rw [if_pos hw]
 obtain ⟨g, cap, w', hrun, h2, h3, h4⟩ := run_app (P := P) w base t o.type e i z size bytes ht hi hz hsize hby hzs hsz b n cp xs hown ad m c news hl hnews h1 h63 hbytes hbase
 unfold Oper.wp execOp
 simp only [ho, resolve, invoke, builtin, Sem.run_bind, Sem.run_pure, Result.andThen_ok, List.map_toArray, List.map_cons, List.map_nil, hs, hx, hrun]
 exact h g cap w' h2 h3 h4
theorem cellz_of_owns {w : World} {base : Nat} {e : TypeId} {sz n cap g : Nat} {xs : List Value} {xss : List (List Value)} (h : w.ownsRow base e sz (.slice (some ⟨g, 0, none⟩) n cap) n xs) (hx : xs = xss.flatten) (hn : xss.length = n) (hz : ∀ c ∈ xss, c.length = sz) :
  Cellz w sz (some ⟨g, 0, none⟩) n xss ∧ n ≤ cap ∧ cap ≤ maxLen := by
 rcases h.2 with ⟨e', _⟩ | ⟨g', cap', cur, e', _, hh, h1, h2, h3, h4⟩
 ·cases e'
 ·cases e'
  refine ⟨⟨hn, hz, fun _ => ⟨g, 0, rfl, fun i hi j hj => ?_⟩⟩, h1, h2⟩
  rw [Nat.zero_add, cell_of_row _ _ _ _ _ _ hh]
  have hflat : ∀ (l : List (List Value)) (i j : Nat) (hi : i < l.length) (hj : j < (l[i]).length), (∀ c ∈ l, c.length = sz) → l.flatten[i * sz + j]? = some (l[i])[j] := by
   intro l
   induction l with
   | nil => intro i j hi; simp at hi
   | cons c cs ih =>
    intro i j hi hj hz'
    have hc := hz' c (by simp)
    cases i with
    | zero => simp only [List.getElem_cons_zero] at hj ⊢; simp [List.getElem?_append_left hj, hj]
    | succ i =>
     simp only [List.getElem_cons_succ] at hj ⊢
     rw [List.flatten_cons, List.getElem?_append_right (by rw [hc, Nat.add_mul]; omega), hc, show (i + 1) * sz + j - sz = i * sz + j by rw [Nat.add_mul]; omega]
     exact ih i j (by simpa using hi) hj fun d hd => hz' d (by simp [hd])
  have hf := hflat xss i j hi hj hz
  rw [← hx, ← h4] at hf
  rw [← Array.getElem?_toList]
  rw [List.getElem?_take] at hf
  split at hf
  ·exact hf
  ·cases hf
def OwnVals (w : World) (base g n cp : Nat) (vs : List Vl) : Prop := w.ownsRow base 66 3 (.slice (some ⟨g, 0, none⟩) n cp) n ((vs.map Vl.cells).flatten)
theorem flat3_length (vs : List Vl) : ((vs.map Vl.cells).flatten).length = vs.length * 3 := by
 induction vs with
 | nil => rfl
 | cons v vs ih => simp only [List.map_cons, List.flatten_cons, List.length_append, ih, List.length_cons, Vl.cells, List.length_nil]; omega
theorem own0 {w : World} {base g : Nat} (h : Row w g 66 #[]) (hb : base ≤ g) : OwnVals w base g 0 0 [] :=
 ⟨rfl, .inr ⟨g, 0, #[], rfl, hb, h, Nat.le_refl _, by simp [maxLen], rfl, rfl⟩⟩
theorem OwnVals.vals {w : World} {base g n cp : Nat} {vs : List Vl} (h : OwnVals w base g n cp vs) (hn : vs.length = n) : Vals w (some ⟨g, 0, none⟩) n vs ∧ n ≤ cp ∧ cp ≤ maxLen :=
 cellz_of_owns h rfl (by simpa using hn) (fun c hc => by obtain ⟨v, _, rfl⟩ := List.mem_map.1 hc; rfl)
theorem OwnVals.alloc {w : World} {base g n cp : Nat} {vs : List Vl} (h : OwnVals w base g n cp vs) (o : Obj) : OwnVals (w.alloc o) base g n cp vs := World.ownsRow.alloc h o
theorem vals_one {w : World} {g : Nat} {v : Vl} (h : Row w g 66 #[.int .i64 v.k, .int .i64 v.n, .string v.s]) : Vals w (some ⟨g, 0, none⟩) 1 [v] := by
 obtain ⟨⟨c0, c1, c2⟩, -⟩ := h.three
 refine ⟨rfl, by simp [Vl.cells], fun _ => ⟨g, 0, rfl, fun i hi j hj => ?_⟩⟩
 have hi0 : i = 0 := by simp at hi; omega
 subst hi0
 have hj3 : j < 3 := by simpa [Vl.cells] using hj
 have : j = 0 ∨ j = 1 ∨ j = 2 := by omega
 rcases this with rfl | rfl | rfl <;> simpa [Vl.cells]
theorem Vals.take {w : World} {A : Option Addr} {n m : Nat} {vs : List Vl} (h : Vals w A n vs) (hm : m ≤ n) : Vals w A m (vs.take m) := by
 have hl := h.len
 refine ⟨by simp; omega, fun c hc => by obtain ⟨v, _, rfl⟩ := List.mem_map.1 hc; rfl, fun hn => ?_⟩
 obtain ⟨b, off, e, hc⟩ := h.2.2 (by omega)
 refine ⟨b, off, e, fun i hi j hj => ?_⟩
 simp only [List.length_map, List.length_take] at hi
 have := hc i (by simp; omega) j (by simpa using hj)
 simpa using this
theorem Vals.news {w : World} {ad : Addr} {m : Nat} {us : List Vl} (h : Vals w (some ad) m us) (hs : ad.spot = none) : ∀ j u, ((us.map Vl.cells).flatten)[j]? = some u → w.cell? (ad.add j) = some u := by
 intro j u hu
 obtain ⟨b, off, sp⟩ := ad
 simp only at hs
 subst hs
 have hl := h.len
 have hj : j < us.length * 3 := by rw [← flat3_length]; exact (List.getElem?_eq_some_iff.1 hu).1
 have h0 : 0 < m := by omega
 obtain ⟨b', off', e, hc⟩ := h.2.2 h0
 cases e
 rw [addr_add]
 have hflat : ∀ (l : List Vl) (i k : Nat), k < 3 → i < l.length → ((l.map Vl.cells).flatten)[i * 3 + k]? = (l[i]?.bind fun v => v.cells[k]?) := by
  intro l
  induction l with
  | nil => intro i k _ hi; simp at hi
  | cons v l ih =>
   intro i k hk hi
   cases i with
   | zero => simp only [List.map_cons, List.flatten_cons, Nat.zero_mul, Nat.zero_add, List.getElem?_cons_zero, Option.bind_some]; rw [List.getElem?_append_left (by simpa [Vl.cells] using hk)]
   | succ i =>
    simp only [List.map_cons, List.flatten_cons, List.getElem?_cons_succ]
    rw [List.getElem?_append_right (by simp [Vl.cells]; omega), show (i + 1) * 3 + k - v.cells.length = i * 3 + k by simp [Vl.cells]; omega]
    exact ih i k hk (by simpa using hi)
 have hd : j / 3 < us.length := by omega
 have he : j = j / 3 * 3 + j % 3 := by omega
 have hm3 : j % 3 < 3 := by omega
 rw [he, hflat us _ _ hm3 hd, List.getElem?_eq_getElem hd] at hu
 simp only [Option.bind_some] at hu
 obtain ⟨hk, hv⟩ := List.getElem?_eq_some_iff.1 hu
 have := hc (j / 3) (by simpa using hd) (j % 3) (by simpa using hk)
 rw [he, this]
 simp [← hv]
theorem infoVl : ∃ (i : TypeInfo) (z : Value), Tryz.prog.info? 66 = some i ∧ i.zero = some z ∧ i.size = 3 ∧ i.bytes = 32 ∧ z.cells.size = 3 := by
 obtain ⟨i, h1, h2, h3, h4⟩ := info_parts infoVal
 exact ⟨i, _, h1, h2, h3, h4, rfl⟩
theorem step_app_vals {w : World} {ops : Array Oper} {o : Oper} {a : Act} {K : Act → World → Prop} {Q : Exit → Act → World → Prop} {E : Prop} (hgd : o.guard = none) (s x : Operand)
  (ho : o.op = .call { callee := .builtin .append, args := #[s, x], argTypes := #[26, 26] })
  (base g n cp : Nat) (vs : List Vl) (hs : a.eval s = .slice (some ⟨g, 0, none⟩) n cp) (hown : OwnVals w base g n cp vs)
  (ad : Addr) (m c : Nat) (us : List Vl) (hx : a.eval x = .slice (some ad) m c) (hsp : ad.spot = none) (hu : Vals w (some ad) m us) (hsm : n + m ≤ 1000000) (hbase : base ≤ w.heap.size)
  (h : ∀ g' cap w', OwnVals w' base g' (n + m) cap (vs ++ us) → w.grownBy w' (some g) → base ≤ g' → K (a.put o.dst (.slice (some ⟨g', 0, none⟩) (n + m) cap)) w') :
  if Region.wanted o (yielded ops a.tmps) = true then Oper.wp Tryz.prog o a w K Q else E := by
 obtain ⟨i, z, h1, h2, h3, h4, h5⟩ := infoVl
 refine step_app hgd s x 26 ho base 66 i z 3 32 Tryz.underlying26 h1 h2 h3 h4 h5 (by omega) ⟨g, 0, none⟩ n cp _ hs hown ad m c _ hx ?_ (Vals.news hu hsp) ?_ (by unfold maxLen; omega) (by omega) hbase ?_
 ·rw [flat3_length, hu.len]
 ·intro u hu'
  rw [List.mem_flatten] at hu'
  obtain ⟨c, hc, hu'⟩ := hu'
  obtain ⟨v, _, rfl⟩ := List.mem_map.1 hc
  simp only [Vl.cells, List.mem_cons, List.not_mem_nil, or_false] at hu'
  rcases hu' with rfl | rfl | rfl <;> rfl
 ·intro g' cap w' ho' hg' hb'
  refine h g' cap w' ?_ hg' hb'
  unfold OwnVals
  rw [List.map_append, List.flatten_append]
  exact ho'
theorem step_app_vals0 {w : World} {ops : Array Oper} {o : Oper} {a : Act} {K : Act → World → Prop} {Q : Exit → Act → World → Prop} {E : Prop} (hgd : o.guard = none) (s x : Operand)
  (ho : o.op = .call { callee := .builtin .append, args := #[s, x], argTypes := #[26, 26] })
  (base g : Nat) (hs : a.eval s = .slice (some ⟨g, 0, none⟩) 0 0) (hrow : Row w g 66 #[]) (hbg : base ≤ g)
  (ad : Addr) (m c : Nat) (us : List Vl) (hx : a.eval x = .slice (some ad) m c) (hsp : ad.spot = none) (hu : Vals w (some ad) m us) (hsm : m ≤ 1000000) (hbase : base ≤ w.heap.size)
  (h : ∀ g' cap w', OwnVals w' base g' m cap us → w.grownBy w' (some g) → base ≤ g' → K (a.put o.dst (.slice (some ⟨g', 0, none⟩) m cap)) w') :
  if Region.wanted o (yielded ops a.tmps) = true then Oper.wp Tryz.prog o a w K Q else E := by
 refine step_app_vals hgd s x ho base g 0 0 [] hs (own0 hrow hbg) ad m c us hx hsp hu (by omega) hbase ?_
 intro g' cap w' h1 h2 h3
 rw [Nat.zero_add] at h1 ⊢
 exact h g' cap w' h1 h2 h3
theorem grown_below {base g : Nat} {w w' : World} (h : w.grownBy w' (some g)) (hg : base ≤ g) (hw : base ≤ w.heap.size) : Below base w w' :=
 ⟨h.os, h.tape, h.output, h.size, fun k hk => h.block k (by omega) (by intro e; cases e; omega)⟩
theorem grown_row {w w' : World} {g b : Nat} {T : TypeId} {cs : Array Value} (h : w.grownBy w' (some g)) (hr : Row w b T cs) (hne : b ≠ g) : Row w' b T cs :=
 (h.block b (lt_of_block hr) (by intro e; cases e; exact hne rfl)).trans hr
theorem keep3g {w w' : World} {g : Nat} {a0 a1 a2 : Addr} {v0 v1 v2 : Value} (h : w.cell? a0 = some v0 ∧ w.cell? a1 = some v1 ∧ w.cell? a2 = some v2) (hg : w.grownBy w' (some g)) (n0 : a0.block ≠ g) (n1 : a1.block ≠ g) (n2 : a2.block ≠ g) : w'.cell? a0 = some v0 ∧ w'.cell? a1 = some v1 ∧ w'.cell? a2 = some v2 :=
 ⟨hg.cell h.1 (by intro e; cases e; exact n0 rfl), hg.cell h.2.1 (by intro e; cases e; exact n1 rfl), hg.cell h.2.2 (by intro e; cases e; exact n2 rfl)⟩
theorem keep8 {w w' : World} {a0 a1 a2 a3 a4 a5 a6 a7 : Addr} {v0 v1 v2 v3 v4 v5 v6 v7 : Value} (h : w.cell? a0 = some v0 ∧ w.cell? a1 = some v1 ∧ w.cell? a2 = some v2 ∧ w.cell? a3 = some v3 ∧ w.cell? a4 = some v4 ∧ w.cell? a5 = some v5 ∧ w.cell? a6 = some v6 ∧ w.cell? a7 = some v7) (hb : Below w.heap.size w w') : w'.cell? a0 = some v0 ∧ w'.cell? a1 = some v1 ∧ w'.cell? a2 = some v2 ∧ w'.cell? a3 = some v3 ∧ w'.cell? a4 = some v4 ∧ w'.cell? a5 = some v5 ∧ w'.cell? a6 = some v6 ∧ w'.cell? a7 = some v7 := by
 obtain ⟨h0, h1, h2, h3, h4, h5, h6, h7⟩ := h
 exact ⟨(hb.cell (cell_lt h0)).trans h0, (hb.cell (cell_lt h1)).trans h1, (hb.cell (cell_lt h2)).trans h2, (hb.cell (cell_lt h3)).trans h3, (hb.cell (cell_lt h4)).trans h4, (hb.cell (cell_lt h5)).trans h5, (hb.cell (cell_lt h6)).trans h6, (hb.cell (cell_lt h7)).trans h7⟩
theorem ops_at (k : Nat) (h : k < 11) : ∃ o0 o2, opsCells[k * 3]? = some o0 ∧ opsCells[k * 3 + 2]? = some o2 := by
 have hs : opsCells.size = 33 := rfl
 exact ⟨opsCells[k * 3], opsCells[k * 3 + 2], Array.getElem?_eq_getElem (by omega), Array.getElem?_eq_getElem (by omega)⟩
theorem Vals.drew {w : World} {A : Option Addr} {n : Nat} {vs : List Vl} (h : Vals w A n vs) : Vals w.drew A n vs := h
theorem implTokValueM (kk : Nat) (hk : 1 ≤ kk ∧ kk ≤ 10) (a0 a1 a2 : Value) (h2 : opsCells[kk * 3 + 2]? = some a2) (c vk vn : Int) (vs : ByteArray) (A B : Option Addr) (cap capB m : Nat) (hm : m = takes kk) (row xs : List Vl) (w : World)
  (htok : tokB ⟨kk, c, vk, vn, vs⟩ row.length = true) (hr : Vals w A row.length row) (hx : Vals w B m xs) (hok : ∀ v ∈ xs, v.ok = true) :
  Calls Tryz.prog 80 #[.agg #[a0, a1, a2], .agg #[.int .i64 kk, .int .i64 c, .int .i64 vk, .int .i64 vn, .string vs], .slice A row.length cap, .slice B m capB] w (OptPost (tokVal row ⟨kk, c, vk, vn, vs⟩ xs) w) := by
 subst hm
 exact implTokValue kk hk a0 a1 a2 h2 ⟨kk, c, vk, vn, vs⟩ rfl A B cap capB row xs w htok hr hx hok
def EvalPost (o : Option Vl) (w : World) (e : Ending) (w' : World) : Prop := e = .returned (.tuple #[.agg #[.int .i64 (o.getD Vl.zero).k, .int .i64 (o.getD Vl.zero).n, .string (o.getD Vl.zero).s], .bool o.isSome]) ∧ Below w.heap.size w w'
set_option maxRecDepth 100000 in
set_option maxHeartbeats 1000000 in
theorem implEval (A R : Option Addr) (n m cap capR : Nat) (ts : List Tk) (row : List Vl) (w : World) (h : Toks w A n ts) (hr : Vals w R m row) (hn : n ≤ maxLen) (hm : m ≤ maxLen) :
  Calls Tryz.prog 57 #[.slice A n cap, .slice R m capR] w (EvalPost (evalB ts row) w) := by
 obtain rfl : n = ts.length := h.len.symm
 obtain rfl : m = row.length := hr.len.symm
 have rr := Row.new w 66 #[.int .i64 0, .int .i64 0, .string ⟨#[]⟩]
 have hb0 := (Below.refl w.heap.size w).alloc (Nat.le_refl _) (.cells #[.int .i64 0, .int .i64 0, .string ⟨#[]⟩] 66)
 have h0 := h.below hb0
 have hr0 := hr.below hb0
 cases hrow : rowB row
 ·have HR := Lib.hid hrow
  have HV := Lib.hid (show evalB ts row = none by simp [evalB, hrow])
  clear hrow
  go_enter Tryz.func57, Tryz.ntmps57
  go_wp2_with fail
  generalize w.alloc (.cells #[.int .i64 0, .int .i64 0, .string ⟨#[]⟩] 66) = x at *
  refine (implSeenOk _ _ _ row _ hr0 hm).mono ?_
  rintro e w1 ⟨rfl, hb1⟩
  rw [HR.out]
  obtain ⟨⟨z0, z1, z2⟩, ⟨z3, z4, z5⟩⟩ := (rr.below hb1).three
  have hz := hb0.trans (hb1.mono hb0.size)
  clear rr
  go_wp2_with fail
  refine bodyPost_ret (v := .tuple #[.agg #[.int .i64 0, .int .i64 0, .string ⟨#[]⟩], .bool false]) (by simp [results, Tryz.results57, go_sem, z0, z1, z2]) rfl ⟨by rw [HV.out]; rfl, ?_⟩
  repeat (first | with_reducible exact hz | with_reducible refine Below.setCell ?_ (by simp) _)
 have HR := Lib.hid hrow
 have h16 : row.length ≤ 16 := by simp [rowB] at hrow; exact hrow.1
 cases hex : exprB ts row.length
 ·have HE := Lib.hid hex
  have HV := Lib.hid (show evalB ts row = none by simp [evalB, hex])
  clear hrow hex
  go_enter Tryz.func57, Tryz.ntmps57
  go_wp2_with fail
  generalize w.alloc (.cells #[.int .i64 0, .int .i64 0, .string ⟨#[]⟩] 66) = x at *
  refine (implSeenOk _ _ _ row _ hr0 hm).mono ?_
  rintro e w1 ⟨rfl, hb1⟩
  rw [HR.out]
  have hz1 := hb0.trans (hb1.mono hb0.size)
  have rr1 := rr.below hb1
  clear rr
  go_wp2_with fail
  refine (implExprOk _ _ _ ts _ _ (h0.below hb1) hn).mono ?_
  rintro e w2 ⟨rfl, hb2⟩
  rw [HE.out]
  obtain ⟨⟨z0, z1, z2⟩, ⟨z3, z4, z5⟩⟩ := (rr1.below hb2).three
  have hz := hz1.trans (hb2.mono hz1.size)
  clear rr1
  go_wp2_with fail
  refine bodyPost_ret (v := .tuple #[.agg #[.int .i64 0, .int .i64 0, .string ⟨#[]⟩], .bool false]) (by simp [results, Tryz.results57, go_sem, z0, z1, z2]) rfl ⟨by rw [HV.out]; rfl, ?_⟩
  repeat (first | with_reducible exact hz | with_reducible refine Below.setCell ?_ (by simp) _)
 have HE := Lib.hid hex
 clear hrow hex
 go_enter Tryz.func57, Tryz.ntmps57
 go_wp2_with fail
 generalize w.alloc (.cells #[.int .i64 0, .int .i64 0, .string ⟨#[]⟩] 66) = x at *
 refine (implSeenOk _ _ _ row _ hr0 hm).mono ?_
 rintro e w1 ⟨rfl, hb1⟩
 rw [HR.out]
 have hz1 := hb0.trans (hb1.mono hb0.size)
 have rr1 := rr.below hb1
 clear rr
 go_wp2_with fail
 refine (implExprOk _ _ _ ts _ _ (h0.below hb1) hn).mono ?_
 rintro e w2 ⟨rfl, hb2⟩
 rw [HE.out]
 have rr2 := rr1.below hb2
 have hz2 := hz1.trans (hb2.mono hz1.size)
 clear rr1 hb1 hb2 h0 hr0 hz1 hb0
 go_wp2_with fail
 refine (implOpTable _).mono ?_
 rintro e w3 ⟨rfl, hb3⟩
 have rr3 := rr2.below hb3
 have hz3 := hz2.trans (hb3.mono hz2.size)
 clear rr2 hb3 hz2
 have hs1 : (Tryz.prog.info? 123).map (·.size) = some opsCells.size := by kernel_rfl
 have hs2 : opsCells.all (·.oneCell') = true := by simp [opsCells, Value.oneCell']
 have S1 := Lib.hid hs1
 have S2 := Lib.hid hs2
 clear hs1 hs2
 go_wp2_with (refine wpList_store_row rfl 123 (.tmp 6) (.tmp 25) rfl w3.heap.size opsCells rfl rfl 123 opsZero (Go.heap_alloc_last w3 (.cells opsZero 123)) S1.out rfl S2.out ?_)
 rw [World.setRow_alloc_new]
 obtain ⟨hgo, h24⟩ := exprB_go HE.out
 have HGO := Lib.hid hgo
 have hok : ∀ v ∈ row, v.ok = true := by have := HR.out; simp [rowB] at this; exact this.2
 have HOK := Lib.hid hok
 have ro := (Row.new w3 123 opsCells).alloc (.cells Tryz.zeroCells127 127)
 have rl := Row.newAt (w3.alloc (.cells opsCells 123)) 127 Tryz.zeroCells127 (w3.heap.size + 1) (by simp only [size1])
 have rz := (rr3.alloc (.cells opsCells 123)).alloc (.cells Tryz.zeroCells127 127)
 have hb4 := (hz3.alloc hz3.size (.cells opsCells 123)).alloc (by have := hz3.size; simp only [size1]; omega) (.cells Tryz.zeroCells127 127)
 have hw3 : w.heap.size < w3.heap.size := lt_of_block rr3
 have hzs : (Tryz.zeroCells127).size = 72 := by kernel_rfl
 have HZS := Lib.hid hzs
 clear hgo hok S1 S2 rr3 hzs
 generalize (w3.alloc (.cells opsCells 123)).alloc (.cells Tryz.zeroCells127 127) = x4 at *
 generalize Tryz.zeroCells127 = cs0 at *
 go_loopw [8, 28] (fun nn i wr => ∃ (k : Nat) (st : List Vl) (cs : Array Value), k ≤ ts.length ∧ i = .int .i64 k ∧ nn = .int .i64 st.length ∧ st.length ≤ k ∧ Hid (exprGo row.length (ts.take k) 0 = some st.length) ∧ Hid (evalGo row (ts.take k) [] = some st) ∧ Hid (∀ v ∈ st, v.ok = true) ∧
   Row wr w3.heap.size 123 opsCells ∧ Row wr (w3.heap.size + 1) 127 cs ∧ Hid (cs.size = 72) ∧ Hid (Laid cs 3 st.length (st.map Vl.cells)) ∧ Row wr w.heap.size 66 #[.int .i64 0, .int .i64 0, .string ⟨#[]⟩] ∧ Below w.heap.size w wr) (fun _ i _ => ts.length - (intOf i).toNat)
 case atStart => exact ⟨0, [], cs0, by omega, rfl, rfl, by simp, Lib.hid (by simp [exprGo]), Lib.hid (by simp [evalGo]), Lib.hid (by simp), ro, rl, HZS, Lib.hid (Laid.zero _ _ _), rz, hb4⟩
 case round =>
  obtain ⟨k, st, cs, hk, rfl, rfl, hlk, hexp, hev, hstok, hro, hrl, hcs, hlaid, hrz, hb⟩ := hrel
  by_cases hlt : k < ts.length
  ·obtain ⟨b, off, rfl, c0, c1, c2, c3, c4⟩ := (h.below hb).at_ hlt
   obtain ⟨htok, htk, hexp2⟩ := right_at HGO.out hlt hexp.out
   have hev2 := evalGo_snoc row ts k hlt [] st hev.out
   have HEXP := Lib.hid hexp2
   have HEV := Lib.hid hev2
   have HTOK := Lib.hid htok
   clear hexp2 hev2
   clear hexp hev htok
   generalize ts[k] = t at *
   obtain ⟨k0, tc, tvk, tvn, tvs⟩ := t
   simp only at c0 c1 c2 c3 c4 htk HEXP HEV HTOK
   obtain ⟨k1, k10⟩ := tokB_kind HTOK.out
   simp only at k1 k10
   obtain ⟨kk, rfl⟩ := Int.eq_ofNat_of_zero_le (show 0 ≤ k0 by omega)
   have hk11 : kk < 11 := by omega
   have hq2 := takes_le kk
   obtain ⟨fr, hfr⟩ : ∃ fr, fr + takes kk = st.length := ⟨st.length - takes kk, by omega⟩
   have hsub : (st.length : Int) - (takes kk : Int) = (fr : Int) := by omega
   have hfr2 : fr ≤ st.length := by omega
   have HFR := Lib.hid hfr
   clear hfr
   obtain ⟨o0, o2, e0, e2⟩ := ops_at kk hk11
   have E2 := Lib.hid e2
   have ro5 := hro.alloc (.cells #[.int .i64 kk, .int .i64 tc, .int .i64 tvk, .int .i64 tvn, .string tvs] 73)
   have d0 := (ro5.cell (kk * 3)).trans e0
   have d1 := (ro5.cell (kk * 3 + 1)).trans (ops_takes kk hk11)
   have d2 := (ro5.cell (kk * 3 + 2)).trans e2
   have RO := Lib.hid ro5
   have RL := Lib.hid (hrl.alloc (.cells #[.int .i64 kk, .int .i64 tc, .int .i64 tvk, .int .i64 tvn, .string tvs] 73))
   have RZ := Lib.hid (hrz.alloc (.cells #[.int .i64 kk, .int .i64 tc, .int .i64 tvk, .int .i64 tvn, .string tvs] 73))
   have HB := Lib.hid (hb.alloc hb.size (.cells #[.int .i64 kk, .int .i64 tc, .int .i64 tvk, .int .i64 tvn, .string tvs] 73))
   clear e0 e2 ro5 hro hrl hrz
   have vals := Lib.hid (hr.below HB.out)
   obtain ⟨⟨t0, t1, t2, t3, t4⟩, -⟩ := (Row.new wr 73 #[.int .i64 kk, .int .i64 tc, .int .i64 tvk, .int .i64 tvn, .string tvs]).five
   go_wp2_with fail
   generalize wr.alloc (.cells #[.int .i64 kk, .int .i64 tc, .int .i64 tvk, .int .i64 tvn, .string tvs] 73) = x5 at *
   have j0 : (0 : Int) ≤ fr := by omega
   have j1 : (fr : Int) ≤ st.length := by omega
   have j2 : (st.length : Int) ≤ 24 := by omega
   have j3 : (0 : Int) ≤ kk := by omega
   have j5 : ¬ 24 = fr := by omega
   have j4 : (kk : Int) < 11 := by omega
   have OKX := Lib.hid (show ∀ v ∈ st.drop fr, v.ok = true from fun v hv => hstok.out v (List.mem_of_mem_drop hv))
   have args := Lib.hid (show Vals x5.drew (some ⟨w3.heap.size + 1, fr * 3, none⟩) (st.length - fr) (st.drop fr) by
    unfold Vals
    rw [List.map_drop]
    exact cellz_of_mid RL.out.drew hlaid.out (by simp) (by simp [Vl.cells]) hfr2)
   have vals' := Lib.hid (Vals.drew vals.out)
   have bz := (Below.refl x5.heap.size x5).alloc (Nat.le_refl _) (.cells #[.int .i64 0, .int .i64 0, .string ⟨#[]⟩] 66)
   have valsB := Lib.hid (Vals.drew (vals.out.below bz))
   have argsB := Lib.hid (show Vals (x5.alloc (.cells #[.int .i64 0, .int .i64 0, .string ⟨#[]⟩] 66)).drew (some ⟨w3.heap.size + 1, fr * 3, none⟩) (st.length - fr) (st.drop fr) from Vals.below (w := x5.drew) (w' := (x5.alloc (.cells #[.int .i64 0, .int .i64 0, .string ⟨#[]⟩] 66)).drew) args.out ⟨bz.os, bz.tape, bz.output, bz.size, bz.block⟩)
   have KB := Lib.hid (keep8 (w := x5) ⟨d0, d1, d2, t0, t1, t2, t3, t4⟩ bz)
   have ne1 : x5.heap.size ≠ w3.heap.size := Nat.ne_of_gt (cell_lt d0)
   have ne2 : x5.heap.size ≠ wr.heap.size := Nat.ne_of_gt (cell_lt t0)
   clear bz
   have HML := Lib.hid (show st.length - fr = takes kk by have := HFR.out; omega)
   clear vals
   go_region_held3 (fun w' => w'.cell? ⟨w3.heap.size, kk * 3, none⟩ = some o0 ∧ w'.cell? ⟨w3.heap.size, kk * 3 + 1, none⟩ = some (.int .i64 (takes kk)) ∧ w'.cell? ⟨w3.heap.size, kk * 3 + 2, none⟩ = some o2 ∧ w'.cell? ⟨wr.heap.size, 0, none⟩ = some (.int .i64 kk) ∧ w'.cell? ⟨wr.heap.size, 1, none⟩ = some (.int .i64 tc) ∧ w'.cell? ⟨wr.heap.size, 2, none⟩ = some (.int .i64 tvk) ∧ w'.cell? ⟨wr.heap.size, 3, none⟩ = some (.int .i64 tvn) ∧ w'.cell? ⟨wr.heap.size, 4, none⟩ = some (.string tvs))
    (first | go_keep | ((with_reducible refine keep8 ?_ hbA); assumption) | (with_reducible exact keep8 HK8.out ((Below.refl _ _).alloc (Nat.le_refl _) _)) | (with_reducible exact keep8s ne1 ne2 HK8.out))
    (first | (go_at_call 80; (with_reducible refine (implTokValueM kk ⟨by omega, by omega⟩ o0 _ o2 E2.out tc tvk tvn tvs R _ capR _ _ HML.out row (st.drop fr) _ HTOK.out vals'.out args.out OKX.out).mono ?_); rintro e yA ⟨v, rfl, hv, hbA⟩; have HK8 := Lib.hid (keep8 (w := x5.drew) ⟨d0, d1, d2, t0, t1, t2, t3, t4⟩ hbA); have HW := Lib.hid hv; clear hv) | (go_at_call 80; (with_reducible refine (implTokValueM kk ⟨by omega, by omega⟩ o0 _ o2 E2.out tc tvk tvn tvs R _ capR _ _ HML.out row (st.drop fr) _ HTOK.out valsB.out argsB.out OKX.out).mono ?_); rintro e yA ⟨v, rfl, hv, hbA⟩; have HK8 := Lib.hid (keep8 (w := (x5.alloc (.cells #[.int .i64 0, .int .i64 0, .string ⟨#[]⟩] 66)).drew) KB.out hbA); have HW := Lib.hid hv; clear hv; obtain ⟨⟨y0, y1, y2⟩, ⟨y3, y4, y5⟩⟩ := ((Row.new x5 66 #[.int .i64 0, .int .i64 0, .string ⟨#[]⟩]).drew.below hbA).three))
   ·have hz0 := HB.out.drew.trans (hbA.mono HB.out.size)
    have hz := hz0.alloc hz0.size (.cells #[.int .i64 v.k, .int .i64 v.n, .string v.s] 66)
    have ro6 := (RO.out.drew.below hbA).alloc (.cells #[.int .i64 v.k, .int .i64 v.n, .string v.s] 66)
    have rl6 := (RL.out.drew.below hbA).alloc (.cells #[.int .i64 v.k, .int .i64 v.n, .string v.s] 66)
    have rz6 := (RZ.out.drew.below hbA).alloc (.cells #[.int .i64 v.k, .int .i64 v.n, .string v.s] 66)
    have rv6 := Row.new yA 66 #[.int .i64 v.k, .int .i64 v.n, .string v.s]
    clear HK8 hz0 hbA
    generalize yA.alloc (.cells #[.int .i64 v.k, .int .i64 v.n, .string v.s] 66) = x6 at *
    generalize yA.heap.size = gv at *
    have HFR' : st.length - takes kk = fr := by have := HFR.out; omega
    have hd : st.drop (st.length - takes (⟨kk, tc, tvk, tvn, tvs⟩ : Tk).k) = st.drop fr := by rw [← HFR']
    have hstep := HEV.out
    cases htv : tokVal row ⟨kk, tc, tvk, tvn, tvs⟩ (st.drop fr) with
    | none =>
     have HV := Lib.hid (show evalB ts row = none by
      rw [evalStep_none (by rw [hd]; exact htv)] at hstep
      have := evalGo_dead row ts (k + 1) [] hstep
      simp [evalB, this])
     obtain ⟨⟨z0, z1, z2⟩, ⟨z3, z4, z5⟩⟩ := rz6.three
     clear hstep htv hd HFR' hsub ro6 rl6 rz6 rv6
     go_wp2_with fail
     refine bodyPost_ret (v := .tuple #[.agg #[.int .i64 0, .int .i64 0, .string ⟨#[]⟩], .bool false]) (by simp [results, Tryz.results57, go_sem, z0, z1, z2]) rfl ⟨by rw [HV.out]; rfl, ?_⟩
     repeat (first | with_reducible exact hz | with_reducible refine Below.drew ?_ | with_reducible refine Below.setCell ?_ (by simp) _)
    | some v' =>
     obtain rfl : v = v' := HW.out v' htv
     have hvok := tokVal_ok HOK.out HTOK.out htv
     rw [evalStep_some (by rw [hd]; exact htv)] at hstep
     have htake : st.take (st.length - takes (⟨kk, tc, tvk, tvn, tvs⟩ : Tk).k) = st.take fr := by rw [← HFR']
     rw [htake] at hstep
     have HST := Lib.hid hstep
     have HLEN := Lib.hid (show (st.take fr ++ [v]).length = fr + 1 by simp; omega)
     have HEX := Lib.hid (show exprGo row.length (ts.take (k + 1)) 0 = some (st.take fr ++ [v]).length by rw [HEXP.out, HFR', HLEN.out])
     have HOKS := Lib.hid (show ∀ u ∈ st.take fr ++ [v], u.ok = true from fun u hu => by
      rw [List.mem_append, List.mem_singleton] at hu
      rcases hu with hu | rfl
      ·exact hstok.out u (List.mem_of_mem_take hu)
      ·exact hvok)
     have hsz1 : fr * 3 + 3 ≤ cs.size := by rw [hcs.out]; omega
     have HLAID := Lib.hid (hlaid.out.snoc3 (by simp) (by simp [Vl.cells]) hfr2 (.int .i64 v.k) (.int .i64 v.n) (.string v.s) hsz1)
     have hq : ∀ j, j < 3 → x6.cell? ⟨w3.heap.size + 1, fr * 3 + j, none⟩ = some (cs[fr * 3 + j]?.getD undef) := fun j hj => by
      rw [rl6.cell, Array.getElem?_eq_getElem (by omega)]; rfl
     have q0 : x6.cell? ⟨w3.heap.size + 1, fr * 3, none⟩ = some (cs[fr * 3]?.getD undef) := hq 0 (by omega)
     have q1 := hq 1 (by omega)
     have q2 := hq 2 (by omega)
     have f0 := rl6.free (fr * 3)
     have f1 := rl6.free (fr * 3 + 1)
     have f2 := rl6.free (fr * 3 + 2)
     obtain ⟨⟨v0, v1, v2⟩, -⟩ := rv6.three
     have RO6 := Lib.hid ro6
     have RL6 := Lib.hid rl6
     have RZ6 := Lib.hid rz6
     have HZ6 := Lib.hid hz
     clear hstep htv hd HFR' hsub ro6 rl6 rz6 rv6 hq htake hvok hz
     go_wp2_with fail
     go_roundw
     case rel => exact ⟨k + 1, st.take fr ++ [v], _, by omega, by go_num, by rw [HLEN.out]; go_num, by rw [HLEN.out]; omega, HEX, HST, HOKS,
      ((RO6.out.far (by simp) _).far (by simp) _).far (by simp) _, ((RL6.out.set _ _).set _ _).set _ _, Lib.hid (by simp [hcs.out]), Lib.hid (by rw [HLEN.out, List.map_append, List.map_take]; exact HLAID.out),
      ((RZ6.out.far (by simp; omega) _).far (by simp; omega) _).far (by simp; omega) _, ((HZ6.out.setCell (by simp; omega) _).setCell (by simp; omega) _).setCell (by simp; omega) _⟩
     case measure => simp [intOf]; omega
   ·have bz := HB.out.alloc HB.out.size (.cells #[.int .i64 0, .int .i64 0, .string ⟨#[]⟩] 66)
    have hz0 := bz.drew.trans (hbA.mono bz.size)
    have hx5 := HB.out.size
    have lt1 : w3.heap.size + 1 < x5.heap.size := lt_of_block RL.out
    have m0 : w3.heap.size ≠ x5.heap.size := ne1.symm
    have m1 : w3.heap.size + 1 ≠ x5.heap.size := Nat.ne_of_lt lt1
    have m2 : w.heap.size ≠ x5.heap.size := by omega
    have hz := ((hz0.setCell (p := ⟨x5.heap.size, 0, none⟩) hx5 (.int .i64 v.k)).setCell (p := ⟨x5.heap.size, 1, none⟩) hx5 (.int .i64 v.n)).setCell (p := ⟨x5.heap.size, 2, none⟩) hx5 (.string v.s)
    have ro6 := ((((RO.out.alloc (.cells #[.int .i64 0, .int .i64 0, .string ⟨#[]⟩] 66)).drew.below hbA).far (p := ⟨x5.heap.size, 0, none⟩) m0 (.int .i64 v.k)).far (p := ⟨x5.heap.size, 1, none⟩) m0 (.int .i64 v.n)).far (p := ⟨x5.heap.size, 2, none⟩) m0 (.string v.s)
    have rl6 := ((((RL.out.alloc (.cells #[.int .i64 0, .int .i64 0, .string ⟨#[]⟩] 66)).drew.below hbA).far (p := ⟨x5.heap.size, 0, none⟩) m1 (.int .i64 v.k)).far (p := ⟨x5.heap.size, 1, none⟩) m1 (.int .i64 v.n)).far (p := ⟨x5.heap.size, 2, none⟩) m1 (.string v.s)
    have rz6 := ((((RZ.out.alloc (.cells #[.int .i64 0, .int .i64 0, .string ⟨#[]⟩] 66)).drew.below hbA).far (p := ⟨x5.heap.size, 0, none⟩) m2 (.int .i64 v.k)).far (p := ⟨x5.heap.size, 1, none⟩) m2 (.int .i64 v.n)).far (p := ⟨x5.heap.size, 2, none⟩) m2 (.string v.s)
    have rv6 : Row (((yA.setCell ⟨x5.heap.size, 0, none⟩ (.int .i64 v.k)).setCell ⟨x5.heap.size, 1, none⟩ (.int .i64 v.n)).setCell ⟨x5.heap.size, 2, none⟩ (.string v.s)) x5.heap.size 66 #[.int .i64 v.k, .int .i64 v.n, .string v.s] := ((((Row.new x5 66 #[.int .i64 0, .int .i64 0, .string ⟨#[]⟩]).drew.below hbA).set 0 _).set 1 _).set 2 _
    clear HK8 hz0 hbA bz y0 y1 y2 y3 y4 y5
    generalize ((yA.setCell ⟨x5.heap.size, 0, none⟩ (.int .i64 v.k)).setCell ⟨x5.heap.size, 1, none⟩ (.int .i64 v.n)).setCell ⟨x5.heap.size, 2, none⟩ (.string v.s) = x6 at *
    clear vals' valsB args argsB KB RO RL RZ HB d0 d1 d2 t0 t1 t2 t3 t4
    generalize x5.heap.size = gv at *
    have HFR' : st.length - takes kk = fr := by have := HFR.out; omega
    have hd : st.drop (st.length - takes (⟨kk, tc, tvk, tvn, tvs⟩ : Tk).k) = st.drop fr := by rw [← HFR']
    have hstep := HEV.out
    cases htv : tokVal row ⟨kk, tc, tvk, tvn, tvs⟩ (st.drop fr) with
    | none =>
     have HV := Lib.hid (show evalB ts row = none by
      rw [evalStep_none (by rw [hd]; exact htv)] at hstep
      have := evalGo_dead row ts (k + 1) [] hstep
      simp [evalB, this])
     obtain ⟨⟨z0, z1, z2⟩, ⟨z3, z4, z5⟩⟩ := rz6.three
     clear hstep htv hd HFR' hsub ro6 rl6 rz6 rv6
     go_wp2_with fail
     refine bodyPost_ret (v := .tuple #[.agg #[.int .i64 0, .int .i64 0, .string ⟨#[]⟩], .bool false]) (by simp [results, Tryz.results57, go_sem, z0, z1, z2]) rfl ⟨by rw [HV.out]; rfl, ?_⟩
     repeat (first | with_reducible exact hz | with_reducible refine Below.drew ?_ | with_reducible refine Below.setCell ?_ (by simp) _)
    | some v' =>
     obtain rfl : v = v' := HW.out v' htv
     have hvok := tokVal_ok HOK.out HTOK.out htv
     rw [evalStep_some (by rw [hd]; exact htv)] at hstep
     have htake : st.take (st.length - takes (⟨kk, tc, tvk, tvn, tvs⟩ : Tk).k) = st.take fr := by rw [← HFR']
     rw [htake] at hstep
     have HST := Lib.hid hstep
     have HLEN := Lib.hid (show (st.take fr ++ [v]).length = fr + 1 by simp; omega)
     have HEX := Lib.hid (show exprGo row.length (ts.take (k + 1)) 0 = some (st.take fr ++ [v]).length by rw [HEXP.out, HFR', HLEN.out])
     have HOKS := Lib.hid (show ∀ u ∈ st.take fr ++ [v], u.ok = true from fun u hu => by
      rw [List.mem_append, List.mem_singleton] at hu
      rcases hu with hu | rfl
      ·exact hstok.out u (List.mem_of_mem_take hu)
      ·exact hvok)
     have hsz1 : fr * 3 + 3 ≤ cs.size := by rw [hcs.out]; omega
     have HLAID := Lib.hid (hlaid.out.snoc3 (by simp) (by simp [Vl.cells]) hfr2 (.int .i64 v.k) (.int .i64 v.n) (.string v.s) hsz1)
     have hq : ∀ j, j < 3 → x6.cell? ⟨w3.heap.size + 1, fr * 3 + j, none⟩ = some (cs[fr * 3 + j]?.getD undef) := fun j hj => by
      rw [rl6.cell, Array.getElem?_eq_getElem (by omega)]; rfl
     have q0 : x6.cell? ⟨w3.heap.size + 1, fr * 3, none⟩ = some (cs[fr * 3]?.getD undef) := hq 0 (by omega)
     have q1 := hq 1 (by omega)
     have q2 := hq 2 (by omega)
     have f0 := rl6.free (fr * 3)
     have f1 := rl6.free (fr * 3 + 1)
     have f2 := rl6.free (fr * 3 + 2)
     obtain ⟨⟨v0, v1, v2⟩, -⟩ := rv6.three
     have RO6 := Lib.hid ro6
     have RL6 := Lib.hid rl6
     have RZ6 := Lib.hid rz6
     have HZ6 := Lib.hid hz
     clear hstep htv hd HFR' hsub ro6 rl6 rz6 rv6 hq htake hvok hz
     go_wp2_with fail
     go_roundw
     case rel => exact ⟨k + 1, st.take fr ++ [v], _, by omega, by go_num, by rw [HLEN.out]; go_num, by rw [HLEN.out]; omega, HEX, HST, HOKS,
      ((RO6.out.far (by simp) _).far (by simp) _).far (by simp) _, ((RL6.out.set _ _).set _ _).set _ _, Lib.hid (by simp [hcs.out]), Lib.hid (by rw [HLEN.out, List.map_append, List.map_take]; exact HLAID.out),
      ((RZ6.out.far (by simp; omega) _).far (by simp; omega) _).far (by simp; omega) _, ((HZ6.out.setCell (by simp; omega) _).setCell (by simp; omega) _).setCell (by simp; omega) _⟩
     case measure => simp [intOf]; omega
  ·have e : ts.take k = ts := List.take_of_length_le (by omega)
   have h1 := hexp.out
   rw [e, HGO.out] at h1
   have h2 := hev.out
   rw [e] at h2
   match st, (Option.some.inj h1).symm with
   | [v], _ =>
    have HV := Lib.hid (show evalB ts row = some v by simp [evalB, HR.out, HE.out, h2])
    have g := hlaid.out
    have q0 := (hrl.cell 0).trans (g 0 0 _ _ (by simp) rfl rfl)
    have q1 := (hrl.cell 1).trans (g 0 1 _ _ (by simp) rfl rfl)
    have q2 := (hrl.cell 2).trans (g 0 2 _ _ (by simp) rfl rfl)
    obtain ⟨⟨z0, z1, z2⟩, ⟨z3, z4, z5⟩⟩ := hrz.three
    have hz := hb
    clear h1 h2 e g hexp hev hlaid hro hrl hrz hstok
    go_wp2
    refine bodyPost_ret (v := .tuple #[.agg #[.int .i64 v.k, .int .i64 v.n, .string v.s], .bool true]) (by simp [results, Tryz.results57, go_sem, z0, z1, z2]) rfl ⟨by rw [HV.out]; rfl, ?_⟩
    repeat (first | with_reducible exact hz | with_reducible refine Below.drew ?_ | with_reducible refine Below.setCell ?_ (by simp) _)
theorem evalGo_ok {row : List Vl} {cols : Int} (hrow : ∀ v ∈ row, v.ok = true) : ∀ (ts : List Tk) (l m : Nat) (st st' : List Vl), exprGo cols ts l = some m → (∀ v ∈ st, v.ok = true) → evalGo row ts st = some st' → ∀ v ∈ st', v.ok = true
 | [], _, _, st, st', _, hs, he => by simp [evalGo] at he; subst he; exact hs
 | t :: ts, l, m, st, st', hx, hs, he => by
  simp only [exprGo] at hx
  split at hx
  ·rename_i hc
   simp only [evalGo, evalStep] at he
   cases htv : tokVal row t (st.drop (st.length - takes t.k)) with
   | none => simp [htv] at he
   | some v =>
    simp only [htv, Option.map_some, Option.bind_some] at he
    refine evalGo_ok hrow ts _ m _ st' hx ?_ he
    intro u hu
    rw [List.mem_append, List.mem_singleton] at hu
    rcases hu with hu | rfl
    ·exact hs u (List.mem_of_mem_take hu)
    ·exact tokVal_ok hrow hc.1 htv
  ·cases hx
theorem evalB_ok {ts : List Tk} {row : List Vl} {v : Vl} (h : evalB ts row = some v) : v.ok = true := by
 unfold evalB at h
 split at h
 ·rename_i hc
  rw [Bool.and_eq_true] at hc
  obtain ⟨st, hst, hv⟩ := Option.bind_eq_some_iff.1 h
  have hrow : ∀ v ∈ row, v.ok = true := by have := hc.1; simp [rowB] at this; exact this.2
  exact evalGo_ok hrow ts 0 1 [] st (exprB_go hc.2).1 (by simp) hst v (List.mem_of_getElem? hv)
 ·cases h
def truthB (ts : List Tk) (row : List Vl) : Int := match evalB ts row with
 | some v => truOf v
 | none => -1
set_option maxRecDepth 100000 in
set_option maxHeartbeats 400000 in
theorem implTruth (A R : Option Addr) (n m cap capR : Nat) (ts : List Tk) (row : List Vl) (w : World) (h : Toks w A n ts) (hr : Vals w R m row) (hn : n ≤ maxLen) (hm : m ≤ maxLen) :
  Calls Tryz.prog 40 #[.slice A n cap, .slice R m capR] w fun e w' => e = .returned (.int .i64 (truthB ts row)) ∧ Below w.heap.size w w' := by
 cases hv : evalB ts row with
 | none =>
  have HV := Lib.hid (show truthB ts row = -1 by simp [truthB, hv])
  have HE := Lib.hid hv
  clear hv
  go_enter Tryz.func40, Tryz.ntmps40
  go_wp2_with fail
  refine (implEval A R n m cap capR ts row _ h hr hn hm).mono ?_
  rintro e w1 ⟨rfl, hb1⟩
  rw [HE.out]
  simp only [Option.getD_none, Option.isSome_none]
  go_wp2
  go_ret
  first | exact ⟨retI (by rw [HV.out]), hb1.alloc hb1.size _⟩ | exact ⟨retI (by rw [HV.out]), hb1⟩
 | some v =>
  have HV := Lib.hid (show truthB ts row = truOf v by simp [truthB, hv])
  have hok := evalB_ok hv
  have HE := Lib.hid hv
  have HO := Lib.hid hok
  clear hv hok
  go_enter Tryz.func40, Tryz.ntmps40
  go_wp2_with fail
  refine (implEval A R n m cap capR ts row _ h hr hn hm).mono ?_
  rintro e w1 ⟨rfl, hb1⟩
  rw [HE.out]
  simp only [Option.getD_some, Option.isSome_some]
  go_wp2_with fail
  refine (implTruthOf v _ HO.out).mono ?_
  rintro e w2 ⟨rfl, hb2⟩
  go_wp2
  go_ret
  have hz := hb1.alloc hb1.size (.cells #[.int .i64 v.k, .int .i64 v.n, .string v.s] 66)
  exact ⟨retI (by rw [HV.out]), hz.trans (hb2.mono hz.size)⟩
end Go.Proofs.YteiifabdbkpkiaaGreat
