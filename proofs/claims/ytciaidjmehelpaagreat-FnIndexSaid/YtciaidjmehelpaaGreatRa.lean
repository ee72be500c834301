/-
  Several texts in one: what the proof leans on, part 1.
-/
import Derived.Test.YtciaidjmehelpaaGreatMa
import Derived.Test.YtciaidjmehelpaaGreatMb
import Derived.Test.YtciaidjmehelpaaGreatMc
import Derived.Test.YtciaidjmehelpaaGreatMd
import Derived.Test.YtciaidjmehelpaaGreatMe
import Derived.Deep.RegionHeld3
import Derived.Deep.QuietTactic
import Derived.BigQuiet
set_option linter.unusedVariables false
set_option linter.unusedSimpArgs false
namespace Go.Proofs.YtciaidjmehelpaaGreat
open Go.ChangeShapes Go.WideShapes Go.ChangeAt Go.RowKit Go.Joins Go.Deep
def LaidR {α : Type} (R : Rd α) (sz : Nat) (ok : Nat → Prop) (w : World) (cs : Array Value) (k : Nat) (ds : List α) : Prop :=
 ∀ (i : Nat) (h : i < ds.length), i < k → ∃ c : List Value, c.length = sz ∧ R ok w c ds[i] ∧ ∀ (j : Nat) (v : Value), c[j]? = some v → cs[i * sz + j]? = some v
theorem LaidR.zero {α : Type} (R : Rd α) (sz : Nat) (ok : Nat → Prop) (w : World) (cs : Array Value) (ds : List α) : LaidR R sz ok w cs 0 ds := fun _ _ h => by omega
theorem LaidR.more {α : Type} {R : Rd α} {sz : Nat} {ok : Nat → Prop} {w : World} {cs cs' : Array Value} {k : Nat} {ds : List α} (h : LaidR R sz ok w cs k ds) (hk : k < ds.length) {c : List Value} (hc : c.length = sz) (hr : R ok w c ds[k])
  (hold : ∀ m, m < k * sz → cs'[m]? = cs[m]?) (hnew : ∀ (j : Nat) (v : Value), c[j]? = some v → cs'[k * sz + j]? = some v) : LaidR R sz ok w cs' (k + 1) ds := fun i hi hlt => by
 by_cases e : i = k
 ·subst e
  exact ⟨c, hc, hr, hnew⟩
 ·obtain ⟨c', h1, h2, h3⟩ := h i hi (by omega)
  refine ⟨c', h1, h2, fun j v hv => ?_⟩
  have hj : j < sz := by obtain ⟨hj, _⟩ := List.getElem?_eq_some_iff.1 hv; omega
  rw [hold _ ?_]
  ·exact h3 j v hv
  ·have : (i + 1) * sz ≤ k * sz := Nat.mul_le_mul_right _ (by omega)
   rw [Nat.add_mul] at this
   omega
end Go.Proofs.YtciaidjmehelpaaGreat
namespace Go.Proofs.YtciaidjmehelpaaGreat
open Go.RowKit
structure En where
 key : List Vl
 id : Int
def EnR : Rd En := fun ok w cs x => ∃ (A0 : Option Addr) (n0 c0 : Nat), cs = [.slice A0 n0 c0, .int .i64 x.id] ∧ Sl VlR 3 ok w A0 n0 x.key ∧ (n0 ≤ c0)
theorem EnR.stays : Stays EnR := fun _ _ _ _ _ _ ⟨A0, n0, c0, e, h0, hcp⟩ ho hk => ⟨A0, n0, c0, e, h0.stays VlR.stays ho hk, hcp⟩
def En.sz (x : En) : Nat := szL (fun v : Vl => v.s.size) x.key
theorem EnR.at_ {ok : Nat → Prop} {w : World} {A : Option Addr} {n : Nat} {ds : List En} (h : Sl EnR 2 ok w A n ds) {i : Nat} (hi : i < ds.length) :
  ∃ (b off : Nat) (A0 : Option Addr) (n0 c0 : Nat), ok b ∧ A = some ⟨b, off, none⟩ ∧ w.cell? ⟨b, off + i * 2, none⟩ = some (.slice A0 n0 c0) ∧ w.cell? ⟨b, off + i * 2 + 1, none⟩ = some (.int .i64 ds[i].id) ∧ Sl VlR 3 ok w A0 n0 ds[i].key ∧ (n0 ≤ c0) := by
 have hl := h.1
 obtain ⟨b, off, rfl, hb, hc⟩ := h.2 (by omega)
 obtain ⟨cs, -, hR, g⟩ := hc i hi
 obtain ⟨A0, n0, c0, rfl, h0, hcp⟩ := hR
 exact ⟨b, off, A0, n0, c0, hb, rfl, g 0 _ rfl, g 1 _ rfl, h0, hcp⟩
theorem frozen_setCell (w : World) (p : Addr) (v : Value) (a : Addr) : (w.setCell p v).frozen? a = w.frozen? a := by
 unfold World.frozen? World.setCell
 by_cases e : p.block = a.block
 ·simp only [Array.getElem?_modify, if_pos e]
  cases h : w.heap[a.block]? with
  | none => rfl
  | some o => cases o <;> rfl
 ·simp only [Array.getElem?_modify, if_neg e]
theorem okF.set {G : Nat} {w : World} {b : Nat} (h : okF G w b) (p : Addr) (v : Value) : okF G (w.setCell p v) b :=
 ⟨h.1, by simpa [World.setCell] using h.2.1, fun off => (frozen_setCell w p v _).trans (h.2.2 off)⟩
theorem LaidR.setF {α : Type} {R : Rd α} (hR : Stays R) {sz G : Nat} {w : World} {cs : Array Value} {k : Nat} {ds : List α} (h : LaidR R sz (okF G w) w cs k ds) {p : Addr} (hp : p.block < G) (v : Value) : LaidR R sz (okF G (w.setCell p v)) (w.setCell p v) cs k ds := fun i hi hlt => by
 obtain ⟨c, h1, h2, h3⟩ := h i hi hlt
 exact ⟨c, h1, hR _ _ _ _ _ _ h2 (fun _ h => h.set p v) (fun q u hq hu => (World.cell?_of_block (w := w) (a := q) (Below.heap_setCell w p v q.block (by have := hq.1; omega))).trans hu), h3⟩
theorem hold3 (cs : Array Value) (k : Nat) (v0 v1 v2 : Value) : ∀ m, m < k * 3 → (((cs.setIfInBounds (k * 3) v0).setIfInBounds (k * 3 + 1) v1).setIfInBounds (k * 3 + 2) v2)[m]? = cs[m]? := by
 intro m hm
 simp only [Array.getElem?_setIfInBounds, Array.size_setIfInBounds]
 rw [if_neg (by omega)]; rw [if_neg (by omega)]; rw [if_neg (by omega)]
theorem fresh3 (cs : Array Value) (k : Nat) (v0 v1 v2 : Value) (hs : k * 3 + 3 ≤ cs.size) : ∀ (j : Nat) (v : Value), [v0, v1, v2][j]? = some v → (((cs.setIfInBounds (k * 3) v0).setIfInBounds (k * 3 + 1) v1).setIfInBounds (k * 3 + 2) v2)[k * 3 + j]? = some v := by
 intro j v hj
 have hlt : j < 3 := by obtain ⟨h, _⟩ := List.getElem?_eq_some_iff.1 hj; simpa using h
 have : j = 0 ∨ j = 1 ∨ j = 2 := by omega
 rcases this with rfl | rfl | rfl <;> simp at hj <;> subst hj <;> simp [Array.getElem?_setIfInBounds] <;> omega
end Go.Proofs.YtciaidjmehelpaaGreat
namespace Go.Proofs.YtciaidjmehelpaaGreat
open Go.RowKit
section
variable {α : Type} {T : TypeId} {sz : Nat} {f : α → List Value}
theorem OwnG.nil (w : World) (base : Nat) : OwnG T sz f w base (.slice none 0 0) [] := World.ownsRow_nil _ _ _ _
end
end Go.Proofs.YtciaidjmehelpaaGreat
namespace Go.Proofs.YtciaidjmehelpaaGreat
open Go.RowKit
set_option maxRecDepth 100000 in
theorem specVals (A : Option Addr) (n cap : Nat) (row : List Vl) (w : World) (h : Vals w A n row) (hn : n ≤ maxLen) :
  Calls Tryz.prog 98 #[.slice A n cap] w fun e w' => e = .returned (.bool (rowB row)) ∧ Below w.heap.size w w' := by
 unfold maxLen at hn
 obtain rfl : n = row.length := h.len.symm
 go_enter Tryz.func98, Tryz.ntmps98
 go_wp2
 go_loopw [3] (fun i wr => ∃ k : Nat, k ≤ row.length ∧ i = .int .i64 k ∧ Hid ((row.take k).all Vl.ok = true) ∧ Below w.heap.size w wr) (fun i _ => row.length - (intOf i).toNat)
 case atStart => exact ⟨0, by omega, rfl, Lib.hid (by simp), Below.refl _ _⟩
 case round =>
  obtain ⟨k, hk, rfl, hall, hb⟩ := hrel
  by_cases hlt : k < row.length
  ·obtain ⟨b, off, rfl, c0, c1, c2⟩ := (h.below hb).at_ hlt
   cases hv : row[k].ok
   ·have HV := Lib.hid hv
    have HF := Lib.hid (show rowB row = false by
     have : row.all Vl.ok = false := List.all_eq_false.2 ⟨row[k], List.getElem_mem hlt, by simp [hv]⟩
     simp [rowB, this])
    clear hv
    go_wp2_with fail
    refine (specValOk row[k].k row[k].n row[k].s _).mono ?_
    rintro e w1 ⟨rfl, hb1⟩
    rw [show valOkB row[k].k row[k].n row[k].s = false from HV.out]
    go_wp2_with fail
    go_ret
    exact ⟨retB (by rw [HF.out]), hb.trans (hb1.mono hb.size)⟩
   ·have HV := Lib.hid hv
    have hall2 := Lib.hid (show (row.take (k + 1)).all Vl.ok = true by
     rw [List.take_succ_eq_append_getElem hlt, List.all_append, hall.out]
     simp [hv])
    clear hv hall
    go_wp2_with fail
    refine (specValOk row[k].k row[k].n row[k].s _).mono ?_
    rintro e w1 ⟨rfl, hb1⟩
    rw [show valOkB row[k].k row[k].n row[k].s = true from HV.out]
    go_wp2_with fail
    go_roundw
    case rel => exact ⟨k + 1, by omega, by go_num, hall2, hb.trans (hb1.mono hb.size)⟩
    case measure => simp [intOf]; omega
  ·have e : row.take k = row := List.take_of_length_le (by omega)
   have ha := hall.out
   rw [e] at ha
   have HA := Lib.hid ha
   clear hall ha e
   go_wp2
   go_ret
   exact ⟨retB (by simp [rowB, HA.out]; omega), hb⟩
def keyOk (cols : List Int) (vals : List Vl) : Bool := rowB vals && cols.all (inV vals)
def keyOf (cols : List Int) (vals : List Vl) : List Vl := if keyOk cols vals then keyL cols vals else []
def keyFl (cols : List Int) (vals : List Vl) : Bool := keyOk cols vals && knownL (keyL cols vals)
end Go.Proofs.YtciaidjmehelpaaGreat
namespace Go.Proofs.YtciaidjmehelpaaGreat
open Go.RowKit Go.Maps
theorem not_all_of {cols : List Int} {vals : List Vl} {k : Nat} (h : k < cols.length) (hf : inV vals cols[k] = false) : keyOk cols vals = false := by
 unfold keyOk
 rw [Bool.and_eq_false_iff]
 refine Or.inr ?_
 rw [List.all_eq_false]
 exact ⟨cols[k], List.getElem_mem h, by simp [hf]⟩
theorem ownV_of_laid {w : World} {base g : Nat} {cs : Array Value} {xs : List Vl} {ok : Nat → Prop} {k : Nat} (hr : Row w g 34 cs) (hb : base ≤ g) (hs : cs.size = xs.length * 3) (hm : xs.length ≤ maxLen) (h : LaidR VlR 3 ok w cs k xs) (hk : xs.length ≤ k) : OwnV w base (.slice (some ⟨g, 0, none⟩) xs.length xs.length) xs := by
 have e : cs.toList = (xs.map Vl.cells).flatten := by
  apply List.ext_getElem?
  intro p
  have hfl : ((xs.map Vl.cells).flatten).length = xs.length * 3 := by rw [flat_len (sz := 3) _ (fun c hc => by obtain ⟨v, -, rfl⟩ := List.mem_map.1 hc; rfl), List.length_map]
  by_cases hp : p < xs.length * 3
  ·have hi : p / 3 < xs.length := by omega
   obtain ⟨c, h1, h2, h3⟩ := h (p / 3) hi (by omega)
   have h2' : c = Vl.cells xs[p / 3] := h2
   subst h2'
   have h4 := flat_get (sz := 3) (xs.map Vl.cells) (p / 3) (p % 3) (by rw [List.length_map]; exact hi) (by omega) (fun c hc => by obtain ⟨v, -, rfl⟩ := List.mem_map.1 hc; rfl)
   have hpe : p / 3 * 3 + p % 3 = p := by omega
   rw [hpe, List.getElem_map] at h4
   rw [h4, Array.getElem?_toList]
   have hlt : p % 3 < (Vl.cells xs[p / 3]).length := by rw [h1]; omega
   have h5 := h3 (p % 3) _ (List.getElem?_eq_getElem hlt)
   rw [hpe] at h5
   rw [h5, List.getElem?_eq_getElem hlt]
  ·rw [List.getElem?_eq_none (by rw [Array.length_toList]; omega), List.getElem?_eq_none (by omega)]
 refine ⟨?_, .inr ⟨g, xs.length, cs, rfl, hb, hr, Nat.le_refl _, hm, by omega, ?_⟩⟩
 ·rw [flat_len (sz := 3) _ (fun c hc => by obtain ⟨v, -, rfl⟩ := List.mem_map.1 hc; rfl), List.length_map]
 ·rw [← e, List.take_of_length_le (by rw [Array.length_toList]; omega)]
set_option maxRecDepth 100000 in
set_option maxHeartbeats 2000000 in
theorem implKeyOfO (AC AV : Option Addr) (nC cC nV cV : Nat) (cols : List Int) (vals : List Vl) (ok ok' : Nat → Prop) (w : World) (hc : Sl IntR 1 ok w AC nC cols) (hv : Sl VlR 3 ok' w AV nV vals) (hcn : nC ≤ 1048576) (hvn : nV ≤ 1048576) :
  Calls Tryz.prog 32 #[.slice AC nC cC, .slice AV nV cV] w (MadeFO (keyOf cols vals) (keyFl cols vals) w) := by
 obtain rfl : cols.length = nC := hc.1
 obtain rfl : vals.length = nV := hv.1
 cases hB : rowB vals
 ·have HB := Lib.hid hB
  have HK := Lib.hid (show keyOf cols vals = [] ∧ keyFl cols vals = false by unfold keyOf keyFl keyOk; rw [hB]; exact ⟨rfl, rfl⟩)
  clear hB
  go_enter Tryz.func32, Tryz.ntmps32
  go_wp2_with fail
  refine (implSeenOk AV vals.length cV vals _ (Sl.cellz (fun _ => rfl) hv) (by unfold maxLen; omega)).mono ?_
  rintro e w1 ⟨rfl, hb1⟩
  rw [HB.out]
  go_wp2_with fail
  go_ret2
  exact ⟨_, by rw [HK.out.2]; rfl, by rw [HK.out.1]; exact OwnG.nil _ _, hb1⟩
 have HB := Lib.hid hB
 clear hB
 have hmk := fun w => mk_rows (P := Tryz.prog) Tryz.underlying42 infoValK (by omega) cols.length hcn w
 go_enter Tryz.func32, Tryz.ntmps32
 go_wp2_with fail
 refine (implSeenOk AV vals.length cV vals _ (Sl.cellz (fun _ => rfl) hv) (by unfold maxLen; omega)).mono ?_
 rintro e w1 ⟨rfl, hb1⟩
 rw [HB.out]
 go_wp2_with fail
 have row := Row.new w1 34 (madeCells #[.int .i64 0, .int .i64 0, .string ⟨#[]⟩] (cols.length * 3))
 have hb0 := hb1.alloc hb1.size (.cells (madeCells #[.int .i64 0, .int .i64 0, .string ⟨#[]⟩] (cols.length * 3)) 34)
 have hsz := size_madeCells #[.int .i64 0, .int .i64 0, .string ⟨#[]⟩] (cols.length * 3)
 have hg : w.heap.size ≤ w1.heap.size := hb1.size
 have HG := Lib.hid hg
 generalize hgw : w1.heap.size = g at *
 generalize w1.alloc (.cells (madeCells #[.int .i64 0, .int .i64 0, .string ⟨#[]⟩] (cols.length * 3)) 34) = x at *
 generalize madeCells #[.int .i64 0, .int .i64 0, .string ⟨#[]⟩] (cols.length * 3) = cs0 at *
 have HZ := Lib.hid hsz
 have HL := Lib.hid (show (keyL cols vals).length = cols.length by simp [keyL])
 clear hmk hsz hg hgw hb1
 go_loopw [7, 18] (fun kn i wr => ∃ (k : Nat) (b : Bool) (cs : Array Value), k ≤ cols.length ∧ i = .int .i64 k ∧ kn = .bool b ∧ Hid (b = knownL ((keyL cols vals).take k)) ∧ Row wr g 34 cs ∧ Hid (cs.size = cols.length * 3) ∧ Hid (LaidR VlR 3 (okF (g + 1) wr) wr cs k (keyL cols vals)) ∧ Hid ((cols.take k).all (inV vals) = true) ∧ Hid (g + 1 ≤ wr.heap.size) ∧ Below w.heap.size w wr) (fun _ i _ => cols.length - (intOf i).toNat)
 case atStart => exact ⟨0, true, cs0, by omega, rfl, rfl, Lib.hid rfl, row, HZ, Lib.hid (LaidR.zero _ _ _ _ _ _), Lib.hid rfl, Lib.hid (lt_of_block row), hb0⟩
 case round =>
  clear hb0 row
  obtain ⟨k, kb, cs, hk, rfl, rfl, hkb, hrow, hcs, hlaid, hall, hgw, hb⟩ := hrel
  by_cases hlt : k < cols.length
  ·obtain ⟨b, off, -, rfl, q0⟩ := IntR.at_ (hc.below IntR.stays hb) hlt
   have i0 : (0 : Int) ≤ k := by omega
   have i1 : (k : Int) < cols.length := by omega
   cases hin : inV vals cols[k]
   ·have HK := Lib.hid (show keyOf cols vals = [] ∧ keyFl cols vals = false by unfold keyOf keyFl; rw [not_all_of hlt hin]; exact ⟨rfl, rfl⟩)
    have HI := Lib.hid (show (decide (0 ≤ cols[k]) && decide (cols[k] < (vals.length : Int))) = false from hin)
    clear hin
    go_wp2_with fail
    refine (implPlaceK HI.out _).mono ?_
    rintro e w2 ⟨rfl, rfl⟩
    go_wp2_with fail
    go_ret2
    exact ⟨_, by rw [HK.out.2]; rfl, by rw [HK.out.1]; exact OwnG.nil _ _, hb⟩
   ·obtain ⟨m, hm, hmv⟩ := inV_nat hin
    have HT := Lib.hid (keyL_take hlt hm hmv)
    have HA := Lib.hid (show (cols.take (k + 1)).all (inV vals) = true by rw [List.take_succ_eq_append_getElem hlt, List.all_append, hall.out]; simp [hin])
    have HI := Lib.hid (show (decide (0 ≤ (m : Int)) && decide ((m : Int) < (vals.length : Int))) = true by rw [← hm]; exact hin)
    rw [hm] at q0
    obtain ⟨bv, offv, -, rfl, y0, y1, y2⟩ := VlR.at_ (hv.below VlR.stays hb) hmv
    have hsz1 : k * 3 + 3 ≤ cs.size := by rw [hcs.out]; omega
    have q : ∀ j, j < 3 → wr.cell? ⟨g, k * 3 + j, none⟩ = some (cs[k * 3 + j]?.getD undef) := fun j hj => by
     rw [hrow.cell, Array.getElem?_eq_getElem (by omega)]; rfl
    have z0 : wr.cell? ⟨g, k * 3, none⟩ = some (cs[k * 3]?.getD undef) := q 0 (by omega)
    have z1 := q 1 (by omega)
    have z2 := q 2 (by omega)
    have f0 := hrow.free (k * 3)
    have f1 := hrow.free (k * 3 + 1)
    have f2 := hrow.free (k * 3 + 2)
    have j0 : (0 : Int) ≤ m := by omega
    have j1 : (m : Int) < vals.length := by omega
    have HR := Lib.hid hrow
    have HM := Lib.hid hm
    have hLk : k < (keyL cols vals).length := by rw [HL.out]; exact hlt
    have HKM := Lib.hid (show (keyL cols vals)[k] = vals[m] by simp [keyL, hm, hmv])
    have HS := Lib.hid hsz1
    clear q hrow hm hin hall hsz1
    generalize hvm : vals[m] = v at *
    have HVM := Lib.hid hvm
    clear hvm
    cases kb
    ·have HB2 := Lib.hid (show false = knownL ((keyL cols vals).take (k + 1)) by rw [known_take HT.out, ← hkb.out]; rfl)
     clear hkb
     go_wp2_with fail
     refine (implPlaceK HI.out _).mono ?_
     rintro e w2 ⟨rfl, rfl⟩
     go_wp2_with fail
     go_roundw
     case rel => exact ⟨k + 1, _, _, by omega, by go_num, rfl, HB2, ((HR.out.set _ _).set _ _).set _ _, Lib.hid (by simp [hcs.out]), Lib.hid ((((hlaid.out.setF VlR.stays (by simp) _).setF VlR.stays (by simp) _).setF VlR.stays (by simp) _).more hLk (c := [.int .i64 v.k, .int .i64 v.n, .string v.s]) rfl (by rw [HKM.out]; rfl) (hold3 cs k _ _ _) (fresh3 cs k _ _ _ HS.out)), HA, Lib.hid (by simpa using hgw.out), ((hb.setCell (by simpa using HG.out) _).setCell (by simpa using HG.out) _).setCell (by simpa using HG.out) _⟩
     case measure => simp [intOf]; omega
    ·have HB2 := Lib.hid (show (v.k != 0) = knownL ((keyL cols vals).take (k + 1)) by rw [known_take HT.out, ← hkb.out]; rfl)
     clear hkb
     go_wp2_with fail
     refine (implPlaceK HI.out _).mono ?_
     rintro e w2 ⟨rfl, rfl⟩
     go_wp2_with fail
     go_roundw
     case rel => exact ⟨k + 1, _, _, by omega, by go_num, rfl, HB2, ((HR.out.set _ _).set _ _).set _ _, Lib.hid (by simp [hcs.out]), Lib.hid ((((hlaid.out.setF VlR.stays (by simp) _).setF VlR.stays (by simp) _).setF VlR.stays (by simp) _).more hLk (c := [.int .i64 v.k, .int .i64 v.n, .string v.s]) rfl (by rw [HKM.out]; rfl) (hold3 cs k _ _ _) (fresh3 cs k _ _ _ HS.out)), HA, Lib.hid (by simpa using hgw.out), ((hb.setCell (by simpa using HG.out) _).setCell (by simpa using HG.out) _).setCell (by simpa using HG.out) _⟩
     case measure => simp [intOf]; omega
  ·obtain rfl : k = cols.length := by omega
   have hok : keyOk cols vals = true := by
    have h1 := hall.out
    rw [List.take_of_length_le (Nat.le_refl _)] at h1
    unfold keyOk
    rw [HB.out, h1]; rfl
   have hsl := ownV_of_laid hrow HG.out (by rw [hcs.out, HL.out]) (by rw [HL.out]; unfold maxLen; omega) hlaid.out (Nat.le_of_eq HL.out)
   rw [HL.out] at hsl
   have HK := Lib.hid (show keyOf cols vals = keyL cols vals by unfold keyOf; rw [hok]; rfl)
   have HF := Lib.hid (show keyFl cols vals = kb by
    have h1 := hkb.out
    rw [List.take_of_length_le (Nat.le_of_eq HL.out)] at h1
    unfold keyFl; rw [hok, h1]; rfl)
   have HSL := Lib.hid hsl
   clear hok hsl
   go_wp2_with fail
   go_ret2
   exact ⟨_, by rw [HF.out]; rfl, by rw [HK.out]; exact HSL.out, hb⟩
end Go.Proofs.YtciaidjmehelpaaGreat
namespace Go.Proofs.YtciaidjmehelpaaGreat
open Go.RowKit
theorem idxK_lt (cols : List Int) (key : List Vl) (rows : List Rw) : ∀ k, ∀ x ∈ idxK cols key rows k, x < k ∧ x < rows.length
 | 0, x, h => by cases h
 | k + 1, x, h => by
  rw [idxK, List.mem_append] at h
  rcases h with h | h
  ·have := idxK_lt cols key rows k x h; omega
  ·split at h
   ·next r hr =>
    split at h
    ·have := (List.getElem?_eq_some_iff.1 hr).1; simp at h; omega
    ·cases h
   ·cases h
end Go.Proofs.YtciaidjmehelpaaGreat
namespace Go.Proofs.YtciaidjmehelpaaGreat
open Go.RowKit Go.Maps
theorem keyL_get {cols : List Int} {vals : List Vl} {k m : Nat} (h : k < cols.length) (hm : cols[k] = m) (hv : m < vals.length) (h2 : k < (keyL cols vals).length) : (keyL cols vals)[k] = vals[m] := by
 simp [keyL, hm, hv]
set_option maxRecDepth 100000 in
set_option maxHeartbeats 2000000 in
theorem implHasKey (b off : Nat) (AC AK A1 : Option Addr) (nC cC nK cK n1 c1 : Nat) (id : Value) (cols : List Int) (key vals : List Vl) (ok ok' ok'' : Nat → Prop) (w : World)
  (p1 : w.cell? ⟨b, off + 1, none⟩ = some (.slice A1 n1 c1)) (hc : Sl IntR 1 ok w AC nC cols) (hk : Sl VlR 3 ok' w AK nK key) (hv : Sl VlR 3 ok'' w A1 n1 vals) (hcn : nC ≤ 1048576) (hkn : nK ≤ 1048576) (hvn : n1 ≤ 1048576) (hall : cols.all (inV vals) = true) :
  Calls Tryz.prog 114 #[.pointer (some ⟨b, off, none⟩), .slice AC nC cC, .slice AK nK cK] w fun e w' => e = .returned (.bool (hitB cols key vals)) ∧ Below w.heap.size w w' := by
 obtain rfl : cols.length = nC := hc.1
 obtain rfl : key.length = nK := hk.1
 obtain rfl : vals.length = n1 := hv.1
 have HALL := Lib.hid hall
 clear hall
 by_cases hl : (key.length : Int) = cols.length
 case neg =>
  have hl' : ((key.length : Int) == cols.length) = false := by simpa using hl
  have HF := Lib.hid (show hitB cols key vals = false by unfold hitB; rw [decide_eq_false (by omega)]; rfl)
  clear hl
  go_enter Tryz.func114, Tryz.ntmps114
  go_wp2_with fail
  go_ret
  exact ⟨retB HF.out.symm, Below.refl _ _⟩
 have hl' : ((key.length : Int) == cols.length) = true := by simpa using hl
 have HL := Lib.hid (show key.length = cols.length by omega)
 have HKL := Lib.hid (show (keyL cols vals).length = cols.length by simp [keyL])
 have P1 := Lib.hid p1
 clear hl p1
 go_enter Tryz.func114, Tryz.ntmps114
 go_wp2_with fail
 clear hl'
 go_loopw [17] (fun i wr => ∃ k : Nat, k ≤ cols.length ∧ i = .int .i64 k ∧ Hid ((((keyL cols vals).zip key).take k).all hitP = true) ∧ Below w.heap.size w wr) (fun i _ => cols.length - (intOf i).toNat)
 case atStart => exact ⟨0, by omega, rfl, Lib.hid (by simp), Below.refl _ _⟩
 case round =>
  obtain ⟨k, hk', rfl, hall, hb⟩ := hrel
  by_cases hlt : k < cols.length
  ·have hlk : k < key.length := by have := HL.out; omega
   have hlL : k < (keyL cols vals).length := by have := HKL.out; omega
   obtain ⟨bc, oc, -, rfl, q0⟩ := IntR.at_ (hc.below IntR.stays hb) hlt
   obtain ⟨m, hm, hmv⟩ := inV_nat (List.all_eq_true.1 HALL.out _ (List.getElem_mem hlt))
   have hst := zip_take (keyL cols vals) key k hlL hlk hitP
   rw [hall.out, Bool.true_and, keyL_get hlt hm hmv hlL] at hst
   have hno : hitP (vals[m], key[k]) = false → hitB cols key vals = false := fun hf => by
    unfold hitB
    rw [zip_no (f := hitP) hlL hlk (by rw [keyL_get hlt hm hmv hlL]; exact hf)]; simp
   rw [hm] at q0
   obtain ⟨b1, o1, -, rfl, x0, x1, x2⟩ := VlR.at_ (hv.below VlR.stays hb) hmv
   obtain ⟨b2, o2, -, rfl, y0, y1, y2⟩ := VlR.at_ (hk.below VlR.stays hb) hlk
   have p1 := below_keep hb _ _ P1.out
   have i0 : (0 : Int) ≤ k := by omega
   have i1 : (k : Int) < cols.length := by omega
   have i2 : (k : Int) < key.length := by omega
   have j0 : (0 : Int) ≤ m := by omega
   have j1 : (m : Int) < vals.length := by omega
   clear hm
   generalize vals[m] = x at *
   generalize key[k] = y at *
   have hbx := hb.alloc hb.size (.cells #[.int .i64 x.k, .int .i64 x.n, .string x.s] 34)
   have hlb := (Below.refl wr.heap.size wr).alloc (Nat.le_refl _) (.cells #[.int .i64 x.k, .int .i64 x.n, .string x.s] 34)
   have y0' := below_keep hlb _ _ y0
   have y1' := below_keep hlb _ _ y1
   have y2' := below_keep hlb _ _ y2
   clear hlb
   cases hs : hitP (x, y)
   ·have HF := Lib.hid (hno hs)
    have HS := Lib.hid hs
    clear hno hst hall hs
    cases e0 : (x.k == 0)
    ·cases e1 : (x.k == y.k)
     ·clear HS
      go_wp2_with fail
      go_quiet (fail)
      go_wp2_with fail
      go_ret
      exact ⟨retB HF.out.symm, below_dN hbx _⟩
     ·cases e2 : (x.n == y.n)
      ·clear HS
       go_wp2_with fail
       go_quiet (fail)
       go_wp2_with fail
       go_ret
       exact ⟨retB HF.out.symm, below_dN hbx _⟩
      ·have e3 : (x.s.toList == y.s.toList) = false := by have := HS.out; simp only [hitP, eqlP, eqlV, e0, e1, e2, Bool.true_and, Bool.not_false] at this; exact this
       clear HS
       go_wp2_with fail
       go_quiet (fail)
       go_wp2_with fail
       go_ret
       exact ⟨retB HF.out.symm, below_dN hbx _⟩
    ·clear HS
     go_wp2_with fail
     go_quiet (fail)
     go_wp2_with fail
     go_ret
     exact ⟨retB HF.out.symm, below_dN hbx _⟩
   ·rw [hs] at hst
    have HA := Lib.hid hst
    simp only [hitP, eqlP, eqlV, Bool.and_eq_true, Bool.not_eq_true'] at hs
    obtain ⟨e0, e1, e2, e3⟩ := hs
    clear hno hst hall
    go_wp2_with fail
    go_quiet (fail)
    go_wp2_with fail
    go_roundw
    case rel => exact ⟨k + 1, by omega, by go_num, HA, below_dN hbx _⟩
    case measure => simp [intOf]; omega
  ·have e : ((keyL cols vals).zip key).take k = (keyL cols vals).zip key := List.take_of_length_le (by rw [List.length_zip]; have := HKL.out; omega)
   have h1 := hall.out
   rw [e] at h1
   have HA := Lib.hid (show hitB cols key vals = true by unfold hitB; rw [decide_eq_true HL.out, h1]; rfl)
   clear e h1 hall
   go_wp2_with fail
   go_ret
   exact ⟨retB HA.out.symm, hb⟩
end Go.Proofs.YtciaidjmehelpaaGreat
