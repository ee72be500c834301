/-
  Several texts in one: what the proof leans on, part 6.
-/
import Derived.Test.YtlpldhmanihnnaaGreatYe
import Derived.Test.YtlpldhmanihnnaaGreatYc
import Derived.Test.YtlpldhmanihnnaaGreatYa
import Derived.Test.YtlpldhmanihnnaaGreatXa
import Derived.Test.YtlpldhmanihnnaaGreatXb
import Derived.Test.YtlpldhmanihnnaaGreatXc
import Derived.Test.YtlpldhmanihnnaaGreatXe
import Derived.Sort.CutIn
set_option linter.unusedVariables false
set_option linter.unusedSimpArgs false
namespace Go.Proofs.YtlpldhmanihnnaaGreat
open Go.RowKit
theorem schemaB_at {s : List Tb} (h : schemaB s = true) {i : Nat} (hi : i < s.length) : tableB s[i] = true /\ leadsB s s[i] = true := by
  simp only [schemaB, Bool.and_eq_true] at h
  exact ⟨List.all_eq_true.1 h.2.1 _ (List.getElem_mem hi), List.all_eq_true.1 h.2.2.2 _ (List.getElem_mem hi)⟩
theorem tableB_cols {t : Tb} (h : tableB t = true) : t.cols.length <= 8 := by
  simp only [tableB, colsB, Bool.and_eq_true, decide_eq_true_eq] at h
  exact h.2.1.2.1
theorem tableB_key {t : Tb} (h : tableB t = true) : colsInB t.key t.cols.length = true := by
  simp only [tableB, keyB, Bool.and_eq_true] at h
  exact h.2.2.1.1
theorem tableB_uniq {t : Tb} (h : tableB t = true) : ∀ u ∈ t.uniqs, colsInB u.cols t.cols.length = true := fun u hu => by
  simp only [tableB, uqsB, Bool.and_eq_true] at h
  exact List.all_eq_true.1 h.2.2.2.1.2 u hu
theorem tableB_fk {t : Tb} (h : tableB t = true) : ∀ f ∈ t.fks, colsInB f.cols t.cols.length = true := fun f hf => by
  simp only [tableB, fksB, Bool.and_eq_true] at h
  have := List.all_eq_true.1 h.2.2.2.2.2.2 f hf
  simp only [fkB, Bool.and_eq_true] at this
  exact this.1
theorem leadB_at {s : List Tb} {x : Tb} {f : Fk} (h : leadB s x f = true) : ∃ m : Nat, atN (s.map Tb.name) f.table = m /\ m < s.length := by
  simp only [leadB, Bool.and_eq_true, decide_eq_true_eq] at h
  rcases atN_rng (s.map Tb.name) f.table with h1 | ⟨h1, h2⟩
  · exact absurd h1 h.1
  · exact ⟨(atN (s.map Tb.name) f.table).toNat, by omega, by rw [List.length_map] at h2; omega⟩
theorem dbB_schema {s : List Tb} {db : List Dt} (h : dbB s db = true) : schemaB s = true := by
  simp only [dbB, Bool.and_eq_true] at h
  exact h.1
theorem dbB_data {s : List Tb} {db : List Dt} (h : dbB s db = true) {m : Nat} (h1 : m < s.length) (h2 : m < db.length) : dataB s[m].cols db[m].rows = true := by
  simp only [dbB, Bool.and_eq_true, decide_eq_true_eq] at h
  have h3 := List.all_eq_true.1 h.2.2 (s[m], db[m]) (by rw [List.mem_iff_getElem]; exact ⟨m, by rw [List.length_zip]; omega, by simp⟩)
  exact h3
theorem dbB_rows {s : List Tb} {db : List Dt} (h : dbB s db = true) {m : Nat} (h1 : m < s.length) (h2 : m < db.length) : db[m].rows.length <= 60 := by
  have h3 := dbB_data h h1 h2
  simp only [dataB, Bool.and_eq_true, decide_eq_true_eq] at h3
  exact h3.1
theorem dbB_kinds {s : List Tb} {db : List Dt} (h : dbB s db = true) {m : Nat} (h1 : m < s.length) (h2 : m < db.length) : ∀ r ∈ db[m].rows, kindsB s[m].cols r.vals = true := by
  have h3 := dbB_data h h1 h2
  simp only [dataB, Bool.and_eq_true, decide_eq_true_eq] at h3
  exact idsGo_mem h3.2
theorem fkIn_of {s : List Tb} {db : List Dt} (h : dbB s db = true) {i : Nat} (hi : i < s.length) {vals : List Vl} (hv : vals.length = s[i].cols.length) : ∀ f ∈ s[i].fks, FkIn s db vals f := fun f hf => by
  have hS := dbB_schema h
  have hT := schemaB_at hS hi
  have hl := dbB_len h
  have hc := tableB_fk hT.1 f hf
  have h8 := tableB_cols hT.1
  obtain ⟨m, e, hm⟩ := leadB_at (List.all_eq_true.1 hT.2 f hf)
  have hmd : m < db.length := by omega
  have hM := schemaB_at hS hm
  have hk := colsInB_len (tableB_key hM.1)
  have hm8 := tableB_cols hM.1
  have hr := dbB_row h hm hmd
  refine ⟨all_inV hc hv, by have := (colsInB_len hc).1; omega, m, e, hm, hmd, by omega, by have := dbB_rows h hm hmd; omega, fun r hr' => by rw [hr r hr']; omega, fun r hr' => all_inV (tableB_key hM.1) (hr r hr')⟩
theorem rowIn_of {s : List Tb} {db : List Dt} (h : dbB s db = true) (i : Nat) (hi : i < s.length) (hid : i < db.length) : ∀ x ∈ db[i].rows, RowIn s db s[i] x := fun x hx => by
  have hT := (schemaB_at (dbB_schema h) hi).1
  have hK := dbB_kinds h hi hid x hx
  have hl := dbB_row h hi hid x hx
  have h8 := tableB_cols hT
  exact ⟨hl, rowB_of hT hK, exprs_of hT hl, all_inV (tableB_key hT) hl, fun u hu => all_inV (tableB_uniq hT u hu) hl, fkIn_of h hi hl, by omega⟩
theorem dbB_all {s : List Tb} {db : List Dt} (h : dbB s db = true) : ∀ d ∈ db, d.rows.length <= 1048576 := fun d hd => by
  obtain ⟨i, hi, rfl⟩ := List.mem_iff_getElem.1 hd
  have := dbB_len h
  have := dbB_rows h (m := i) (by omega) hi
  omega
def soundB (s : List Tb) (db : List Dt) (wait : Bool) : Bool := dbB s db && decide ((dbFw s db wait s.length).length = 0)
end Go.Proofs.YtlpldhmanihnnaaGreat
namespace Go.Proofs.YtlpldhmanihnnaaGreat
open Go.RowKit Go.Maps Go.Shelf
attribute [local go_sem] Oper.semAt_some
def KpF (n0 : Nat) (W W' : World) : Prop := Below n0 W W' /\ ∀ b T cs, T ≠ 26 -> T ≠ 97 -> T ≠ 4 -> Row W b T cs -> Row W' b T cs
theorem KpF.refl (n0 : Nat) (W : World) : KpF n0 W W := ⟨Below.refl _ _, fun _ _ _ _ _ _ h => h⟩
theorem KpF.trans {n0 : Nat} {A B C : World} (h : KpF n0 A B) (k : KpF n0 B C) : KpF n0 A C := ⟨h.1.trans k.1, fun b T cs h1 h2 h3 hr => k.2 b T cs h1 h2 h3 (h.2 b T cs h1 h2 h3 hr)⟩
theorem KpF.below {n0 : Nat} {W W' : World} (hn : n0 <= W.heap.size) (hb : Below W.heap.size W W') : KpF n0 W W' := ⟨hb.mono hn, fun _ _ _ _ _ _ h => h.below hb⟩
theorem KpF.put {n0 : Nat} {W : World} {l : Nat} {o : Obj} (o' : Obj) (hl : n0 <= l) (h : W.heap[l]? = some o) (hc : o.isCells = false) : KpF n0 W (W.putObj l o') := by
  refine ⟨(Below.refl n0 W).grown (grownBy_putObj' W l o') (by have := (Array.getElem?_eq_some_iff.1 h).1; omega) (fun k e => by cases e; exact hl), fun b T cs _ _ _ hr => ?_⟩
  have hne : b ≠ l := fun e => by subst e; unfold Row at hr; rw [h] at hr; cases hr; cases hc
  exact (World.putObj_heap_other hne).trans hr
theorem Sl.low {α : Type} {R : Rd α} (hR : Stays R) {sz n0 : Nat} {w W : World} {A : Option Addr} {n : Nat} {ds : List α} (h : Sl R sz (fun b => b < n0) w A n ds) (hb : Below n0 w W) : Sl R sz (fun b => b < n0) W A n ds :=
  h.stays hR (fun _ h => h) fun p v hp hc => (hb.cell hp).trans hc
def askN : Bool -> Fn
  | true => .func 78
  | false => .func 66
structure RfIn (n0 : Nat) (AS AD AV : Option Addr) (nS cS nD cD cV : Nat) (b bl ol i : Nat) (s : List Tb) (db : List Dt) (x : Rw) (wait : Bool) (w : World) : Prop where
  low : n0 <= b
  s0 : Row w b 29 #[.slice AS nS cS]
  s1 : Row w (b + 1) 31 #[.slice AD nD cD]
  s2 : Row w (b + 2) 3 #[.int .i64 i]
  s3 : Row w (b + 3) 166 #[.pointer (some ⟨bl, ol, none⟩)]
  s4 : Row w (b + 4) 95 #[.func (askN wait) #[] #[]]
  hs : Sl TbR 6 (fun b => b < n0) w AS nS s
  hd : Sl DtR 1 (fun b => b < n0) w AD nD db
  hb : bl < n0
  z0 : w.cell? ⟨bl, ol, none⟩ = some (.int .i64 x.id)
  z1 : w.cell? ⟨bl, ol + 1, none⟩ = some (.slice AV x.vals.length cV)
  hv : Sl VlR 3 (fun b => b < n0) w AV x.vals.length x.vals
section
variable {n0 : Nat} {AS AD AV : Option Addr} {nS cS nD cD cV b bl ol i : Nat} {s : List Tb} {db : List Dt} {x : Rw} {wait : Bool}
theorem RfIn.kp {w W : World} (h : RfIn n0 AS AD AV nS cS nD cD cV b bl ol i s db x wait w) (k : KpF n0 w W) : RfIn n0 AS AD AV nS cS nD cD cV b bl ol i s db x wait W :=
  ⟨h.low, k.2 _ _ _ (by decide) (by decide) (by decide) h.s0, k.2 _ _ _ (by decide) (by decide) (by decide) h.s1, k.2 _ _ _ (by decide) (by decide) (by decide) h.s2, k.2 _ _ _ (by decide) (by decide) (by decide) h.s3, k.2 _ _ _ (by decide) (by decide) (by decide) h.s4,
   h.hs.low TbR.stays k.1, h.hd.low DtR.stays k.1, h.hb, (k.1.cell (p := ⟨bl, ol, none⟩) h.hb).trans h.z0, (k.1.cell (p := ⟨bl, ol + 1, none⟩) h.hb).trans h.z1, h.hv.low VlR.stays k.1⟩
theorem RfIn.n0_le {w : World} (h : RfIn n0 AS AD AV nS cS nD cD cV b bl ol i s db x wait w) : n0 <= w.heap.size := by
  have := lt_of_block h.s0; have := h.low; omega
theorem RfIn.cells {w : World} (h : RfIn n0 AS AD AV nS cS nD cD cV b bl ol i s db x wait w) :
    w.cell? ⟨b, 0, none⟩ = some (.slice AS nS cS) /\ w.cell? ⟨b + 1, 0, none⟩ = some (.slice AD nD cD) /\ w.cell? ⟨b + 2, 0, none⟩ = some (.int .i64 i) /\ w.cell? ⟨b + 3, 0, none⟩ = some (.pointer (some ⟨bl, ol, none⟩)) /\ w.cell? ⟨b + 4, 0, none⟩ = some (.func (askN wait) #[] #[]) :=
  ⟨h.s0.cell 0, h.s1.cell 0, h.s2.cell 0, h.s3.cell 0, h.s4.cell 0⟩
end
def oneK (ok : Bool) (k : Int) : List Int := if ok then [] else [k]
def rowK (s : List Tb) (db : List Dt) (t : Tb) (rows : List Rw) (wait : Bool) (x : Rw) : List Int :=
  oneK (nullsB t.cols x.vals) 1 ++ oneK (checksB t.checks x.vals) 2 ++ oneK (uniqueB t rows x) 3 ++ oneK (refersB s db t x.vals wait) 4
theorem rowFw_K (s : List Tb) (db : List Dt) (t : Tb) (rows : List Rw) (wait : Bool) (i : Int) (x : Rw) : rowFw s db t rows wait i x = (rowK s db t rows wait x).map fun k => ⟨k, i, x.id⟩ := by
  unfold rowFw rowK oneFw oneK
  cases nullsB t.cols x.vals <;> cases checksB t.checks x.vals <;> cases uniqueB t rows x <;> cases refersB s db t x.vals wait <;> rfl
def StK (J Jx : List Int -> World -> Prop) (full : List Int) (n0 : Nat) (W0 : World) (pre : List Int) (st : Bool) (W' : World) : Prop :=
  if st then ∃ q, q <+: full /\ Jx q W' else J pre W' /\ KpF n0 W0 W'
theorem abides_below {β : Type} {B : Nat} {J : β -> World -> Prop} (hJ : AbidesFrom B J) {s : β} {W W' : World} (h : J s W) (hb : Below W.heap.size W W') : J s W' :=
  hJ s W W' none h ⟨hb.os, hb.tape, hb.output, hb.size, fun k hk _ => hb.block k hk⟩ (fun r e => by cases e)
theorem implIsLost (AS AD A5 AV : Option Addr) (bt ot br orr nS cS nD cD n5 c5 nV cV : Nat) (s : List Tb) (db : List Dt) (i : Nat) (vals : List Vl) (wait : Bool) (ok okd ok5 okv : Nat -> Prop) (w : World)
    (hs : Sl TbR 6 ok w AS nS s) (hd : Sl DtR 1 okd w AD nD db) (hi : i < s.length) (h5 : Sl FkR 5 ok5 w A5 n5 s[i].fks) (hv : Sl VlR 3 okv w AV nV vals) (t5 : w.cell? ⟨bt, ot + 5, none⟩ = some (.slice A5 n5 c5)) (r1 : w.cell? ⟨br, orr + 1, none⟩ = some (.slice AV nV cV))
    (hss : szL Tb.sz s <= 1048576) (hdn : nD <= 1048576) (hvn : nV <= 1048576) (hrow : rowB vals = true) (hF : ∀ f ∈ s[i].fks, FkIn s db vals f) :
    Calls Tryz.prog 191 #[.slice AS nS cS, .slice AD nD cD, .pointer (some ⟨bt, ot, none⟩), .pointer (some ⟨br, orr, none⟩), .func (askN wait) #[] #[]] w fun e w' => e = .returned (.bool (!(refersB s db s[i] vals wait))) /\ Below w.heap.size w w' := by
  cases wait
  · have h := implIsLostEnd AS AD A5 AV bt ot br orr nS cS nD cD n5 c5 nV cV s db i vals ok okd ok5 okv w hs hd hi h5 hv t5 r1 hss hdn hvn hrow hF
    rw [lostB_refers] at h
    exact h
  · have h := implIsLostNow AS AD A5 AV bt ot br orr nS cS nD cD n5 c5 nV cV s db i vals ok okd ok5 okv w hs hd hi h5 hv t5 r1 hss hdn hvn hrow hF
    rw [lostB_refers] at h
    exact h
end Go.Proofs.YtlpldhmanihnnaaGreat
namespace Go.Proofs.YtlpldhmanihnnaaGreat
open Go.RowKit Go.Maps Go.Shelf
attribute [local go_sem] Oper.semAt_some
set_option maxRecDepth 100000 in
set_option maxHeartbeats 8000000 in
theorem rowFlaws1_in (n l : Nat) (n0 : Nat) (AS AD AV : Option Addr) (nS cS nD cD cV b bl ol i : Nat) (s : List Tb) (db : List Dt) (x : Rw) (wait : Bool) (J Jx : List Int -> World -> Prop) (W : World)
    (H : RfIn n0 AS AD AV nS cS nD cD cV b bl ol i s db x wait W) (hi : i < s.length) (hid : i < db.length) (HX : RowIn s db s[i] x) (hss : szL Tb.sz s <= 1048576) (hrn : db[i].rows.length <= 1048576)
    (hdn : db.length <= 1048576) (hall : ∀ r ∈ db[i].rows, RowIn s db s[i] r)
    (hJ : AbidesFrom W.heap.size J) (hY : ∀ pre y W1, J pre W1 -> pre.length < 4 -> YieldAt Fence.wide (n - 1) Tryz.prog l #[.int .i64 y] W1 fun e W' => (e = .returned (.bool true) /\ J (pre ++ [y]) W' /\ KpF n0 W1 W') \/ (e = .returned (.bool false) /\ Jx (pre ++ [y]) W')) (h0 : J [] W) :
    CallsIn Fence.wide n Tryz.prog 187 #[.func (.yield l) #[] #[], .pointer (some ⟨b, 0, none⟩), .pointer (some ⟨b + 2, 0, none⟩), .pointer (some ⟨b + 3, 0, none⟩), .pointer (some ⟨b + 1, 0, none⟩), .pointer (some ⟨b + 4, 0, none⟩)] W fun e W' =>
      (∃ v, e = .returned v) /\ ((∃ ys, ys = rowK s db s[i] db[i].rows wait x /\ J ys W') \/ (∃ pre, pre <+: rowK s db s[i] db[i].rows wait x /\ Jx pre W')) := by
  have HS := Lib.hid H
  have HSS := Lib.hid hss
  have HXX := Lib.hid HX
  have HALL := Lib.hid hall
  have HJ := Lib.hid hJ
  have hn0 := H.n0_le
  -- a round, in one way: a truth comes back
  have HYB : Hid (∀ m pre y W1, J pre W1 -> KpF n0 W W1 -> pre.length < 4 -> (pre ++ [y]) <+: rowK s db s[i] db[i].rows wait x -> YieldAt Fence.wide m Tryz.prog l #[.int .i64 y] W1 fun e W' => ∃ g : Bool, e = .returned (.bool g) /\ StK J Jx (rowK s db s[i] db[i].rows wait x) n0 W (pre ++ [y]) (!g) W') := Lib.hid fun m pre y W1 hj hk hl hp =>
    YieldAt.mono (yieldAt_any (hY pre y W1 hj hl)) fun e W' h => by
      rcases h with ⟨rfl, h1, h2⟩ | ⟨rfl, h1⟩
      · exact ⟨true, rfl, h1, hk.trans h2⟩
      · exact ⟨false, rfl, _, hp, h1⟩
  have HSN := Lib.hid (show s.length <= 1048576 by unfold szL at hss; omega)
  have HTS := Lib.hid (szL_mem Tb.sz s s[i] (List.getElem_mem hi))
  -- what there is to read in any world that is kept
  have HT : Hid (∀ W1, KpF n0 W W1 -> ∃ bt ot A1 n1 c1 A2 n2 c2 A3 n3 c3 A4 n4 c4 A5 n5 c5, AS = some ⟨bt, ot, none⟩ /\ W1.cell? ⟨bt, ot + i * 6 + 1, none⟩ = some (.slice A1 n1 c1) /\ W1.cell? ⟨bt, ot + i * 6 + 2, none⟩ = some (.slice A2 n2 c2) /\ W1.cell? ⟨bt, ot + i * 6 + 3, none⟩ = some (.slice A3 n3 c3) /\ W1.cell? ⟨bt, ot + i * 6 + 4, none⟩ = some (.slice A4 n4 c4) /\ W1.cell? ⟨bt, ot + i * 6 + 5, none⟩ = some (.slice A5 n5 c5) /\
      Sl ClR 6 (fun b => b < n0) W1 A1 n1 s[i].cols /\ Sl IntR 1 (fun b => b < n0) W1 A2 n2 s[i].key /\ Sl UqR 1 (fun b => b < n0) W1 A3 n3 s[i].uniqs /\ Sl CkR 1 (fun b => b < n0) W1 A4 n4 s[i].checks /\ Sl FkR 5 (fun b => b < n0) W1 A5 n5 s[i].fks) := Lib.hid fun W1 hk => by
    obtain ⟨bt, ot, A1, n1, c1, A2, n2, c2, A3, n3, c3, A4, n4, c4, A5, n5, c5, -, rfl, q0, q1, q2, q3, q4, q5, s1, s2, s3, s4, s5, -⟩ := TbR.at_ (HS.out.kp hk).hs hi
    exact ⟨bt, ot, A1, n1, c1, A2, n2, c2, A3, n3, c3, A4, n4, c4, A5, n5, c5, rfl, q1, q2, q3, q4, q5, s1, s2, s3, s4, s5⟩
  obtain ⟨bt, ot, -, -, -, -, -, -, -, -, -, -, -, -, -, -, -, rfl, -⟩ := HT.out W (KpF.refl _ _)
  have HT2 : Hid (∀ W1, KpF n0 W W1 -> ∃ A1 n1 c1 A2 n2 c2 A3 n3 c3 A4 n4 c4 A5 n5 c5, W1.cell? ⟨bt, ot + i * 6 + 1, none⟩ = some (.slice A1 n1 c1) /\ W1.cell? ⟨bt, ot + i * 6 + 2, none⟩ = some (.slice A2 n2 c2) /\ W1.cell? ⟨bt, ot + i * 6 + 3, none⟩ = some (.slice A3 n3 c3) /\ W1.cell? ⟨bt, ot + i * 6 + 4, none⟩ = some (.slice A4 n4 c4) /\ W1.cell? ⟨bt, ot + i * 6 + 5, none⟩ = some (.slice A5 n5 c5) /\
      Sl ClR 6 (fun b => b < n0) W1 A1 n1 s[i].cols /\ Sl IntR 1 (fun b => b < n0) W1 A2 n2 s[i].key /\ Sl UqR 1 (fun b => b < n0) W1 A3 n3 s[i].uniqs /\ Sl CkR 1 (fun b => b < n0) W1 A4 n4 s[i].checks /\ Sl FkR 5 (fun b => b < n0) W1 A5 n5 s[i].fks) := Lib.hid fun W1 hk => by
    obtain ⟨bt', ot', A1, n1, c1, A2, n2, c2, A3, n3, c3, A4, n4, c4, A5, n5, c5, e, hh⟩ := HT.out W1 hk
    injection e with e
    injection e with e1 e2
    subst e1 e2
    exact ⟨A1, n1, c1, A2, n2, c2, A3, n3, c3, A4, n4, c4, A5, n5, c5, hh⟩
  clear HT
  have HP1 := Lib.hid (show oneK (nullsB s[i].cols x.vals) 1 <+: rowK s db s[i] db[i].rows wait x by unfold rowK; rw [List.append_assoc, List.append_assoc]; exact List.prefix_append _ _)
  have HP2 := Lib.hid (show oneK (nullsB s[i].cols x.vals) 1 ++ oneK (checksB s[i].checks x.vals) 2 <+: rowK s db s[i] db[i].rows wait x by unfold rowK; rw [List.append_assoc (_ ++ _)]; exact List.prefix_append _ _)
  have HP3 := Lib.hid (show oneK (nullsB s[i].cols x.vals) 1 ++ oneK (checksB s[i].checks x.vals) 2 ++ oneK (uniqueB s[i] db[i].rows x) 3 <+: rowK s db s[i] db[i].rows wait x by unfold rowK; exact List.prefix_append _ _)
  have HL1 : ∀ (b : Bool) (k : Int), (oneK b k).length <= 1 := fun b k => by cases b <;> simp [oneK]
  have HL1 := Lib.hid HL1
  have i0 : (0 : Int) <= i := by omega
  have i1 : (i : Int) < s.length := by omega
  have i2 : (i : Int) < db.length := by omega
  obtain rfl : s.length = nS := H.hs.1
  obtain rfl : db.length = nD := H.hd.1
  have hxl : x.vals.length <= 1048576 := HX.2.2.2.2.2.2
  obtain ⟨e0, -, e2, -, -⟩ := H.cells
  clear H hss HX hall hJ hY
  refine callsIn_of_wp Tryz.func187 rfl trivial ?_ rfl
  simp only [Tryz.ntmps187, List.size_toArray, List.length_cons, List.length_nil, Nat.reduceAdd, Nat.reduceSub, Array.replicate_succ, Array.replicate_zero, List.push_toArray, List.append_toArray, List.nil_append, List.cons_append]
  gi_upto_region 1 with fail
  gi_cut [7, 21] from 8 (fun s7 s21 W' => s7 = .pointer (some ⟨bt, ot + i * 6, none⟩) /\ ∃ st, s21 = .bool st /\ StK J Jx (rowK s db s[i] db[i].rows wait x) n0 W (oneK (nullsB s[i].cols x.vals) 1) st W')
  case first =>
    obtain ⟨A1, n1, c1, A2, n2, c2, A3, n3, c3, A4, n4, c4, A5, n5, c5, q1, q2, q3, q4, q5, s1, s2, s3, s4, s5⟩ := HT2.out W (KpF.refl n0 W)
    have HW := Lib.hid (HS.out.kp (KpF.refl n0 W))
    have hnw := HW.out.n0_le
    obtain ⟨e0, e1, e2, e3, e4⟩ := HW.out.cells
    have z1 := HW.out.z1
    have HJ1 := Lib.hid h0
    have hn1 : n1 <= 1048576 := by have h1 := s1.1; have h4 := Nat.le_trans HTS.out HSS.out; unfold Tb.sz szL at h4; omega
    have HC := Lib.hid (implWrongNullAt bt (ot + i * 6) A1 AV n1 c1 x.vals.length cV s[i].cols x.vals _ W q1 s1 (Sl.cellz (fun _ => rfl) HW.out.hv) hn1 hxl HXX.out.1)
    clear q1 q2 q3 q4 q5 s1 s2 s3 s4 s5 e0 e4 e1 e2
    cases hN : nullsB s[i].cols x.vals
    · have HN := Lib.hid hN
      have HQ := Lib.hid (show (([] : List Int)) ++ [1] <+: rowK s db s[i] db[i].rows wait x by have h := HP1.out; rw [hN] at h; exact h)
      have HQL := Lib.hid (show (([] : List Int)).length < 4 by have h1 := HL1.out; (try simp only [List.length_append]); have g1 := h1 (nullsB s[i].cols x.vals) 1; have g2 := h1 (checksB s[i].checks x.vals) 2; simp)
      clear hN
      gi_wp2_with fail
      refine ⟨trivial, fun h => (by cases h), (callsIn_wide.2 HC.out).mono ?_⟩
      rintro e w1 ⟨rfl, hb1⟩
      rw [HN.out]
      have k1 : KpF n0 W w1 := KpF.trans (KpF.refl n0 W) (KpF.below hnw hb1)
      obtain ⟨fn, tm, asg, bo, hy, hR⟩ := HYB.out 0 _ 1 w1 (abides_below HJ.out HJ1.out hb1) k1 HQL.out HQ.out
      clear HC e3 z1
      gi_wp2_with fail
      refine ⟨fun h => (by cases h), (roundIn_any hR).mono ?_⟩
      rintro e W' ⟨g, rfl, hst⟩
      clear hR hy
      gi_wp2_with fail
      gi_meet
      case rel => exact ⟨rfl, !g, rfl, by rw [HN.out]; exact hst⟩
    · have HN := Lib.hid hN
      clear hN
      gi_wp2_with fail
      refine ⟨trivial, fun h => (by cases h), (callsIn_wide.2 HC.out).mono ?_⟩
      rintro e w1 ⟨rfl, hb1⟩
      rw [HN.out]
      have k1 : KpF n0 W w1 := KpF.trans (KpF.refl n0 W) (KpF.below hnw hb1)
      have hj1 := abides_below HJ.out HJ1.out hb1
      clear HC e3 z1
      gi_wp2_with fail
      refine ⟨fun _ h => (by cases h), ?_⟩
      gi_wp2_with fail
      gi_meet
      case rel => exact ⟨rfl, false, rfl, by rw [HN.out]; exact ⟨by simpa [oneK] using hj1, k1⟩⟩
  case rest =>
    obtain ⟨rfl, st, rfl, hst⟩ := hcut
    cases st
    · obtain ⟨hj1, hk1⟩ : J (oneK (nullsB s[i].cols x.vals) 1) wc /\ KpF n0 W wc := hst
      have hjk := Lib.hid (And.intro hj1 hk1)
      clear hj1 hk1
      gi_upto_region 2 with fail
      gi_cut [7, 32] from 8 (fun s7 s32 W' => s7 = .pointer (some ⟨bt, ot + i * 6, none⟩) /\ ∃ st, s32 = .bool st /\ StK J Jx (rowK s db s[i] db[i].rows wait x) n0 W (oneK (nullsB s[i].cols x.vals) 1 ++ oneK (checksB s[i].checks x.vals) 2) st W')
      case first =>
        obtain ⟨A1, n1, c1, A2, n2, c2, A3, n3, c3, A4, n4, c4, A5, n5, c5, q1, q2, q3, q4, q5, s1, s2, s3, s4, s5⟩ := HT2.out wc hjk.out.2
        have HW := Lib.hid (HS.out.kp hjk.out.2)
        have hnw := HW.out.n0_le
        obtain ⟨e0, e1, e2, e3, e4⟩ := HW.out.cells
        have z1 := HW.out.z1
        have HJ1 := Lib.hid hjk.out.1
        have HC := Lib.hid (implFailsCheckAt bt (ot + i * 6) A4 AV n4 c4 x.vals.length cV s[i].checks x.vals _ wc q4 s4 (Sl.cellz (fun _ => rfl) HW.out.hv) (by have h4 := Nat.le_trans HTS.out HSS.out; unfold Tb.sz at h4; omega) hxl)
        clear q1 q2 q3 q4 q5 s1 s2 s3 s4 s5 e0 e4 e1 e2
        cases hN : checksB s[i].checks x.vals
        · have HN := Lib.hid hN
          have HQ := Lib.hid (show (oneK (nullsB s[i].cols x.vals) 1) ++ [2] <+: rowK s db s[i] db[i].rows wait x by have h := HP2.out; rw [hN] at h; exact h)
          have HQL := Lib.hid (show (oneK (nullsB s[i].cols x.vals) 1).length < 4 by have h1 := HL1.out; (try simp only [List.length_append]); have g1 := h1 (nullsB s[i].cols x.vals) 1; have g2 := h1 (checksB s[i].checks x.vals) 2; omega)
          clear hN
          gi_wp2_with fail
          refine ⟨trivial, fun h => (by cases h), (callsIn_wide.2 HC.out).mono ?_⟩
          rintro e w1 ⟨rfl, hb1⟩
          rw [HN.out]
          have k1 : KpF n0 W w1 := KpF.trans hjk.out.2 (KpF.below hnw hb1)
          obtain ⟨fn, tm, asg, bo, hy, hR⟩ := HYB.out 0 _ 2 w1 (abides_below HJ.out HJ1.out hb1) k1 HQL.out HQ.out
          clear HC e3 z1
          gi_wp2_with fail
          refine ⟨fun h => (by cases h), (roundIn_any hR).mono ?_⟩
          rintro e W' ⟨g, rfl, hst⟩
          clear hR hy
          gi_wp2_with fail
          gi_meet
          case rel => exact ⟨rfl, !g, rfl, by rw [HN.out]; exact hst⟩
        · have HN := Lib.hid hN
          clear hN
          gi_wp2_with fail
          refine ⟨trivial, fun h => (by cases h), (callsIn_wide.2 HC.out).mono ?_⟩
          rintro e w1 ⟨rfl, hb1⟩
          rw [HN.out]
          have k1 : KpF n0 W w1 := KpF.trans hjk.out.2 (KpF.below hnw hb1)
          have hj1 := abides_below HJ.out HJ1.out hb1
          clear HC e3 z1
          gi_wp2_with fail
          refine ⟨fun _ h => (by cases h), ?_⟩
          gi_wp2_with fail
          gi_meet
          case rel => exact ⟨rfl, false, rfl, by rw [HN.out]; exact ⟨by simpa [oneK] using hj1, k1⟩⟩
      case rest =>
        obtain ⟨rfl, st, rfl, hst⟩ := hcut
        cases st
        · obtain ⟨hj2, hk2⟩ : J (oneK (nullsB s[i].cols x.vals) 1 ++ oneK (checksB s[i].checks x.vals) 2) wc /\ KpF n0 W wc := hst
          have hjk := Lib.hid (And.intro hj2 hk2)
          clear hj2 hk2
          gi_upto_region 3 with fail
          gi_cut [7, 45] from 8 (fun s7 s45 W' => s7 = .pointer (some ⟨bt, ot + i * 6, none⟩) /\ ∃ st, s45 = .bool st /\ StK J Jx (rowK s db s[i] db[i].rows wait x) n0 W (oneK (nullsB s[i].cols x.vals) 1 ++ oneK (checksB s[i].checks x.vals) 2 ++ oneK (uniqueB s[i] db[i].rows x) 3) st W')
          case first =>
            obtain ⟨A1, n1, c1, A2, n2, c2, A3, n3, c3, A4, n4, c4, A5, n5, c5, q1, q2, q3, q4, q5, s1, s2, s3, s4, s5⟩ := HT2.out wc hjk.out.2
            have HW := Lib.hid (HS.out.kp hjk.out.2)
            have hnw := HW.out.n0_le
            obtain ⟨e0, e1, e2, e3, e4⟩ := HW.out.cells
            have z1 := HW.out.z1
            have HJ1 := Lib.hid hjk.out.1
            have hn2 : n2 <= 1048576 := by have h1 := s2.1; have h4 := Nat.le_trans HTS.out HSS.out; unfold Tb.sz szL at h4; omega
            have hn3 : n3 <= 1048576 := by have h1 := s3.1; have h4 := Nat.le_trans HTS.out HSS.out; unfold Tb.sz szL at h4; omega
            obtain ⟨bd, od, AL, nL, cL, hbd, eAD, p0, hrw, -⟩ := DtR.at_ HW.out.hd hid
            subst eAD
            obtain rfl : db[i].rows.length = nL := hrw.1
            have hun : ∀ u ∈ s[i].uniqs, u.cols.length <= 1048576 := fun u hu => by
              have h1 := szL_mem Uq.sz s[i].uniqs u hu
              have h4 := Nat.le_trans HTS.out HSS.out
              have h3 : szL Uq.sz s[i].uniqs <= s[i].sz := by unfold Tb.sz; omega
              have h5 : u.cols.length <= u.sz := by unfold Uq.sz; omega
              omega
            have HC := Lib.hid (implRivalsOf bt (ot + i * 6) bd (od + i) bl ol AL A2 A3 AV db[i].rows.length cL n2 c2 n3 c3 x.vals.length cV db[i].rows s[i] x _ _ _ _ (World.drew wc) q2 q3 (s2.drew IntR.stays) (s3.drew UqR.stays) p0 (hrw.drew RwR.stays) HW.out.z0 HW.out.z1 (HW.out.hv.drew VlR.stays) hrn hn2 hn3 hun hxl (fun r hr => (HALL.out r hr).2.2.2.2.2.2) (fun r hr => (HALL.out r hr).2.2.2.1) (fun u hu r hr => (HALL.out r hr).2.2.2.2.1 u hu) HXX.out.2.1 HXX.out.2.2.2.1 HXX.out.2.2.2.2.1)
            have d1 : (World.drew wc).cell? ⟨b + 1, 0, none⟩ = some (.slice (some ⟨bd, od, none⟩) db.length cD) := e1
            have d2 : (World.drew wc).cell? ⟨b + 2, 0, none⟩ = some (.int .i64 i) := e2
            have d3 : (World.drew wc).cell? ⟨b + 3, 0, none⟩ = some (.pointer (some ⟨bl, ol, none⟩)) := e3
            clear q1 q2 q3 q4 q5 s1 s2 s3 s4 s5 e0 e4 e1 e2 e3 z1 p0 hrw hun
            cases hN : uniqueB s[i] db[i].rows x
            · have HN := Lib.hid hN
              have HQ := Lib.hid (show (oneK (nullsB s[i].cols x.vals) 1 ++ oneK (checksB s[i].checks x.vals) 2) ++ [3] <+: rowK s db s[i] db[i].rows wait x by have h := HP3.out; rw [hN] at h; exact h)
              have HQL := Lib.hid (show (oneK (nullsB s[i].cols x.vals) 1 ++ oneK (checksB s[i].checks x.vals) 2).length < 4 by have h1 := HL1.out; (try simp only [List.length_append]); have g1 := h1 (nullsB s[i].cols x.vals) 1; have g2 := h1 (checksB s[i].checks x.vals) 2; omega)
              have hmx : Tryz.prog.follows .mixedOrders = true := by kernel_rfl
              have hfx : Fence.wide.fn 190 := trivial
              have hdx : Fence.wide.depth = none := rfl
              have HV := Lib.hid (show 0 < (rivB s[i] db[i].rows x).length by have h := uniqueB_riv s[i] db[i].rows x; rw [hN] at h; simpa using h)
              clear hN
              have hv0 := HV.out
              have hv1 : (0 : Int) < ((rivB s[i] db[i].rows x).length : Int) := by omega
              gi_region_with_o (first
                | (refine (callsIn_wide.2 HC.out).mono ?_; rintro e w1 ⟨v9, rfl, ho9, hb1⟩; obtain ⟨A9, c9, rfl, -, -, -⟩ := OwnI.sl ho9; replace hb1 := ((Below.refl (World.heap wc).size wc).drew).trans hb1; have k1 : KpF n0 W w1 := KpF.trans hjk.out.2 (KpF.below hnw hb1); obtain ⟨fn, tm, asg, bo, hy, hR⟩ := HYB.out 0 _ 3 w1 (abides_below HJ.out HJ1.out hb1) k1 HQL.out HQ.out)
                | (refine (roundIn_any hR).mono ?_; rintro e W' ⟨g, rfl, hst⟩))
              all_goals gi_wp2
              all_goals gi_meet
              all_goals exact ⟨rfl, !g, rfl, by rw [HN.out]; exact hst⟩
            · have HN := Lib.hid hN
              have hmx : Tryz.prog.follows .mixedOrders = true := by kernel_rfl
              have hfx : Fence.wide.fn 190 := trivial
              have hdx : Fence.wide.depth = none := rfl
              have HV := Lib.hid (show (rivB s[i] db[i].rows x).length = 0 by have h := uniqueB_riv s[i] db[i].rows x; rw [hN] at h; simpa using h)
              clear hN
              first | (gi_region_with_o (first
                | (refine (callsIn_wide.2 HC.out).mono ?_; rintro e w1 ⟨v9, rfl, ho9, hb1⟩; obtain ⟨A9, c9, rfl, -, -, -⟩ := OwnI.sl ho9; replace hb1 := ((Below.refl (World.heap wc).size wc).drew).trans hb1; rw [HV.out]; have k1 : KpF n0 W w1 := KpF.trans hjk.out.2 (KpF.below hnw hb1); have hj1 := abides_below HJ.out HJ1.out hb1)
                | (refine ⟨fun _ h => (by cases h), ?_⟩))) | fail
              all_goals gi_wp2
              all_goals gi_meet
              all_goals exact ⟨rfl, false, rfl, by rw [HN.out]; exact ⟨by simpa [oneK] using hj1, k1⟩⟩
          case rest =>
            obtain ⟨rfl, st, rfl, hst⟩ := hcut
            cases st
            · obtain ⟨hj3, hk3⟩ : J (oneK (nullsB s[i].cols x.vals) 1 ++ oneK (checksB s[i].checks x.vals) 2 ++ oneK (uniqueB s[i] db[i].rows x) 3) wc /\ KpF n0 W wc := hst
              have hjk := Lib.hid (And.intro hj3 hk3)
              clear hj3 hk3
              obtain ⟨A1, n1, c1, A2, n2, c2, A3, n3, c3, A4, n4, c4, A5, n5, c5, q1, q2, q3, q4, q5, s1, s2, s3, s4, s5⟩ := HT2.out wc hjk.out.2
              have HW := Lib.hid (HS.out.kp hjk.out.2)
              have hnw := HW.out.n0_le
              obtain ⟨e0, e1, e2, e3, e4⟩ := HW.out.cells
              have HC := Lib.hid (implIsLost (some ⟨bt, ot, none⟩) AD A5 AV bt (ot + i * 6) bl ol s.length cS db.length cD n5 c5 x.vals.length cV s db i x.vals wait _ _ _ _ wc HW.out.hs HW.out.hd hi s5 HW.out.hv q5 HW.out.z1 HSS.out hdn hxl HXX.out.2.1 HXX.out.2.2.2.2.2.1)
              clear q1 q2 q3 q4 q5 s1 s2 s3 s4 s5 e2
              cases hN : refersB s db s[i] x.vals wait
              · have HN := Lib.hid hN
                have HF := Lib.hid (show (oneK (nullsB s[i].cols x.vals) 1 ++ oneK (checksB s[i].checks x.vals) 2 ++ oneK (uniqueB s[i] db[i].rows x) 3) ++ [4] = rowK s db s[i] db[i].rows wait x by unfold rowK; rw [hN]; rfl)
                have HQL := Lib.hid (show (oneK (nullsB s[i].cols x.vals) 1 ++ oneK (checksB s[i].checks x.vals) 2 ++ oneK (uniqueB s[i] db[i].rows x) 3).length < 4 by have h1 := HL1.out; (try simp only [List.length_append]); have g1 := h1 (nullsB s[i].cols x.vals) 1; have g2 := h1 (checksB s[i].checks x.vals) 2; have g3 := h1 (uniqueB s[i] db[i].rows x) 3; omega)
                clear hN
                gi_wp2_with fail
                refine ⟨trivial, fun h => (by cases h), (callsIn_wide.2 HC.out).mono ?_⟩
                rintro e w1 ⟨rfl, hb1⟩
                rw [HN.out]
                have k1 : KpF n0 W w1 := KpF.trans hjk.out.2 (KpF.below hnw hb1)
                obtain ⟨fn, tm, asg, bo, hy, hR⟩ := HYB.out 0 _ 4 w1 (abides_below HJ.out hjk.out.1 hb1) k1 HQL.out (by rw [HF.out]; exact List.prefix_refl _)
                rw [HF.out] at hR
                clear HC e0 e1 e3 e4
                gi_wp2_with fail
                refine ⟨fun h => (by cases h), (roundIn_any hR).mono ?_⟩
                rintro e W' ⟨g, rfl, hst⟩
                clear hR hy
                gi_wp2_with fail
                go_end0
                cases g
                · exact ⟨⟨_, rfl⟩, .inr hst⟩
                · exact ⟨⟨_, rfl⟩, .inl ⟨_, rfl, hst.1⟩⟩
              · have HN := Lib.hid hN
                have HF := Lib.hid (show oneK (nullsB s[i].cols x.vals) 1 ++ oneK (checksB s[i].checks x.vals) 2 ++ oneK (uniqueB s[i] db[i].rows x) 3 = rowK s db s[i] db[i].rows wait x by unfold rowK; rw [hN]; simp [oneK])
                clear hN
                gi_wp2_with fail
                refine ⟨trivial, fun h => (by cases h), (callsIn_wide.2 HC.out).mono ?_⟩
                rintro e w1 ⟨rfl, hb1⟩
                rw [HN.out]
                have hj4 := abides_below HJ.out hjk.out.1 hb1
                rw [HF.out] at hj4
                clear HC e0 e1 e3 e4
                gi_wp2_with fail
                go_end0
                exact ⟨⟨_, rfl⟩, .inl ⟨_, rfl, hj4⟩⟩
            · gi_wp2
              refine bodyPost_ret (results_none rfl _ _ _) rfl ?_
              exact ⟨⟨_, rfl⟩, .inr hst⟩
        · gi_wp2
          refine bodyPost_ret (results_none rfl _ _ _) rfl ?_
          exact ⟨⟨_, rfl⟩, .inr hst⟩
    · gi_wp2
      refine bodyPost_ret (results_none rfl _ _ _) rfl ?_
      exact ⟨⟨_, rfl⟩, .inr hst⟩
end Go.Proofs.YtlpldhmanihnnaaGreat
