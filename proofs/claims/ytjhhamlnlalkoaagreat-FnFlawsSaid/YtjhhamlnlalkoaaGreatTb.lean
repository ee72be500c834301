/-
  Several texts in one: what the proof leans on, part 2.
-/
import Derived.Test.YtjhhamlnlalkoaaGreatTa
import Derived.Test.YtjhhamlnlalkoaaGreatPa
import Derived.Test.YtjhhamlnlalkoaaGreatPb
import Derived.Test.YtjhhamlnlalkoaaGreatPc
import Derived.Test.YtjhhamlnlalkoaaGreatPd
import Derived.Test.YtjhhamlnlalkoaaGreatPe
import Derived.Test.YtjhhamlnlalkoaaGreatPf
import Derived.Test.YtjhhamlnlalkoaaGreatPg
import Derived.Test.YtjhhamlnlalkoaaGreatPh
import Derived.Test.YtjhhamlnlalkoaaGreatPi
import Derived.Test.YtjhhamlnlalkoaaGreatQa
import Derived.Test.YtjhhamlnlalkoaaGreatQb
import Derived.Test.YtjhhamlnlalkoaaGreatSa
import Derived.Test.YtjhhamlnlalkoaaGreatSb
import Derived.Test.YtjhhamlnlalkoaaGreatSc
import Derived.Lib.AppendZeros
import Derived.Maps.AppendAt
set_option linter.unusedVariables false
set_option linter.unusedSimpArgs false
namespace Go.Proofs.YtjhhamlnlalkoaaGreat
open Go.RowKit
theorem eqlL_self (l : List Vl) : eqlL l l = true := by
 unfold eqlL
 rw [decide_eq_true rfl, Bool.true_and, List.all_eq_true]
 intro p hp
 obtain ⟨i, hi, rfl⟩ := List.mem_iff_getElem.1 hp
 rw [List.getElem_zip]
 simp [eqlP, eqlV]
def nnBad (p : Cl × Vl) : Bool := p.1.nn && p.2.k == 0
def ckBad (vals : List Vl) (c : Ck) : Bool := decide (truthB c.expr vals < 0) || truthB c.expr vals == 0
def uqBad (s : List Tb) (db : List Dt) (i : Nat) (vals : List Vl) (cols : List Int) : Bool := keyFl cols vals && decide (1 < (findB s db (i : Int) cols (keyOf cols vals)).length)
def toKey (s : List Tb) (f : Fk) : List Int := (s[(atN (s.map Tb.name) f.table).toNat]?.map Tb.key).getD []
def fkBad (s : List Tb) (db : List Dt) (vals : List Vl) (f : Fk) : Bool := keyFl f.cols vals && decide ((findB s db (atN (s.map Tb.name) f.table) (toKey s f) (keyOf f.cols vals)).length = 0)
theorem two_of {l : List Int} {a b : Int} (ha : a ∈ l) (hb : b ∈ l) (h : a ≠ b) : 1 < l.length := by
 match l, ha, hb with
 | [x], ha, hb => rw [List.mem_singleton] at ha hb; exact absurd (ha.trans hb.symm) h
 | x :: y :: t, _, _ => simp
theorem key_fl {vals : List Vl} {cols : List Int} (h1 : rowB vals = true) (h2 : cols.all (inV vals) = true) : keyFl cols vals = knownL (keyL cols vals) ∧ keyOf cols vals = keyL cols vals := by
 have hko : keyOk cols vals = true := by unfold keyOk; rw [h1, h2]; rfl
 unfold keyFl keyOf
 rw [hko, Bool.true_and, if_pos rfl]
 exact ⟨rfl, rfl⟩
theorem twice_bad {s : List Tb} {db : List Dt} (hB : dbB s db = true) {i : Nat} (h : i < s.length) (h' : i < db.length) {r : Rw} (hr : r ∈ db[i].rows) {cols : List Int} (hc : colsInB cols s[i].cols.length = true) (hin : cols.all (inV r.vals) = true) (ht : twiceB cols db[i].rows r = true) : uqBad s db i r.vals cols = true := by
 obtain ⟨r1, r2, -⟩ := rowIn_of hB i h h' r hr
 obtain ⟨k1, k2⟩ := key_fl r2 hin
 unfold twiceB at ht
 rw [Bool.and_eq_true, List.any_eq_true] at ht
 obtain ⟨hkn, y, hy, hne⟩ := ht
 unfold uqBad
 rw [k1, k2, hkn, Bool.true_and, decide_eq_true_eq, findB_yes h h' hB hc]
 have hself : r.id ∈ findL cols (keyL cols r.vals) db[i].rows := findL_mem.2 ⟨r, hr, by rw [hitB_eq, hkn, eqlL_self]; rfl, rfl⟩
 exact two_of hy hself (by simpa using hne)
theorem why {s : List Tb} {db : List Dt} (hB : dbB s db = true) {x : Fw} (hx : x ∈ flawsB s db false) :
  ∃ i, ∃ (h : i < s.length) (h' : i < db.length) (k : Nat) (hk : k < db[i].rows.length), x.t = i ∧ x.id = db[i].rows[k].id ∧
   ((x.k = 1 ∧ (s[i].cols.zip db[i].rows[k].vals).any nnBad = true) ∨ (x.k = 2 ∧ s[i].checks.any (ckBad db[i].rows[k].vals) = true) ∨
    (x.k = 3 ∧ (s[i].key :: s[i].uniqs.map Uq.cols).any (uqBad s db i db[i].rows[k].vals) = true) ∨ (x.k = 4 ∧ s[i].fks.any (fkBad s db db[i].rows[k].vals) = true)) := by
 obtain ⟨i, h, h', y, hy, hx⟩ := (fw_iff hB).1 hx
 obtain ⟨k, hk, rfl⟩ := List.mem_iff_getElem.1 hy
 refine ⟨i, h, h', k, hk, ?_⟩
 have hT := (schemaB_at (dbB_schema hB) h).1
 obtain ⟨r1, r2, r3, r4, r5, r6, r7⟩ := rowIn_of hB i h h' _ hy
 unfold rowFw at hx
 rw [List.mem_append, List.mem_append, List.mem_append] at hx
 have hone : ∀ (ok : Bool) (n : Int), x ∈ oneFw ok n i db[i].rows[k] → ok = false ∧ x = ⟨n, i, db[i].rows[k].id⟩ := fun ok n hm => by
  unfold oneFw at hm
  cases ok
  ·exact ⟨rfl, by simpa using hm⟩
  ·cases hm
 rcases hx with ((hx | hx) | hx) | hx
 ·obtain ⟨e, rfl⟩ := hone _ _ hx
  refine ⟨rfl, rfl, .inl ⟨rfl, ?_⟩⟩
  unfold nullsB at e
  rw [List.all_eq_false] at e
  obtain ⟨p, hp, hp0⟩ := e
  rw [List.any_eq_true]
  refine ⟨p, hp, ?_⟩
  unfold nullV at hp0
  unfold nnBad
  simpa using hp0
 ·obtain ⟨e, rfl⟩ := hone _ _ hx
  refine ⟨rfl, rfl, .inr (.inl ⟨rfl, ?_⟩)⟩
  unfold checksB at e
  rw [List.all_eq_false] at e
  obtain ⟨p, hp, hp0⟩ := e
  rw [List.any_eq_true]
  refine ⟨p, hp, ?_⟩
  unfold ckV truOkB at hp0
  unfold ckBad
  rcases truthB_rng p.expr db[i].rows[k].vals with e | e | e | e <;> rw [e] at hp0 ⊢ <;> simp at hp0 ⊢
 ·obtain ⟨e, rfl⟩ := hone _ _ hx
  refine ⟨rfl, rfl, .inr (.inr (.inl ⟨rfl, ?_⟩))⟩
  unfold uniqueB at e
  rw [List.any_cons, Bool.or_eq_true]
  rw [Bool.and_eq_false_iff] at e
  rcases e with e | e
  ·exact .inl (twice_bad hB h h' hy (tableB_key hT) r4 (by simpa using e))
  ·right
   rw [List.all_eq_false] at e
   obtain ⟨u, hu, hu0⟩ := e
   rw [List.any_eq_true]
   exact ⟨u.cols, List.mem_map_of_mem hu, twice_bad hB h h' hy (tableB_uniq hT u hu) (r5 u hu) (by simpa using hu0)⟩
 ·obtain ⟨e, rfl⟩ := hone _ _ hx
  refine ⟨rfl, rfl, .inr (.inr (.inr ⟨rfl, ?_⟩))⟩
  unfold refersB at e
  rw [List.all_eq_false] at e
  obtain ⟨f, hf, hf0⟩ := e
  rw [List.any_eq_true]
  refine ⟨f, hf, ?_⟩
  obtain ⟨f1, f2, m, hm, hml, hmd, f3⟩ := r6 f hf
  obtain ⟨k1, k2⟩ := key_fl r2 f1
  unfold okFkB at hf0
  rw [Bool.false_and, Bool.false_or, parentB_at hm hml hmd] at hf0
  unfold parentR at hf0
  have h9 : knownL (keyL f.cols db[i].rows[k].vals) = true ∧ (findL s[m].key (keyL f.cols db[i].rows[k].vals) db[m].rows).length = 0 := by
   simp only [Bool.or_eq_true, Bool.not_eq_true', decide_eq_true_eq, not_or, Bool.not_eq_false] at hf0
   exact ⟨hf0.1, by omega⟩
  have hk9 : toKey s f = s[m].key := by unfold toKey; rw [hm]; simp [hml]
  unfold fkBad
  rw [hk9, k1, k2, h9.1, Bool.true_and, decide_eq_true_eq, hm, findB_yes hml hmd hB (tableB_key (schemaB_at (dbB_schema hB) hml).1)]
  exact h9.2
def UqV (ok : Nat → Prop) (w : World) (v : Value) (d : Uq) : Prop := ∃ A n c, v = .slice A n c ∧ n ≤ c ∧ Sl IntR 1 ok w A n d.cols
theorem UqV.below {ok : Nat → Prop} {w w' : World} {v : Value} {d : Uq} (h : UqV ok w v d) (hb : Below w.heap.size w w') : UqV ok w' v d := by
 obtain ⟨A, n, c, e, h1, h2⟩ := h
 exact ⟨A, n, c, e, h1, h2.below IntR.stays hb⟩
theorem uq_vals {ok : Nat → Prop} {w : World} {A : Option Addr} {n : Nat} {ds : List Uq} (h : Sl UqR 1 ok w A n ds) :
  ∃ vs : List Value, vs.length = ds.length ∧ (∀ i (hi : i < ds.length) (hi' : i < vs.length), UqV ok w vs[i] ds[i]) ∧ ∀ b off, A = some ⟨b, off, none⟩ → ∀ j u, vs[j]? = some u → w.cell? ((⟨b, off, none⟩ : Addr).add j) = some u := by
 have hx : ∀ i : Fin ds.length, ∃ v, UqV ok w v ds[i.1] ∧ ∀ b off, A = some ⟨b, off, none⟩ → w.cell? ⟨b, off + i.1, none⟩ = some v := fun i => by
  obtain ⟨b, off, A0, n0, c0, -, rfl, p, hr, hc⟩ := UqR.at_ h i.2
  exact ⟨_, ⟨A0, n0, c0, rfl, hc, hr⟩, fun b' off' e => by cases e; exact p⟩
 refine ⟨List.ofFn fun i => Classical.choose (hx i), by simp, fun i hi hi' => ?_, fun b off e j u hj => ?_⟩
 ·rw [List.getElem_ofFn]
  exact (Classical.choose_spec (hx ⟨i, hi⟩)).1
 ·obtain ⟨hl, hu⟩ := List.getElem?_eq_some_iff.1 hj
  rw [List.length_ofFn] at hl
  rw [List.getElem_ofFn] at hu
  rw [← hu, addr_add]
  exact (Classical.choose_spec (hx ⟨j, hl⟩)).2 b off e
theorem uq_of {ok : Nat → Prop} {w : World} {base g n c : Nat} {T : TypeId} {vs : List Value} {ds : List Uq} (h : w.ownsRow base T 1 (.slice (some ⟨g, 0, none⟩) n c) n vs) (hn : n = ds.length) (hv : ∀ i (hi : i < ds.length) (hi' : i < vs.length), UqV ok w vs[i] ds[i]) (hl : vs.length = ds.length) :
  Sl UqR 1 (fun _ => True) w (some ⟨g, 0, none⟩) n ds := by
 subst hn
 rcases h.2 with ⟨e, -⟩ | ⟨g', cap, cur, e, h1, h2, h3, h4, h5, h6⟩
 ·cases e
 ·cases e
  refine ⟨rfl, fun hn => ⟨g, 0, rfl, trivial, fun i hi => ?_⟩⟩
  have hi' : i < vs.length := by omega
  obtain ⟨A, n, c, e, k1, k2⟩ := hv i hi hi'
  refine ⟨[vs[i]], rfl, ⟨A, n, c, by rw [e], k2.stays IntR.stays (fun _ _ => trivial) (fun _ _ _ h => h), k1⟩, fun j x hj => ?_⟩
  have hj0 : j = 0 := by have := (List.getElem?_eq_some_iff.1 hj).1; simpa using this
  subst hj0
  obtain rfl := Option.some.inj hj
  rw [cell_of_row _ _ _ _ _ _ h2, ← Array.getElem?_toList]
  have h8 : ∀ u, vs[i]? = some u → cur.toList[i]? = some u := fun u hu => by
   rw [← h6, List.getElem?_take] at hu
   split at hu
   ·exact hu
   ·cases hu
  rw [show 0 + i * 1 + 0 = i by omega]
  exact h8 _ (List.getElem?_eq_getElem hi')
theorem infoUqF : (Tryz.prog.info? 61).map (fun i => (i.zero, i.size, i.bytes)) = some (some (.agg #[.slice none 0 0]), 1, 24) := by kernel_rfl
theorem run_app_uq {w0 w : World} {ok : Nat → Prop} {g B2m B2d n3 c3 : Nat} {B2 A3 : Option Addr} {key : List Int} {us : List Uq} (hb : Below w0.heap.size w0 w) (hg : w0.heap.size ≤ g) (hB : Blo w g [.slice B2 B2m B2d] 61)
  (hkey : Sl IntR 1 ok w0 B2 B2m key) (hk2 : B2m ≤ B2d) (hu : Sl UqR 1 ok w0 A3 n3 us) (hn : n3 ≤ 1048576) (ty : TypeId) :
  ∃ g' c' w', (Builtin.append_ #[41, 41] ty #[.slice (some ⟨g, 0, none⟩) 1 1, .slice A3 n3 c3]).run Tryz.prog w = .ok (.slice (some ⟨g', 0, none⟩) (us.length + 1) c') w' ∧ us.length + 1 ≤ c' ∧ Sl UqR 1 (fun _ => True) w' (some ⟨g', 0, none⟩) (us.length + 1) (⟨key⟩ :: us) ∧ Below w0.heap.size w0 w' := by
 obtain rfl : us.length = n3 := hu.1
 obtain ⟨i, hi, hz, hsize, hby⟩ := info_parts infoUqF
 have hlt := hB.lt
 have hown : w.ownsRow w0.heap.size 61 1 (.slice (some ⟨g, 0, none⟩) 1 1) 1 [.slice B2 B2m B2d] := ⟨by simp, .inr ⟨g, 1, #[.slice B2 B2m B2d], rfl, hg, hB, Nat.le_refl _, by unfold maxLen; omega, by simp, by simp⟩⟩
 by_cases hn0 : us.length = 0
 ·have hl : us = [] := List.eq_nil_of_length_eq_zero hn0
  subst hl
  refine ⟨g, 1, w, ?_, Nat.le_refl _, uq_of (ok := ok) hown rfl (fun i hi hi' => ?_) rfl, hb⟩
  ·have hf0 : (Builtin.firstCells i.size 0 (.slice A3 0 c3)).run Tryz.prog w = .ok #[] w := by
    cases A3 <;> simp [Builtin.firstCells, loadCells] <;> rfl
   simp [Builtin.append_, run_underlying Tryz.underlying41, sizeOf, typeInfo, hi, Builtin.lenOf, hf0, storeCells]
  ·have h0 : i = 0 := by simpa using hi
   subst h0
   exact ⟨B2, B2m, B2d, rfl, hk2, hkey.below IntR.stays hb⟩
 ·obtain ⟨b, off, rfl, -, -⟩ := hu.2 (by omega)
  obtain ⟨vs, hvl, hvv, hvc⟩ := uq_vals hu
  have hone : ∀ u ∈ vs, u.oneCell' = true := fun u hu => by
   obtain ⟨i, hi, rfl⟩ := List.mem_iff_getElem.1 hu
   obtain ⟨A, n, c, e, -⟩ := hvv i (by omega) hi
   rw [e]; rfl
  obtain ⟨v', w', hr, h1, h2, -, -⟩ := run_append_own_at (P := Tryz.prog) w w0.heap.size 41 ty 61 i (.agg #[.slice none 0 0]) 1 24 Tryz.underlying41 hi hz hsize hby rfl (by decide) _ 1 _ hown ⟨b, off, none⟩ us.length c3 vs (by omega) (fun j u hj => below_keep hb _ _ (hvc b off rfl j u hj)) hone (by unfold maxLen; omega) (by omega) hb.size
  obtain ⟨g', c', rfl⟩ := Joins.ownsRow_form h1 (by omega)
  have hb' : Below w0.heap.size w0 w' := hb.grown h2 hb.size (fun q hq => by cases hq; exact hg)
  have hc' : 1 + us.length ≤ c' := by
   rcases h1.2 with ⟨e, -⟩ | ⟨_, cap, cur, e, -, -, h3, -⟩
   ·cases e
   ·cases e; exact h3
  rw [Nat.add_comm] at hr h1 hc'
  refine ⟨g', c', w', hr, hc', uq_of (ok := ok) h1 rfl (fun i hi hi' => ?_) (by simp; omega), hb'⟩
  cases i with
  | zero => exact ⟨B2, B2m, B2d, rfl, hk2, hkey.below IntR.stays hb'⟩
  | succ i => exact (hvv i (by simpa using hi) (by simpa using hi')).below hb'
def f1 (x : Fw) (p : Cl × Vl) : Bool := x.k == 1 && (p.1.nn && p.2.k == 0)
def f2 (x : Fw) (vals : List Vl) (c : Ck) : Bool := x.k == 2 && (decide (truthB c.expr vals < 0) || truthB c.expr vals == 0)
def f3 (x : Fw) (s : List Tb) (db : List Dt) (i : Nat) (vals : List Vl) (u : Uq) : Bool := x.k == 3 && (keyFl u.cols vals && decide (1 < (findB s db (i : Int) u.cols (keyOf u.cols vals)).length))
def f4 (x : Fw) (s : List Tb) (db : List Dt) (vals : List Vl) (f : Fk) : Bool := x.k == 4 && (keyFl f.cols vals && ((findB s db (atN (s.map Tb.name) f.table) (toKey s f) (keyOf f.cols vals)).length : Int) == 0)
theorem any_mono {α : Type} {f g : α → Bool} {l : List α} (h : l.any f = true) (hfg : ∀ x, f x = true → g x = true) : l.any g = true := by
 obtain ⟨x, hx, hf⟩ := List.any_eq_true.1 h
 exact List.any_eq_true.2 ⟨x, hx, hfg x hf⟩
theorem why_all {s : List Tb} {db : List Dt} (hB : dbB s db = true) {x : Fw} (hx : x ∈ flawsB s db false) :
  ∃ i, ∃ (h : i < s.length) (h' : i < db.length) (k : Nat) (hk : k < db[i].rows.length), x.t = i ∧ x.id = db[i].rows[k].id ∧ atB db[i].rows x.id = db[i].rows[k].vals ∧
   ((((s[i].cols.zip db[i].rows[k].vals).any (f1 x) || s[i].checks.any (f2 x db[i].rows[k].vals)) || ((⟨s[i].key⟩ : Uq) :: s[i].uniqs).any (f3 x s db i db[i].rows[k].vals)) || s[i].fks.any (f4 x s db db[i].rows[k].vals)) = true := by
 obtain ⟨i, h, h', k, hk, ht, hi, hc⟩ := why hB hx
 refine ⟨i, h, h', k, hk, ht, hi, ?_, ?_⟩
 ·have hd := dbB_data hB h h'
  unfold dataB at hd
  rw [Bool.and_eq_true] at hd
  have hup := (rows_up hd.2).2
  exact atB_at hk (fun j hj hjk e => by have := List.pairwise_iff_getElem.1 hup j k hj hk hjk; omega) hi.symm
 ·rw [Bool.or_eq_true, Bool.or_eq_true, Bool.or_eq_true]
  rcases hc with ⟨e, hc⟩ | ⟨e, hc⟩ | ⟨e, hc⟩ | ⟨e, hc⟩
  ·exact .inl (.inl (.inl (any_mono hc fun p hp => by unfold f1; rw [e]; exact hp)))
  ·exact .inl (.inl (.inr (any_mono hc fun p hp => by unfold f2; rw [e]; exact hp)))
  ·refine .inl (.inr ?_)
   rw [show ((⟨s[i].key⟩ : Uq) :: s[i].uniqs).any (f3 x s db i db[i].rows[k].vals) = (s[i].key :: s[i].uniqs.map Uq.cols).any (uqBad s db i db[i].rows[k].vals) by
    rw [List.any_cons, List.any_cons, List.any_map]
    unfold f3
    rw [e]; rfl]
   exact hc
  ·refine .inr (any_mono hc fun f hf => ?_)
   unfold f4
   unfold fkBad at hf
   rw [e]
   rw [Bool.and_eq_true, decide_eq_true_eq] at hf
   rw [hf.1, hf.2]; rfl
theorem al_small {t : Tb} (hk : t.key.length ≤ 8) (hz : szL Uq.sz t.uniqs ≤ 1048576) : ∀ u ∈ ((⟨t.key⟩ : Uq) :: t.uniqs), u.cols.length ≤ 1048576 := fun u hu => by
 rcases List.mem_cons.1 hu with rfl | hu
 ·exact Nat.le_trans hk (by omega)
 ·obtain ⟨j, hj, rfl⟩ := List.mem_iff_getElem.1 hu
  have h1 := sum_mem_le Uq.sz t.uniqs j hj
  unfold szL at hz
  have h3 : t.uniqs[j].cols.length ≤ t.uniqs[j].sz := by unfold Uq.sz; omega
  omega
end Go.Proofs.YtjhhamlnlalkoaaGreat
