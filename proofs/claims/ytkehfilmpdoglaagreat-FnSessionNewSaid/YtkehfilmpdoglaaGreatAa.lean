/-
  Several texts in one: what the proof leans on, part 1.
-/
import Derived.Test.YtkehfilmpdoglaaGreatRows
import Derived.WalkKit
import Derived.ProofKit
import Derived.OpenShut
import Derived.ShutString
import Derived.ChangeOld
import Derived.Below
import Derived.Lib.SmallJoins
import Derived.Lib.Hide
import Derived.Deep.QuietTactic
import Derived.BigQuiet
import Derived.WalkSpells
import Derived.WalkLawsBesides
import Derived.Deep.Slices
import Derived.Deep.WholeRow
import Derived.Laws.StructEq
import Derived.Deep.RegionHeld3
import Derived.Stop.Asserts
import Derived.Deep.RegionWith
import Derived.Deep.LoopGhost
import Derived.Maps.Own
import Derived.Maps.OwnOps
import Derived.Maps.OwnSet
import Derived.IntWalk
import Derived.Laws.IdiomStrings
import Derived.Maps.AppendAt
import Derived.Deep.CutRange
import Derived.BigRegion
set_option linter.unusedVariables false
set_option linter.unusedSimpArgs false
namespace Go.Proofs.YtkehfilmpdoglaaGreat
theorem pz0 {α : Type _} {l : List α} {i : Nat} (h : i < l.toArray.size) : l.toArray[i] = l[i] := rfl
theorem pz1 {α : Type _} (a : α) (l : List α) (h : 0 < (a :: l).length) : (a :: l)[0] = a := rfl
theorem pz2 {α : Type _} (a : α) (l : List α) (i : Nat) (h : i + 1 < (a :: l).length) : (a :: l)[i + 1] = l[i]'(Nat.lt_of_succ_lt_succ h) := rfl
theorem pz3 {α : Type _} (l : List α) (i : Nat) (a : α) : l.toArray.setIfInBounds i a = (l.set i a).toArray := List.setIfInBounds_toArray l i a
theorem pz4 {α : Type _} {x : α} {l : List α} {a : α} : (x :: l).set 0 a = a :: l := rfl
theorem pz5 {α : Type _} {x : α} {l : List α} {i : Nat} {a : α} : (x :: l).set (i + 1) a = x :: l.set i a := rfl
section
variable {P : Program} {ops : Array Oper} {Q : Exit → Act → World → Prop} {md : Region.Mode} {S : World → Prop} {oi : Oper} {v : Value} {fuel : Nat} {listed : Array Bool} {a b : Act} {w : World}
theorem tk (i : Nat) (h : wpAnyH P md ops (NoPanic Q) S fuel (listed.setIfInBounds i true) b w) (hi : ops[i]? = some oi := by rfl) (hs : (Region.noSelect ops && (Region.free md ops listed i && (Region.ready md ops listed).contains i)) = true := by kernel_rfl) (hg : Region.wanted oi (yielded ops a.tmps) = true := by rfl) (hS : S w := by assumption) (hy : ∀ w, S w → (execOp a.eval oi).run P w = .ok (.value v) w := by (intro w' q; go_simp; try with_reducible rfl)) (hb : a.put oi.dst v = b := by simp only [Act.put, List.getElem_toArray, List.getElem_cons_zero, List.getElem_cons_succ, List.setIfInBounds_toArray, List.set_cons_zero, List.set_cons_succ]; rfl) : wpAnyH P md ops (NoPanic Q) S (fuel + 1) listed a w := by
  rw [Bool.and_eq_true, Bool.and_eq_true] at hs
  exact wpAnyH_take hi hs.1 hs.2.1 hs.2.2 (fun _ _ _ h => h) (Or.inl ⟨hg, hy⟩) hS (hb ▸ h)
theorem tu (i : Nat) (h : wpAnyH P md ops (NoPanic Q) S fuel (listed.setIfInBounds i true) b w) (hi : ops[i]? = some oi := by rfl) (hs : (Region.noSelect ops && (Region.free md ops listed i && (Region.ready md ops listed).contains i)) = true := by kernel_rfl) (hg : Region.wanted oi (yielded ops a.tmps) = false := by rfl) (hS : S w := by assumption) (hb : a.put oi.dst undef = b := by simp only [Act.put, List.getElem_toArray, List.getElem_cons_zero, List.getElem_cons_succ, List.setIfInBounds_toArray, List.set_cons_zero, List.set_cons_succ]; rfl) : wpAnyH P md ops (NoPanic Q) S (fuel + 1) listed a w := by
  rw [Bool.and_eq_true, Bool.and_eq_true] at hs
  exact wpAnyH_take hi hs.1 hs.2.1 hs.2.2 (fun _ _ _ h => h) (Or.inr ⟨hg, rfl⟩) hS (hb ▸ h)
end
end Go.Proofs.YtkehfilmpdoglaaGreat
namespace Go.Proofs.YtkehfilmpdoglaaGreat
open Go.ChangeShapes Go.WideShapes Go.ChangeAt Go.RowKit Go.Joins
theorem own : ownKnob Tryz.prog.godebug = none := by kernel_rfl
theorem laidOut : laidOutB Tryz.prog = true := by kernel_rfl
def IsRow (k : IntKind) (w : World) (a : Option Addr) (len cap : Nat) (zs : List Int) : Prop :=
 (a = none ∧ len = 0 ∧ cap = 0 ∧ zs = []) ∨
 ∃ x, a = some x ∧ len ≤ cap ∧ cap ≤ maxLen ∧ zs.length = cap ∧ (∀ i, i < zs.length → w.cell? (x.add i) = some (.int k (zs.getD i 0))) ∧ ∀ n ∈ zs, (Lit.int k n).wf = true
theorem isRow_of_trod {H : Type} {enc : TypeId × Value → H} {P : Program} {W : World} {t t1 : TypeId} {k : IntKind} {a : Option Addr} {len cap : Nat} {d : DataW H} {p : List MemPlace}
  (ht : P.underlying t = some (.slice t1)) (ht1 : P.underlying t1 = some (.int k)) (hc : P.cellsOf t1 = 1)
  (h : DataW.Trod enc P W 0 (fun _ => true) true t (.slice a len cap) d p) : ∃ zs, IsRow k W a len cap zs := by
 obtain ⟨fuel, hf⟩ := h
 rcases open_ints ht ht1 hc hf with ⟨hcs, _⟩ | ⟨x, l, c, zs, hcs, _, hl, hm, hz, _, hcell, hwz⟩
 ·simp [Value.cells] at hcs
  obtain ⟨rfl, rfl, rfl⟩ := hcs
  exact ⟨[], .inl ⟨rfl, rfl, rfl, rfl⟩⟩
 ·simp [Value.cells] at hcs
  obtain ⟨rfl, rfl, rfl⟩ := hcs
  exact ⟨zs, .inr ⟨_, rfl, hl, hm, by simpa using hz, hcell, hwz⟩⟩
end Go.Proofs.YtkehfilmpdoglaaGreat
namespace Go.Proofs.YtkehfilmpdoglaaGreat
open Go.RowKit
structure But (R : Nat) (w w' : World) : Prop where
 os : w'.os = w.os
 tape : w'.tape = w.tape
 output : w'.output = w.output
 size : w.heap.size ≤ w'.heap.size
 block : ∀ k, k < w.heap.size → k ≠ R → w'.heap[k]? = w.heap[k]?
theorem But.refl (R : Nat) (w : World) : But R w w := ⟨rfl, rfl, rfl, Nat.le_refl _, fun _ _ _ => rfl⟩
theorem But.trans {R : Nat} {a b c : World} (h : But R a b) (k : But R b c) : But R a c :=
 ⟨k.os.trans h.os, k.tape.trans h.tape, k.output.trans h.output, Nat.le_trans h.size k.size, fun i hi hr => (k.block i (Nat.lt_of_lt_of_le hi h.size) hr).trans (h.block i hi hr)⟩
theorem But.drewN {R : Nat} {a w : World} (h : But R a w) (n : Nat) : But R a (w.drewN n) := ⟨h.os, h.tape, h.output, h.size, h.block⟩
theorem But.alloc {R : Nat} {a w : World} (h : But R a w) (o : Obj) : But R a (w.alloc o) :=
 h.trans ⟨rfl, rfl, rfl, by simp, fun k hk _ => Below.heap_alloc _ _ _ hk⟩
theorem But.setCell {R : Nat} {a w : World} (h : But R a w) {p : Addr} (hp : p.block = R) (u : Value) : But R a (w.setCell p u) :=
 h.trans ⟨rfl, rfl, rfl, by simp [World.setCell], fun k _ hr => Below.heap_setCell _ _ _ _ (by omega)⟩
theorem But.setNew {R : Nat} {a w : World} (h : But R a w) {p : Addr} (hp : a.heap.size ≤ p.block) (u : Value) : But R a (w.setCell p u) :=
 ⟨h.os, h.tape, h.output, by simpa [World.setCell] using h.size, fun k hk hr => (Below.heap_setCell _ _ _ _ (by omega)).trans (h.block k hk hr)⟩
theorem But.cell {R : Nat} {w w' : World} (h : But R w w') {p : Addr} (hp : p.block < w.heap.size) (hr : p.block ≠ R) : w'.cell? p = w.cell? p := World.cell?_of_block (w := w) (h.block p.block hp hr)
theorem But.frozen {R : Nat} {w w' : World} (h : But R w w') {p : Addr} (hp : p.block < w.heap.size) (hr : p.block ≠ R) : w'.frozen? p = w.frozen? p := World.frozen?_of_block (w := w) (h.block p.block hp hr)
theorem But.below {R B : Nat} {w w' : World} (h : But R w w') (hB : B ≤ R) (hw : B ≤ w.heap.size) : Below B w w' :=
 ⟨h.os, h.tape, h.output, h.size, fun k hk => h.block k (by omega) (by omega)⟩
theorem cell_lt {w : World} {p : Addr} {v : Value} (h : w.cell? p = some v) : p.block < w.heap.size := by
 by_cases hb : p.block < w.heap.size
 ·exact hb
 ·simp [World.cell?, Array.getElem?_eq_none (Nat.le_of_not_lt hb)] at h
theorem add_block (x : Addr) (i : Nat) : (x.add i).block = x.block := by
 unfold Addr.add; split <;> rfl
theorem IsRow.but {R : Nat} {w w' : World} {a : Option Addr} {len cap : Nat} {zs : List Int} (h : IsRow .u8 w a len cap zs) (hb : But R w w') (hr : ∀ x, a = some x → 0 < cap → x.block ≠ R) : IsRow .u8 w' a len cap zs := by
 rcases h with h | ⟨x, rfl, hl, hm, hz, hcell, hwz⟩
 ·exact .inl h
 ·refine .inr ⟨x, rfl, hl, hm, hz, fun i hi => ?_, hwz⟩
  have h1 := hcell i hi
  rw [hb.cell (cell_lt h1) (by rw [add_block]; exact hr x rfl (by omega))]
  exact h1
theorem IsRow.byte {w : World} {a : Option Addr} {len cap : Nat} {zs : List Int} (h : IsRow .u8 w a len cap zs) {i : Nat} (hi : i < len) :
  ∃ b off : Nat, ∃ z : Int, a = some ⟨b, off, none⟩ ∧ w.cell? ⟨b, off + i, none⟩ = some (.int .u8 z) ∧ 0 ≤ z ∧ z ≤ 255 := by
 rcases h with ⟨_, h, _⟩ | ⟨x, rfl, hl, hm, hz, hcell, hwz⟩
 ·omega
 ·obtain ⟨b, off, spot⟩ := x
  have hc := hcell i (by omega)
  have e : zs.getD i 0 = zs[i]'(by omega) := by simp [List.getD, List.getElem?_eq_getElem (show i < zs.length by omega)]
  have hw := hwz (zs.getD i 0) (e ▸ List.getElem_mem _)
  have h0 := hcell 0 (by omega)
  have hspot : spot = none := by simpa [Addr.add] using World.cell?_spot h0
  subst hspot
  refine ⟨b, off, zs.getD i 0, rfl, ?_, ?_⟩
  ·have e : (⟨b, off, none⟩ : Addr).add i = ⟨b, off + i, none⟩ := by
    unfold Addr.add; split
    ·subst_vars; rfl
    ·rfl
   rw [← e]; exact hc
  ·exact bounds_u8 hw
theorem IsRow.len_le {w : World} {a : Option Addr} {len cap : Nat} {zs : List Int} (h : IsRow .u8 w a len cap zs) : len ≤ 9223372036854775807 := by
 rcases h with ⟨_, h, _⟩ | ⟨x, rfl, hl, hm, hz, hcell, hwz⟩
 ·omega
 ·unfold maxLen at hm; omega
theorem retB {a b : Bool} (h : a = b) : Ending.returned (.bool a) = .returned (.bool b) := by rw [h]
theorem retI {k : IntKind} {a b : Int} (h : a = b) : Ending.returned (.int k a) = .returned (.int k b) := by rw [h]
end Go.Proofs.YtkehfilmpdoglaaGreat
namespace Go.Proofs.YtkehfilmpdoglaaGreat
open Go.ChangeShapes Go.WideShapes Go.ChangeAt Go.RowKit Go.Joins Go.Deep
def Cellz (w : World) (sz : Nat) (A : Option Addr) (n : Nat) (xss : List (List Value)) : Prop :=
 xss.length = n ∧ (∀ c ∈ xss, c.length = sz) ∧
 (0 < n → ∃ b off, A = some ⟨b, off, none⟩ ∧ ∀ (i : Nat) (h : i < xss.length) (j : Nat) (h' : j < (xss[i]).length), w.cell? ⟨b, off + (i * sz + j), none⟩ = some (xss[i])[j])
theorem Cellz.keep {w w' : World} {sz : Nat} {A : Option Addr} {n : Nat} {xss : List (List Value)} (h : Cellz w sz A n xss) (hk : ∀ p v, w.cell? p = some v → w'.cell? p = some v) : Cellz w' sz A n xss :=
 ⟨h.1, h.2.1, fun hn => by
  obtain ⟨b, off, e, hc⟩ := h.2.2 hn
  exact ⟨b, off, e, fun i hi j hj => hk _ _ (hc i hi j hj)⟩⟩
theorem Cellz.below {w w' : World} {sz : Nat} {A : Option Addr} {n : Nat} {xss : List (List Value)} (h : Cellz w sz A n xss) (hb : Below w.heap.size w w') : Cellz w' sz A n xss :=
 h.keep fun _ _ hp => (hb.cell (cell_lt hp)).trans hp
theorem addr_add (b off i : Nat) : (⟨b, off, none⟩ : Addr).add i = ⟨b, off + i, none⟩ := by
 unfold Addr.add; split
 ·subst_vars; rfl
 ·rfl
def Row (w : World) (g : Nat) (T : TypeId) (cs : Array Value) : Prop := w.heap[g]? = some (.cells cs T (0, 0))
theorem Row.set {w : World} {g : Nat} {T : TypeId} {cs : Array Value} (h : Row w g T cs) (i : Nat) (v : Value) : Row (w.setCell ⟨g, i, none⟩ v) g T (cs.setIfInBounds i v) := by
 unfold Row at h ⊢
 simp [World.setCell, Array.getElem?_modify, h]
theorem Row.cell {w : World} {g : Nat} {T : TypeId} {cs : Array Value} (h : Row w g T cs) (i : Nat) : w.cell? ⟨g, i, none⟩ = cs[i]? := cell_of_row w g i cs T (0, 0) h
theorem Row.free {w : World} {g : Nat} {T : TypeId} {cs : Array Value} (h : Row w g T cs) (i : Nat) : w.frozen? ⟨g, i, none⟩ = false := by
 unfold Row at h
 simp [World.frozen?, h]
theorem Row.below {w w' : World} {g : Nat} {T : TypeId} {cs : Array Value} (h : Row w g T cs) (hb : Below w.heap.size w w') : Row w' g T cs := (hb.block g (lt_of_block h)).trans h
theorem Row.new (w : World) (T : TypeId) (cs : Array Value) : Row (w.alloc (.cells cs T)) w.heap.size T cs := Go.heap_alloc_last w _
theorem Row.five {w : World} {g : Nat} {T : TypeId} {a0 a1 a2 a3 a4 : Value} (h : Row w g T #[a0, a1, a2, a3, a4]) :
  (w.cell? ⟨g, 0, none⟩ = some a0 ∧ w.cell? ⟨g, 1, none⟩ = some a1 ∧ w.cell? ⟨g, 2, none⟩ = some a2 ∧ w.cell? ⟨g, 3, none⟩ = some a3 ∧ w.cell? ⟨g, 4, none⟩ = some a4) ∧
  (w.frozen? ⟨g, 0, none⟩ = false ∧ w.frozen? ⟨g, 1, none⟩ = false ∧ w.frozen? ⟨g, 2, none⟩ = false ∧ w.frozen? ⟨g, 3, none⟩ = false ∧ w.frozen? ⟨g, 4, none⟩ = false) :=
 ⟨⟨h.cell 0, h.cell 1, h.cell 2, h.cell 3, h.cell 4⟩, ⟨h.free 0, h.free 1, h.free 2, h.free 3, h.free 4⟩⟩
theorem Row.alloc {w : World} {g : Nat} {T : TypeId} {cs : Array Value} (h : Row w g T cs) (o : Obj) : Row (w.alloc o) g T cs := (Below.heap_alloc w o g (lt_of_block h)).trans h
theorem Row.three {w : World} {g : Nat} {T : TypeId} {a0 a1 a2 : Value} (h : Row w g T #[a0, a1, a2]) :
  (w.cell? ⟨g, 0, none⟩ = some a0 ∧ w.cell? ⟨g, 1, none⟩ = some a1 ∧ w.cell? ⟨g, 2, none⟩ = some a2) ∧ (w.frozen? ⟨g, 0, none⟩ = false ∧ w.frozen? ⟨g, 1, none⟩ = false ∧ w.frozen? ⟨g, 2, none⟩ = false) :=
 ⟨⟨h.cell 0, h.cell 1, h.cell 2⟩, ⟨h.free 0, h.free 1, h.free 2⟩⟩
theorem Row.drew {w : World} {g : Nat} {T : TypeId} {cs : Array Value} (h : Row w g T cs) : Row w.drew g T cs := h
theorem Row.drewN {w : World} {g : Nat} {T : TypeId} {cs : Array Value} (h : Row w g T cs) (n : Nat) : Row (w.drewN n) g T cs := h
theorem Row.far {w : World} {g : Nat} {T : TypeId} {cs : Array Value} (h : Row w g T cs) {p : Addr} (hp : g ≠ p.block) (v : Value) : Row (w.setCell p v) g T cs := (Below.heap_setCell w p v g hp).trans h
theorem Row.newAt (w : World) (T : TypeId) (cs : Array Value) (g : Nat) (hg : w.heap.size = g) : Row (w.alloc (.cells cs T)) g T cs := hg ▸ Row.new w T cs
abbrev Rd (α : Type) := (Nat → Prop) → World → List Value → α → Prop
def Sl {α : Type} (R : Rd α) (sz : Nat) (ok : Nat → Prop) (w : World) (A : Option Addr) (n : Nat) (ds : List α) : Prop :=
 ds.length = n ∧ (0 < n → ∃ b off, A = some ⟨b, off, none⟩ ∧ ok b ∧ ∀ (i : Nat) (h : i < ds.length), ∃ cs : List Value, cs.length = sz ∧ R ok w cs ds[i] ∧ ∀ (j : Nat) (v : Value), cs[j]? = some v → w.cell? ⟨b, off + i * sz + j, none⟩ = some v)
def Stays {α : Type} (R : Rd α) : Prop := ∀ (ok ok' : Nat → Prop) (w w' : World) (cs : List Value) (d : α), R ok w cs d → (∀ b, ok b → ok' b) → (∀ p v, ok p.block → w.cell? p = some v → w'.cell? p = some v) → R ok' w' cs d
theorem Sl.stays {α : Type} {R : Rd α} (hR : Stays R) {sz : Nat} {ok ok' : Nat → Prop} {w w' : World} {A : Option Addr} {n : Nat} {ds : List α} (h : Sl R sz ok w A n ds) (ho : ∀ b, ok b → ok' b) (hk : ∀ p v, ok p.block → w.cell? p = some v → w'.cell? p = some v) : Sl R sz ok' w' A n ds :=
 ⟨h.1, fun hn => by
  obtain ⟨b, off, e, hb, hi⟩ := h.2 hn
  refine ⟨b, off, e, ho b hb, fun i hlt => ?_⟩
  obtain ⟨cs, h1, h2, h3⟩ := hi i hlt
  exact ⟨cs, h1, hR _ _ _ _ _ _ h2 ho hk, fun j v hv => hk _ _ hb (h3 j v hv)⟩⟩
theorem below_keep {w w' : World} (hb : Below w.heap.size w w') : ∀ p v, w.cell? p = some v → w'.cell? p = some v := fun _ _ hp => (hb.cell (cell_lt hp)).trans hp
theorem Sl.below {α : Type} {R : Rd α} (hR : Stays R) {sz : Nat} {ok : Nat → Prop} {w w' : World} {A : Option Addr} {n : Nat} {ds : List α} (h : Sl R sz ok w A n ds) (hb : Below w.heap.size w w') : Sl R sz ok w' A n ds :=
 h.stays hR (fun _ h => h) fun p v _ hp => below_keep hb p v hp
def FlatR {α : Type} (f : α → List Value) : Rd α := fun _ _ cs d => cs = f d
theorem FlatR.stays {α : Type} (f : α → List Value) : Stays (FlatR f) := fun _ _ _ _ _ _ h _ _ => h
theorem Sl.cellz {α : Type} {f : α → List Value} {sz : Nat} {ok : Nat → Prop} {w : World} {A : Option Addr} {n : Nat} {ds : List α} (hf : ∀ d, (f d).length = sz) (h : Sl (FlatR f) sz ok w A n ds) : Cellz w sz A n (ds.map f) := by
 refine ⟨by simpa using h.1, fun c hc => by obtain ⟨d, _, rfl⟩ := List.mem_map.1 hc; exact hf d, fun hn => ?_⟩
 obtain ⟨b, off, e, hb, hi⟩ := h.2 hn
 refine ⟨b, off, e, fun i hlt j hj => ?_⟩
 obtain ⟨cs, h1, h2, h3⟩ := hi i (by simpa using hlt)
 have e2 : (ds.map f)[i] = cs := by rw [List.getElem_map]; exact h2.symm
 rw [← Nat.add_assoc]
 exact h3 j _ (by rw [List.getElem?_eq_some_iff]; exact ⟨by rw [e2] at hj; exact hj, by simp only [e2]⟩)
end Go.Proofs.YtkehfilmpdoglaaGreat
namespace Go.Proofs.YtkehfilmpdoglaaGreat
open Go.RowKit
def valOkB (k n : Int) (s : ByteArray) : Bool :=
 if k = 0 then n == 0 && s.toList.isEmpty else if k = 1 then decide (-1000000000 ≤ n) && decide (n ≤ 1000000000) && s.toList.isEmpty else if k = 2 then n == 0 && decide ((s.size : Int) ≤ 12) else false
theorem specIn (n lo hi : Int) (w : World) :
  Calls Tryz.prog 71 #[.int .i64 n, .int .i64 lo, .int .i64 hi] w fun e w' => e = .returned (.bool (decide (lo ≤ n) && decide (n ≤ hi))) ∧ w = w' := by
 by_cases h : lo ≤ n
 ·go_enter Tryz.func71, Tryz.ntmps71
  go_wp2
  go_ret
  exact ⟨retB (by simp [h]), rfl⟩
 ·have h' : decide (lo ≤ n) = false := by simpa using h
  go_enter Tryz.func71, Tryz.ntmps71
  go_wp2
  go_ret
  exact ⟨retB (by simp), rfl⟩
theorem specValOk (k n : Int) (s : ByteArray) (w : World) :
  Calls Tryz.prog 74 #[.agg #[.int .i64 k, .int .i64 n, .string s]] w fun e w' => e = .returned (.bool (valOkB k n s)) ∧ Below w.heap.size w w' := by
 have hb := fun o => (Below.refl w.heap.size w).alloc (Nat.le_refl _) o
 have HB := Lib.hid hb
 clear hb
 by_cases k0 : k = 0
 ·subst k0
  go_enter Tryz.func74, Tryz.ntmps74
  go_wp2
  all_goals
   go_ret
   exact ⟨retB (by simp [valOkB, *]), HB.out _⟩
 have d0 : (k == 0) = false := by simpa using k0
 by_cases k1 : k = 1
 ·subst k1
  by_cases h : (decide (-1000000000 ≤ n) && decide (n ≤ 1000000000)) = true
  ·go_enter Tryz.func74, Tryz.ntmps74
   go_wp2_with (go_at_call 71; refine (specIn _ _ _ _).mono ?_; rintro e w' ⟨rfl, rfl⟩)
   go_ret
   exact ⟨retB (by simp [valOkB] at h ⊢; simp [h]), HB.out _⟩
  ·have h' : (decide (-1000000000 ≤ n) && decide (n ≤ 1000000000)) = false := by simpa using h
   go_enter Tryz.func74, Tryz.ntmps74
   go_wp2_with (go_at_call 71; refine (specIn _ _ _ _).mono ?_; rintro e w' ⟨rfl, rfl⟩)
   go_ret
   exact ⟨retB (by simp [valOkB, h']), HB.out _⟩
 have d1 : (k == 1) = false := by simpa using k1
 by_cases k2 : k = 2
 ·subst k2
  by_cases h : n = 0
  ·subst h
   go_enter Tryz.func74, Tryz.ntmps74
   go_wp2
   go_ret
   exact ⟨retB (by simp [valOkB]), HB.out _⟩
  ·have h' : (n == 0) = false := by simpa using h
   go_enter Tryz.func74, Tryz.ntmps74
   go_wp2
   go_ret
   exact ⟨retB (by simp [valOkB, h']), HB.out _⟩
 ·have d2 : (k == 2) = false := by simpa using k2
  go_enter Tryz.func74, Tryz.ntmps74
  go_wp2
  go_ret
  exact ⟨retB (by simp [valOkB, k0, k1, k2]), HB.out _⟩
theorem as_num_num (v : Value) (w : World) : (Instr.typeAssert (.iface 164 v) 150 164 true).run Tryz.prog w = .ok (.tuple #[v, .bool true]) w := by kernel_rfl
theorem as_str_num (v : Value) (w : World) : (Instr.typeAssert (.iface 165 v) 150 164 true).run Tryz.prog w = .ok (.tuple #[.int .i64 0, .bool false]) w := by kernel_rfl
theorem as_str_str (v : Value) (w : World) : (Instr.typeAssert (.iface 165 v) 150 165 true).run Tryz.prog w = .ok (.tuple #[v, .bool true]) w := by kernel_rfl
theorem as_not_num (v : Value) (w : World) : (Instr.typeAssert (.iface 163 v) 150 164 true).run Tryz.prog w = .ok (.tuple #[.int .i64 0, .bool false]) w := by kernel_rfl
theorem as_not_str (v : Value) (w : World) : (Instr.typeAssert (.iface 163 v) 150 165 true).run Tryz.prog w = .ok (.tuple #[.string ByteArray.empty, .bool false]) w := by kernel_rfl
theorem specInt (n : Int) (w : World) :
  Calls Tryz.prog 35 #[.int .i64 n] w fun e w' => e = .returned (.agg #[.int .i64 1, .int .i64 n, .string ⟨#[]⟩]) ∧ ∃ o, w.alloc o = w' := by
 go_enter Tryz.func35, Tryz.ntmps35
 go_wp2
 exact bodyPost_ret (v := .agg #[.int .i64 1, .int .i64 n, .string ⟨#[]⟩]) (by simp [results, Tryz.results35, go_sem]) rfl ⟨rfl, _, rfl⟩
theorem implValOfNum (n : Int) (w : World) :
  Calls Tryz.prog 116 #[.iface 164 (.int .i64 n)] w fun e w' => e = .returned (.agg #[.int .i64 1, .int .i64 n, .string ⟨#[]⟩]) ∧ Below w.heap.size w w' := by
 have as1 := as_num_num
 go_enter Tryz.func116, Tryz.ntmps116
 go_wp2
 exact bodyPost_ret (v := .agg #[.int .i64 1, .int .i64 n, .string ⟨#[]⟩]) (by simp [results, Tryz.results116, go_sem]) rfl ⟨rfl, (Below.refl _ _).alloc (Nat.le_refl _) _⟩
theorem implValOfStr (s : ByteArray) (w : World) :
  Calls Tryz.prog 116 #[.iface 165 (.string s)] w fun e w' => e = .returned (.agg #[.int .i64 2, .int .i64 0, .string s]) ∧ Below w.heap.size w w' := by
 have as1 := as_str_num
 have as2 := as_str_str
 go_enter Tryz.func116, Tryz.ntmps116
 go_wp2
 exact bodyPost_ret (v := .agg #[.int .i64 2, .int .i64 0, .string s]) (by simp [results, Tryz.results116, go_sem]) rfl ⟨rfl, (Below.refl _ _).alloc (Nat.le_refl _) _⟩
theorem implValOfNot (w : World) :
  Calls Tryz.prog 116 #[.iface 163 (.agg #[])] w fun e w' => e = .returned (.agg #[.int .i64 0, .int .i64 0, .string ⟨#[]⟩]) ∧ Below w.heap.size w w' := by
 have as1 := as_not_num
 have as2 := as_not_str
 go_enter Tryz.func116, Tryz.ntmps116
 go_wp2
 exact bodyPost_ret (v := .agg #[.int .i64 0, .int .i64 0, .string ⟨#[]⟩]) (by simp [results, Tryz.results116, go_sem]) rfl ⟨rfl, (Below.refl _ _).alloc (Nat.le_refl _) _⟩
theorem rightOfNot (w : World) : (method 317 163 (.agg #[]) "loop.example/g00570/impl.right").run Tryz.prog w = .ok (170, .agg #[]) w := by kernel_rfl
theorem rightOfNum (n : Int) (w : World) : (method 317 164 (.int .i64 n) "loop.example/g00570/impl.right").run Tryz.prog w = .ok (149, .int .i64 n) w := by kernel_rfl
theorem rightOfStr (s : ByteArray) (w : World) : (method 317 165 (.string s) "loop.example/g00570/impl.right").run Tryz.prog w = .ok (173, .string s) w := by kernel_rfl
theorem rightNot (w : World) : Calls Tryz.prog 170 #[.agg #[]] w fun e w' => e = .returned (.bool true) ∧ Below w.heap.size w w' := by
 go_enter Tryz.func170, Tryz.ntmps170
 go_wp2
 go_ret
 first | exact ⟨rfl, Below.refl _ _⟩ | exact ⟨rfl, (Below.refl _ _).alloc (Nat.le_refl _) _⟩
theorem rightNum (n : Int) (w : World) : Calls Tryz.prog 149 #[.int .i64 n] w fun e w' => e = .returned (.bool (decide (-1000000000 ≤ n) && decide (n ≤ 1000000000))) ∧ w = w' := by
 by_cases h : -1000000000 ≤ n
 ·go_enter Tryz.func149, Tryz.ntmps149
  go_wp2
  go_ret
  exact ⟨retB (by simp [h]), rfl⟩
 ·have h' : decide (-1000000000 ≤ n) = false := by simpa using h
  go_enter Tryz.func149, Tryz.ntmps149
  go_wp2
  go_ret
  exact ⟨retB (by simp), rfl⟩
theorem rightStr (s : ByteArray) (w : World) : Calls Tryz.prog 173 #[.string s] w fun e w' => e = .returned (.bool (decide ((s.size : Int) ≤ 12))) ∧ w = w' := by
 go_enter Tryz.func173, Tryz.ntmps173
 go_wp2
 go_ret
 exact ⟨rfl, rfl⟩
def heldV (k n : Int) (s : ByteArray) : Value := if k = 0 then .iface 163 (.agg #[]) else if k = 1 then .iface 164 (.int .i64 n) else .iface 165 (.string s)
theorem chain1 (w : World) (o : Obj) {w1 : World} (hb : Below (w.alloc o).drew.heap.size (w.alloc o).drew w1) : Below w.heap.size w w1 :=
 (((Below.refl _ w).alloc (Nat.le_refl _) o).drew).trans (hb.mono (by simp))
theorem boxed {w w1 : World} {k n : Int} {s : ByteArray} {T : TypeId} (hb : Below (w.alloc (.cells #[.int .i64 k, .int .i64 n, .string s] T)).drew.heap.size (w.alloc (.cells #[.int .i64 k, .int .i64 n, .string s] T)).drew w1) :
  w1.cell? ⟨w.heap.size, 0, none⟩ = some (.int .i64 k) ∧ w1.cell? ⟨w.heap.size, 1, none⟩ = some (.int .i64 n) ∧ w1.cell? ⟨w.heap.size, 2, none⟩ = some (.string s) := by
 refine ⟨?_, ?_, ?_⟩ <;> (rw [hb.cell (by simp)]; simp)
def HeldOk (k n : Int) (s : ByteArray) (w : World) (e : Ending) (w' : World) : Prop := e = .returned (.tuple #[heldV k n s, .bool true]) ∧ Below w.heap.size w w'
def HeldNo (w : World) (e : Ending) (w' : World) : Prop := e = .returned (.tuple #[.nilIface, .bool false]) ∧ Below w.heap.size w w'
set_option maxRecDepth 100000 in
set_option maxHeartbeats 1000000 in
theorem held0yes (s : ByteArray) (w : World) (hs : s.toList = []) :
  Calls Tryz.prog 99 #[.agg #[.int .i64 0, .int .i64 0, .string s]] w (HeldOk 0 0 s w) := by
 have hm := rightOfNot
 go_enter Tryz.func99, Tryz.ntmps99
 go_wp2_with fail
 go_region_held3 (fun w' => w'.cell? ⟨w.heap.size, 0, none⟩ = some (.int .i64 0) ∧ w'.cell? ⟨w.heap.size, 1, none⟩ = some (.int .i64 0) ∧ w'.cell? ⟨w.heap.size, 2, none⟩ = some (.string s)) (first | go_keep | (refine ⟨?_, ?_, ?_⟩ <;> (rw [hb.cell (by simp)]; simp)) | (refine ⟨?_, ?_, ?_⟩ <;> (rw [hb2.cell (by have := hb.size; simp at this; simp; omega), hb.cell (by simp)]; simp)))
  (first | (go_at_call 116; refine (implValOfNot _).mono ?_; rintro e w1 ⟨rfl, hb⟩) | (go_at_call 170; refine (rightNot _).mono ?_; rintro e w2 ⟨rfl, hb2⟩))
 go_wp2
 go_ret2
 exact ⟨rfl, (chain1 w _ hb).trans (hb2.mono (by have := hb.size; simp at this; omega))⟩
set_option maxRecDepth 100000 in
set_option maxHeartbeats 1000000 in
theorem held0n (n : Int) (s : ByteArray) (w : World) (hn : ¬ n = 0) :
  Calls Tryz.prog 99 #[.agg #[.int .i64 0, .int .i64 n, .string s]] w (HeldNo w) := by
 have e1 : (0 == n) = false := by simp; omega
 go_enter Tryz.func99, Tryz.ntmps99
 go_wp2_with fail
 first | (go_region_with ((go_at_call 116; refine (implValOfNot _).mono ?_; rintro e w1 ⟨rfl, hb⟩; obtain ⟨r0, r1, r2⟩ := boxed hb))) | fail
 all_goals
  go_wp2
  go_ret2
  exact ⟨rfl, chain1 w _ hb⟩
set_option maxRecDepth 100000 in
set_option maxHeartbeats 1000000 in
theorem held0s (n : Int) (s : ByteArray) (w : World) (hs : ¬ s.toList = []) :
  Calls Tryz.prog 99 #[.agg #[.int .i64 0, .int .i64 n, .string s]] w (HeldNo w) := by
 by_cases hn : n = 0
 ·subst hn
  have e1 : (([] : List UInt8) == s.toList) = false := by simpa using hs
  go_enter Tryz.func99, Tryz.ntmps99
  go_wp2_with fail
  first | (go_region_with ((go_at_call 116; refine (implValOfNot _).mono ?_; rintro e w1 ⟨rfl, hb⟩; obtain ⟨r0, r1, r2⟩ := boxed hb))) | fail
  all_goals
   go_wp2
   go_ret2
   exact ⟨rfl, chain1 w _ hb⟩
 ·exact held0n n s w hn
set_option maxRecDepth 100000 in
set_option maxHeartbeats 1000000 in
theorem held1yes (n : Int) (s : ByteArray) (w : World) (hs : s.toList = []) (h : (decide (-1000000000 ≤ n) && decide (n ≤ 1000000000)) = true) :
  Calls Tryz.prog 99 #[.agg #[.int .i64 1, .int .i64 n, .string s]] w (HeldOk 1 n s w) := by
 have hm := rightOfNum n
 go_enter Tryz.func99, Tryz.ntmps99
 go_wp2_with fail
 go_region_held3 (fun w' => w'.cell? ⟨w.heap.size, 0, none⟩ = some (.int .i64 1) ∧ w'.cell? ⟨w.heap.size, 1, none⟩ = some (.int .i64 n) ∧ w'.cell? ⟨w.heap.size, 2, none⟩ = some (.string s)) (first | go_keep | (refine ⟨?_, ?_, ?_⟩ <;> (rw [hb.cell (by simp)]; simp)) | (refine ⟨?_, ?_, ?_⟩ <;> (rw [hb2.cell (by have := hb.size; simp at this; simp; omega), hb.cell (by simp)]; simp)))
  (first | (go_at_call 116; refine (implValOfNum _ _).mono ?_; rintro e w1 ⟨rfl, hb⟩) | (go_at_call 149; refine (rightNum _ _).mono ?_; rintro e w2 ⟨rfl, rfl⟩))
 go_wp2
 go_ret2
 exact ⟨rfl, chain1 w _ hb⟩
set_option maxRecDepth 100000 in
set_option maxHeartbeats 1000000 in
theorem held1no (n : Int) (s : ByteArray) (w : World) (hs : s.toList = []) (h : (decide (-1000000000 ≤ n) && decide (n ≤ 1000000000)) = false) :
  Calls Tryz.prog 99 #[.agg #[.int .i64 1, .int .i64 n, .string s]] w (HeldNo w) := by
 have hm := rightOfNum n
 go_enter Tryz.func99, Tryz.ntmps99
 go_wp2_with fail
 go_region_held3 (fun w' => w'.cell? ⟨w.heap.size, 0, none⟩ = some (.int .i64 1) ∧ w'.cell? ⟨w.heap.size, 1, none⟩ = some (.int .i64 n) ∧ w'.cell? ⟨w.heap.size, 2, none⟩ = some (.string s)) (first | go_keep | (refine ⟨?_, ?_, ?_⟩ <;> (rw [hb.cell (by simp)]; simp)) | (refine ⟨?_, ?_, ?_⟩ <;> (rw [hb2.cell (by have := hb.size; simp at this; simp; omega), hb.cell (by simp)]; simp)))
  (first | (go_at_call 116; refine (implValOfNum _ _).mono ?_; rintro e w1 ⟨rfl, hb⟩) | (go_at_call 149; refine (rightNum _ _).mono ?_; rintro e w2 ⟨rfl, rfl⟩))
 go_wp2
 go_ret2
 exact ⟨rfl, chain1 w _ hb⟩
set_option maxRecDepth 100000 in
set_option maxHeartbeats 1000000 in
theorem held1s (n : Int) (s : ByteArray) (w : World) (hs : ¬ s.toList = []) :
  Calls Tryz.prog 99 #[.agg #[.int .i64 1, .int .i64 n, .string s]] w (HeldNo w) := by
 have e1 : (([] : List UInt8) == s.toList) = false := by simpa using hs
 go_enter Tryz.func99, Tryz.ntmps99
 go_wp2_with fail
 first | (go_region_with ((go_at_call 116; refine (implValOfNum _ _).mono ?_; rintro e w1 ⟨rfl, hb⟩; obtain ⟨r0, r1, r2⟩ := boxed hb))) | fail
 all_goals
  go_wp2
  go_ret2
  exact ⟨rfl, chain1 w _ hb⟩
set_option maxRecDepth 100000 in
set_option maxHeartbeats 1000000 in
theorem held2yes (s : ByteArray) (w : World) (h : decide ((s.size : Int) ≤ 12) = true) :
  Calls Tryz.prog 99 #[.agg #[.int .i64 2, .int .i64 0, .string s]] w (HeldOk 2 0 s w) := by
 have hm := rightOfStr s
 go_enter Tryz.func99, Tryz.ntmps99
 go_wp2_with fail
 go_region_held3 (fun w' => w'.cell? ⟨w.heap.size, 0, none⟩ = some (.int .i64 2) ∧ w'.cell? ⟨w.heap.size, 1, none⟩ = some (.int .i64 0) ∧ w'.cell? ⟨w.heap.size, 2, none⟩ = some (.string s)) (first | go_keep | (refine ⟨?_, ?_, ?_⟩ <;> (rw [hb.cell (by simp)]; simp)) | (refine ⟨?_, ?_, ?_⟩ <;> (rw [hb2.cell (by have := hb.size; simp at this; simp; omega), hb.cell (by simp)]; simp)))
  (first | (go_at_call 116; refine (implValOfStr _ _).mono ?_; rintro e w1 ⟨rfl, hb⟩) | (go_at_call 173; refine (rightStr _ _).mono ?_; rintro e w2 ⟨rfl, rfl⟩))
 go_wp2
 go_ret2
 exact ⟨rfl, chain1 w _ hb⟩
set_option maxRecDepth 100000 in
set_option maxHeartbeats 1000000 in
theorem held2no (s : ByteArray) (w : World) (h : decide ((s.size : Int) ≤ 12) = false) :
  Calls Tryz.prog 99 #[.agg #[.int .i64 2, .int .i64 0, .string s]] w (HeldNo w) := by
 have hm := rightOfStr s
 go_enter Tryz.func99, Tryz.ntmps99
 go_wp2_with fail
 go_region_held3 (fun w' => w'.cell? ⟨w.heap.size, 0, none⟩ = some (.int .i64 2) ∧ w'.cell? ⟨w.heap.size, 1, none⟩ = some (.int .i64 0) ∧ w'.cell? ⟨w.heap.size, 2, none⟩ = some (.string s)) (first | go_keep | (refine ⟨?_, ?_, ?_⟩ <;> (rw [hb.cell (by simp)]; simp)) | (refine ⟨?_, ?_, ?_⟩ <;> (rw [hb2.cell (by have := hb.size; simp at this; simp; omega), hb.cell (by simp)]; simp)))
  (first | (go_at_call 116; refine (implValOfStr _ _).mono ?_; rintro e w1 ⟨rfl, hb⟩) | (go_at_call 173; refine (rightStr _ _).mono ?_; rintro e w2 ⟨rfl, rfl⟩))
 go_wp2
 go_ret2
 exact ⟨rfl, chain1 w _ hb⟩
set_option maxRecDepth 100000 in
set_option maxHeartbeats 1000000 in
theorem held2n (n : Int) (s : ByteArray) (w : World) (hn : ¬ n = 0) :
  Calls Tryz.prog 99 #[.agg #[.int .i64 2, .int .i64 n, .string s]] w (HeldNo w) := by
 have e1 : (0 == n) = false := by simp; omega
 go_enter Tryz.func99, Tryz.ntmps99
 go_wp2_with fail
 first | (go_region_with ((go_at_call 116; refine (implValOfStr _ _).mono ?_; rintro e w1 ⟨rfl, hb⟩; obtain ⟨r0, r1, r2⟩ := boxed hb))) | fail
 all_goals
  go_wp2
  go_ret2
  exact ⟨rfl, chain1 w _ hb⟩
theorem heldElse (k n : Int) (s : ByteArray) (w : World) (k0 : (k == 0) = false) (k1 : (k == 1) = false) (k2 : (k == 2) = false) :
  Calls Tryz.prog 99 #[.agg #[.int .i64 k, .int .i64 n, .string s]] w (HeldNo w) := by
 go_enter Tryz.func99, Tryz.ntmps99
 go_wp2
 go_ret2
 exact ⟨rfl, (Below.refl _ _).alloc (Nat.le_refl _) _⟩
theorem heldYes (k n : Int) (s : ByteArray) (w : World) (h : valOkB k n s = true) :
  Calls Tryz.prog 99 #[.agg #[.int .i64 k, .int .i64 n, .string s]] w (HeldOk k n s w) := by
 unfold valOkB at h
 by_cases k0 : k = 0
 ·subst k0
  simp at h
  obtain ⟨rfl, hs⟩ := h
  exact held0yes s w hs
 by_cases k1 : k = 1
 ·subst k1
  simp at h
  exact held1yes n s w h.2 (by simpa using h.1)
 by_cases k2 : k = 2
 ·subst k2
  simp at h
  obtain ⟨rfl, hs⟩ := h
  exact held2yes s w (by simpa using hs)
 ·simp [k0, k1, k2] at h
theorem heldNo (k n : Int) (s : ByteArray) (w : World) (h : valOkB k n s = false) :
  Calls Tryz.prog 99 #[.agg #[.int .i64 k, .int .i64 n, .string s]] w (HeldNo w) := by
 unfold valOkB at h
 by_cases k0 : k = 0
 ·subst k0
  by_cases hs : s.toList = []
  ·by_cases hn : n = 0
   ·simp [hs, hn] at h
   ·exact held0n n s w hn
  ·exact held0s n s w hs
 by_cases k1 : k = 1
 ·subst k1
  by_cases hs : s.toList = []
  ·refine held1no n s w hs ?_
   simpa [hs] using h
  ·exact held1s n s w hs
 by_cases k2 : k = 2
 ·subst k2
  by_cases hn : n = 0
  ·subst hn
   refine held2no s w ?_
   simpa using h
  ·exact held2n n s w hn
 ·exact heldElse k n s w (by simpa using k0) (by simpa using k1) (by simpa using k2)
theorem implValOk (k n : Int) (s : ByteArray) (w : World) :
  Calls Tryz.prog 90 #[.agg #[.int .i64 k, .int .i64 n, .string s]] w fun e w' => e = .returned (.bool (valOkB k n s)) ∧ Below w.heap.size w w' := by
 have hb0 := (Below.refl w.heap.size w).alloc (Nat.le_refl _) (.cells #[.int .i64 k, .int .i64 n, .string s] 84)
 cases h : valOkB k n s
 ·have H := Lib.hid h; clear h
  go_enter Tryz.func90, Tryz.ntmps90
  go_wp2_with fail
  refine (heldNo k n s _ H.out).mono ?_
  rintro e w1 ⟨rfl, hb⟩
  go_wp2
  go_ret
  exact ⟨rfl, hb0.trans (hb.mono (by simp))⟩
 ·have H := Lib.hid h; clear h
  go_enter Tryz.func90, Tryz.ntmps90
  go_wp2_with fail
  refine (heldYes k n s _ H.out).mono ?_
  rintro e w1 ⟨rfl, hb⟩
  go_wp2
  go_ret
  exact ⟨rfl, hb0.trans (hb.mono (by simp))⟩
end Go.Proofs.YtkehfilmpdoglaaGreat
namespace Go.Proofs.YtkehfilmpdoglaaGreat
open Go.RowKit
structure Vl where
 k : Int
 n : Int
 s : ByteArray
structure Tk where
 k : Int
 c : Int
 vk : Int
 vn : Int
 vs : ByteArray
def zeroB (k n : Int) (s : ByteArray) : Bool := k == 0 && (n == 0 && s.toList.isEmpty)
def isOpB (k : Int) : Bool := decide (3 ≤ k) && decide (k ≤ 10)
def tokB (t : Tk) (cols : Int) : Bool :=
 if t.k = 1 then decide (0 ≤ t.c) && (decide (t.c < cols) && zeroB t.vk t.vn t.vs)
 else if t.k = 2 then t.c == 0 && valOkB t.vk t.vn t.vs
 else if isOpB t.k then t.c == 0 && zeroB t.vk t.vn t.vs else false
def takes (k : Int) : Nat := if k = 7 ∨ k = 8 then 1 else if k = 3 ∨ k = 4 ∨ k = 5 ∨ k = 6 ∨ k = 9 ∨ k = 10 then 2 else 0
def exprGo (cols : Int) : List Tk → Nat → Option Nat
 | [], left => some left
 | t :: ts, left => if tokB t cols = true ∧ takes t.k ≤ left then exprGo cols ts (left - takes t.k + 1) else none
def exprB (ts : List Tk) (cols : Int) : Bool := decide (0 ≤ cols) && (decide (cols ≤ 16) && (decide (ts.length ≤ 24) && exprGo cols ts 0 == some 1))
theorem exprGo_append (cols : Int) : ∀ (a b : List Tk) (n : Nat), exprGo cols (a ++ b) n = (exprGo cols a n).bind (exprGo cols b)
 | [], b, n => rfl
 | t :: ts, b, n => by
  simp only [List.cons_append, exprGo]
  split
  ·exact exprGo_append cols ts b _
  ·rfl
theorem takes_le (k : Int) : takes k ≤ 2 := by unfold takes; split <;> (try split) <;> omega
theorem exprGo_snoc (cols : Int) (ts : List Tk) (i : Nat) (hi : i < ts.length) (n m : Nat) (h : exprGo cols (ts.take i) n = some m) :
  exprGo cols (ts.take (i + 1)) n = if tokB ts[i] cols = true ∧ takes ts[i].k ≤ m then some (m - takes ts[i].k + 1) else none := by
 rw [List.take_succ_eq_append_getElem hi, exprGo_append, h]
 simp [exprGo]
theorem exprGo_dead (cols : Int) (ts : List Tk) (i : Nat) (n : Nat) (h : exprGo cols (ts.take i) n = none) : exprGo cols ts n = none := by
 have e : ts = ts.take i ++ ts.drop i := (List.take_append_drop i ts).symm
 rw [e, exprGo_append, h]
 rfl
def Tk.cells (t : Tk) : List Value := [.int .i64 t.k, .int .i64 t.c, .int .i64 t.vk, .int .i64 t.vn, .string t.vs]
def Toks (w : World) (A : Option Addr) (n : Nat) (ts : List Tk) : Prop := Cellz w 5 A n (ts.map Tk.cells)
theorem Toks.len {w : World} {A : Option Addr} {n : Nat} {ts : List Tk} (h : Toks w A n ts) : ts.length = n := by simpa using h.1
theorem Toks.below {w w' : World} {A : Option Addr} {n : Nat} {ts : List Tk} (h : Toks w A n ts) (hb : Below w.heap.size w w') : Toks w' A n ts := Cellz.below h hb
theorem Toks.at_ {w : World} {A : Option Addr} {n : Nat} {ts : List Tk} (h : Toks w A n ts) {i : Nat} (hi : i < ts.length) :
  ∃ b off, A = some ⟨b, off, none⟩ ∧ w.cell? ⟨b, off + i * 5, none⟩ = some (.int .i64 ts[i].k) ∧ w.cell? ⟨b, off + i * 5 + 1, none⟩ = some (.int .i64 ts[i].c) ∧
   w.cell? ⟨b, off + i * 5 + 2, none⟩ = some (.int .i64 ts[i].vk) ∧ w.cell? ⟨b, off + i * 5 + 3, none⟩ = some (.int .i64 ts[i].vn) ∧ w.cell? ⟨b, off + i * 5 + 4, none⟩ = some (.string ts[i].vs) := by
 have hl := h.len
 obtain ⟨b, off, rfl, hc⟩ := h.2.2 (by omega)
 have hi' : i < (ts.map Tk.cells).length := by simpa using hi
 have g : ∀ j v, ts[i].cells[j]? = some v → w.cell? ⟨b, off + i * 5 + j, none⟩ = some v := by
  intro j v hv
  have e : (ts.map Tk.cells)[i] = ts[i].cells := by simp
  obtain ⟨hj, hv'⟩ := List.getElem?_eq_some_iff.1 hv
  have := hc i hi' j (by rw [e]; exact hj)
  rw [Nat.add_assoc, this]
  simp only [e, hv']
 exact ⟨b, off, rfl, g 0 _ rfl, g 1 _ rfl, g 2 _ rfl, g 3 _ rfl, g 4 _ rfl⟩
theorem implIsOp (k : Int) (w : World) : Calls Tryz.prog 115 #[.int .i64 k] w fun e w' => e = .returned (.bool (isOpB k)) ∧ w = w' := by
 unfold isOpB
 by_cases h : 3 ≤ k
 ·go_enter Tryz.func115, Tryz.ntmps115
  go_wp2
  go_ret
  exact ⟨retB (by simp [h]), rfl⟩
 ·have h' : decide (3 ≤ k) = false := by simpa using h
  go_enter Tryz.func115, Tryz.ntmps115
  go_wp2
  go_ret
  exact ⟨retB (by simp), rfl⟩
set_option maxRecDepth 100000 in
set_option maxHeartbeats 1000000 in
theorem implTokOk (t : Tk) (cols : Int) (w : World) :
  Calls Tryz.prog 98 #[.agg #[.int .i64 t.k, .int .i64 t.c, .int .i64 t.vk, .int .i64 t.vn, .string t.vs], .int .i64 cols] w fun e w' => e = .returned (.bool (tokB t cols)) ∧ Below w.heap.size w w' := by
 obtain ⟨k, c, vk, vn, vs⟩ := t
 have hb := (Below.refl w.heap.size w).alloc (Nat.le_refl _) (.cells #[.int .i64 k, .int .i64 c, .int .i64 vk, .int .i64 vn, .string vs] 90)
 have HB := Lib.hid hb
 clear hb
 by_cases h1 : k = 1
 ·subst h1
  go_enter Tryz.func98, Tryz.ntmps98
  go_wp2
  all_goals
   go_ret
   exact ⟨retB (by first | (simp [tokB, zeroB, *]; done) | (simp [tokB, zeroB]; omega)), (Below.refl _ _).alloc (Nat.le_refl _) _⟩
 have e1 : (k == 1) = false := by simpa using h1
 by_cases h2 : k = 2
 ·subst h2
  by_cases hc : c = 0
  ·subst hc
   go_enter Tryz.func98, Tryz.ntmps98
   go_wp2_with fail
   refine (implValOk _ _ _ _).mono ?_
   rintro e w1 ⟨rfl, hb1⟩
   go_wp2
   go_ret
   exact ⟨retB (by simp [tokB]), HB.out.trans (hb1.mono (by simp))⟩
  ·have ec : (c == 0) = false := by simpa using hc
   go_enter Tryz.func98, Tryz.ntmps98
   go_wp2
   go_ret
   exact ⟨retB (by simp [tokB, hc]), (Below.refl _ _).alloc (Nat.le_refl _) _⟩
 have e2 : (k == 2) = false := by simpa using h2
 cases ho : isOpB k
 ·have HO := Lib.hid ho
  go_enter Tryz.func98, Tryz.ntmps98
  go_wp2_with fail
  refine (implIsOp _ _).mono ?_
  rintro e w1 ⟨rfl, rfl⟩
  go_wp2
  go_ret
  exact ⟨retB (by simp [tokB, h1, h2, HO.out]), (Below.refl _ _).alloc (Nat.le_refl _) _⟩
 ·have HO := Lib.hid ho
  go_enter Tryz.func98, Tryz.ntmps98
  go_wp2_with fail
  refine (implIsOp _ _).mono ?_
  rintro e w1 ⟨rfl, rfl⟩
  go_wp2
  all_goals
   go_ret
   exact ⟨retB (by simp [tokB, zeroB, HO.out, *]), (Below.refl _ _).alloc (Nat.le_refl _) _⟩
def opsCells : Array Value := #[.string ⟨#[]⟩, .int .i64 0, .nilFunc, .string ⟨#[]⟩, .int .i64 0, .nilFunc, .string ⟨#[]⟩, .int .i64 0, .nilFunc, .string ⟨#[61]⟩, .int .i64 2, .func (.func 107) #[] #[], .string ⟨#[60]⟩, .int .i64 2, .func (.func 108) #[] #[], .string ⟨#[97, 110, 100]⟩, .int .i64 2, .func (.func 109) #[] #[], .string ⟨#[111, 114]⟩, .int .i64 2, .func (.func 110) #[] #[], .string ⟨#[110, 111, 116]⟩, .int .i64 1, .func (.func 111) #[] #[], .string ⟨#[105, 115, 110, 117, 108, 108]⟩, .int .i64 1, .func (.func 112) #[] #[], .string ⟨#[43]⟩, .int .i64 2, .func (.func 113) #[] #[], .string ⟨#[45]⟩, .int .i64 2, .func (.func 114) #[] #[]]
def opsZero : Array Value := #[.string ⟨#[]⟩, .int .i64 0, .nilFunc, .string ⟨#[]⟩, .int .i64 0, .nilFunc, .string ⟨#[]⟩, .int .i64 0, .nilFunc, .string ⟨#[]⟩, .int .i64 0, .nilFunc, .string ⟨#[]⟩, .int .i64 0, .nilFunc, .string ⟨#[]⟩, .int .i64 0, .nilFunc, .string ⟨#[]⟩, .int .i64 0, .nilFunc, .string ⟨#[]⟩, .int .i64 0, .nilFunc, .string ⟨#[]⟩, .int .i64 0, .nilFunc, .string ⟨#[]⟩, .int .i64 0, .nilFunc, .string ⟨#[]⟩, .int .i64 0, .nilFunc]
set_option maxRecDepth 100000 in
set_option maxHeartbeats 1000000 in
theorem implOpTable (w : World) :
  Calls Tryz.prog 97 #[] w fun e w' => e = .returned (.agg opsCells) ∧ Below w.heap.size w w' := by
 have hsz : (Tryz.prog.info? 146).map (·.size) = some opsCells.size := by kernel_rfl
 have hg := Go.heap_alloc_last w (.cells opsCells 146)
 have h1 : opsCells.all (·.oneCell') = true := by simp [opsCells, Value.oneCell']
 have HS := Lib.hid hsz
 have H1 := Lib.hid h1
 have HG := Lib.hid hg
 clear hsz hg h1
 go_enter Tryz.func97, Tryz.ntmps97
 go_wp2_with (refine wpList_store_row rfl 146 (.tmp 0) (.tmp 9) rfl w.heap.size opsCells rfl rfl 146 opsZero (Go.heap_alloc_last w (.cells opsZero 146)) HS.out rfl H1.out ?_)
 rw [World.setRow_alloc_new]
 exact bodyPost_ret (results_cell_row (p := 0) (ty := 146) rfl _ _ w.heap.size 146 opsCells (0, 0) _ rfl HG.out Tryz.underlying146 rfl HS.out) rfl ⟨rfl, (Below.refl _ _).alloc (Nat.le_refl _) _⟩
def takesOr (t : Tk) (cols : Int) : Int := if tokB t cols = true then takes t.k else -1
set_option maxRecDepth 100000 in
set_option maxHeartbeats 4000000 in
theorem specTakes (t : Tk) (cols : Int) (w : World) (h0 : 0 ≤ cols) (h16 : cols ≤ 16) :
  Calls Tryz.prog 89 #[.agg #[.int .i64 t.k, .int .i64 t.c, .int .i64 t.vk, .int .i64 t.vn, .string t.vs], .int .i64 cols] w fun e w' => e = .returned (.int .i64 (takesOr t cols)) ∧ Below w.heap.size w w' := by
 obtain ⟨k, c, vk, vn, vs⟩ := t
 by_cases h1 : k = 1
 ·subst h1
  go_enter Tryz.func89, Tryz.ntmps89
  go_wp2_with (go_at_call 71; refine (specIn _ _ _ _).mono ?_; rintro e w1 ⟨rfl, rfl⟩)
  all_goals
   go_ret
   exact ⟨retI (by first | (simp [takesOr, tokB, zeroB, takes, *]; done) | (simp [takesOr, tokB, zeroB, takes, *]; omega)), (Below.refl _ _).alloc (Nat.le_refl _) _⟩
 have e1 : (k == 1) = false := by simpa using h1
 have d1 : (k != 1) = true := by simpa using h1
 by_cases h2 : k = 2
 ·subst h2
  by_cases hc : c = 0
  ·subst hc
   go_enter Tryz.func89, Tryz.ntmps89
   go_wp2_with fail
   refine (specValOk _ _ _ _).mono ?_
   rintro e w1 ⟨rfl, hb1⟩
   have HB := Lib.hid (((Below.refl w.heap.size w).alloc (Nat.le_refl _) _).trans (hb1.mono (by simp)))
   clear hb1
   go_wp2
   all_goals
    go_ret
    exact ⟨retI (by simp [takesOr, tokB, takes, *]), HB.out⟩
  ·have ec : (c != 0) = true := by simpa using hc
   go_enter Tryz.func89, Tryz.ntmps89
   go_wp2
   go_ret
   exact ⟨retI (by simp [takesOr, tokB, hc]), (Below.refl _ _).alloc (Nat.le_refl _) _⟩
 have e2 : (k == 2) = false := by simpa using h2
 have d2 : (k != 2) = true := by simpa using h2
 by_cases h7 : k = 7
 ·subst h7
  by_cases hc : c = 0
  ·subst hc
   go_enter Tryz.func89, Tryz.ntmps89
   go_wp2
   all_goals
    go_ret
    exact ⟨retI (by simp [takesOr, tokB, zeroB, isOpB, takes, *]), (Below.refl _ _).alloc (Nat.le_refl _) _⟩
  ·have ec : (c != 0) = true := by simpa using hc
   go_enter Tryz.func89, Tryz.ntmps89
   go_wp2
   go_ret
   exact ⟨retI (by simp [takesOr, tokB, isOpB, hc]), (Below.refl _ _).alloc (Nat.le_refl _) _⟩
 have e7 : (k == 7) = false := by simpa using h7
 by_cases h8 : k = 8
 ·subst h8
  by_cases hc : c = 0
  ·subst hc
   go_enter Tryz.func89, Tryz.ntmps89
   go_wp2
   all_goals
    go_ret
    exact ⟨retI (by simp [takesOr, tokB, zeroB, isOpB, takes, *]), (Below.refl _ _).alloc (Nat.le_refl _) _⟩
  ·have ec : (c != 0) = true := by simpa using hc
   go_enter Tryz.func89, Tryz.ntmps89
   go_wp2
   go_ret
   exact ⟨retI (by simp [takesOr, tokB, isOpB, hc]), (Below.refl _ _).alloc (Nat.le_refl _) _⟩
 have e8 : (k == 8) = false := by simpa using h8
 by_cases h3 : k = 3
 ·subst h3
  by_cases hc : c = 0
  ·subst hc
   go_enter Tryz.func89, Tryz.ntmps89
   go_wp2
   all_goals
    go_ret
    exact ⟨retI (by simp [takesOr, tokB, zeroB, isOpB, takes, *]), (Below.refl _ _).alloc (Nat.le_refl _) _⟩
  ·have ec : (c != 0) = true := by simpa using hc
   go_enter Tryz.func89, Tryz.ntmps89
   go_wp2
   go_ret
   exact ⟨retI (by simp [takesOr, tokB, isOpB, hc]), (Below.refl _ _).alloc (Nat.le_refl _) _⟩
 have e3 : (k == 3) = false := by simpa using h3
 by_cases h4 : k = 4
 ·subst h4
  by_cases hc : c = 0
  ·subst hc
   go_enter Tryz.func89, Tryz.ntmps89
   go_wp2
   all_goals
    go_ret
    exact ⟨retI (by simp [takesOr, tokB, zeroB, isOpB, takes, *]), (Below.refl _ _).alloc (Nat.le_refl _) _⟩
  ·have ec : (c != 0) = true := by simpa using hc
   go_enter Tryz.func89, Tryz.ntmps89
   go_wp2
   go_ret
   exact ⟨retI (by simp [takesOr, tokB, isOpB, hc]), (Below.refl _ _).alloc (Nat.le_refl _) _⟩
 have e4 : (k == 4) = false := by simpa using h4
 by_cases h5 : k = 5
 ·subst h5
  by_cases hc : c = 0
  ·subst hc
   go_enter Tryz.func89, Tryz.ntmps89
   go_wp2
   all_goals
    go_ret
    exact ⟨retI (by simp [takesOr, tokB, zeroB, isOpB, takes, *]), (Below.refl _ _).alloc (Nat.le_refl _) _⟩
  ·have ec : (c != 0) = true := by simpa using hc
   go_enter Tryz.func89, Tryz.ntmps89
   go_wp2
   go_ret
   exact ⟨retI (by simp [takesOr, tokB, isOpB, hc]), (Below.refl _ _).alloc (Nat.le_refl _) _⟩
 have e5 : (k == 5) = false := by simpa using h5
 by_cases h6 : k = 6
 ·subst h6
  by_cases hc : c = 0
  ·subst hc
   go_enter Tryz.func89, Tryz.ntmps89
   go_wp2
   all_goals
    go_ret
    exact ⟨retI (by simp [takesOr, tokB, zeroB, isOpB, takes, *]), (Below.refl _ _).alloc (Nat.le_refl _) _⟩
  ·have ec : (c != 0) = true := by simpa using hc
   go_enter Tryz.func89, Tryz.ntmps89
   go_wp2
   go_ret
   exact ⟨retI (by simp [takesOr, tokB, isOpB, hc]), (Below.refl _ _).alloc (Nat.le_refl _) _⟩
 have e6 : (k == 6) = false := by simpa using h6
 by_cases h9 : k = 9
 ·subst h9
  by_cases hc : c = 0
  ·subst hc
   go_enter Tryz.func89, Tryz.ntmps89
   go_wp2
   all_goals
    go_ret
    exact ⟨retI (by simp [takesOr, tokB, zeroB, isOpB, takes, *]), (Below.refl _ _).alloc (Nat.le_refl _) _⟩
  ·have ec : (c != 0) = true := by simpa using hc
   go_enter Tryz.func89, Tryz.ntmps89
   go_wp2
   go_ret
   exact ⟨retI (by simp [takesOr, tokB, isOpB, hc]), (Below.refl _ _).alloc (Nat.le_refl _) _⟩
 have e9 : (k == 9) = false := by simpa using h9
 by_cases h10 : k = 10
 ·subst h10
  by_cases hc : c = 0
  ·subst hc
   go_enter Tryz.func89, Tryz.ntmps89
   go_wp2
   all_goals
    go_ret
    exact ⟨retI (by simp [takesOr, tokB, zeroB, isOpB, takes, *]), (Below.refl _ _).alloc (Nat.le_refl _) _⟩
  ·have ec : (c != 0) = true := by simpa using hc
   go_enter Tryz.func89, Tryz.ntmps89
   go_wp2
   go_ret
   exact ⟨retI (by simp [takesOr, tokB, isOpB, hc]), (Below.refl _ _).alloc (Nat.le_refl _) _⟩
 have e10 : (k == 10) = false := by simpa using h10
 have ho : isOpB k = false := by unfold isOpB; simp; omega
 have HO := Lib.hid ho
 clear ho
 by_cases hc : c = 0
 ·subst hc
  go_enter Tryz.func89, Tryz.ntmps89
  go_wp2
  all_goals
   go_ret
   exact ⟨retI (by simp [takesOr, tokB, h1, h2, HO.out]), (Below.refl _ _).alloc (Nat.le_refl _) _⟩
 ·have ec : (c != 0) = true := by simpa using hc
  go_enter Tryz.func89, Tryz.ntmps89
  go_wp2
  all_goals
   go_ret
   exact ⟨retI (by simp [takesOr, tokB, h1, h2, HO.out]), (Below.refl _ _).alloc (Nat.le_refl _) _⟩
def l2B (ts : List Tk) (cols : Int) : Bool := exprGo cols ts 0 == some 1 && decide (ts.length ≤ 24)
set_option maxRecDepth 100000 in
set_option maxHeartbeats 1000000 in
theorem specL2Expr (A : Option Addr) (n cap : Nat) (ts : List Tk) (cols : Int) (w : World) (h : Toks w A n ts) (hn : n ≤ maxLen) (h0 : 0 ≤ cols) (h16 : cols ≤ 16) :
  Calls Tryz.prog 75 #[.slice A n cap, .int .i64 cols] w fun e w' => e = .returned (.bool (l2B ts cols)) ∧ Below w.heap.size w w' := by
 unfold maxLen at hn
 obtain rfl : n = ts.length := h.len.symm
 go_enter Tryz.func75, Tryz.ntmps75
 go_wp2
 go_loopw [5, 6] (fun m i wr => ∃ k l : Nat, k ≤ ts.length ∧ i = .int .i64 k ∧ m = .int .i64 l ∧ l ≤ k ∧ Hid (exprGo cols (ts.take k) 0 = some l) ∧ Below w.heap.size w wr) (fun _ i _ => ts.length - (intOf i).toNat)
 case atStart => exact ⟨0, 0, by omega, rfl, rfl, by omega, Lib.hid (by simp [exprGo]), Below.refl _ _⟩
 case round =>
  obtain ⟨k, l, hk, rfl, rfl, hlk, hgo, hb⟩ := hrel
  by_cases hlt : k < ts.length
  ·obtain ⟨b, off, rfl, c0, c1, c2, c3, c4⟩ := (h.below hb).at_ hlt
   have hsn := Lib.hid (exprGo_snoc cols ts k hlt 0 l hgo.out)
   by_cases ht : tokB ts[k] cols = true ∧ takes ts[k].k ≤ l
   ·have HT := Lib.hid ht
    have hq : takesOr ts[k] cols = takes ts[k].k := by simp [takesOr, ht.1]
    have HQ := Lib.hid hq
    have hq2 := takes_le ts[k].k
    have hq3 := ht.2
    clear hq ht
    go_wp2_with fail
    refine (specTakes ts[k] cols _ h0 h16).mono ?_
    rintro e w1 ⟨rfl, hb1⟩
    rw [HQ.out]
    generalize takes ts[k].k = q at *
    go_wp2_with fail
    go_roundw
    case rel => exact ⟨k + 1, l - q + 1, by omega, by go_num, by go_num, by omega, Lib.hid (by rw [hsn.out, if_pos HT.out]), hb.trans (hb1.mono hb.size)⟩
    case measure => simp [intOf]; omega
   ·have HT := Lib.hid ht
    have hd : exprGo cols ts 0 = none := exprGo_dead cols ts (k + 1) 0 (by rw [hsn.out, if_neg ht])
    have HD := Lib.hid (show l2B ts cols = false by simp [l2B, hd])
    by_cases ht1 : tokB ts[k] cols = true
    ·have hq : takesOr ts[k] cols = takes ts[k].k := by simp [takesOr, ht1]
     have HQ := Lib.hid hq
     have hq2 := takes_le ts[k].k
     have hq3 : l < takes ts[k].k := Nat.lt_of_not_le fun x => ht ⟨ht1, x⟩
     clear hq ht hd ht1
     go_wp2_with fail
     refine (specTakes ts[k] cols _ h0 h16).mono ?_
     rintro e w1 ⟨rfl, hb1⟩
     rw [HQ.out]
     generalize takes ts[k].k = q at *
     go_wp2_with fail
     go_ret
     exact ⟨retB (by rw [HD.out]), hb.trans (hb1.mono hb.size)⟩
    ·have hq : takesOr ts[k] cols = -1 := by simp [takesOr, ht1]
     have HQ := Lib.hid hq
     clear hq ht hd ht1
     go_wp2_with fail
     refine (specTakes ts[k] cols _ h0 h16).mono ?_
     rintro e w1 ⟨rfl, hb1⟩
     rw [HQ.out]
     go_wp2_with fail
     go_ret
     exact ⟨retB (by rw [HD.out]), hb.trans (hb1.mono hb.size)⟩
  ·have e : ts.take k = ts := List.take_of_length_le (by omega)
   have hg2 := hgo.out
   rw [e] at hg2
   have HF := Lib.hid (show l2B ts cols = (l == 1 && decide (ts.length ≤ 24)) by simp [l2B, hg2])
   clear hgo e hg2
   by_cases hl1 : l = 1
   ·subst hl1
    go_wp2
    go_ret
    exact ⟨retB (by rw [HF.out]; simp; omega), hb⟩
   ·have el : ((l : Int) == 1) = false := by simp; omega
    go_wp2
    go_ret
    exact ⟨retB (by rw [HF.out]; simp [hl1]), hb⟩
theorem ops_takes (k : Nat) (h : k < 11) : opsCells[k * 3 + 1]? = some (.int .i64 (takes k)) := by
 have : k = 0 ∨ k = 1 ∨ k = 2 ∨ k = 3 ∨ k = 4 ∨ k = 5 ∨ k = 6 ∨ k = 7 ∨ k = 8 ∨ k = 9 ∨ k = 10 := by omega
 rcases this with rfl | rfl | rfl | rfl | rfl | rfl | rfl | rfl | rfl | rfl | rfl <;> rfl
theorem tokB_kind {t : Tk} {cols : Int} (h : tokB t cols = true) : 1 ≤ t.k ∧ t.k ≤ 10 := by
 unfold tokB isOpB at h
 split at h
 ·omega
 ·split at h
  ·omega
  ·split at h
   ·rename_i h'; simp at h'; omega
   ·cases h
theorem new_at {w w' : World} {xs : Array Value} {T : TypeId} (hb : Below (w.alloc (.cells xs T)).heap.size (w.alloc (.cells xs T)) w') (j : Nat) (v : Value) (hv : xs[j]? = some v) : w'.cell? ⟨w.heap.size, j, none⟩ = some v := by
 rw [hb.cell (by simp), World.cell?_alloc_new]
 exact hv
set_option maxRecDepth 100000 in
set_option maxHeartbeats 1000000 in
theorem implExprOk (A : Option Addr) (n cap : Nat) (ts : List Tk) (cols : Int) (w : World) (h : Toks w A n ts) (hn : n ≤ maxLen) :
  Calls Tryz.prog 86 #[.slice A n cap, .int .i64 cols] w fun e w' => e = .returned (.bool (exprB ts cols)) ∧ Below w.heap.size w w' := by
 unfold maxLen at hn
 obtain rfl : n = ts.length := h.len.symm
 by_cases h0 : cols < 0
 ·go_enter Tryz.func86, Tryz.ntmps86
  go_wp2
  go_ret
  exact ⟨retB (by simp [exprB]; omega), Below.refl _ _⟩
 have e0 : decide (cols < 0) = false := by simpa using h0
 by_cases h16 : 16 < cols
 ·go_enter Tryz.func86, Tryz.ntmps86
  go_wp2
  go_ret
  exact ⟨retB (by simp [exprB]; omega), Below.refl _ _⟩
 have e16 : decide (16 < cols) = false := by simpa using h16
 by_cases h24 : (24 : Int) < ts.length
 ·go_enter Tryz.func86, Tryz.ntmps86
  go_wp2
  go_ret
  exact ⟨retB (by simp [exprB]; omega), Below.refl _ _⟩
 have e24 : decide ((24 : Int) < ts.length) = false := by simpa using h24
 go_enter Tryz.func86, Tryz.ntmps86
 go_wp2_with fail
 refine (implOpTable _).mono ?_
 rintro e w1 ⟨rfl, hb1⟩
 have hs1 : (Tryz.prog.info? 146).map (·.size) = some opsCells.size := by kernel_rfl
 have hs2 : opsCells.all (·.oneCell') = true := by simp [opsCells, Value.oneCell']
 have S1 := Lib.hid hs1
 have S2 := Lib.hid hs2
 clear hs1 hs2
 go_wp2_with (refine wpList_store_row rfl 146 (.tmp 5) (.tmp 20) rfl w1.heap.size opsCells rfl rfl 146 opsZero (Go.heap_alloc_last w1 (.cells opsZero 146)) S1.out rfl S2.out ?_)
 rw [World.setRow_alloc_new]
 have hg := Go.heap_alloc_last w1 (.cells opsCells 146)
 have hb2 := hb1.trans (((Below.refl w1.heap.size w1).alloc (Nat.le_refl _) (.cells opsCells 146)).mono hb1.size)
 have hg0 : w.heap.size ≤ w1.heap.size := hb1.size
 generalize w1.alloc (.cells opsCells 146) = w2 at *
 generalize w1.heap.size = g at *
 have HG := Lib.hid hg
 clear hg hb1 S1 S2
 go_loopw [6, 23] (fun m i wr => ∃ k l : Nat, k ≤ ts.length ∧ i = .int .i64 k ∧ m = .int .i64 l ∧ l ≤ k ∧ Hid (exprGo cols (ts.take k) 0 = some l) ∧ Below w2.heap.size w2 wr) (fun _ i _ => ts.length - (intOf i).toNat)
 case atStart => exact ⟨0, 0, by omega, rfl, rfl, by omega, Lib.hid (by simp [exprGo]), Below.refl _ _⟩
 case round =>
  obtain ⟨k, l, hk, rfl, rfl, hlk, hgo, hb⟩ := hrel
  by_cases hlt : k < ts.length
  ·obtain ⟨b, off, rfl, c0, c1, c2, c3, c4⟩ := (h.below (hb2.trans (hb.mono hb2.size))).at_ hlt
   have hsn := Lib.hid (exprGo_snoc cols ts k hlt 0 l hgo.out)
   cases ht : tokB ts[k] cols
   ·have HD := Lib.hid (show exprB ts cols = false by
     have hd := exprGo_dead cols ts (k + 1) 0 (by rw [hsn.out, if_neg (by simp [ht])])
     simp [exprB, hd])
    have HT := Lib.hid ht
    clear ht hsn
    go_wp2_with fail
    refine (implTokOk ts[k] cols _).mono ?_
    rintro e w3 ⟨rfl, hb3⟩
    rw [HT.out]
    go_wp2_with fail
    go_ret
    exact ⟨retB (by rw [HD.out]), hb2.trans ((hb.trans ((((Below.refl wr.heap.size wr).alloc (Nat.le_refl _) _).trans (hb3.mono (by simp))).mono hb.size)).mono hb2.size)⟩
   ·have HT := Lib.hid ht
    obtain ⟨k1, k10⟩ := tokB_kind ht
    obtain ⟨kk, hkk⟩ := Int.eq_ofNat_of_zero_le (show 0 ≤ ts[k].k by omega)
    have hk11 : kk < 11 := by omega
    have hops := ops_takes kk hk11
    have htk : takes ts[k].k = takes kk := by rw [hkk]
    have HOPS := Lib.hid hops
    have HTK := Lib.hid htk
    have HKK := Lib.hid hkk
    have hq2 := takes_le kk
    clear ht hops htk hkk k1 k10
    go_wp2_with fail
    refine (implTokOk ts[k] cols _).mono ?_
    rintro e w3 ⟨rfl, hb3⟩
    rw [HT.out]
    have hbt := hb.trans ((((Below.refl wr.heap.size wr).alloc (Nat.le_refl _) _).trans (hb3.mono (by simp))).mono hb.size)
    have t0 : w3.cell? ⟨wr.heap.size, 0, none⟩ = some (.int .i64 kk) := new_at hb3 0 _ (by rw [← HKK.out]; rfl)
    have g0 : w3.cell? ⟨g, kk * 3 + 1, none⟩ = some (.int .i64 (takes kk)) := by
     rw [hbt.cell (lt_of_block HG.out), cell_of_row _ _ _ _ _ _ HG.out]
     exact HOPS.out
    by_cases hle : takes kk ≤ l
    ·have hle' : decide ((l : Int) < takes kk) = false := by simp; omega
     go_wp2_with fail
     go_roundw
     case rel => exact ⟨k + 1, l - takes kk + 1, by omega, by go_num, by go_num, by omega, Lib.hid (by rw [hsn.out, if_pos ⟨HT.out, by rw [HTK.out]; exact hle⟩, HTK.out]), hbt⟩
     case measure => simp [intOf]; omega
    ·have hle' : decide ((l : Int) < takes kk) = true := by simp; omega
     have HD := Lib.hid (show exprB ts cols = false by
      have hd := exprGo_dead cols ts (k + 1) 0 (by rw [hsn.out, if_neg (by rw [HTK.out]; exact fun x => hle x.2)])
      simp [exprB, hd])
     go_wp2_with fail
     go_ret
     exact ⟨retB (by rw [HD.out]), hb2.trans (hbt.mono hb2.size)⟩
  ·have e : ts.take k = ts := List.take_of_length_le (by omega)
   have hg2 := hgo.out
   rw [e] at hg2
   have HF := Lib.hid (show exprB ts cols = (l == 1) by
    have h24' : ts.length ≤ 24 := by omega
    simp [exprB, hg2, h0, h16, h24'])
   clear hgo e hg2
   go_wp2
   go_ret
   exact ⟨retB (by rw [HF.out, Bool.eq_iff_iff]; simp; omega), hb2.trans (hb.mono hb2.size)⟩
theorem mk_rows {P : Program} {t e : TypeId} {sz bs : Nat} {z : Value} (ht : P.underlying t = some (.slice e)) (hi : (P.info? e).map (fun i => (i.zero, i.size, i.bytes)) = some (some z, sz, bs)) (hbs : bs ≤ 100000) (n : Nat) (hn : n ≤ 1048576) (w : World) :
  (Instr.makeSlice t (.int .i64 (n : Int)) (.int .i64 (n : Int))).run P w = .ok (.slice (some ⟨w.heap.size, 0, none⟩) n n) (w.alloc (.cells (madeCells z.cells (n * sz)) e)) := by
 obtain ⟨i, h1, h2, h3, h4⟩ := info_parts hi
 have hb : (i.bytes : Int) * n ≤ 281474976710656 := by
  rw [h4]
  have h5 : bs * n ≤ 100000 * 1048576 := Nat.mul_le_mul hbs hn
  have h6 : ((bs * n : Nat) : Int) ≤ 104857600000 := by omega
  rw [Int.natCast_mul] at h6
  omega
 have hr := run_make (P := P) w t e i z ht h1 h2 .i64 .i64 n n (by omega) (by omega) hb (by omega)
 simp only [Int.toNat_natCast, h3] at hr
 exact hr
def szL {α : Type} (f : α → Nat) (l : List α) : Nat := l.length + (l.map f).sum
theorem sum_take {α : Type} (f : α → Nat) (l : List α) (k : Nat) (h : k < l.length) : ((l.take (k + 1)).map f).sum = ((l.take k).map f).sum + f l[k] := by
 rw [List.take_succ_eq_append_getElem h, List.map_append, List.sum_append]; simp
theorem sum_take_le {α : Type} (f : α → Nat) (l : List α) (k : Nat) : ((l.take k).map f).sum ≤ (l.map f).sum := by
 have e : (l.map f).sum = ((l.take k).map f).sum + ((l.drop k).map f).sum := by rw [← List.sum_append, ← List.map_append, List.take_append_drop]
 omega
theorem sum_mem_le {α : Type} (f : α → Nat) (l : List α) (k : Nat) (h : k < l.length) : f l[k] ≤ (l.map f).sum := by
 have := sum_take f l k h
 have := sum_take_le f l (k + 1)
 omega
def Vl.cells (v : Vl) : List Value := [.int .i64 v.k, .int .i64 v.n, .string v.s]
def Vals (w : World) (A : Option Addr) (n : Nat) (vs : List Vl) : Prop := Cellz w 3 A n (vs.map Vl.cells)
theorem Vals.len {w : World} {A : Option Addr} {n : Nat} {vs : List Vl} (h : Vals w A n vs) : vs.length = n := by simpa using h.1
theorem Vals.below {w w' : World} {A : Option Addr} {n : Nat} {vs : List Vl} (h : Vals w A n vs) (hb : Below w.heap.size w w') : Vals w' A n vs := Cellz.below h hb
theorem Vals.at_ {w : World} {A : Option Addr} {n : Nat} {vs : List Vl} (h : Vals w A n vs) {i : Nat} (hi : i < vs.length) :
  ∃ b off, A = some ⟨b, off, none⟩ ∧ w.cell? ⟨b, off + i * 3, none⟩ = some (.int .i64 vs[i].k) ∧ w.cell? ⟨b, off + i * 3 + 1, none⟩ = some (.int .i64 vs[i].n) ∧ w.cell? ⟨b, off + i * 3 + 2, none⟩ = some (.string vs[i].s) := by
 have hl := h.len
 obtain ⟨b, off, rfl, hc⟩ := h.2.2 (by omega)
 have hi' : i < (vs.map Vl.cells).length := by simpa using hi
 have g : ∀ j v, vs[i].cells[j]? = some v → w.cell? ⟨b, off + i * 3 + j, none⟩ = some v := by
  intro j v hv
  have e : (vs.map Vl.cells)[i] = vs[i].cells := by simp
  obtain ⟨hj, hv'⟩ := List.getElem?_eq_some_iff.1 hv
  have := hc i hi' j (by rw [e]; exact hj)
  rw [Nat.add_assoc, this]
  simp only [e, hv']
 exact ⟨b, off, rfl, g 0 _ rfl, g 1 _ rfl, g 2 _ rfl⟩
end Go.Proofs.YtkehfilmpdoglaaGreat
namespace Go.Proofs.YtkehfilmpdoglaaGreat
open Go.RowKit
def IntR : Rd Int := FlatR fun n => [.int .i64 n]
def TkR : Rd Tk := FlatR Tk.cells
def VlR : Rd Vl := FlatR Vl.cells
theorem IntR.stays : Stays IntR := FlatR.stays _
theorem TkR.stays : Stays TkR := FlatR.stays _
theorem VlR.stays : Stays VlR := FlatR.stays _
structure Cl where
 name : ByteArray
 kind : Int
 nn : Bool
 d : Vl
def Cl.cells (x : Cl) : List Value := [.string x.name, .int .i64 x.kind, .bool x.nn, .int .i64 x.d.k, .int .i64 x.d.n, .string x.d.s]
def ClR : Rd Cl := FlatR Cl.cells
theorem ClR.stays : Stays ClR := FlatR.stays _
def Cl.sz (x : Cl) : Nat := x.name.size + x.d.s.size
structure Uq where
 cols : List Int
def UqR : Rd Uq := fun ok w cs x => ∃ (A0 : Option Addr) (n0 c0 : Nat), cs = [.slice A0 n0 c0] ∧ Sl IntR 1 ok w A0 n0 x.cols ∧ (n0 ≤ c0)
theorem UqR.stays : Stays UqR := fun _ _ _ _ _ _ ⟨A0, n0, c0, e, h0, hcp⟩ ho hk => ⟨A0, n0, c0, e, h0.stays IntR.stays ho hk, hcp⟩
def Uq.sz (x : Uq) : Nat := x.cols.length
structure Ck where
 expr : List Tk
def CkR : Rd Ck := fun ok w cs x => ∃ (A0 : Option Addr) (n0 c0 : Nat), cs = [.slice A0 n0 c0] ∧ Sl TkR 5 ok w A0 n0 x.expr ∧ (n0 ≤ c0)
theorem CkR.stays : Stays CkR := fun _ _ _ _ _ _ ⟨A0, n0, c0, e, h0, hcp⟩ ho hk => ⟨A0, n0, c0, e, h0.stays TkR.stays ho hk, hcp⟩
def Ck.sz (x : Ck) : Nat := szL (fun t : Tk => t.vs.size) x.expr
structure Fk where
 cols : List Int
 table : ByteArray
 del : Int
 upd : Int
 dfr : Bool
def FkR : Rd Fk := fun ok w cs x => ∃ (A0 : Option Addr) (n0 c0 : Nat), cs = [.slice A0 n0 c0, .string x.table, .int .i64 x.del, .int .i64 x.upd, .bool x.dfr] ∧ Sl IntR 1 ok w A0 n0 x.cols ∧ (n0 ≤ c0)
theorem FkR.stays : Stays FkR := fun _ _ _ _ _ _ ⟨A0, n0, c0, e, h0, hcp⟩ ho hk => ⟨A0, n0, c0, e, h0.stays IntR.stays ho hk, hcp⟩
def Fk.sz (x : Fk) : Nat := x.cols.length + x.table.size
structure Tb where
 name : ByteArray
 cols : List Cl
 key : List Int
 uniqs : List Uq
 checks : List Ck
 fks : List Fk
def TbR : Rd Tb := fun ok w cs x => ∃ (A1 : Option Addr) (n1 c1 : Nat) (A2 : Option Addr) (n2 c2 : Nat) (A3 : Option Addr) (n3 c3 : Nat) (A4 : Option Addr) (n4 c4 : Nat) (A5 : Option Addr) (n5 c5 : Nat), cs = [.string x.name, .slice A1 n1 c1, .slice A2 n2 c2, .slice A3 n3 c3, .slice A4 n4 c4, .slice A5 n5 c5] ∧ Sl ClR 6 ok w A1 n1 x.cols ∧ Sl IntR 1 ok w A2 n2 x.key ∧ Sl UqR 1 ok w A3 n3 x.uniqs ∧ Sl CkR 1 ok w A4 n4 x.checks ∧ Sl FkR 5 ok w A5 n5 x.fks ∧ (n1 ≤ c1 ∧ n2 ≤ c2 ∧ n3 ≤ c3 ∧ n4 ≤ c4 ∧ n5 ≤ c5)
theorem TbR.stays : Stays TbR := fun _ _ _ _ _ _ ⟨A1, n1, c1, A2, n2, c2, A3, n3, c3, A4, n4, c4, A5, n5, c5, e, h1, h2, h3, h4, h5, hcp⟩ ho hk => ⟨A1, n1, c1, A2, n2, c2, A3, n3, c3, A4, n4, c4, A5, n5, c5, e, h1.stays ClR.stays ho hk, h2.stays IntR.stays ho hk, h3.stays UqR.stays ho hk, h4.stays CkR.stays ho hk, h5.stays FkR.stays ho hk, hcp⟩
def Tb.sz (x : Tb) : Nat := x.name.size + szL Cl.sz x.cols + x.key.length + szL Uq.sz x.uniqs + szL Ck.sz x.checks + szL Fk.sz x.fks
structure Rw where
 id : Int
 vals : List Vl
def RwR : Rd Rw := fun ok w cs x => ∃ (A1 : Option Addr) (n1 c1 : Nat), cs = [.int .i64 x.id, .slice A1 n1 c1] ∧ Sl VlR 3 ok w A1 n1 x.vals ∧ (n1 ≤ c1)
theorem RwR.stays : Stays RwR := fun _ _ _ _ _ _ ⟨A1, n1, c1, e, h1, hcp⟩ ho hk => ⟨A1, n1, c1, e, h1.stays VlR.stays ho hk, hcp⟩
def Rw.sz (x : Rw) : Nat := szL (fun v : Vl => v.s.size) x.vals
structure Dt where
 rows : List Rw
def DtR : Rd Dt := fun ok w cs x => ∃ (A0 : Option Addr) (n0 c0 : Nat), cs = [.slice A0 n0 c0] ∧ Sl RwR 2 ok w A0 n0 x.rows ∧ (n0 ≤ c0)
theorem DtR.stays : Stays DtR := fun _ _ _ _ _ _ ⟨A0, n0, c0, e, h0, hcp⟩ ho hk => ⟨A0, n0, c0, e, h0.stays RwR.stays ho hk, hcp⟩
def Dt.sz (x : Dt) : Nat := szL Rw.sz x.rows
structure Sv where
 name : ByteArray
 db : List Dt
def SvR : Rd Sv := fun ok w cs x => ∃ (A1 : Option Addr) (n1 c1 : Nat), cs = [.string x.name, .slice A1 n1 c1] ∧ Sl DtR 1 ok w A1 n1 x.db ∧ (n1 ≤ c1)
def Sv.sz (x : Sv) : Nat := x.name.size + szL Dt.sz x.db
structure Ss where
 schema : List Tb
 db : List Dt
 isOpen : Bool
 start : List Dt
 saves : List Sv
theorem Row.all6 {w : World} {g : Nat} {T : TypeId} {a0 a1 a2 a3 a4 a5 : Value} (h : Row w g T #[a0, a1, a2, a3, a4, a5]) :
  (w.cell? ⟨g, 0, none⟩ = some a0 ∧ w.cell? ⟨g, 1, none⟩ = some a1 ∧ w.cell? ⟨g, 2, none⟩ = some a2 ∧ w.cell? ⟨g, 3, none⟩ = some a3 ∧ w.cell? ⟨g, 4, none⟩ = some a4 ∧ w.cell? ⟨g, 5, none⟩ = some a5) ∧ (w.frozen? ⟨g, 0, none⟩ = false ∧ w.frozen? ⟨g, 1, none⟩ = false ∧ w.frozen? ⟨g, 2, none⟩ = false ∧ w.frozen? ⟨g, 3, none⟩ = false ∧ w.frozen? ⟨g, 4, none⟩ = false ∧ w.frozen? ⟨g, 5, none⟩ = false) :=
 ⟨⟨h.cell 0, h.cell 1, h.cell 2, h.cell 3, h.cell 4, h.cell 5⟩, ⟨h.free 0, h.free 1, h.free 2, h.free 3, h.free 4, h.free 5⟩⟩
theorem IntR.at_ {ok : Nat → Prop} {w : World} {A : Option Addr} {n : Nat} {ds : List Int} (h : Sl IntR 1 ok w A n ds) {i : Nat} (hi : i < ds.length) :
  ∃ (b off : Nat) , ok b ∧ A = some ⟨b, off, none⟩ ∧ w.cell? ⟨b, off + i, none⟩ = some (.int .i64 ds[i]) := by
 have hl := h.1
 obtain ⟨b, off, rfl, hb, hc⟩ := h.2 (by omega)
 obtain ⟨cs, -, hR, g⟩ := hc i hi
 have e : cs = _ := hR
 subst e
 exact ⟨b, off, hb, rfl, by have := g 0 _ rfl; rwa [Nat.mul_one] at this⟩
theorem ClR.at_ {ok : Nat → Prop} {w : World} {A : Option Addr} {n : Nat} {ds : List Cl} (h : Sl ClR 6 ok w A n ds) {i : Nat} (hi : i < ds.length) :
  ∃ (b off : Nat) , ok b ∧ A = some ⟨b, off, none⟩ ∧ w.cell? ⟨b, off + i * 6, none⟩ = some (.string ds[i].name) ∧ w.cell? ⟨b, off + i * 6 + 1, none⟩ = some (.int .i64 ds[i].kind) ∧ w.cell? ⟨b, off + i * 6 + 2, none⟩ = some (.bool ds[i].nn) ∧ w.cell? ⟨b, off + i * 6 + 3, none⟩ = some (.int .i64 ds[i].d.k) ∧ w.cell? ⟨b, off + i * 6 + 4, none⟩ = some (.int .i64 ds[i].d.n) ∧ w.cell? ⟨b, off + i * 6 + 5, none⟩ = some (.string ds[i].d.s) := by
 have hl := h.1
 obtain ⟨b, off, rfl, hb, hc⟩ := h.2 (by omega)
 obtain ⟨cs, -, hR, g⟩ := hc i hi
 have e : cs = _ := hR
 subst e
 exact ⟨b, off, hb, rfl, g 0 _ rfl, g 1 _ rfl, g 2 _ rfl, g 3 _ rfl, g 4 _ rfl, g 5 _ rfl⟩
theorem UqR.at_ {ok : Nat → Prop} {w : World} {A : Option Addr} {n : Nat} {ds : List Uq} (h : Sl UqR 1 ok w A n ds) {i : Nat} (hi : i < ds.length) :
  ∃ (b off : Nat) (A0 : Option Addr) (n0 c0 : Nat), ok b ∧ A = some ⟨b, off, none⟩ ∧ w.cell? ⟨b, off + i, none⟩ = some (.slice A0 n0 c0) ∧ Sl IntR 1 ok w A0 n0 ds[i].cols ∧ (n0 ≤ c0) := by
 have hl := h.1
 obtain ⟨b, off, rfl, hb, hc⟩ := h.2 (by omega)
 obtain ⟨cs, -, hR, g⟩ := hc i hi
 obtain ⟨A0, n0, c0, rfl, h0, hcp⟩ := hR
 exact ⟨b, off, A0, n0, c0, hb, rfl, by have := g 0 _ rfl; rwa [Nat.mul_one] at this, h0, hcp⟩
theorem CkR.at_ {ok : Nat → Prop} {w : World} {A : Option Addr} {n : Nat} {ds : List Ck} (h : Sl CkR 1 ok w A n ds) {i : Nat} (hi : i < ds.length) :
  ∃ (b off : Nat) (A0 : Option Addr) (n0 c0 : Nat), ok b ∧ A = some ⟨b, off, none⟩ ∧ w.cell? ⟨b, off + i, none⟩ = some (.slice A0 n0 c0) ∧ Sl TkR 5 ok w A0 n0 ds[i].expr ∧ (n0 ≤ c0) := by
 have hl := h.1
 obtain ⟨b, off, rfl, hb, hc⟩ := h.2 (by omega)
 obtain ⟨cs, -, hR, g⟩ := hc i hi
 obtain ⟨A0, n0, c0, rfl, h0, hcp⟩ := hR
 exact ⟨b, off, A0, n0, c0, hb, rfl, by have := g 0 _ rfl; rwa [Nat.mul_one] at this, h0, hcp⟩
theorem FkR.at_ {ok : Nat → Prop} {w : World} {A : Option Addr} {n : Nat} {ds : List Fk} (h : Sl FkR 5 ok w A n ds) {i : Nat} (hi : i < ds.length) :
  ∃ (b off : Nat) (A0 : Option Addr) (n0 c0 : Nat), ok b ∧ A = some ⟨b, off, none⟩ ∧ w.cell? ⟨b, off + i * 5, none⟩ = some (.slice A0 n0 c0) ∧ w.cell? ⟨b, off + i * 5 + 1, none⟩ = some (.string ds[i].table) ∧ w.cell? ⟨b, off + i * 5 + 2, none⟩ = some (.int .i64 ds[i].del) ∧ w.cell? ⟨b, off + i * 5 + 3, none⟩ = some (.int .i64 ds[i].upd) ∧ w.cell? ⟨b, off + i * 5 + 4, none⟩ = some (.bool ds[i].dfr) ∧ Sl IntR 1 ok w A0 n0 ds[i].cols ∧ (n0 ≤ c0) := by
 have hl := h.1
 obtain ⟨b, off, rfl, hb, hc⟩ := h.2 (by omega)
 obtain ⟨cs, -, hR, g⟩ := hc i hi
 obtain ⟨A0, n0, c0, rfl, h0, hcp⟩ := hR
 exact ⟨b, off, A0, n0, c0, hb, rfl, g 0 _ rfl, g 1 _ rfl, g 2 _ rfl, g 3 _ rfl, g 4 _ rfl, h0, hcp⟩
theorem TbR.at_ {ok : Nat → Prop} {w : World} {A : Option Addr} {n : Nat} {ds : List Tb} (h : Sl TbR 6 ok w A n ds) {i : Nat} (hi : i < ds.length) :
  ∃ (b off : Nat) (A1 : Option Addr) (n1 c1 : Nat) (A2 : Option Addr) (n2 c2 : Nat) (A3 : Option Addr) (n3 c3 : Nat) (A4 : Option Addr) (n4 c4 : Nat) (A5 : Option Addr) (n5 c5 : Nat), ok b ∧ A = some ⟨b, off, none⟩ ∧ w.cell? ⟨b, off + i * 6, none⟩ = some (.string ds[i].name) ∧ w.cell? ⟨b, off + i * 6 + 1, none⟩ = some (.slice A1 n1 c1) ∧ w.cell? ⟨b, off + i * 6 + 2, none⟩ = some (.slice A2 n2 c2) ∧ w.cell? ⟨b, off + i * 6 + 3, none⟩ = some (.slice A3 n3 c3) ∧ w.cell? ⟨b, off + i * 6 + 4, none⟩ = some (.slice A4 n4 c4) ∧ w.cell? ⟨b, off + i * 6 + 5, none⟩ = some (.slice A5 n5 c5) ∧ Sl ClR 6 ok w A1 n1 ds[i].cols ∧ Sl IntR 1 ok w A2 n2 ds[i].key ∧ Sl UqR 1 ok w A3 n3 ds[i].uniqs ∧ Sl CkR 1 ok w A4 n4 ds[i].checks ∧ Sl FkR 5 ok w A5 n5 ds[i].fks ∧ (n1 ≤ c1 ∧ n2 ≤ c2 ∧ n3 ≤ c3 ∧ n4 ≤ c4 ∧ n5 ≤ c5) := by
 have hl := h.1
 obtain ⟨b, off, rfl, hb, hc⟩ := h.2 (by omega)
 obtain ⟨cs, -, hR, g⟩ := hc i hi
 obtain ⟨A1, n1, c1, A2, n2, c2, A3, n3, c3, A4, n4, c4, A5, n5, c5, rfl, h1, h2, h3, h4, h5, hcp⟩ := hR
 exact ⟨b, off, A1, n1, c1, A2, n2, c2, A3, n3, c3, A4, n4, c4, A5, n5, c5, hb, rfl, g 0 _ rfl, g 1 _ rfl, g 2 _ rfl, g 3 _ rfl, g 4 _ rfl, g 5 _ rfl, h1, h2, h3, h4, h5, hcp⟩
theorem RwR.at_ {ok : Nat → Prop} {w : World} {A : Option Addr} {n : Nat} {ds : List Rw} (h : Sl RwR 2 ok w A n ds) {i : Nat} (hi : i < ds.length) :
  ∃ (b off : Nat) (A1 : Option Addr) (n1 c1 : Nat), ok b ∧ A = some ⟨b, off, none⟩ ∧ w.cell? ⟨b, off + i * 2, none⟩ = some (.int .i64 ds[i].id) ∧ w.cell? ⟨b, off + i * 2 + 1, none⟩ = some (.slice A1 n1 c1) ∧ Sl VlR 3 ok w A1 n1 ds[i].vals ∧ (n1 ≤ c1) := by
 have hl := h.1
 obtain ⟨b, off, rfl, hb, hc⟩ := h.2 (by omega)
 obtain ⟨cs, -, hR, g⟩ := hc i hi
 obtain ⟨A1, n1, c1, rfl, h1, hcp⟩ := hR
 exact ⟨b, off, A1, n1, c1, hb, rfl, g 0 _ rfl, g 1 _ rfl, h1, hcp⟩
theorem DtR.at_ {ok : Nat → Prop} {w : World} {A : Option Addr} {n : Nat} {ds : List Dt} (h : Sl DtR 1 ok w A n ds) {i : Nat} (hi : i < ds.length) :
  ∃ (b off : Nat) (A0 : Option Addr) (n0 c0 : Nat), ok b ∧ A = some ⟨b, off, none⟩ ∧ w.cell? ⟨b, off + i, none⟩ = some (.slice A0 n0 c0) ∧ Sl RwR 2 ok w A0 n0 ds[i].rows ∧ (n0 ≤ c0) := by
 have hl := h.1
 obtain ⟨b, off, rfl, hb, hc⟩ := h.2 (by omega)
 obtain ⟨cs, -, hR, g⟩ := hc i hi
 obtain ⟨A0, n0, c0, rfl, h0, hcp⟩ := hR
 exact ⟨b, off, A0, n0, c0, hb, rfl, by have := g 0 _ rfl; rwa [Nat.mul_one] at this, h0, hcp⟩
def okF (G : Nat) (w : World) : Nat → Prop := fun b => G ≤ b ∧ b < w.heap.size ∧ ∀ off, w.frozen? ⟨b, off, none⟩ = false
theorem okF.mono {G G' : Nat} {w : World} {b : Nat} (h : okF G w b) (hG : G' ≤ G) : okF G' w b := ⟨Nat.le_trans hG h.1, h.2⟩
theorem infoTableT : (Tryz.prog.info? 57).map (fun i => (i.zero, i.size, i.bytes)) = some (some (.agg #[.string ⟨#[]⟩, .slice none 0 0, .slice none 0 0, .slice none 0 0, .slice none 0 0, .slice none 0 0]), 6, 136) := by kernel_rfl
theorem Sl.drew {α : Type} {R : Rd α} (hR : Stays R) {sz : Nat} {ok : Nat → Prop} {w : World} {A : Option Addr} {n : Nat} {ds : List α} (h : Sl R sz ok w A n ds) : Sl R sz ok w.drew A n ds := h.stays hR (fun _ h => h) fun _ _ _ h => h
end Go.Proofs.YtkehfilmpdoglaaGreat
namespace Go.Proofs.YtkehfilmpdoglaaGreat
open Go.RowKit Go.Maps
def atGo (s : ByteArray) : List ByteArray → Nat → Int
 | [], _ => -1
 | x :: xs, i => if (x.toList == s.toList) = true then (i : Int) else atGo s xs (i + 1)
def atN (names : List ByteArray) (s : ByteArray) : Int := atGo s names 0
theorem atGo_snoc (s x : ByteArray) : ∀ (l : List ByteArray) (i : Nat), atGo s (l ++ [x]) i = if atGo s l i = -1 then (if (x.toList == s.toList) = true then ((i + l.length : Nat) : Int) else -1) else atGo s l i
 | [], i => by simp [atGo]
 | y :: ys, i => by
  cases hb : (y.toList == s.toList)
  ·simp only [List.cons_append, atGo, hb, Bool.false_eq_true, if_false]
   rw [atGo_snoc s x ys (i + 1), show i + 1 + ys.length = i + (y :: ys).length by simp; omega]
  ·simp only [List.cons_append, atGo, hb, if_true]
   rw [if_neg (by omega)]
theorem atGo_rng (s : ByteArray) : ∀ (l : List ByteArray) (i : Nat), atGo s l i = -1 ∨ ((i : Int) ≤ atGo s l i ∧ atGo s l i < i + l.length)
 | [], i => .inl rfl
 | y :: ys, i => by
  cases hb : (y.toList == s.toList)
  ·simp only [atGo, hb, Bool.false_eq_true, if_false]
   rcases atGo_rng s ys (i + 1) with h1 | h1
   ·exact .inl h1
   ·right; simp at h1 ⊢; omega
  ·simp only [atGo, hb, if_true]
   right; simp; omega
theorem atN_snoc (l : List ByteArray) (s x : ByteArray) : atN (l ++ [x]) s = if atN l s = -1 then (if (x.toList == s.toList) = true then (l.length : Int) else -1) else atN l s := by
 unfold atN; rw [atGo_snoc]; simp
theorem atN_rng (l : List ByteArray) (s : ByteArray) : atN l s = -1 ∨ (0 ≤ atN l s ∧ atN l s < l.length) := by
 rcases atGo_rng s l 0 with h | h
 ·exact .inl h
 ·right; unfold atN; simpa using h
def cntGo (seen : List ByteArray) : List ByteArray → Nat
 | [] => 0
 | x :: xs => (if atN seen x = -1 then 1 else 0) + cntGo (seen ++ [x]) xs
theorem cntGo_snoc (x : ByteArray) : ∀ (l seen : List ByteArray), cntGo seen (l ++ [x]) = cntGo seen l + (if atN (seen ++ l) x = -1 then 1 else 0)
 | [], seen => by simp [cntGo]
 | y :: ys, seen => by
  simp only [List.cons_append, cntGo, cntGo_snoc x ys (seen ++ [y]), List.append_assoc, List.nil_append]
  omega
def uniqGo (seen : List ByteArray) : List ByteArray → Bool
 | [] => true
 | x :: xs => decide (atN seen x = -1) && uniqGo (seen ++ [x]) xs
theorem cntGo_le : ∀ (l seen : List ByteArray), cntGo seen l ≤ l.length
 | [], _ => Nat.le_refl _
 | x :: xs, seen => by
  have := cntGo_le xs (seen ++ [x])
  simp only [cntGo, List.length_cons]
  split <;> omega
theorem cntGo_uniq : ∀ (l seen : List ByteArray), (cntGo seen l == l.length) = uniqGo seen l
 | [], _ => rfl
 | x :: xs, seen => by
  have h1 := cntGo_le xs (seen ++ [x])
  have h2 := cntGo_uniq xs (seen ++ [x])
  simp only [cntGo, uniqGo, List.length_cons, ← h2]
  by_cases h : atN seen x = -1
  ·rw [if_pos h, decide_eq_true h, Bool.true_and, Bool.eq_iff_iff]; simp; omega
  ·rw [if_neg h, decide_eq_false h, Bool.false_and]; simp; omega
def keyS (s : ByteArray) : Lit := .string s.data.toList
def PlacesIn (w : World) (b : Nat) (names : List ByteArray) : Prop := ∃ D : DataW Unit, w.ownsMap Tryz.prog 9 (plainElem Tryz.prog 2) b names.length D ∧ Tidy D ∧
 (∀ s : ByteArray, Maps.has D (keyS s) = decide (atN names s ≠ -1)) ∧ (∀ s : ByteArray, atN names s ≠ -1 → D.atKey (keyS s) (.lit (.int .i64 0)) = .lit (.int .i64 (atN names s))) ∧ Maps.size D = cntGo [] names
theorem keyS_key (s : ByteArray) : WideAt.IsKeyLit (keyS s) := by first | trivial | (simp [keyS, WideAt.IsKeyLit]) | (unfold keyS WideAt.IsKeyLit; trivial)
theorem keyS_of (s : ByteArray) (hs : s.size ≤ maxLen) : Go.keyOf Tryz.prog 9 (.string s) = some (keyS s) := Go.WideMaps.keyOf_string_mk Tryz.underlying9 hs
theorem lawS : Keyed Tryz.prog 9 := string_keyed Tryz.underlying9
theorem zeroI (w : World) : (zeroValue 2).run Tryz.prog w = .ok (.int .i64 0) w := by kernel_rfl
theorem keyS_eq {s x : ByteArray} : keyS x = keyS s ↔ (x.toList == s.toList) = true := by
 rw [ByteArray.toList_eq, ByteArray.toList_eq]
 simp [keyS]
theorem PlacesIn.made (w : World) : PlacesIn (w.alloc (.map #[] 0)) w.heap.size [] :=
 ⟨.map [], World.ownsMap_made _ _ _ _, tidy_empty, fun s => by simp [Maps.has, atN, atGo], fun s h => absurd rfl h, rfl⟩
theorem PlacesIn.kept {w w' : World} {b : Nat} {names : List ByteArray} {row : Option Nat} (h : PlacesIn w b names) (hg : w.grownBy w' row) (hne : some b ≠ row) : PlacesIn w' b names := by
 obtain ⟨D, h1, h2, h3, h4, h5⟩ := h
 exact ⟨D, h1.kept hg hne, h2, h3, h4, h5⟩
theorem PlacesIn.alloc {w : World} {b : Nat} {names : List ByteArray} (h : PlacesIn w b names) (o : Obj) : PlacesIn (w.alloc o) b names := h.kept (World.grownBy_alloc w o none) (by simp)
theorem PlacesIn.drew {w : World} {b : Nat} {names : List ByteArray} (h : PlacesIn w b names) : PlacesIn w.drew b names := h
theorem places_more {w' : World} {b : Nat} {names : List ByteArray} {s : ByteArray} {D : DataW Unit} (hno : atN names s = -1) (h1 : w'.ownsMap Tryz.prog 9 (plainElem Tryz.prog 2) b (names.length + 1) (D.put (keyS s) (.lit (.int .i64 names.length)))) (h2 : Tidy D)
  (h3 : ∀ s : ByteArray, Maps.has D (keyS s) = decide (atN names s ≠ -1)) (h4 : ∀ s : ByteArray, atN names s ≠ -1 → D.atKey (keyS s) (.lit (.int .i64 0)) = .lit (.int .i64 (atN names s))) (h5 : Maps.size D = cntGo [] names) : PlacesIn w' b (names ++ [s]) := by
 refine ⟨_, by simpa using h1, h2.put (keyS_key s) _, fun u => ?_, fun u hu => ?_, by
  rw [Maps.size_put h2, h3 s, decide_eq_false (by simp [hno]), cntGo_snoc, List.nil_append, if_pos hno, ← h5]; rfl⟩
 ·rw [atN_snoc]
  by_cases e : keyS u = keyS s
  ·rw [e, Maps.has_put_same h2.isMap (keyS_key s)]
   have e2 : (s.toList == u.toList) = true := keyS_eq.1 e.symm
   by_cases hu : atN names u = -1
   ·rw [if_pos hu, if_pos e2]; simp
   ·rw [if_neg hu]; simp [hu]
  ·rw [Maps.has_put_other e, h3]
   have e2 : ¬ (s.toList == u.toList) = true := fun h => e (keyS_eq.2 h).symm
   by_cases hu : atN names u = -1
   ·rw [if_pos hu, if_neg e2]; simp [hu]
   ·rw [if_neg hu]
 ·rw [atN_snoc] at hu ⊢
  by_cases e : keyS u = keyS s
  ·have e2 : (s.toList == u.toList) = true := keyS_eq.1 e.symm
   have hu2 : atN names u = -1 := by
    have e3 : s.toList = u.toList := by simpa using e2
    have : atN names u = atN names s := by
     have hh : ∀ (l : List ByteArray) (i : Nat), atGo u l i = atGo s l i := by
      intro l
      induction l with
      | nil => intro i; rfl
      | cons y ys ih => intro i; simp only [atGo, e3, ih]
     exact hh _ _
    rw [this]; exact hno
   rw [if_pos hu2, if_pos e2, e, Maps.atKey_put_same h2.isMap (keyS_key s)]
  ·have e2 : ¬ (s.toList == u.toList) = true := fun h => e (keyS_eq.2 h).symm
   by_cases hu2 : atN names u = -1
   ·rw [if_pos hu2, if_neg e2] at hu; exact absurd rfl hu
   ·rw [if_neg hu2] at hu ⊢
    rw [Maps.atKey_put_other e]
    exact h4 u hu2
theorem places_same {w : World} {b : Nat} {names : List ByteArray} {s : ByteArray} (hyes : atN names s ≠ -1) (h : PlacesIn w b names) : PlacesIn w b (names ++ [s]) := by
 obtain ⟨D, h1, h2, h3, h4, h5⟩ := h
 have key : ∀ u, atN (names ++ [s]) u = atN names u := fun u => by
  rw [atN_snoc]
  by_cases hu : atN names u = -1
  ·rw [if_pos hu]
   by_cases e : (s.toList == u.toList) = true
   ·exfalso
    have e3 : s.toList = u.toList := by simpa using e
    have hh : ∀ (l : List ByteArray) (i : Nat), atGo u l i = atGo s l i := by
     intro l
     induction l with
     | nil => intro i; rfl
     | cons y ys ih => intro i; simp only [atGo, e3, ih]
    exact hyes ((hh names 0).symm.trans hu)
   ·rw [if_neg e, hu]
  ·rw [if_neg hu]
 exact ⟨D, h1.mono (by simp), h2, fun u => by rw [key]; exact h3 u, fun u hu => by rw [key] at hu ⊢; exact h4 u hu, by rw [cntGo_snoc, List.nil_append, if_neg hyes, Nat.add_zero]; exact h5⟩
theorem implAddFirst (b : Nat) (names : List ByteArray) (s : ByteArray) (w : World) (h : PlacesIn w b names) (hs : s.size ≤ maxLen) (hn : names.length ≤ 1048576) :
  Calls Tryz.prog 61 #[.map (some b), .string s, .int .i64 names.length] w fun e w' => e = .returned (.tuple #[]) ∧ PlacesIn w' b (names ++ [s]) ∧ w.grownBy w' (some b) := by
 obtain ⟨D, h1, h2, h3, h4, h5⟩ := h
 have wf : (Lit.int .i64 (names.length : Int)).wf = true := WalkArith.wf_i64 (by omega)
 have hval := plainElem_int (H := Unit) Tryz.underlying2 wf
 by_cases hno : atN names s = -1
 ·have hh := h3 s
  rw [decide_eq_false (by simp [hno])] at hh
  have HH := Lib.hid hh
  have HN := Lib.hid hno
  have H3 := Lib.hid h3
  have H4 := Lib.hid h4
  have H5 := Lib.hid h5
  clear hh hno h3 h4 h5
  go_enter Tryz.func61, Tryz.ntmps61
  go_wp2_with (first
   | (at_lookup; refine wpList_lookup_own_ok_int _ rfl _ _ 97 rfl 9 2 .i64 lawS Tryz.underlying97 Tryz.underlying2 (zeroI _) b names.length D rfl h1 _ _ rfl (keyS_of s hs) ?_; intro c hat hwc; rw [HH.out])
   | (at_mapUpdate; refine wpList_mapUpdate_own _ rfl _ _ _ 97 rfl 9 2 lawS Tryz.underlying97 _ b names.length D rfl h1 (by unfold maxLen; omega) _ _ _ rfl rfl (keyS_of s hs) _ [] hval ?_; intro w1 hown1 hgrow1))
  go_end0
  exact ⟨rfl, places_more HN.out hown1 h2 H3.out H4.out H5.out, hgrow1⟩
 ·have hh := h3 s
  rw [decide_eq_true hno] at hh
  have HH := Lib.hid hh
  have HP := Lib.hid (places_same hno ⟨D, h1, h2, h3, h4, h5⟩)
  clear hh hno h3 h4 h5
  go_enter Tryz.func61, Tryz.ntmps61
  go_wp2_with (first
   | (at_lookup; refine wpList_lookup_own_ok_int _ rfl _ _ 97 rfl 9 2 .i64 lawS Tryz.underlying97 Tryz.underlying2 (zeroI _) b names.length D rfl h1 _ _ rfl (keyS_of s hs) ?_; intro c hat hwc; rw [HH.out]))
  go_end0
  exact ⟨rfl, HP.out, ⟨rfl, rfl, rfl, Nat.le_refl _, fun _ _ _ => rfl⟩⟩
theorem atGo_drop (nm : ByteArray) (names : List ByteArray) (k : Nat) (h : k < names.length) : atGo nm (names.drop k) k = if (names[k].toList == nm.toList) = true then (k : Int) else atGo nm (names.drop (k + 1)) (k + 1) := by
 rw [List.drop_eq_getElem_cons h]; rfl
theorem tb_name_le {s : List Tb} (hs : szL Tb.sz s ≤ 1048576) (k : Nat) (h : k < s.length) : s[k].name.size ≤ maxLen := by
 have := sum_mem_le Tb.sz s k h
 unfold szL at hs
 have h2 : s[k].name.size ≤ s[k].sz := by unfold Tb.sz; omega
 unfold maxLen; omega
theorem cl_name_le {s : List Cl} (hs : szL Cl.sz s ≤ 1048576) (k : Nat) (h : k < s.length) : s[k].name.size ≤ maxLen := by
 have := sum_mem_le Cl.sz s k h
 unfold szL at hs
 have h2 : s[k].name.size ≤ s[k].sz := by unfold Cl.sz; omega
 unfold maxLen; omega
set_option maxRecDepth 100000 in
set_option maxHeartbeats 1000000 in
theorem specL3At (A : Option Addr) (n c : Nat) (s : List Tb) (nm : ByteArray) (ok : Nat → Prop) (w : World) (h : Sl TbR 6 ok w A n s) (hn : n ≤ 1048576) :
  Calls Tryz.prog 50 #[.slice A n c, .string nm] w fun e w' => e = .returned (.int .i64 (atN (s.map Tb.name) nm)) ∧ Below w.heap.size w w' := by
 obtain rfl : s.length = n := h.1
 have hlen : (s.map Tb.name).length = s.length := by simp
 have HL := Lib.hid hlen
 clear hlen
 go_enter Tryz.func50, Tryz.ntmps50
 go_wp2
 go_loopw [5] (fun i wr => ∃ k : Nat, k ≤ s.length ∧ i = .int .i64 k ∧ Hid (atN (s.map Tb.name) nm = atGo nm ((s.map Tb.name).drop k) k) ∧ Below w.heap.size w wr) (fun i _ => s.length - (intOf i).toNat)
 case atStart => exact ⟨0, by omega, rfl, Lib.hid rfl, Below.refl _ _⟩
 case round =>
  obtain ⟨k, hk, rfl, hat, hb⟩ := hrel
  by_cases hlt : k < s.length
  ·obtain ⟨b, off, A1, n1, c1, A2, n2, c2, A3, n3, c3, A4, n4, c4, A5, n5, c5, -, rfl, q0, q1, q2, q3, q4, q5, -⟩ := TbR.at_ (h.below TbR.stays hb) hlt
   have hd := atGo_drop nm (s.map Tb.name) k (by rw [HL.out]; exact hlt)
   rw [List.getElem_map] at hd
   have i0 : (0 : Int) ≤ k := by omega
   have i1 : (k : Int) < s.length := by omega
   cases he : (s[k].name.toList == nm.toList)
   ·rw [he] at hd
    have HA := Lib.hid (hat.out.trans hd)
    clear hd hat
    go_wp2_with fail
    go_roundw
    case rel => exact ⟨k + 1, by omega, by go_num, Lib.hid (by simpa using HA.out), hb⟩
    case measure => simp [intOf]; omega
   ·rw [he] at hd
    have HA := Lib.hid (hat.out.trans hd)
    clear hd hat
    go_wp2_with fail
    go_ret
    exact ⟨retI (by simpa using HA.out.symm), hb⟩
  ·have e : (s.map Tb.name).drop k = [] := List.drop_eq_nil_of_le (by rw [HL.out]; omega)
   have h1 := hat.out
   rw [e] at h1
   have HA := Lib.hid h1
   clear h1 hat e
   go_wp2
   go_ret
   exact ⟨retI HA.out.symm, hb⟩
def MadePlaces (names : List ByteArray) (w : World) (e : Ending) (w' : World) : Prop := ∃ b, e = .returned (.map (some b)) ∧ PlacesIn w' b names ∧ w.heap.size ≤ b ∧ Below w.heap.size w w'
set_option maxRecDepth 100000 in
set_option maxHeartbeats 1000000 in
theorem implTablePlaces (A : Option Addr) (n c : Nat) (s : List Tb) (ok : Nat → Prop) (w : World) (h : Sl TbR 6 ok w A n s) (hs : szL Tb.sz s ≤ 1048576) :
  Calls Tryz.prog 43 #[.slice A n c] w (MadePlaces (s.map Tb.name) w) := by
 obtain rfl : s.length = n := h.1
 have hn : s.length ≤ 1048576 := by unfold szL at hs; omega
 have HS := Lib.hid hs
 clear hs
 have hmm := @run_makeMap Tryz.prog
 go_enter Tryz.func43, Tryz.ntmps43
 go_wp2
 have hm0 := PlacesIn.made w
 have hb0 := (Below.refl w.heap.size w).alloc (Nat.le_refl _) (.map #[] 0)
 generalize w.alloc (.map #[] 0) = x0 at *
 clear hmm
 go_loopw [9] (fun i wr => ∃ k : Nat, k ≤ s.length ∧ i = .int .i64 k ∧ PlacesIn wr w.heap.size ((s.map Tb.name).take k) ∧ Below w.heap.size w wr) (fun i _ => s.length - (intOf i).toNat)
 case atStart => exact ⟨0, by omega, rfl, hm0, hb0⟩
 case round =>
  obtain ⟨k, hk, rfl, hpl, hb⟩ := hrel
  by_cases hlt : k < s.length
  ·obtain ⟨b, off, A1, n1, c1, A2, n2, c2, A3, n3, c3, A4, n4, c4, A5, n5, c5, -, rfl, q0, q1, q2, q3, q4, q5, -⟩ := TbR.at_ (h.below TbR.stays hb) hlt
   have hl : ((s.map Tb.name).take k).length = k := by simp; omega
   have hsn : (s.map Tb.name).take (k + 1) = (s.map Tb.name).take k ++ [s[k].name] := by rw [List.take_succ_eq_append_getElem (by simpa using hlt)]; simp
   have hz := Lib.hid (tb_name_le HS.out k hlt)
   have HL := Lib.hid hl
   have HSN := Lib.hid hsn
   clear hl hsn
   have hpa := hpl.alloc (.cells #[.string s[k].name, .slice A1 n1 c1, .slice A2 n2 c2, .slice A3 n3 c3, .slice A4 n4 c4, .slice A5 n5 c5] 57)
   have hba := hb.alloc hb.size (.cells #[.string s[k].name, .slice A1 n1 c1, .slice A2 n2 c2, .slice A3 n3 c3, .slice A4 n4 c4, .slice A5 n5 c5] 57)
   go_wp2_with fail
   have hcall := implAddFirst w.heap.size _ s[k].name _ hpa hz.out (by rw [HL.out]; omega)
   rw [HL.out] at hcall
   refine hcall.mono ?_
   rintro e w1 ⟨rfl, hp1, hg1⟩
   clear hcall
   go_wp2_with fail
   go_roundw
   case rel => exact ⟨k + 1, by omega, by go_num, by rw [HSN.out]; exact hp1, hba.grown hg1 hba.size (fun j hj => by cases hj; exact Nat.le_refl _)⟩
   case measure => simp [intOf]; omega
  ·have e : (s.map Tb.name).take k = s.map Tb.name := List.take_of_length_le (by simp; omega)
   rw [e] at hpl
   clear e
   go_wp2
   go_ret
   exact ⟨_, rfl, hpl, Nat.le_refl _, hb⟩
set_option maxRecDepth 100000 in
set_option maxHeartbeats 1000000 in
theorem implColPlaces (A : Option Addr) (n c : Nat) (s : List Cl) (ok : Nat → Prop) (w : World) (h : Sl ClR 6 ok w A n s) (hs : szL Cl.sz s ≤ 1048576) :
  Calls Tryz.prog 84 #[.slice A n c] w (MadePlaces (s.map Cl.name) w) := by
 obtain rfl : s.length = n := h.1
 have hn : s.length ≤ 1048576 := by unfold szL at hs; omega
 have HS := Lib.hid hs
 clear hs
 have hmm := @run_makeMap Tryz.prog
 go_enter Tryz.func84, Tryz.ntmps84
 go_wp2
 have hm0 := PlacesIn.made w
 have hb0 := (Below.refl w.heap.size w).alloc (Nat.le_refl _) (.map #[] 0)
 generalize w.alloc (.map #[] 0) = x0 at *
 clear hmm
 go_loopw [9] (fun i wr => ∃ k : Nat, k ≤ s.length ∧ i = .int .i64 k ∧ PlacesIn wr w.heap.size ((s.map Cl.name).take k) ∧ Below w.heap.size w wr) (fun i _ => s.length - (intOf i).toNat)
 case atStart => exact ⟨0, by omega, rfl, hm0, hb0⟩
 case round =>
  obtain ⟨k, hk, rfl, hpl, hb⟩ := hrel
  by_cases hlt : k < s.length
  ·obtain ⟨b, off, -, rfl, q0, q1, q2, q3, q4, q5⟩ := ClR.at_ (h.below ClR.stays hb) hlt
   have hl : ((s.map Cl.name).take k).length = k := by simp; omega
   have hsn : (s.map Cl.name).take (k + 1) = (s.map Cl.name).take k ++ [s[k].name] := by rw [List.take_succ_eq_append_getElem (by simpa using hlt)]; simp
   have hz := Lib.hid (cl_name_le HS.out k hlt)
   have HL := Lib.hid hl
   have HSN := Lib.hid hsn
   clear hl hsn
   have hpa := hpl.alloc (.cells #[.string s[k].name, .int .i64 s[k].kind, .bool s[k].nn, .int .i64 s[k].d.k, .int .i64 s[k].d.n, .string s[k].d.s] 86)
   have hba := hb.alloc hb.size (.cells #[.string s[k].name, .int .i64 s[k].kind, .bool s[k].nn, .int .i64 s[k].d.k, .int .i64 s[k].d.n, .string s[k].d.s] 86)
   go_wp2_with fail
   have hcall := implAddFirst w.heap.size _ s[k].name _ hpa hz.out (by rw [HL.out]; omega)
   rw [HL.out] at hcall
   refine hcall.mono ?_
   rintro e w1 ⟨rfl, hp1, hg1⟩
   clear hcall
   go_wp2_with fail
   go_roundw
   case rel => exact ⟨k + 1, by omega, by go_num, by rw [HSN.out]; exact hp1, hba.grown hg1 hba.size (fun j hj => by cases hj; exact Nat.le_refl _)⟩
   case measure => simp [intOf]; omega
  ·have e : (s.map Cl.name).take k = s.map Cl.name := List.take_of_length_le (by simp; omega)
   rw [e] at hpl
   clear e
   go_wp2
   go_ret
   exact ⟨_, rfl, hpl, Nat.le_refl _, hb⟩
set_option maxRecDepth 100000 in
set_option maxHeartbeats 1000000 in
theorem specColAt (A1 : Option Addr) (n1 c1 : Nat) (v0 v2 v3 v4 v5 : Value) (s : List Cl) (nm : ByteArray) (ok : Nat → Prop) (w : World) (h : Sl ClR 6 ok w A1 n1 s) (hn : n1 ≤ 1048576) :
  Calls Tryz.prog 73 #[.agg #[v0, .slice A1 n1 c1, v2, v3, v4, v5], .string nm] w fun e w' => e = .returned (.int .i64 (atN (s.map Cl.name) nm)) ∧ Below w.heap.size w w' := by
 obtain rfl : s.length = n1 := h.1
 have hlen : (s.map Cl.name).length = s.length := by simp
 have HL := Lib.hid hlen
 clear hlen
 have hb0 := (Below.refl w.heap.size w).alloc (Nat.le_refl _) (.cells #[v0, .slice A1 s.length c1, v2, v3, v4, v5] 57)
 have r0 := Row.new w 57 #[v0, .slice A1 s.length c1, v2, v3, v4, v5]
 go_enter Tryz.func73, Tryz.ntmps73
 go_wp2
 generalize w.alloc (.cells #[v0, .slice A1 s.length c1, v2, v3, v4, v5] 57) = x0 at *
 go_loopw [5] (fun i wr => ∃ k : Nat, k ≤ s.length ∧ i = .int .i64 k ∧ Hid (atN (s.map Cl.name) nm = atGo nm ((s.map Cl.name).drop k) k) ∧ x0 = wr) (fun i _ => s.length - (intOf i).toNat)
 case atStart => exact ⟨0, by omega, rfl, Lib.hid rfl, rfl⟩
 case round =>
  obtain ⟨k, hk, rfl, hat, rfl⟩ := hrel
  obtain ⟨⟨a0, a1, a2, a3, a4, a5⟩, -⟩ := r0.all6
  by_cases hlt : k < s.length
  ·obtain ⟨b, off, -, rfl, q0, q1, q2, q3, q4, q5⟩ := ClR.at_ (h.below ClR.stays hb0) hlt
   have hd := atGo_drop nm (s.map Cl.name) k (by rw [HL.out]; exact hlt)
   rw [List.getElem_map] at hd
   have i0 : (0 : Int) ≤ k := by omega
   have i1 : (k : Int) < s.length := by omega
   cases he : (s[k].name.toList == nm.toList)
   ·rw [he] at hd
    have HA := Lib.hid (hat.out.trans hd)
    clear hd hat
    go_wp2_with fail
    go_roundw
    case rel => exact ⟨k + 1, by omega, by go_num, Lib.hid (by simpa using HA.out), by first | trivial | rfl⟩
    case measure => simp [intOf]; omega
   ·rw [he] at hd
    have HA := Lib.hid (hat.out.trans hd)
    clear hd hat
    go_wp2_with fail
    go_ret
    exact ⟨retI (by simpa using HA.out.symm), hb0⟩
  ·have e : (s.map Cl.name).drop k = [] := List.drop_eq_nil_of_le (by rw [HL.out]; omega)
   have h1 := hat.out
   rw [e] at h1
   have HA := Lib.hid h1
   clear h1 hat e
   go_wp2
   go_ret
   exact ⟨retI HA.out.symm, hb0⟩
def lowC (c : UInt8) : Bool := decide (97 ≤ (c.toNat : Int)) && decide ((c.toNat : Int) ≤ 122)
def charsB (s : ByteArray) : Bool := s.data.toList.all lowC
def nameB (s : ByteArray) : Bool := charsB s && (decide (1 ≤ (s.size : Int)) && decide ((s.size : Int) ≤ 8))
theorem all_take {α : Type} (f : α → Bool) (l : List α) (k : Nat) (h : k < l.length) : (l.take (k + 1)).all f = ((l.take k).all f && f l[k]) := by
 rw [List.take_succ_eq_append_getElem h, List.all_append]; simp
theorem all_no {α : Type} (f : α → Bool) (l : List α) (k : Nat) (h : k < l.length) (hf : f l[k] = false) : l.all f = false := by
 rw [Bool.eq_false_iff]; intro ha
 have := List.all_eq_true.1 ha l[k] (List.getElem_mem h)
 rw [hf] at this; cases this
set_option maxHeartbeats 400000 in
theorem specName (s : ByteArray) (w : World) (hs : s.size ≤ maxLen) :
  Calls Tryz.prog 70 #[.string s] w fun e w' => e = .returned (.bool (nameB s)) ∧ w = w' := by
 unfold maxLen at hs
 go_enter Tryz.func70, Tryz.ntmps70
 go_wp2
 go_loop [3] (fun i => ∃ k : Nat, k ≤ s.size ∧ i = .int .i64 k ∧ Hid ((s.data.toList.take k).all lowC = true)) (fun i => s.size - (intOf i).toNat)
 case atStart => exact ⟨0, by omega, rfl, Lib.hid (by simp)⟩
 case round =>
  obtain ⟨k, hk, rfl, hall⟩ := hrel
  by_cases hlt : k < s.size
  ·have hl : k < s.data.toList.length := by simpa using hlt
   have hsn := all_take lowC s.data.toList k hl
   have hget : s.data.toList[k] = s[k] := by simp [ByteArray.getElem_eq_getElem_data]
   rw [hall.out, hget, Bool.true_and] at hsn
   by_cases h1 : (s[k].toNat : Int) < 97
   ·have HN := Lib.hid (show nameB s = false by
     unfold nameB charsB
     rw [all_no lowC _ k hl (by rw [hget]; unfold lowC; rw [decide_eq_false (by omega)]; rfl), Bool.false_and])
    clear hsn hget hall
    go_wp2
    go_ret
    exact ⟨retB HN.out.symm, rfl⟩
   by_cases h2 : 122 < (s[k].toNat : Int)
   ·have HN := Lib.hid (show nameB s = false by
     unfold nameB charsB
     rw [all_no lowC _ k hl (by rw [hget]; unfold lowC; rw [decide_eq_false (p := (s[k].toNat : Int) ≤ 122) (by omega), Bool.and_false]), Bool.false_and])
    have h1' : decide ((s[k].toNat : Int) < 97) = false := by simpa using h1
    clear hsn hget hall
    go_wp2
    go_ret
    exact ⟨retB HN.out.symm, rfl⟩
   ·have HA := Lib.hid (show (s.data.toList.take (k + 1)).all lowC = true by rw [hsn]; unfold lowC; rw [decide_eq_true (by omega), decide_eq_true (by omega)]; rfl)
    have h1' : decide ((s[k].toNat : Int) < 97) = false := by simpa using h1
    have h2' : decide (122 < (s[k].toNat : Int)) = false := by simpa using h2
    clear hsn hget hall
    go_wp2
    go_round
    case rel => exact ⟨k + 1, by omega, by go_num, HA⟩
    case measure => simp [intOf]; omega
  ·have e : s.data.toList.take k = s.data.toList := List.take_of_length_le (by simp; omega)
   have h1 := hall.out
   rw [e] at h1
   have HN := Lib.hid (show nameB s = (decide (1 ≤ (s.size : Int)) && decide ((s.size : Int) ≤ 8)) by unfold nameB charsB; rw [h1, Bool.true_and])
   clear h1 e hall
   go_wp2_with fail
   refine (specIn _ _ _ _).mono ?_
   rintro e w1 ⟨rfl, rfl⟩
   go_wp2
   go_ret
   exact ⟨retB HN.out.symm, rfl⟩
set_option maxHeartbeats 400000 in
theorem implIsName (s : ByteArray) (w : World) (hs : s.size ≤ maxLen) :
  Calls Tryz.prog 19 #[.string s] w fun e w' => e = .returned (.bool (nameB s)) ∧ w = w' := by
 unfold maxLen at hs
 by_cases hsm : (s.size : Int) < 1
 ·have HN := Lib.hid (show nameB s = false by unfold nameB; rw [decide_eq_false (p := 1 ≤ (s.size : Int)) (by omega), Bool.false_and, Bool.and_false])
  go_enter Tryz.func19, Tryz.ntmps19
  go_wp2
  go_ret
  exact ⟨retB HN.out.symm, rfl⟩
 have hsm' : decide ((s.size : Int) < 1) = false := by simpa using hsm
 by_cases hbig : 8 < (s.size : Int)
 ·have HN := Lib.hid (show nameB s = false by unfold nameB; rw [decide_eq_false (p := (s.size : Int) ≤ 8) (by omega), Bool.and_false, Bool.and_false])
  go_enter Tryz.func19, Tryz.ntmps19
  go_wp2
  go_ret
  exact ⟨retB HN.out.symm, rfl⟩
 have hbig' : decide (8 < (s.size : Int)) = false := by simpa using hbig
 have HSZ := Lib.hid (show (decide (1 ≤ (s.size : Int)) && decide ((s.size : Int) ≤ 8)) = true by rw [decide_eq_true (by omega), decide_eq_true (by omega)]; rfl)
 go_enter Tryz.func19, Tryz.ntmps19
 go_wp2
 go_loop [14] (fun i => ∃ k : Nat, k ≤ s.size ∧ i = .int .i64 k ∧ Hid ((s.data.toList.take k).all lowC = true)) (fun i => s.size - (intOf i).toNat)
 case atStart => exact ⟨0, by omega, rfl, Lib.hid (by simp)⟩
 case round =>
  obtain ⟨k, hk, rfl, hall⟩ := hrel
  by_cases hlt : k < s.size
  ·have hl : k < s.data.toList.length := by simpa using hlt
   have hsn := all_take lowC s.data.toList k hl
   have hget : s.data.toList[k] = s[k] := by simp [ByteArray.getElem_eq_getElem_data]
   rw [hall.out, hget, Bool.true_and] at hsn
   by_cases h1 : (s[k].toNat : Int) < 97
   ·have HN := Lib.hid (show nameB s = false by
     unfold nameB charsB
     rw [all_no lowC _ k hl (by rw [hget]; unfold lowC; rw [decide_eq_false (by omega)]; rfl), Bool.false_and])
    clear hsn hget hall
    go_wp2
    go_ret
    exact ⟨retB HN.out.symm, rfl⟩
   by_cases h2 : 122 < (s[k].toNat : Int)
   ·have HN := Lib.hid (show nameB s = false by
     unfold nameB charsB
     rw [all_no lowC _ k hl (by rw [hget]; unfold lowC; rw [decide_eq_false (p := (s[k].toNat : Int) ≤ 122) (by omega), Bool.and_false]), Bool.false_and])
    have h1' : decide ((s[k].toNat : Int) < 97) = false := by simpa using h1
    clear hsn hget hall
    go_wp2
    go_ret
    exact ⟨retB HN.out.symm, rfl⟩
   ·have HA := Lib.hid (show (s.data.toList.take (k + 1)).all lowC = true by rw [hsn]; unfold lowC; rw [decide_eq_true (by omega), decide_eq_true (by omega)]; rfl)
    have h1' : decide ((s[k].toNat : Int) < 97) = false := by simpa using h1
    have h2' : decide (122 < (s[k].toNat : Int)) = false := by simpa using h2
    clear hsn hget hall
    go_wp2
    go_round
    case rel => exact ⟨k + 1, by omega, by go_num, HA⟩
    case measure => simp [intOf]; omega
  ·have e : s.data.toList.take k = s.data.toList := List.take_of_length_le (by simp; omega)
   have h1 := hall.out
   rw [e] at h1
   have HN := Lib.hid (show nameB s = true by unfold nameB charsB; rw [h1, Bool.true_and]; exact HSZ.out)
   clear h1 e hall
   go_wp2
   go_ret
   exact ⟨retB HN.out.symm, rfl⟩
def hasB (l : List Int) (x : Int) : Bool := l.contains x
def colsGo (n : Int) (seen : List Int) : List Int → Bool
 | [] => true
 | x :: xs => (decide (0 ≤ x) && decide (x < n) && !hasB seen x) && colsGo n (seen ++ [x]) xs
def colsInB (l : List Int) (n : Int) : Bool := colsGo n [] l && decide (0 < l.length)
theorem colsGo_at (n : Int) (l : List Int) (k : Nat) (h : k < l.length) : colsGo n (l.take k) (l.drop k) = ((decide (0 ≤ l[k]) && decide (l[k] < n) && !hasB (l.take k) l[k]) && colsGo n (l.take (k + 1)) (l.drop (k + 1))) := by
 rw [List.drop_eq_getElem_cons h, List.take_succ_eq_append_getElem h]; rfl
theorem php : ∀ (n : Nat) (l : List Int), l.Nodup → (∀ x ∈ l, 0 ≤ x ∧ x < n) → l.length ≤ n
 | 0, l, _, h => by
  cases l with
  | nil => simp
  | cons x xs => have := h x (by simp); omega
 | n + 1, l, hd, h => by
  by_cases hm : (n : Int) ∈ l
  ·have h1 := php n (l.erase (n : Int)) (hd.erase _) fun x hx => by
    have hx' := (List.Nodup.mem_erase_iff hd).1 hx
    have := h x hx'.2
    have hne := hx'.1
    omega
   rw [List.length_erase_of_mem hm] at h1
   omega
  ·have h1 := php n l hd fun x hx => by
    have := h x hx
    have hne : x ≠ (n : Int) := fun e => hm (e ▸ hx)
    omega
   omega
theorem colsGo_nodup (n : Int) : ∀ (l seen : List Int), seen.Nodup → (∀ x ∈ seen, 0 ≤ x ∧ x < n) → colsGo n seen l = true → (seen ++ l).Nodup ∧ ∀ x ∈ seen ++ l, 0 ≤ x ∧ x < n
 | [], seen, h1, h2, _ => by simpa using ⟨h1, h2⟩
 | x :: xs, seen, h1, h2, h => by
  simp only [colsGo, Bool.and_eq_true, decide_eq_true_eq, Bool.not_eq_true'] at h
  obtain ⟨⟨⟨h3, h4⟩, h5⟩, h6⟩ := h
  have hn : x ∉ seen := by simpa [hasB] using h5
  have := colsGo_nodup n xs (seen ++ [x]) (by
   rw [List.nodup_append]
   refine ⟨h1, by simp, fun a ha b hb => ?_⟩
   rw [List.mem_singleton] at hb
   intro e; subst e; subst hb; exact hn ha) (by
   intro y hy
   rw [List.mem_append, List.mem_singleton] at hy
   rcases hy with hy | rfl
   ·exact h2 y hy
   ·exact ⟨h3, h4⟩) h6
  simpa using this
theorem colsInB_len {l : List Int} {n : Nat} (h : colsInB l n = true) : l.length ≤ n ∧ ∀ x ∈ l, 0 ≤ x ∧ x < n := by
 unfold colsInB at h
 rw [Bool.and_eq_true] at h
 have := colsGo_nodup n l [] (by simp) (by simp) h.1
 simp only [List.nil_append] at this
 exact ⟨php n l this.1 this.2, this.2⟩
theorem Sl.take {α : Type} {R : Rd α} {sz : Nat} {ok : Nat → Prop} {w : World} {A : Option Addr} {n m : Nat} {ds : List α} (h : Sl R sz ok w A n ds) (hm : m ≤ n) : Sl R sz ok w A m (ds.take m) := by
 have hl := h.1
 refine ⟨by simp; omega, fun h0 => ?_⟩
 obtain ⟨b, off, e, hb, hi⟩ := h.2 (by omega)
 refine ⟨b, off, e, hb, fun i hlt => ?_⟩
 simp only [List.length_take] at hlt
 obtain ⟨cs, h1, h2, h3⟩ := hi i (by omega)
 exact ⟨cs, h1, by rw [List.getElem_take]; exact h2, h3⟩
theorem contains_take (l : List Int) (x : Int) (k : Nat) (h : k < l.length) : hasB (l.take (k + 1)) x = (hasB (l.take k) x || l[k] == x) := by
 unfold hasB
 rw [List.take_succ_eq_append_getElem h, List.contains_eq_any_beq, List.any_append, List.contains_eq_any_beq]
 simp [Bool.beq_comm]
theorem specHas (A : Option Addr) (n c : Nat) (l : List Int) (x : Int) (ok : Nat → Prop) (w : World) (h : Sl IntR 1 ok w A n l) (hn : n ≤ 1048576) :
  Calls Tryz.prog 88 #[.slice A n c, .int .i64 x] w fun e w' => e = .returned (.bool (hasB l x)) ∧ w = w' := by
 obtain rfl : l.length = n := h.1
 go_enter Tryz.func88, Tryz.ntmps88
 go_wp2
 go_loop [5] (fun i => ∃ k : Nat, k ≤ l.length ∧ i = .int .i64 k ∧ Hid (hasB (l.take k) x = false)) (fun i => l.length - (intOf i).toNat)
 case atStart => exact ⟨0, by omega, rfl, Lib.hid rfl⟩
 case round =>
  obtain ⟨k, hk, rfl, hno⟩ := hrel
  by_cases hlt : k < l.length
  ·obtain ⟨b, off, -, rfl, q0⟩ := IntR.at_ h hlt
   have hs := contains_take l x k hlt
   rw [hno.out, Bool.false_or] at hs
   have i0 : (0 : Int) ≤ k := by omega
   have i1 : (k : Int) < l.length := by omega
   cases he : (l[k] == x)
   ·have HA := Lib.hid (hs.trans he)
    clear hs
    go_wp2
    go_round
    case rel => exact ⟨k + 1, by omega, by go_num, HA⟩
    case measure => simp [intOf]; omega
   ·have HA := Lib.hid (show hasB l x = true by
     have e : l[k] = x := by simpa using he
     unfold hasB; rw [List.contains_iff_mem]; exact e ▸ List.getElem_mem hlt)
    clear hs
    go_wp2
    go_ret
    exact ⟨retB HA.out.symm, rfl⟩
  ·have e : l.take k = l := List.take_of_length_le (by omega)
   have h1 := hno.out
   rw [e] at h1
   have HA := Lib.hid h1
   clear h1 e hno
   go_wp2
   go_ret
   exact ⟨retB HA.out.symm, rfl⟩
theorem Sl.drewN {α : Type} {R : Rd α} (hR : Stays R) {sz : Nat} {ok : Nat → Prop} {w : World} {A : Option Addr} {n : Nat} {ds : List α} (h : Sl R sz ok w A n ds) (m : Nat) : Sl R sz ok (w.drewN m) A n ds := h.stays hR (fun _ h => h) fun _ _ _ h => h
theorem below_drewN {B : Nat} {w w' : World} (h : Below B w w') (m : Nat) : Below B w (w'.drewN m) := ⟨h.os, h.tape, h.output, h.size, h.block⟩
theorem specInV {n lo hi : Int} {b : Bool} (h : (decide (lo ≤ n) && decide (n ≤ hi)) = b) (w : World) :
  Calls Tryz.prog 71 #[.int .i64 n, .int .i64 lo, .int .i64 hi] w fun e w' => e = .returned (.bool b) ∧ w' = w := (specIn n lo hi w).mono fun _ _ ⟨h1, h2⟩ => ⟨by rw [h1, h], h2.symm⟩
theorem specHasV {A : Option Addr} {n c : Nat} {l : List Int} {x : Int} {b : Bool} (hb : hasB l x = b) {ok : Nat → Prop} (w : World) (h : Sl IntR 1 ok w A n l) (hn : n ≤ 1048576) :
  Calls Tryz.prog 88 #[.slice A n c, .int .i64 x] w fun e w' => e = .returned (.bool b) ∧ w' = w := (specHas A n c l x ok w h hn).mono fun _ _ ⟨h1, h2⟩ => ⟨by rw [h1, hb], h2.symm⟩
set_option maxRecDepth 100000 in
set_option maxHeartbeats 1000000 in
theorem specCols (A : Option Addr) (n c : Nat) (l : List Int) (nc : Int) (ok : Nat → Prop) (w : World) (h : Sl IntR 1 ok w A n l) (hc : n ≤ c) (hn : n ≤ 1048576) (h0 : 0 ≤ nc) (h1 : nc ≤ 1048576) :
  Calls Tryz.prog 72 #[.slice A n c, .int .i64 nc] w fun e w' => e = .returned (.bool (colsInB l nc)) ∧ Below w.heap.size w w' := by
 obtain rfl : l.length = n := h.1
 have i2 : IntKind.i64.wrap (nc - 1) = nc - 1 := IntWalk.i64_in _ (by omega)
 go_enter Tryz.func72, Tryz.ntmps72
 go_wp2
 go_loopw [5] (fun i wr => ∃ k : Nat, k ≤ l.length ∧ i = .int .i64 k ∧ Hid (colsGo nc [] l = colsGo nc (l.take k) (l.drop k)) ∧ Below w.heap.size w wr) (fun i _ => l.length - (intOf i).toNat)
 case atStart => exact ⟨0, by omega, rfl, Lib.hid (by simp), Below.refl _ _⟩
 case round =>
  obtain ⟨k, hk, rfl, hgo, hb⟩ := hrel
  by_cases hlt : k < l.length
  ·have hw := h.below IntR.stays hb
   obtain ⟨b, off, -, rfl, q0⟩ := IntR.at_ hw hlt
   have ht := hw.take (m := k) (by omega)
   have hs := colsGo_at nc l k hlt
   have i0 : (0 : Int) ≤ k := by omega
   have i1 : (k : Int) < l.length := by omega
   have i3 : (k : Int) ≤ c := by omega
   cases hin : (decide (0 ≤ l[k]) && decide (l[k] ≤ nc - 1))
   ·have HI := Lib.hid hin
    have HF := Lib.hid (show colsInB l nc = false by
     unfold colsInB
     rw [hgo.out, hs, show (decide (0 ≤ l[k]) && decide (l[k] < nc)) = false by
      rw [← hin]; congr 1; rw [decide_eq_decide]; omega]
     simp)
    clear hs hin
    go_wp2_with fail
    go_quiet ((go_at_call 71; exact Calls.quiet_of_same (specInV HI.out _)))
    go_wp2
    go_ret
    exact ⟨retB HF.out.symm, below_drewN hb _⟩
   ·have HI := Lib.hid hin
    have hin2 : (decide (0 ≤ l[k]) && decide (l[k] < nc)) = true := by
     rw [← hin]; congr 1; rw [decide_eq_decide]; omega
    rw [hin2, Bool.true_and] at hs
    cases hhas : hasB (l.take k) l[k]
    ·rw [hhas] at hs
     have HH := Lib.hid hhas
     have HG := Lib.hid (hgo.out.trans hs)
     clear hs hin hhas hgo hin2
     go_wp2_with fail
     go_quiet ((first | (go_at_call 71; exact Calls.quiet_of_same (specInV HI.out _)) | (go_at_call 88; exact Calls.quiet_of_same (specHasV HH.out _ (ht.drewN IntR.stays _) (by omega)))))
     go_wp2
     go_roundw
     case rel => exact ⟨k + 1, by omega, by go_num, Lib.hid (by simpa using HG.out), below_drewN hb _⟩
     case measure => simp [intOf]; omega
    ·rw [hhas] at hs
     have HH := Lib.hid hhas
     have HF := Lib.hid (show colsInB l nc = false by unfold colsInB; rw [hgo.out, hs]; simp)
     clear hs hin hhas hgo hin2
     go_wp2_with fail
     go_quiet ((first | (go_at_call 71; exact Calls.quiet_of_same (specInV HI.out _)) | (go_at_call 88; exact Calls.quiet_of_same (specHasV HH.out _ (ht.drewN IntR.stays _) (by omega)))))
     go_wp2
     go_ret
     exact ⟨retB HF.out.symm, below_drewN hb _⟩
  ·have e1 : l.take k = l := List.take_of_length_le (by omega)
   have e2 : l.drop k = [] := List.drop_eq_nil_of_le (by omega)
   have hg := hgo.out
   rw [e1, e2] at hg
   have HA := Lib.hid (show colsInB l nc = decide (0 < l.length) by
    unfold colsInB; rw [hg]; simp [colsGo])
   clear hg e1 e2 hgo
   go_wp2
   go_ret
   exact ⟨retB HA.out.symm, hb⟩
def MetIn (w : World) (b n : Nat) (l : List Int) : Prop := ∃ D : DataW Unit, w.ownsMap Tryz.prog 2 (plainElem Tryz.prog 4) b n D ∧ IsMap D ∧ ∀ x : Int, D.atKey (.int .i64 x) (.lit (.bool false)) = .lit (.bool (hasB l x))
theorem MetIn.made (w : World) : MetIn (w.alloc (.map #[] 0)) w.heap.size 0 [] := ⟨.map [], World.ownsMap_made _ _ _ _, isMap_empty, fun x => by simp [DataW.atKey, hasB]⟩
theorem lawI : Keyed Tryz.prog 2 := int_keyed Tryz.underlying2
theorem zeroB' (w : World) : (zeroValue 4).run Tryz.prog w = .ok (.bool false) w := by kernel_rfl
theorem plainElem_bool_inv {P : Program} {e : TypeId} (he : P.underlying e = some .bool) {v : Value} {z : DataW Unit × List MemPlace} (h : plainElem P e v = some z) : ∃ x, v = .bool x ∧ z = (.lit (.bool x), []) := by
 unfold plainElem at h
 rw [he] at h
 cases v <;> simp at h
 exact ⟨_, rfl, h.symm⟩
theorem MetIn.look {w : World} {b n : Nat} {l : List Int} (h : MetIn w b n l) {x : Int} (hw : (Lit.int .i64 x).wf = true) : (Instr.lookup 141 (.map (some b)) (.int .i64 x) false).run Tryz.prog w = .ok (.bool (hasB l x)) w := by
 obtain ⟨D, h1, h2, h3⟩ := h
 obtain ⟨v, ps, hrun, hv⟩ := h1.lookup lawI Tryz.underlying141 (zeroB' w) (plainElem_bool Tryz.underlying4 false) (keyOf_int_mk Tryz.underlying2 hw)
 obtain ⟨y, rfl, hy⟩ := plainElem_bool_inv Tryz.underlying4 hv
 simp only [Prod.mk.injEq] at hy
 rw [h3 x] at hy
 have : hasB l x = y := by simpa using hy.1
 rw [this]; exact hrun
theorem implIsPlace (p nc : Int) (w : World) : Calls Tryz.prog 96 #[.int .i64 p, .int .i64 nc] w fun e w' => e = .returned (.bool (decide (0 ≤ p) && decide (p < nc))) ∧ w = w' := by
 by_cases h : 0 ≤ p
 ·go_enter Tryz.func96, Tryz.ntmps96
  go_wp2
  go_ret
  exact ⟨retB (by simp [h]), rfl⟩
 ·have h' : decide (0 ≤ p) = false := by simpa using h
  go_enter Tryz.func96, Tryz.ntmps96
  go_wp2
  go_ret
  exact ⟨retB (by simp), rfl⟩
theorem IsMap.key_int (x : Int) : WideAt.IsKeyLit (.int .i64 x) := by first | trivial | (simp [WideAt.IsKeyLit]) | (unfold WideAt.IsKeyLit; trivial)
set_option maxRecDepth 100000 in
set_option maxHeartbeats 1000000 in
theorem implAreColumns (A : Option Addr) (n c : Nat) (l : List Int) (nc : Nat) (ok : Nat → Prop) (w : World) (h : Sl IntR 1 ok w A n l) (hn : n ≤ 1048576) (h1 : nc ≤ 1048576) :
  Calls Tryz.prog 85 #[.slice A n c, .int .i64 nc] w fun e w' => e = .returned (.bool (colsInB l nc)) ∧ Below w.heap.size w w' := by
 obtain rfl : l.length = n := h.1
 by_cases hsm : (l.length : Int) < 1
 ·have HF := Lib.hid (show colsInB l nc = false by unfold colsInB; rw [decide_eq_false (p := 0 < l.length) (by omega), Bool.and_false])
  go_enter Tryz.func85, Tryz.ntmps85
  go_wp2
  go_ret
  exact ⟨retB HF.out.symm, Below.refl _ _⟩
 have hsm' : decide ((l.length : Int) < 1) = false := by simpa using hsm
 by_cases hbig : nc < l.length
 ·have HF := Lib.hid (show colsInB l nc = false by
   rw [Bool.eq_false_iff]; intro e
   have := (colsInB_len e).1; omega)
  have hbig' : decide ((nc : Int) < (l.length : Int)) = true := by simpa using hbig
  have hbig2 : decide (nc < l.length) = true := by simpa using hbig
  go_enter Tryz.func85, Tryz.ntmps85
  go_wp2
  go_ret
  exact ⟨retB HF.out.symm, Below.refl _ _⟩
 have hbig' : decide ((nc : Int) < (l.length : Int)) = false := by simpa using hbig
 have hbig2 : decide (nc < l.length) = false := by simpa using hbig
 have hmm := @run_makeMap Tryz.prog
 go_enter Tryz.func85, Tryz.ntmps85
 go_wp2
 have hm0 := MetIn.made w
 have hb0 := (Below.refl w.heap.size w).alloc (Nat.le_refl _) (.map #[] 0)
 generalize w.alloc (.map #[] 0) = x0 at *
 clear hmm
 go_loopw [20] (fun i wr => ∃ k : Nat, k ≤ l.length ∧ i = .int .i64 k ∧ MetIn wr w.heap.size k (l.take k) ∧ Hid (colsGo nc [] l = colsGo nc (l.take k) (l.drop k)) ∧ Below w.heap.size w wr) (fun i _ => l.length - (intOf i).toNat)
 case atStart => exact ⟨0, by omega, rfl, hm0, Lib.hid (by simp), hb0⟩
 case round =>
  obtain ⟨k, hk, rfl, hmet, hgo, hb⟩ := hrel
  by_cases hlt : k < l.length
  ·obtain ⟨b, off, -, rfl, q0⟩ := IntR.at_ (h.below IntR.stays hb) hlt
   have hs := colsGo_at nc l k hlt
   have i0 : (0 : Int) ≤ k := by omega
   have i1 : (k : Int) < l.length := by omega
   cases hin : (decide (0 ≤ l[k]) && decide (l[k] < nc))
   ·have HI := Lib.hid hin
    have HF := Lib.hid (show colsInB l nc = false by unfold colsInB; rw [hgo.out, hs, hin]; simp)
    clear hs hin
    go_wp2_with fail
    refine (implIsPlace _ _ _).mono ?_
    rintro e w1 ⟨rfl, rfl⟩
    rw [HI.out]
    go_wp2
    go_ret
    exact ⟨retB HF.out.symm, hb⟩
   ·have HI := Lib.hid hin
    have hwf : (Lit.int .i64 l[k]).wf = true := WalkArith.wf_i64 (by rw [Bool.and_eq_true, decide_eq_true_eq, decide_eq_true_eq] at hin; omega)
    have hlk := hmet.look hwf
    rw [hin, Bool.true_and] at hs
    cases hhas : hasB (l.take k) l[k]
    ·rw [hhas] at hs hlk
     have HG := Lib.hid (hgo.out.trans hs)
     have HH := Lib.hid hhas
     obtain ⟨D, m1, m2, m3⟩ := hmet
     have M3 := Lib.hid m3
     have hval := plainElem_bool (H := Unit) Tryz.underlying4 true
     clear hs hin hhas hgo m3
     go_wp2_with fail
     refine (implIsPlace _ _ _).mono ?_
     rintro e w1 ⟨rfl, rfl⟩
     rw [HI.out]
     go_wp2_with (first
      | (at_mapUpdate; refine wpList_mapUpdate_own _ rfl _ _ _ 141 rfl 2 4 lawI Tryz.underlying141 _ w.heap.size k D rfl m1 (by unfold maxLen; omega) _ _ _ rfl rfl (keyOf_int_mk Tryz.underlying2 hwf) _ [] hval ?_; intro w1 hown1 hgrow1))
     go_roundw
     case rel =>
      refine ⟨k + 1, by omega, by go_num, ⟨_, hown1, m2.put _ _, fun x => ?_⟩, Lib.hid (by simpa using HG.out), hb.grown hgrow1 hb.size (fun j hj => by cases hj; exact Nat.le_refl _)⟩
      rw [contains_take l x k hlt]
      by_cases e : (Lit.int .i64 x) = .int .i64 l[k]
      ·have e2 : x = l[k] := by injection e
       rw [e, Maps.atKey_put_same m2 (IsMap.key_int _), e2]
       simp
      ·rw [Maps.atKey_put_other e, M3.out x]
       have e2 : (l[k] == x) = false := by
        rw [beq_eq_false_iff_ne]; intro h; exact e (by rw [h])
       rw [e2, Bool.or_false]
     case measure => simp [intOf]; omega
    ·rw [hhas] at hs hlk
     have HF := Lib.hid (show colsInB l nc = false by unfold colsInB; rw [hgo.out, hs]; simp)
     clear hs hin hhas hgo
     go_wp2_with fail
     refine (implIsPlace _ _ _).mono ?_
     rintro e w1 ⟨rfl, rfl⟩
     rw [HI.out]
     go_wp2
     go_ret
     exact ⟨retB HF.out.symm, hb⟩
  ·have e1 : l.take k = l := List.take_of_length_le (by omega)
   have e2 : l.drop k = [] := List.drop_eq_nil_of_le (by omega)
   have hg := hgo.out
   rw [e1, e2] at hg
   have HA := Lib.hid (show colsInB l nc = true by unfold colsInB; rw [hg, decide_eq_true (by omega)]; rfl)
   clear hg e1 e2 hgo
   go_wp2
   go_ret
   exact ⟨retB HA.out.symm, hb⟩
def fitsB (k : Int) (v : Vl) : Bool := valOkB v.k v.n v.s && (v.k == 0 || v.k == k)
def colB (c : Cl) : Bool := nameB c.name && ((c.kind == 1 || c.kind == 2) && fitsB c.kind c.d)
def colsB (l : List Cl) : Bool := decide (1 ≤ l.length) && (decide (l.length ≤ 8) && (l.all colB && uniqGo [] (l.map Cl.name)))
def nnAt (cols : List Cl) (i : Int) : Bool := (cols[i.toNat]?.map Cl.nn).getD false
def keyB (cols : List Cl) (key : List Int) : Bool := colsInB key cols.length && key.all (nnAt cols)
def uqsB (cols : List Cl) (l : List Uq) : Bool := decide (l.length ≤ 3) && l.all (fun u => colsInB u.cols cols.length)
def cksB (cols : List Cl) (l : List Ck) : Bool := decide (l.length ≤ 3) && l.all (fun u => exprB u.expr cols.length)
def actB (a : Int) : Bool := a == 0 || (a == 1 || a == 2)
def fkB (n : Nat) (f : Fk) : Bool := colsInB f.cols n && (nameB f.table && (actB f.del && actB f.upd))
def fksB (cols : List Cl) (l : List Fk) : Bool := decide (l.length ≤ 3) && l.all (fkB cols.length)
def tableB (t : Tb) : Bool := nameB t.name && (colsB t.cols && (keyB t.cols t.key && (uqsB t.cols t.uniqs && (cksB t.cols t.checks && fksB t.cols t.fks))))
theorem implValFits (k : Int) (v : Vl) (w : World) :
  Calls Tryz.prog 76 #[.int .i64 k, .agg #[.int .i64 v.k, .int .i64 v.n, .string v.s]] w fun e w' => e = .returned (.bool (fitsB k v)) ∧ Below w.heap.size w w' := by
 have hb0 := (Below.refl w.heap.size w).alloc (Nat.le_refl _) (.cells #[.int .i64 v.k, .int .i64 v.n, .string v.s] 84)
 have r0 := Row.new w 84 #[.int .i64 v.k, .int .i64 v.n, .string v.s]
 unfold fitsB
 cases hok : valOkB v.k v.n v.s
 ·have HO := Lib.hid hok
  clear hok
  go_enter Tryz.func76, Tryz.ntmps76
  go_wp2_with fail
  refine (implValOk _ _ _ _).mono ?_
  rintro e w1 ⟨rfl, hb1⟩
  rw [HO.out]
  go_wp2
  go_ret
  exact ⟨rfl, hb0.trans (hb1.mono hb0.size)⟩
 ·have HO := Lib.hid hok
  clear hok
  by_cases h0 : v.k = 0
  ·have e0 : (v.k == 0) = true := by simpa using h0
   clear h0
   have HE := Lib.hid e0
   go_enter Tryz.func76, Tryz.ntmps76
   go_wp2_with fail
   refine (implValOk _ _ _ _).mono ?_
   rintro e w1 ⟨rfl, hb1⟩
   rw [HO.out]
   obtain ⟨⟨c0, c1, c2⟩, -⟩ := (r0.below hb1).three
   go_wp2
   go_ret
   exact ⟨retB (by rw [HE.out]; rfl), hb0.trans (hb1.mono hb0.size)⟩
  ·have e0 : (v.k == 0) = false := by simpa using h0
   clear h0
   have HE := Lib.hid e0
   go_enter Tryz.func76, Tryz.ntmps76
   go_wp2_with fail
   refine (implValOk _ _ _ _).mono ?_
   rintro e w1 ⟨rfl, hb1⟩
   rw [HO.out]
   obtain ⟨⟨c0, c1, c2⟩, -⟩ := (r0.below hb1).three
   go_wp2
   go_ret
   exact ⟨retB (by rw [HE.out]; rfl), hb0.trans (hb1.mono hb0.size)⟩
set_option maxRecDepth 100000 in
set_option maxHeartbeats 400000 in
theorem implColOk (x : Cl) (w : World) (hs : x.name.size ≤ maxLen) :
  Calls Tryz.prog 83 #[.agg #[.string x.name, .int .i64 x.kind, .bool x.nn, .int .i64 x.d.k, .int .i64 x.d.n, .string x.d.s]] w fun e w' => e = .returned (.bool (colB x)) ∧ Below w.heap.size w w' := by
 have hb0 := (Below.refl w.heap.size w).alloc (Nat.le_refl _) (.cells #[.string x.name, .int .i64 x.kind, .bool x.nn, .int .i64 x.d.k, .int .i64 x.d.n, .string x.d.s] 86)
 have HB := Lib.hid hb0
 unfold colB
 cases hn : nameB x.name
 ·have HN := Lib.hid hn
  clear hn
  go_enter Tryz.func83, Tryz.ntmps83
  go_wp2_with fail
  refine (implIsName _ _ hs).mono ?_
  rintro e w1 ⟨rfl, rfl⟩
  rw [HN.out]
  go_wp2
  go_ret
  exact ⟨rfl, HB.out⟩
 have HN := Lib.hid hn
 clear hn
 by_cases h1 : x.kind = 1
 ·have e1 : (x.kind == 1) = true := by simpa using h1
  have HE := Lib.hid e1
  clear h1
  go_enter Tryz.func83, Tryz.ntmps83
  go_wp2_with fail
  refine (implIsName _ _ hs).mono ?_
  rintro e w1 ⟨rfl, rfl⟩
  rw [HN.out]
  go_wp2_with fail
  refine (implValFits _ x.d _).mono ?_
  rintro e w1 ⟨rfl, hb1⟩
  go_wp2
  go_ret
  exact ⟨retB (by rw [HE.out]; rfl), HB.out.trans (hb1.mono HB.out.size)⟩
 have e1 : (x.kind == 1) = false := by simpa using h1
 by_cases h2 : x.kind = 2
 ·have e2 : (x.kind == 2) = true := by simpa using h2
  have HE := Lib.hid e1
  have HE2 := Lib.hid e2
  clear h1 h2
  go_enter Tryz.func83, Tryz.ntmps83
  go_wp2_with fail
  refine (implIsName _ _ hs).mono ?_
  rintro e w1 ⟨rfl, rfl⟩
  rw [HN.out]
  go_wp2_with fail
  refine (implValFits _ x.d _).mono ?_
  rintro e w1 ⟨rfl, hb1⟩
  go_wp2
  go_ret
  exact ⟨retB (by rw [HE.out, HE2.out]; rfl), HB.out.trans (hb1.mono HB.out.size)⟩
 ·have e2 : (x.kind == 2) = false := by simpa using h2
  have HE := Lib.hid e1
  have HE2 := Lib.hid e2
  clear h1 h2
  go_enter Tryz.func83, Tryz.ntmps83
  go_wp2_with fail
  refine (implIsName _ _ hs).mono ?_
  rintro e w1 ⟨rfl, rfl⟩
  rw [HN.out]
  go_wp2
  go_ret
  exact ⟨retB (by rw [HE.out, HE2.out]; rfl), HB.out⟩
theorem implAction (a : Int) (w : World) : Calls Tryz.prog 87 #[.int .i64 a] w fun e w' => e = .returned (.bool (actB a)) ∧ w = w' := by
 unfold actB
 by_cases h0 : a = 0
 ·subst h0
  go_enter Tryz.func87, Tryz.ntmps87
  go_wp2
  go_ret
  exact ⟨rfl, rfl⟩
 have e0 : (a == 0) = false := by simpa using h0
 by_cases h1 : a = 1
 ·subst h1
  go_enter Tryz.func87, Tryz.ntmps87
  go_wp2
  go_ret
  exact ⟨rfl, rfl⟩
 have e1 : (a == 1) = false := by simpa using h1
 have HE := Lib.hid e0
 have HE1 := Lib.hid e1
 go_enter Tryz.func87, Tryz.ntmps87
 go_wp2
 go_ret
 exact ⟨retB (by rw [HE.out, HE1.out]; rfl), rfl⟩
set_option maxRecDepth 100000 in
set_option maxHeartbeats 1000000 in
theorem implColsOk (A : Option Addr) (n c : Nat) (l : List Cl) (ok : Nat → Prop) (w : World) (h : Sl ClR 6 ok w A n l) (hs : szL Cl.sz l ≤ 1048576) :
  Calls Tryz.prog 56 #[.slice A n c] w fun e w' => e = .returned (.bool (colsB l)) ∧ Below w.heap.size w w' := by
 obtain rfl : l.length = n := h.1
 have hn : l.length ≤ 1048576 := by unfold szL at hs; omega
 have HS := Lib.hid hs
 clear hs
 by_cases h1 : (l.length : Int) < 1
 ·have HF := Lib.hid (show colsB l = false by unfold colsB; rw [decide_eq_false (p := 1 ≤ l.length) (by omega)]; rfl)
  go_enter Tryz.func56, Tryz.ntmps56
  go_wp2
  go_ret
  exact ⟨retB HF.out.symm, Below.refl _ _⟩
 have h1' : decide ((l.length : Int) < 1) = false := by simpa using h1
 by_cases h8 : 8 < (l.length : Int)
 ·have HF := Lib.hid (show colsB l = false by unfold colsB; rw [decide_eq_false (p := l.length ≤ 8) (by omega), Bool.false_and, Bool.and_false])
  go_enter Tryz.func56, Tryz.ntmps56
  go_wp2
  go_ret
  exact ⟨retB HF.out.symm, Below.refl _ _⟩
 have h8' : decide (8 < (l.length : Int)) = false := by simpa using h8
 have HLEN := Lib.hid (show decide (1 ≤ l.length) = true ∧ decide (l.length ≤ 8) = true from ⟨decide_eq_true (by omega), decide_eq_true (by omega)⟩)
 go_enter Tryz.func56, Tryz.ntmps56
 go_wp2
 go_loopw [15] (fun i wr => ∃ k : Nat, k ≤ l.length ∧ i = .int .i64 k ∧ Hid ((l.take k).all colB = true) ∧ Below w.heap.size w wr) (fun i _ => l.length - (intOf i).toNat)
 case atStart => exact ⟨0, by omega, rfl, Lib.hid (by simp), Below.refl _ _⟩
 case round =>
  obtain ⟨k, hk, rfl, hall, hb⟩ := hrel
  by_cases hlt : k < l.length
  ·obtain ⟨b, off, -, rfl, q0, q1, q2, q3, q4, q5⟩ := ClR.at_ (h.below ClR.stays hb) hlt
   have hsn := all_take colB l k hlt
   rw [hall.out, Bool.true_and] at hsn
   have HZ := Lib.hid (cl_name_le HS.out k hlt)
   have hba := hb.alloc hb.size (.cells #[.string l[k].name, .int .i64 l[k].kind, .bool l[k].nn, .int .i64 l[k].d.k, .int .i64 l[k].d.n, .string l[k].d.s] 86)
   cases hc : colB l[k]
   ·have HC := Lib.hid hc
    have HF := Lib.hid (show colsB l = false by unfold colsB; rw [all_no colB l k hlt hc]; simp)
    clear hsn hc hall
    go_wp2_with fail
    refine (implColOk _ _ HZ.out).mono ?_
    rintro e w1 ⟨rfl, hb1⟩
    rw [HC.out]
    go_wp2
    go_ret
    exact ⟨retB HF.out.symm, hba.trans (hb1.mono hba.size)⟩
   ·have HC := Lib.hid hc
    have HA := Lib.hid (hsn.trans hc)
    clear hsn hc hall
    go_wp2_with fail
    refine (implColOk _ _ HZ.out).mono ?_
    rintro e w1 ⟨rfl, hb1⟩
    rw [HC.out]
    go_wp2
    go_roundw
    case rel => exact ⟨k + 1, by omega, by go_num, HA, hba.trans (hb1.mono hba.size)⟩
    case measure => simp [intOf]; omega
  ·have e : l.take k = l := List.take_of_length_le (by omega)
   have h2 := hall.out
   rw [e] at h2
   have HA := Lib.hid h2
   have HF := Lib.hid (show colsB l = uniqGo [] (l.map Cl.name) by unfold colsB; rw [h2, HLEN.out.1, HLEN.out.2]; simp)
   clear h2 e hall
   go_wp2_with fail
   refine (implColPlaces A l.length c l ok _ (h.below ClR.stays hb) HS.out).mono ?_
   rintro e w1 ⟨bm, rfl, hp, hbb, hb1⟩
   obtain ⟨D, p1, p2, p3, p4, p5⟩ := hp
   have HU := Lib.hid (cntGo_uniq (l.map Cl.name) [])
   have HP := Lib.hid p5
   clear p3 p4 p5
   go_wp2_with (first | (at_len; refine wpList_len_own _ rfl _ 97 rfl 9 2 Tryz.underlying97 _ bm _ D rfl p1 ?_))
   go_ret
   refine ⟨retB ?_, hb.trans (hb1.mono hb.size)⟩
   rw [HF.out, ← HU.out, HP.out, Bool.eq_iff_iff]
   simp
   try omega
set_option maxRecDepth 100000 in
set_option maxHeartbeats 1000000 in
theorem implKeyOk (A1 A2 : Option Addr) (n1 c1 n2 c2 : Nat) (v0 v3 v4 v5 : Value) (cols : List Cl) (key : List Int) (ok : Nat → Prop) (w : World) (h : Sl ClR 6 ok w A1 n1 cols) (hk : Sl IntR 1 ok w A2 n2 key) (hn1 : n1 ≤ 1048576) (hn2 : n2 ≤ 1048576) :
  Calls Tryz.prog 57 #[.agg #[v0, .slice A1 n1 c1, .slice A2 n2 c2, v3, v4, v5]] w fun e w' => e = .returned (.bool (keyB cols key)) ∧ Below w.heap.size w w' := by
 obtain rfl : cols.length = n1 := h.1
 obtain rfl : key.length = n2 := hk.1
 have hb0 := (Below.refl w.heap.size w).alloc (Nat.le_refl _) (.cells #[v0, .slice A1 cols.length c1, .slice A2 key.length c2, v3, v4, v5] 57)
 have r0 := Row.new w 57 #[v0, .slice A1 cols.length c1, .slice A2 key.length c2, v3, v4, v5]
 cases hc : colsInB key cols.length
 ·have HC := Lib.hid hc
  clear hc
  go_enter Tryz.func57, Tryz.ntmps57
  go_wp2_with fail
  refine (implAreColumns A2 key.length c2 key cols.length ok _ (hk.below IntR.stays hb0) hn2 hn1).mono ?_
  rintro e w1 ⟨rfl, hb1⟩
  rw [HC.out]
  go_wp2
  go_ret
  exact ⟨retB (by unfold keyB; rw [HC.out]; rfl), hb0.trans (hb1.mono hb0.size)⟩
 have HIN := Lib.hid (colsInB_len hc).2
 have HC := Lib.hid hc
 clear hc
 go_enter Tryz.func57, Tryz.ntmps57
 go_wp2_with fail
 refine (implAreColumns A2 key.length c2 key cols.length ok _ (hk.below IntR.stays hb0) hn2 hn1).mono ?_
 rintro e w1 ⟨rfl, hb1⟩
 rw [HC.out]
 have hbb := hb0.trans (hb1.mono hb0.size)
 have r1 := r0.below hb1
 obtain ⟨⟨a0, a1, a2, a3, a4, a5⟩, -⟩ := r1.all6
 have h1' := h.below ClR.stays hbb
 have hk1 := hk.below IntR.stays hbb
 clear r0 r1
 go_wp2_with fail
 go_loop [15] (fun i => ∃ k : Nat, k ≤ key.length ∧ i = .int .i64 k ∧ Hid ((key.take k).all (nnAt cols) = true)) (fun i => key.length - (intOf i).toNat)
 case atStart => exact ⟨0, by omega, rfl, Lib.hid (by simp)⟩
 case round =>
  obtain ⟨k, hkk, rfl, hall⟩ := hrel
  by_cases hlt : k < key.length
  ·obtain ⟨b, off, -, rfl, q0⟩ := IntR.at_ hk1 hlt
   have hin := HIN.out _ (List.getElem_mem hlt)
   have hsn := all_take (nnAt cols) key k hlt
   rw [hall.out, Bool.true_and] at hsn
   have hno := fun hf => all_no (nnAt cols) key k hlt hf
   obtain ⟨j, hj⟩ : ∃ j : Nat, key[k] = (j : Int) := ⟨key[k].toNat, by omega⟩
   rw [hj] at q0 hsn hno hin
   have hjl : j < cols.length := by omega
   obtain ⟨b', off', -, rfl, p0, p1, p2, p3, p4, p5⟩ := ClR.at_ h1' hjl
   have hnn : nnAt cols j = cols[j].nn := by unfold nnAt; simp [List.getElem?_eq_getElem hjl]
   have i0 : (0 : Int) ≤ j := by omega
   have i1 : (j : Int) < cols.length := by omega
   cases hnb : cols[j].nn
   ·rw [hnb] at p2
    have HF := Lib.hid (show keyB cols key = false by unfold keyB; rw [hno (hnn.trans hnb), Bool.and_false])
    clear hsn hno hnn hnb hj hall
    go_wp2
    go_ret
    exact ⟨retB HF.out.symm, hbb⟩
   ·rw [hnb] at p2
    have HA := Lib.hid (hsn.trans (hnn.trans hnb))
    clear hsn hno hnn hnb hj hall
    go_wp2
    go_round
    case rel => exact ⟨k + 1, by omega, by go_num, HA⟩
    case measure => simp [intOf]; omega
  ·have e : key.take k = key := List.take_of_length_le (by omega)
   have h2 := hall.out
   rw [e] at h2
   have HF := Lib.hid (show keyB cols key = true by unfold keyB; rw [h2, HC.out]; rfl)
   clear h2 e hall
   go_wp2
   go_ret
   exact ⟨retB HF.out.symm, hbb⟩
set_option maxRecDepth 100000 in
set_option maxHeartbeats 1000000 in
theorem implUniquesOk (A1 AL : Option Addr) (n1 c1 nL cL : Nat) (v0 v2 v4 v5 : Value) (cols : List Cl) (l : List Uq) (ok : Nat → Prop) (w : World) (h : Sl ClR 6 ok w A1 n1 cols) (hl : Sl UqR 1 ok w AL nL l) (hn1 : n1 ≤ 1048576) (hs : szL Uq.sz l ≤ 1048576) :
  Calls Tryz.prog 58 #[.agg #[v0, .slice A1 n1 c1, v2, .slice AL nL cL, v4, v5]] w fun e w' => e = .returned (.bool (uqsB cols l)) ∧ Below w.heap.size w w' := by
 obtain rfl : cols.length = n1 := h.1
 obtain rfl : l.length = nL := hl.1
 have hn2 : l.length ≤ 1048576 := by unfold szL at hs; omega
 have HSZ := Lib.hid hs
 clear hs
 have hb0 := (Below.refl w.heap.size w).alloc (Nat.le_refl _) (.cells #[v0, .slice A1 cols.length c1, v2, .slice AL l.length cL, v4, v5] 57)
 have r0 := Row.new w 57 #[v0, .slice A1 cols.length c1, v2, .slice AL l.length cL, v4, v5]
 by_cases hbig : 3 < (l.length : Int)
 ·have HF := Lib.hid (show uqsB cols l = false by unfold uqsB; rw [decide_eq_false (by omega), Bool.false_and])
  go_enter Tryz.func58, Tryz.ntmps58
  go_wp2
  go_ret
  exact ⟨retB HF.out.symm, hb0⟩
 have hbig' : decide (3 < (l.length : Int)) = false := by simpa using hbig
 have H3 := Lib.hid (show decide (l.length ≤ 3) = true from decide_eq_true (by omega))
 go_enter Tryz.func58, Tryz.ntmps58
 go_wp2_with fail
 generalize w.alloc (.cells #[v0, .slice A1 cols.length c1, v2, .slice AL l.length cL, v4, v5] 57) = x0 at *
 go_loopw [12] (fun i wr => ∃ k : Nat, k ≤ l.length ∧ i = .int .i64 k ∧ Hid ((l.take k).all (fun u : Uq => colsInB u.cols cols.length) = true) ∧ Row wr w.heap.size 57 #[v0, .slice A1 cols.length c1, v2, .slice AL l.length cL, v4, v5] ∧ Below w.heap.size w wr) (fun i _ => l.length - (intOf i).toNat)
 case atStart => exact ⟨0, by omega, rfl, Lib.hid (by simp), r0, hb0⟩
 case round =>
  obtain ⟨k, hkk, rfl, hall, hr, hb⟩ := hrel
  obtain ⟨⟨a0, a1, a2, a3, a4, a5⟩, -⟩ := hr.all6
  by_cases hlt : k < l.length
  ·obtain ⟨b, off, A9, n9, c9, -, rfl, q0, s0, hcp⟩ := UqR.at_ (hl.below UqR.stays hb) hlt
   obtain rfl : l[k].cols.length = n9 := s0.1
   have hsn := all_take (fun u : Uq => colsInB u.cols cols.length) l k hlt
   rw [hall.out, Bool.true_and] at hsn
   have hno := fun hf => all_no (fun u : Uq => colsInB u.cols cols.length) l k hlt hf
   have hk9 : l[k].cols.length ≤ 1048576 := by have := HSZ.out; have := sum_mem_le Uq.sz l k hlt; unfold szL at *; simp only [Uq.sz] at *;  omega
   have HK9 := Lib.hid hk9
   clear hk9
   have hbx := (Below.refl wr.heap.size wr).alloc (Nat.le_refl _) (.cells #[.slice A9 l[k].cols.length c9] 60)
   have hba := hb.trans (hbx.mono hb.size)
   have s1 := s0.below IntR.stays hbx
   have hr1 := hr.below hbx
   obtain ⟨⟨d0, d1, d2, d3, d4, d5⟩, -⟩ := hr1.all6
   cases hc : colsInB l[k].cols cols.length
   ·have HC := Lib.hid hc
    have HF := Lib.hid (show uqsB cols l = false by unfold uqsB; rw [hno hc, Bool.and_false])
    clear hsn hno hc hall hr
    go_wp2_with fail
    refine (implAreColumns A9 l[k].cols.length c9 l[k].cols cols.length ok _ s1 HK9.out hn1).mono ?_
    rintro e w1 ⟨rfl, hb1⟩
    rw [HC.out]
    go_wp2
    go_ret
    exact ⟨retB HF.out.symm, hba.trans (hb1.mono hba.size)⟩
   ·have HC := Lib.hid hc
    have HA := Lib.hid (hsn.trans hc)
    clear hsn hno hc hall hr
    go_wp2_with fail
    refine (implAreColumns A9 l[k].cols.length c9 l[k].cols cols.length ok _ s1 HK9.out hn1).mono ?_
    rintro e w1 ⟨rfl, hb1⟩
    rw [HC.out]
    have hr2 := hr1.below hb1
    go_wp2
    go_roundw
    case rel => exact ⟨k + 1, by omega, by go_num, HA, hr2, hba.trans (hb1.mono hba.size)⟩
    case measure => simp [intOf]; omega
  ·have e : l.take k = l := List.take_of_length_le (by omega)
   have h2 := hall.out
   rw [e] at h2
   have HF := Lib.hid (show uqsB cols l = true by unfold uqsB; rw [h2, H3.out]; rfl)
   clear h2 e hall
   go_wp2
   go_ret
   exact ⟨retB HF.out.symm, hb⟩
set_option maxRecDepth 100000 in
set_option maxHeartbeats 1000000 in
theorem implChecksOk (A1 AL : Option Addr) (n1 c1 nL cL : Nat) (v0 v2 v3 v5 : Value) (cols : List Cl) (l : List Ck) (ok : Nat → Prop) (w : World) (h : Sl ClR 6 ok w A1 n1 cols) (hl : Sl CkR 1 ok w AL nL l) (hn1 : n1 ≤ 1048576) (hs : szL Ck.sz l ≤ 1048576) :
  Calls Tryz.prog 59 #[.agg #[v0, .slice A1 n1 c1, v2, v3, .slice AL nL cL, v5]] w fun e w' => e = .returned (.bool (cksB cols l)) ∧ Below w.heap.size w w' := by
 obtain rfl : cols.length = n1 := h.1
 obtain rfl : l.length = nL := hl.1
 have hn2 : l.length ≤ 1048576 := by unfold szL at hs; omega
 have HSZ := Lib.hid hs
 clear hs
 have hb0 := (Below.refl w.heap.size w).alloc (Nat.le_refl _) (.cells #[v0, .slice A1 cols.length c1, v2, v3, .slice AL l.length cL, v5] 57)
 have r0 := Row.new w 57 #[v0, .slice A1 cols.length c1, v2, v3, .slice AL l.length cL, v5]
 by_cases hbig : 3 < (l.length : Int)
 ·have HF := Lib.hid (show cksB cols l = false by unfold cksB; rw [decide_eq_false (by omega), Bool.false_and])
  go_enter Tryz.func59, Tryz.ntmps59
  go_wp2
  go_ret
  exact ⟨retB HF.out.symm, hb0⟩
 have hbig' : decide (3 < (l.length : Int)) = false := by simpa using hbig
 have H3 := Lib.hid (show decide (l.length ≤ 3) = true from decide_eq_true (by omega))
 go_enter Tryz.func59, Tryz.ntmps59
 go_wp2_with fail
 generalize w.alloc (.cells #[v0, .slice A1 cols.length c1, v2, v3, .slice AL l.length cL, v5] 57) = x0 at *
 go_loopw [12] (fun i wr => ∃ k : Nat, k ≤ l.length ∧ i = .int .i64 k ∧ Hid ((l.take k).all (fun u : Ck => exprB u.expr cols.length) = true) ∧ Row wr w.heap.size 57 #[v0, .slice A1 cols.length c1, v2, v3, .slice AL l.length cL, v5] ∧ Below w.heap.size w wr) (fun i _ => l.length - (intOf i).toNat)
 case atStart => exact ⟨0, by omega, rfl, Lib.hid (by simp), r0, hb0⟩
 case round =>
  obtain ⟨k, hkk, rfl, hall, hr, hb⟩ := hrel
  obtain ⟨⟨a0, a1, a2, a3, a4, a5⟩, -⟩ := hr.all6
  by_cases hlt : k < l.length
  ·obtain ⟨b, off, A9, n9, c9, -, rfl, q0, s0, hcp⟩ := CkR.at_ (hl.below CkR.stays hb) hlt
   obtain rfl : l[k].expr.length = n9 := s0.1
   have hsn := all_take (fun u : Ck => exprB u.expr cols.length) l k hlt
   rw [hall.out, Bool.true_and] at hsn
   have hno := fun hf => all_no (fun u : Ck => exprB u.expr cols.length) l k hlt hf
   have hk9 : l[k].expr.length ≤ 1048576 := by have := HSZ.out; have := sum_mem_le Ck.sz l k hlt; unfold szL at *; simp only [Ck.sz] at *; (try unfold szL at *); (try simp only at *); omega
   have HK9 := Lib.hid hk9
   clear hk9
   have hbx := (Below.refl wr.heap.size wr).alloc (Nat.le_refl _) (.cells #[.slice A9 l[k].expr.length c9] 64)
   have hba := hb.trans (hbx.mono hb.size)
   have s1 := s0.below TkR.stays hbx
   have hr1 := hr.below hbx
   obtain ⟨⟨d0, d1, d2, d3, d4, d5⟩, -⟩ := hr1.all6
   cases hc : exprB l[k].expr cols.length
   ·have HC := Lib.hid hc
    have HF := Lib.hid (show cksB cols l = false by unfold cksB; rw [hno hc, Bool.and_false])
    clear hsn hno hc hall hr
    go_wp2_with fail
    refine (implExprOk A9 l[k].expr.length c9 l[k].expr cols.length _ (Sl.cellz (fun _ => rfl) s1) (by have := HK9.out; unfold maxLen; omega)).mono ?_
    rintro e w1 ⟨rfl, hb1⟩
    rw [HC.out]
    go_wp2
    go_ret
    exact ⟨retB HF.out.symm, hba.trans (hb1.mono hba.size)⟩
   ·have HC := Lib.hid hc
    have HA := Lib.hid (hsn.trans hc)
    clear hsn hno hc hall hr
    go_wp2_with fail
    refine (implExprOk A9 l[k].expr.length c9 l[k].expr cols.length _ (Sl.cellz (fun _ => rfl) s1) (by have := HK9.out; unfold maxLen; omega)).mono ?_
    rintro e w1 ⟨rfl, hb1⟩
    rw [HC.out]
    have hr2 := hr1.below hb1
    go_wp2
    go_roundw
    case rel => exact ⟨k + 1, by omega, by go_num, HA, hr2, hba.trans (hb1.mono hba.size)⟩
    case measure => simp [intOf]; omega
  ·have e : l.take k = l := List.take_of_length_le (by omega)
   have h2 := hall.out
   rw [e] at h2
   have HF := Lib.hid (show cksB cols l = true by unfold cksB; rw [h2, H3.out]; rfl)
   clear h2 e hall
   go_wp2
   go_ret
   exact ⟨retB HF.out.symm, hb⟩
set_option maxRecDepth 100000 in
set_option maxHeartbeats 1000000 in
theorem implFksOk (A1 AL : Option Addr) (n1 c1 nL cL : Nat) (v0 v2 v3 v4 : Value) (cols : List Cl) (l : List Fk) (ok : Nat → Prop) (w : World) (h : Sl ClR 6 ok w A1 n1 cols) (hl : Sl FkR 5 ok w AL nL l) (hn1 : n1 ≤ 1048576) (hs : szL Fk.sz l ≤ 1048576) :
  Calls Tryz.prog 60 #[.agg #[v0, .slice A1 n1 c1, v2, v3, v4, .slice AL nL cL]] w fun e w' => e = .returned (.bool (fksB cols l)) ∧ Below w.heap.size w w' := by
 obtain rfl : cols.length = n1 := h.1
 obtain rfl : l.length = nL := hl.1
 have hn2 : l.length ≤ 1048576 := by unfold szL at hs; omega
 have HSZ := Lib.hid hs
 clear hs
 have hb0 := (Below.refl w.heap.size w).alloc (Nat.le_refl _) (.cells #[v0, .slice A1 cols.length c1, v2, v3, v4, .slice AL l.length cL] 57)
 have r0 := Row.new w 57 #[v0, .slice A1 cols.length c1, v2, v3, v4, .slice AL l.length cL]
 by_cases hbig : 3 < (l.length : Int)
 ·have HF := Lib.hid (show fksB cols l = false by unfold fksB; rw [decide_eq_false (by omega), Bool.false_and])
  go_enter Tryz.func60, Tryz.ntmps60
  go_wp2
  go_ret
  exact ⟨retB HF.out.symm, hb0⟩
 have hbig' : decide (3 < (l.length : Int)) = false := by simpa using hbig
 have H3 := Lib.hid (show decide (l.length ≤ 3) = true from decide_eq_true (by omega))
 go_enter Tryz.func60, Tryz.ntmps60
 go_wp2_with fail
 generalize w.alloc (.cells #[v0, .slice A1 cols.length c1, v2, v3, v4, .slice AL l.length cL] 57) = x0 at *
 go_loopw [12] (fun i wr => ∃ k : Nat, k ≤ l.length ∧ i = .int .i64 k ∧ Hid ((l.take k).all (fkB cols.length) = true) ∧ Row wr w.heap.size 57 #[v0, .slice A1 cols.length c1, v2, v3, v4, .slice AL l.length cL] ∧ Below w.heap.size w wr) (fun i _ => l.length - (intOf i).toNat)
 case atStart => exact ⟨0, by omega, rfl, Lib.hid (by simp), r0, hb0⟩
 case round =>
  obtain ⟨k, hkk, rfl, hall, hr, hb⟩ := hrel
  obtain ⟨⟨a0, a1, a2, a3, a4, a5⟩, -⟩ := hr.all6
  by_cases hlt : k < l.length
  ·obtain ⟨b, off, A9, n9, c9, -, rfl, q0, q1, q2, q3, q4, s0, hcp⟩ := FkR.at_ (hl.below FkR.stays hb) hlt
   obtain rfl : l[k].cols.length = n9 := s0.1
   have hsn := all_take (fkB cols.length) l k hlt
   rw [hall.out, Bool.true_and] at hsn
   have hno := fun hf => all_no (fkB cols.length) l k hlt hf
   obtain ⟨hk9, hk8⟩ : l[k].cols.length ≤ 1048576 ∧ l[k].table.size ≤ 1048576 := by have := HSZ.out; have := sum_mem_le Fk.sz l k hlt; unfold szL at *; simp only [Fk.sz] at *; omega
   have HK9 := Lib.hid hk9
   have HK8 := Lib.hid (show l[k].table.size ≤ maxLen by unfold maxLen; omega)
   clear hk9 hk8
   have hbx := (Below.refl wr.heap.size wr).alloc (Nat.le_refl _) (.cells #[.slice A9 l[k].cols.length c9, .string l[k].table, .int .i64 l[k].del, .int .i64 l[k].upd, .bool l[k].dfr] 66)
   have hba := hb.trans (hbx.mono hb.size)
   have s1 := s0.below IntR.stays hbx
   have hr1 := hr.below hbx
   have rf := Row.new wr 66 #[.slice A9 l[k].cols.length c9, .string l[k].table, .int .i64 l[k].del, .int .i64 l[k].upd, .bool l[k].dfr]
   obtain ⟨⟨d0, d1, d2, d3, d4, d5⟩, -⟩ := hr1.all6
   have hcall := fun (w' : World) (hw : Sl IntR 1 ok w' A9 l[k].cols.length l[k].cols) => implAreColumns A9 l[k].cols.length c9 l[k].cols cols.length ok w' hw HK9.out hn1
   cases hc : colsInB l[k].cols cols.length
   ·have HC := Lib.hid hc
    have HF := Lib.hid (show fksB cols l = false by unfold fksB; rw [hno (by unfold fkB; rw [hc]; rfl), Bool.and_false])
    clear hsn hno hc hall hr
    go_wp2_with fail
    refine (hcall _ s1).mono ?_
    rintro e w1 ⟨rfl, hb1⟩
    rw [HC.out]
    clear hcall
    go_wp2
    go_ret
    exact ⟨retB HF.out.symm, hba.trans (hb1.mono hba.size)⟩
   have HC := Lib.hid hc
   cases hnm : nameB l[k].table
   ·have HN := Lib.hid hnm
    have HF := Lib.hid (show fksB cols l = false by unfold fksB; rw [hno (by unfold fkB; rw [hc, hnm]; rfl), Bool.and_false])
    clear hsn hno hc hall hr hnm
    go_wp2_with fail
    refine (hcall _ s1).mono ?_
    rintro e w1 ⟨rfl, hb1⟩
    rw [HC.out]
    clear hcall
    obtain ⟨⟨f0, f1, f2, f3, f4⟩, -⟩ := (rf.below hb1).five
    go_wp2_with fail
    refine (implIsName _ _ HK8.out).mono ?_
    rintro e w2 ⟨rfl, rfl⟩
    rw [HN.out]
    go_wp2
    go_ret
    exact ⟨retB HF.out.symm, hba.trans (hb1.mono hba.size)⟩
   have HN := Lib.hid hnm
   cases hd : actB l[k].del
   ·have HD := Lib.hid hd
    have HF := Lib.hid (show fksB cols l = false by unfold fksB; rw [hno (by unfold fkB; rw [hc, hnm, hd]; rfl), Bool.and_false])
    clear hsn hno hc hall hr hnm hd
    go_wp2_with fail
    refine (hcall _ s1).mono ?_
    rintro e w1 ⟨rfl, hb1⟩
    rw [HC.out]
    clear hcall
    obtain ⟨⟨f0, f1, f2, f3, f4⟩, -⟩ := (rf.below hb1).five
    go_wp2_with fail
    refine (implIsName _ _ HK8.out).mono ?_
    rintro e w2 ⟨rfl, rfl⟩
    rw [HN.out]
    go_wp2_with fail
    refine (implAction _ _).mono ?_
    rintro e w2 ⟨rfl, rfl⟩
    rw [HD.out]
    go_wp2
    go_ret
    exact ⟨retB HF.out.symm, hba.trans (hb1.mono hba.size)⟩
   have HD := Lib.hid hd
   cases hu : actB l[k].upd
   ·have HU := Lib.hid hu
    have HF := Lib.hid (show fksB cols l = false by unfold fksB; rw [hno (by unfold fkB; rw [hc, hnm, hd, hu]; rfl), Bool.and_false])
    clear hsn hno hc hall hr hnm hd hu
    go_wp2_with fail
    refine (hcall _ s1).mono ?_
    rintro e w1 ⟨rfl, hb1⟩
    rw [HC.out]
    clear hcall
    obtain ⟨⟨f0, f1, f2, f3, f4⟩, -⟩ := (rf.below hb1).five
    go_wp2_with fail
    refine (implIsName _ _ HK8.out).mono ?_
    rintro e w2 ⟨rfl, rfl⟩
    rw [HN.out]
    go_wp2_with fail
    refine (implAction _ _).mono ?_
    rintro e w2 ⟨rfl, rfl⟩
    rw [HD.out]
    go_wp2_with fail
    refine (implAction _ _).mono ?_
    rintro e w2 ⟨rfl, rfl⟩
    rw [HU.out]
    go_wp2
    go_ret
    exact ⟨retB HF.out.symm, hba.trans (hb1.mono hba.size)⟩
   ·have HU := Lib.hid hu
    have HA := Lib.hid (hsn.trans (show fkB cols.length l[k] = true by unfold fkB; rw [hc, hnm, hd, hu]; rfl))
    clear hsn hno hc hall hr hnm hd hu
    go_wp2_with fail
    refine (hcall _ s1).mono ?_
    rintro e w1 ⟨rfl, hb1⟩
    rw [HC.out]
    clear hcall
    obtain ⟨⟨f0, f1, f2, f3, f4⟩, -⟩ := (rf.below hb1).five
    go_wp2_with fail
    refine (implIsName _ _ HK8.out).mono ?_
    rintro e w2 ⟨rfl, rfl⟩
    rw [HN.out]
    go_wp2_with fail
    refine (implAction _ _).mono ?_
    rintro e w2 ⟨rfl, rfl⟩
    rw [HD.out]
    go_wp2_with fail
    refine (implAction _ _).mono ?_
    rintro e w2 ⟨rfl, rfl⟩
    rw [HU.out]
    have hr2 := hr1.below hb1
    go_wp2
    go_roundw
    case rel => exact ⟨k + 1, by omega, by go_num, HA, hr2, hba.trans (hb1.mono hba.size)⟩
    case measure => simp [intOf]; omega
  ·have e : l.take k = l := List.take_of_length_le (by omega)
   have h2 := hall.out
   rw [e] at h2
   have HF := Lib.hid (show fksB cols l = true by unfold fksB; rw [h2, H3.out]; rfl)
   clear h2 e hall
   go_wp2
   go_ret
   exact ⟨retB HF.out.symm, hb⟩
set_option maxRecDepth 100000 in
set_option maxHeartbeats 1000000 in
theorem implTableOk (x : Tb) (A1 : Option Addr) (n1 c1 : Nat) (A2 : Option Addr) (n2 c2 : Nat) (A3 : Option Addr) (n3 c3 : Nat) (A4 : Option Addr) (n4 c4 : Nat) (A5 : Option Addr) (n5 c5 : Nat) (ok : Nat → Prop) (w : World)
  (h1 : Sl ClR 6 ok w A1 n1 x.cols) (h2 : Sl IntR 1 ok w A2 n2 x.key) (h3 : Sl UqR 1 ok w A3 n3 x.uniqs) (h4 : Sl CkR 1 ok w A4 n4 x.checks) (h5 : Sl FkR 5 ok w A5 n5 x.fks) (hs : x.sz ≤ 1048576) :
  Calls Tryz.prog 42 #[.agg #[.string x.name, .slice A1 n1 c1, .slice A2 n2 c2, .slice A3 n3 c3, .slice A4 n4 c4, .slice A5 n5 c5]] w fun e w' => e = .returned (.bool (tableB x)) ∧ Below w.heap.size w w' := by
 have e1 := h1.1
 have e2 := h2.1
 have HNM := Lib.hid (show x.name.size ≤ maxLen by unfold Tb.sz at hs; unfold maxLen; omega)
 have HS1 := Lib.hid (show szL Cl.sz x.cols ≤ 1048576 by unfold Tb.sz at hs; omega)
 have HS3 := Lib.hid (show szL Uq.sz x.uniqs ≤ 1048576 by unfold Tb.sz at hs; omega)
 have HS4 := Lib.hid (show szL Ck.sz x.checks ≤ 1048576 by unfold Tb.sz at hs; omega)
 have HS5 := Lib.hid (show szL Fk.sz x.fks ≤ 1048576 by unfold Tb.sz at hs; omega)
 have HL1 := Lib.hid (show n1 ≤ 1048576 by unfold Tb.sz szL at hs; omega)
 have HL2 := Lib.hid (show n2 ≤ 1048576 by unfold Tb.sz szL at hs; omega)
 clear e1 e2 hs
 have hb0 := (Below.refl w.heap.size w).alloc (Nat.le_refl _) (.cells #[.string x.name, .slice A1 n1 c1, .slice A2 n2 c2, .slice A3 n3 c3, .slice A4 n4 c4, .slice A5 n5 c5] 57)
 have r0 := Row.new w 57 #[.string x.name, .slice A1 n1 c1, .slice A2 n2 c2, .slice A3 n3 c3, .slice A4 n4 c4, .slice A5 n5 c5]
 cases hN : nameB x.name
 ·have HN := Lib.hid hN
  clear hN
  go_enter Tryz.func42, Tryz.ntmps42
  go_wp2_with fail
  refine (implIsName _ _ HNM.out).mono ?_
  rintro e w1 ⟨rfl, rfl⟩
  rw [HN.out]
  go_wp2_with fail
  go_ret
  exact ⟨retB (by unfold tableB; rw [HN.out]; rfl), hb0⟩
 have HN := Lib.hid hN
 clear hN
 cases hC : colsB x.cols
 ·have HC := Lib.hid hC
  clear hC
  go_enter Tryz.func42, Tryz.ntmps42
  go_wp2_with fail
  refine (implIsName _ _ HNM.out).mono ?_
  rintro e w1 ⟨rfl, rfl⟩
  rw [HN.out]
  go_wp2_with fail
  refine (implColsOk A1 n1 c1 x.cols ok _ (h1.below ClR.stays hb0) HS1.out).mono ?_
  rintro e w2 ⟨rfl, hq2⟩
  have hb2 := hb0.trans (hq2.mono hb0.size)
  have r2 := r0.below hq2
  obtain ⟨⟨x2_0, x2_1, x2_2, x2_3, x2_4, x2_5⟩, -⟩ := r2.all6
  rw [HC.out]
  go_wp2_with fail
  go_ret
  exact ⟨retB (by unfold tableB; rw [HN.out, HC.out]; rfl), hb2⟩
 have HC := Lib.hid hC
 clear hC
 cases hK : keyB x.cols x.key
 ·have HK := Lib.hid hK
  clear hK
  go_enter Tryz.func42, Tryz.ntmps42
  go_wp2_with fail
  refine (implIsName _ _ HNM.out).mono ?_
  rintro e w1 ⟨rfl, rfl⟩
  rw [HN.out]
  go_wp2_with fail
  refine (implColsOk A1 n1 c1 x.cols ok _ (h1.below ClR.stays hb0) HS1.out).mono ?_
  rintro e w2 ⟨rfl, hq2⟩
  have hb2 := hb0.trans (hq2.mono hb0.size)
  have r2 := r0.below hq2
  obtain ⟨⟨x2_0, x2_1, x2_2, x2_3, x2_4, x2_5⟩, -⟩ := r2.all6
  rw [HC.out]
  go_wp2_with fail
  refine (implKeyOk A1 A2 n1 c1 n2 c2 _ _ _ _ x.cols x.key ok _ (h1.below ClR.stays hb2) (h2.below IntR.stays hb2) HL1.out HL2.out).mono ?_
  rintro e w3 ⟨rfl, hq3⟩
  have hb3 := hb2.trans (hq3.mono hb2.size)
  have r3 := r2.below hq3
  obtain ⟨⟨x3_0, x3_1, x3_2, x3_3, x3_4, x3_5⟩, -⟩ := r3.all6
  rw [HK.out]
  go_wp2_with fail
  go_ret
  exact ⟨retB (by unfold tableB; rw [HN.out, HC.out, HK.out]; rfl), hb3⟩
 have HK := Lib.hid hK
 clear hK
 cases hU : uqsB x.cols x.uniqs
 ·have HU := Lib.hid hU
  clear hU
  go_enter Tryz.func42, Tryz.ntmps42
  go_wp2_with fail
  refine (implIsName _ _ HNM.out).mono ?_
  rintro e w1 ⟨rfl, rfl⟩
  rw [HN.out]
  go_wp2_with fail
  refine (implColsOk A1 n1 c1 x.cols ok _ (h1.below ClR.stays hb0) HS1.out).mono ?_
  rintro e w2 ⟨rfl, hq2⟩
  have hb2 := hb0.trans (hq2.mono hb0.size)
  have r2 := r0.below hq2
  obtain ⟨⟨x2_0, x2_1, x2_2, x2_3, x2_4, x2_5⟩, -⟩ := r2.all6
  rw [HC.out]
  go_wp2_with fail
  refine (implKeyOk A1 A2 n1 c1 n2 c2 _ _ _ _ x.cols x.key ok _ (h1.below ClR.stays hb2) (h2.below IntR.stays hb2) HL1.out HL2.out).mono ?_
  rintro e w3 ⟨rfl, hq3⟩
  have hb3 := hb2.trans (hq3.mono hb2.size)
  have r3 := r2.below hq3
  obtain ⟨⟨x3_0, x3_1, x3_2, x3_3, x3_4, x3_5⟩, -⟩ := r3.all6
  rw [HK.out]
  go_wp2_with fail
  refine (implUniquesOk A1 A3 n1 c1 n3 c3 _ _ _ _ x.cols x.uniqs ok _ (h1.below ClR.stays hb3) (h3.below UqR.stays hb3) HL1.out HS3.out).mono ?_
  rintro e w4 ⟨rfl, hq4⟩
  have hb4 := hb3.trans (hq4.mono hb3.size)
  have r4 := r3.below hq4
  obtain ⟨⟨x4_0, x4_1, x4_2, x4_3, x4_4, x4_5⟩, -⟩ := r4.all6
  rw [HU.out]
  go_wp2_with fail
  go_ret
  exact ⟨retB (by unfold tableB; rw [HN.out, HC.out, HK.out, HU.out]; rfl), hb4⟩
 have HU := Lib.hid hU
 clear hU
 cases hE : cksB x.cols x.checks
 ·have HE := Lib.hid hE
  clear hE
  go_enter Tryz.func42, Tryz.ntmps42
  go_wp2_with fail
  refine (implIsName _ _ HNM.out).mono ?_
  rintro e w1 ⟨rfl, rfl⟩
  rw [HN.out]
  go_wp2_with fail
  refine (implColsOk A1 n1 c1 x.cols ok _ (h1.below ClR.stays hb0) HS1.out).mono ?_
  rintro e w2 ⟨rfl, hq2⟩
  have hb2 := hb0.trans (hq2.mono hb0.size)
  have r2 := r0.below hq2
  obtain ⟨⟨x2_0, x2_1, x2_2, x2_3, x2_4, x2_5⟩, -⟩ := r2.all6
  rw [HC.out]
  go_wp2_with fail
  refine (implKeyOk A1 A2 n1 c1 n2 c2 _ _ _ _ x.cols x.key ok _ (h1.below ClR.stays hb2) (h2.below IntR.stays hb2) HL1.out HL2.out).mono ?_
  rintro e w3 ⟨rfl, hq3⟩
  have hb3 := hb2.trans (hq3.mono hb2.size)
  have r3 := r2.below hq3
  obtain ⟨⟨x3_0, x3_1, x3_2, x3_3, x3_4, x3_5⟩, -⟩ := r3.all6
  rw [HK.out]
  go_wp2_with fail
  refine (implUniquesOk A1 A3 n1 c1 n3 c3 _ _ _ _ x.cols x.uniqs ok _ (h1.below ClR.stays hb3) (h3.below UqR.stays hb3) HL1.out HS3.out).mono ?_
  rintro e w4 ⟨rfl, hq4⟩
  have hb4 := hb3.trans (hq4.mono hb3.size)
  have r4 := r3.below hq4
  obtain ⟨⟨x4_0, x4_1, x4_2, x4_3, x4_4, x4_5⟩, -⟩ := r4.all6
  rw [HU.out]
  go_wp2_with fail
  refine (implChecksOk A1 A4 n1 c1 n4 c4 _ _ _ _ x.cols x.checks ok _ (h1.below ClR.stays hb4) (h4.below CkR.stays hb4) HL1.out HS4.out).mono ?_
  rintro e w5 ⟨rfl, hq5⟩
  have hb5 := hb4.trans (hq5.mono hb4.size)
  have r5 := r4.below hq5
  obtain ⟨⟨x5_0, x5_1, x5_2, x5_3, x5_4, x5_5⟩, -⟩ := r5.all6
  rw [HE.out]
  go_wp2_with fail
  go_ret
  exact ⟨retB (by unfold tableB; rw [HN.out, HC.out, HK.out, HU.out, HE.out]; rfl), hb5⟩
 have HE := Lib.hid hE
 clear hE
 cases hF : fksB x.cols x.fks
 ·have HF := Lib.hid hF
  clear hF
  go_enter Tryz.func42, Tryz.ntmps42
  go_wp2_with fail
  refine (implIsName _ _ HNM.out).mono ?_
  rintro e w1 ⟨rfl, rfl⟩
  rw [HN.out]
  go_wp2_with fail
  refine (implColsOk A1 n1 c1 x.cols ok _ (h1.below ClR.stays hb0) HS1.out).mono ?_
  rintro e w2 ⟨rfl, hq2⟩
  have hb2 := hb0.trans (hq2.mono hb0.size)
  have r2 := r0.below hq2
  obtain ⟨⟨x2_0, x2_1, x2_2, x2_3, x2_4, x2_5⟩, -⟩ := r2.all6
  rw [HC.out]
  go_wp2_with fail
  refine (implKeyOk A1 A2 n1 c1 n2 c2 _ _ _ _ x.cols x.key ok _ (h1.below ClR.stays hb2) (h2.below IntR.stays hb2) HL1.out HL2.out).mono ?_
  rintro e w3 ⟨rfl, hq3⟩
  have hb3 := hb2.trans (hq3.mono hb2.size)
  have r3 := r2.below hq3
  obtain ⟨⟨x3_0, x3_1, x3_2, x3_3, x3_4, x3_5⟩, -⟩ := r3.all6
  rw [HK.out]
  go_wp2_with fail
  refine (implUniquesOk A1 A3 n1 c1 n3 c3 _ _ _ _ x.cols x.uniqs ok _ (h1.below ClR.stays hb3) (h3.below UqR.stays hb3) HL1.out HS3.out).mono ?_
  rintro e w4 ⟨rfl, hq4⟩
  have hb4 := hb3.trans (hq4.mono hb3.size)
  have r4 := r3.below hq4
  obtain ⟨⟨x4_0, x4_1, x4_2, x4_3, x4_4, x4_5⟩, -⟩ := r4.all6
  rw [HU.out]
  go_wp2_with fail
  refine (implChecksOk A1 A4 n1 c1 n4 c4 _ _ _ _ x.cols x.checks ok _ (h1.below ClR.stays hb4) (h4.below CkR.stays hb4) HL1.out HS4.out).mono ?_
  rintro e w5 ⟨rfl, hq5⟩
  have hb5 := hb4.trans (hq5.mono hb4.size)
  have r5 := r4.below hq5
  obtain ⟨⟨x5_0, x5_1, x5_2, x5_3, x5_4, x5_5⟩, -⟩ := r5.all6
  rw [HE.out]
  go_wp2_with fail
  refine (implFksOk A1 A5 n1 c1 n5 c5 _ _ _ _ x.cols x.fks ok _ (h1.below ClR.stays hb5) (h5.below FkR.stays hb5) HL1.out HS5.out).mono ?_
  rintro e w6 ⟨rfl, hq6⟩
  have hb6 := hb5.trans (hq6.mono hb5.size)
  have r6 := r5.below hq6
  obtain ⟨⟨x6_0, x6_1, x6_2, x6_3, x6_4, x6_5⟩, -⟩ := r6.all6
  rw [HF.out]
  go_wp2_with fail
  go_ret
  exact ⟨retB (by unfold tableB; rw [HN.out, HC.out, HK.out, HU.out, HE.out, HF.out]; rfl), hb6⟩
 have HF := Lib.hid hF
 clear hF
 go_enter Tryz.func42, Tryz.ntmps42
 go_wp2_with fail
 refine (implIsName _ _ HNM.out).mono ?_
 rintro e w1 ⟨rfl, rfl⟩
 rw [HN.out]
 go_wp2_with fail
 refine (implColsOk A1 n1 c1 x.cols ok _ (h1.below ClR.stays hb0) HS1.out).mono ?_
 rintro e w2 ⟨rfl, hq2⟩
 have hb2 := hb0.trans (hq2.mono hb0.size)
 have r2 := r0.below hq2
 obtain ⟨⟨x2_0, x2_1, x2_2, x2_3, x2_4, x2_5⟩, -⟩ := r2.all6
 rw [HC.out]
 go_wp2_with fail
 refine (implKeyOk A1 A2 n1 c1 n2 c2 _ _ _ _ x.cols x.key ok _ (h1.below ClR.stays hb2) (h2.below IntR.stays hb2) HL1.out HL2.out).mono ?_
 rintro e w3 ⟨rfl, hq3⟩
 have hb3 := hb2.trans (hq3.mono hb2.size)
 have r3 := r2.below hq3
 obtain ⟨⟨x3_0, x3_1, x3_2, x3_3, x3_4, x3_5⟩, -⟩ := r3.all6
 rw [HK.out]
 go_wp2_with fail
 refine (implUniquesOk A1 A3 n1 c1 n3 c3 _ _ _ _ x.cols x.uniqs ok _ (h1.below ClR.stays hb3) (h3.below UqR.stays hb3) HL1.out HS3.out).mono ?_
 rintro e w4 ⟨rfl, hq4⟩
 have hb4 := hb3.trans (hq4.mono hb3.size)
 have r4 := r3.below hq4
 obtain ⟨⟨x4_0, x4_1, x4_2, x4_3, x4_4, x4_5⟩, -⟩ := r4.all6
 rw [HU.out]
 go_wp2_with fail
 refine (implChecksOk A1 A4 n1 c1 n4 c4 _ _ _ _ x.cols x.checks ok _ (h1.below ClR.stays hb4) (h4.below CkR.stays hb4) HL1.out HS4.out).mono ?_
 rintro e w5 ⟨rfl, hq5⟩
 have hb5 := hb4.trans (hq5.mono hb4.size)
 have r5 := r4.below hq5
 obtain ⟨⟨x5_0, x5_1, x5_2, x5_3, x5_4, x5_5⟩, -⟩ := r5.all6
 rw [HE.out]
 go_wp2_with fail
 refine (implFksOk A1 A5 n1 c1 n5 c5 _ _ _ _ x.cols x.fks ok _ (h1.below ClR.stays hb5) (h5.below FkR.stays hb5) HL1.out HS5.out).mono ?_
 rintro e w6 ⟨rfl, hq6⟩
 have hb6 := hb5.trans (hq6.mono hb5.size)
 have r6 := r5.below hq6
 obtain ⟨⟨x6_0, x6_1, x6_2, x6_3, x6_4, x6_5⟩, -⟩ := r6.all6
 rw [HF.out]
 go_wp2_with fail
 go_ret
 exact ⟨retB (by unfold tableB; rw [HN.out, HC.out, HK.out, HU.out, HE.out, HF.out]; rfl), hb6⟩
def kindAt (cols : List Cl) (i : Int) : Int := (cols[i.toNat]?.map Cl.kind).getD 0
def kindV (c1 c2 : List Cl) (p : Int × Int) : Bool := kindAt c1 p.1 == kindAt c2 p.2
def sameB (c1 : List Cl) (l1 : List Int) (c2 : List Cl) (l2 : List Int) : Bool := decide (l1.length = l2.length) && (l1.zip l2).all (kindV c1 c2)
def leadB (s : List Tb) (x : Tb) (f : Fk) : Bool := decide (atN (s.map Tb.name) f.table ≠ -1) && (match s[(atN (s.map Tb.name) f.table).toNat]? with | some o => sameB x.cols f.cols o.cols o.key | none => false)
def leadsB (s : List Tb) (x : Tb) : Bool := x.fks.all (leadB s x)
def schemaB (s : List Tb) : Bool := decide (s.length ≤ 5) && (s.all tableB && (uniqGo [] (s.map Tb.name) && s.all (leadsB s)))
theorem kindAt_nat {cols : List Cl} {j : Nat} (h : j < cols.length) : kindAt cols j = cols[j].kind := by
 unfold kindAt; simp [List.getElem?_eq_getElem h]
theorem PlacesIn.below {w w' : World} {b : Nat} {names : List ByteArray} (h : PlacesIn w b names) (hb : Below w.heap.size w w') : PlacesIn w' b names :=
 h.kept (row := none) ⟨hb.os, hb.tape, hb.output, hb.size, fun k hk _ => hb.block k hk⟩ (by simp)
set_option maxRecDepth 100000 in
set_option maxHeartbeats 1000000 in
theorem implSameKinds (A1 AK B1 BK : Option Addr) (n1 c1 nK cK m1 d1 mK dK : Nat) (v0 v2 v3 v4 v5 u0 u2 u3 u4 u5 : Value) (cols1 cols2 : List Cl) (l1 l2 : List Int) (ok : Nat → Prop) (w : World)
  (h1 : Sl ClR 6 ok w A1 n1 cols1) (hk1 : Sl IntR 1 ok w AK nK l1) (h2 : Sl ClR 6 ok w B1 m1 cols2) (hk2 : Sl IntR 1 ok w BK mK l2) (hin1 : ∀ x ∈ l1, 0 ≤ x ∧ x < cols1.length) (hin2 : ∀ x ∈ l2, 0 ≤ x ∧ x < cols2.length)
  (hn1 : n1 ≤ 1048576) (hnK : nK ≤ 1048576) (hm1 : m1 ≤ 1048576) (hmK : mK ≤ 1048576) :
  Calls Tryz.prog 62 #[.agg #[v0, .slice A1 n1 c1, v2, v3, v4, v5], .slice AK nK cK, .agg #[u0, .slice B1 m1 d1, u2, u3, u4, u5], .slice BK mK dK] w fun e w' => e = .returned (.bool (sameB cols1 l1 cols2 l2)) ∧ Below w.heap.size w w' := by
 obtain rfl : cols1.length = n1 := h1.1
 obtain rfl : cols2.length = m1 := h2.1
 obtain rfl : l1.length = nK := hk1.1
 obtain rfl : l2.length = mK := hk2.1
 have HI1 := Lib.hid hin1
 have HI2 := Lib.hid hin2
 clear hin1 hin2
 have hb0 := ((Below.refl w.heap.size w).alloc (Nat.le_refl _) (.cells #[v0, .slice A1 cols1.length c1, v2, v3, v4, v5] 57)).alloc (by simp) (.cells #[u0, .slice B1 cols2.length d1, u2, u3, u4, u5] 57)
 have r1 := (Row.new w 57 #[v0, .slice A1 cols1.length c1, v2, v3, v4, v5]).alloc (.cells #[u0, .slice B1 cols2.length d1, u2, u3, u4, u5] 57)
 have r2 := Row.newAt (w.alloc (.cells #[v0, .slice A1 cols1.length c1, v2, v3, v4, v5] 57)) 57 #[u0, .slice B1 cols2.length d1, u2, u3, u4, u5] (w.heap.size + 1) (by simp)
 cases hl : (l1.length == l2.length)
 ·have hl' : ¬ ((l1.length : Int) = l2.length) := by have := beq_eq_false_iff_ne.1 hl; omega
  have HF := Lib.hid (show sameB cols1 l1 cols2 l2 = false by unfold sameB; rw [decide_eq_false (beq_eq_false_iff_ne.1 hl)]; rfl)
  clear hl
  go_enter Tryz.func62, Tryz.ntmps62
  go_wp2
  go_ret
  exact ⟨retB HF.out.symm, hb0⟩
 have hlen : l1.length = l2.length := by simpa using hl
 have hl' : (l1.length : Int) = l2.length := by omega
 have hz : (l1.zip l2).length = l1.length := by simp [hlen]
 have HZ := Lib.hid hz
 have HL := Lib.hid hlen
 have HE := Lib.hid (show sameB cols1 l1 cols2 l2 = (l1.zip l2).all (kindV cols1 cols2) by unfold sameB; rw [decide_eq_true hlen]; rfl)
 clear hl hz hlen
 go_enter Tryz.func62, Tryz.ntmps62
 go_wp2_with fail
 clear hl'
 generalize (w.alloc (.cells #[v0, .slice A1 cols1.length c1, v2, v3, v4, v5] 57)).alloc (.cells #[u0, .slice B1 cols2.length d1, u2, u3, u4, u5] 57) = x0 at *
 go_loopw [17] (fun i wr => ∃ k : Nat, k ≤ l1.length ∧ i = .int .i64 k ∧ Hid (((l1.zip l2).take k).all (kindV cols1 cols2) = true) ∧ Row wr w.heap.size 57 #[v0, .slice A1 cols1.length c1, v2, v3, v4, v5] ∧ Row wr (w.heap.size + 1) 57 #[u0, .slice B1 cols2.length d1, u2, u3, u4, u5] ∧ Below w.heap.size w wr) (fun i _ => l1.length - (intOf i).toNat)
 case atStart => exact ⟨0, by omega, rfl, Lib.hid (by simp), r1, r2, hb0⟩
 case round =>
  obtain ⟨k, hk, rfl, hall, hr1, hr2, hb⟩ := hrel
  by_cases hlt : k < l1.length
  ·have hlt2 : k < l2.length := by have := HL.out; omega
   obtain ⟨⟨a0, a1, a2, a3, a4, a5⟩, -⟩ := hr1.all6
   obtain ⟨⟨z0, z1, z2, z3, z4, z5⟩, -⟩ := hr2.all6
   obtain ⟨bk, offk, -, rfl, p0⟩ := IntR.at_ (hk1.below IntR.stays hb) hlt
   obtain ⟨bl, offl, -, rfl, p1⟩ := IntR.at_ (hk2.below IntR.stays hb) hlt2
   have hi1 := HI1.out _ (List.getElem_mem hlt)
   have hi2 := HI2.out _ (List.getElem_mem hlt2)
   have hsn := all_take (kindV cols1 cols2) (l1.zip l2) k (by rw [HZ.out]; exact hlt)
   have hno := fun hf => all_no (kindV cols1 cols2) (l1.zip l2) k (by rw [HZ.out]; exact hlt) hf
   obtain ⟨j1, hj1⟩ : ∃ j : Nat, l1[k] = (j : Int) := ⟨l1[k].toNat, by omega⟩
   obtain ⟨j2, hj2⟩ : ∃ j : Nat, l2[k] = (j : Int) := ⟨l2[k].toNat, by omega⟩
   rw [hj1] at p0 hi1
   rw [hj2] at p1 hi2
   have hjl1 : j1 < cols1.length := by omega
   have hjl2 : j2 < cols2.length := by omega
   have eg : kindV cols1 cols2 ((l1.zip l2)[k]'(by rw [HZ.out]; exact hlt)) = (cols1[j1].kind == cols2[j2].kind) := by
    rw [List.getElem_zip]; unfold kindV; simp only [hj1, hj2, kindAt_nat hjl1, kindAt_nat hjl2]
   rw [hall.out, Bool.true_and, eg] at hsn
   rw [eg] at hno
   obtain ⟨b, off, -, rfl, q0, q1, q2, q3, q4, q5⟩ := ClR.at_ (h1.below ClR.stays hb) hjl1
   obtain ⟨b', off', -, rfl, y0, y1, y2, y3, y4, y5⟩ := ClR.at_ (h2.below ClR.stays hb) hjl2
   have i0 : (0 : Int) ≤ k := by omega
   have i1 : (k : Int) < l1.length := by omega
   have i2 : (k : Int) < l2.length := by omega
   have i3 : (0 : Int) ≤ j1 := by omega
   have i4 : (j1 : Int) < cols1.length := by omega
   have i5 : (0 : Int) ≤ j2 := by omega
   have i6 : (j2 : Int) < cols2.length := by omega
   clear eg hj1 hj2 hi1 hi2
   cases hc : (cols1[j1].kind == cols2[j2].kind)
   ·have HF := Lib.hid (show sameB cols1 l1 cols2 l2 = false by rw [HE.out]; exact hno hc)
    have hc2 : (cols1[j1].kind != cols2[j2].kind) = true := by rw [bne, hc]; rfl
    clear hsn hno hall
    go_wp2_with fail
    go_quiet (fail)
    go_wp2_with fail
    go_ret
    exact ⟨retB HF.out.symm, below_drewN hb _⟩
   ·have HA := Lib.hid (hsn.trans hc)
    have hc2 : (cols1[j1].kind != cols2[j2].kind) = false := by rw [bne, hc]; rfl
    clear hsn hno hall
    go_wp2_with fail
    go_quiet (fail)
    go_wp2_with fail
    go_roundw
    case rel => exact ⟨k + 1, by omega, by go_num, Lib.hid HA.out, hr1.drewN _, hr2.drewN _, below_drewN hb _⟩
    case measure => simp [intOf]; omega
  ·have e : (l1.zip l2).take k = l1.zip l2 := List.take_of_length_le (by rw [HZ.out]; omega)
   have h1 := hall.out
   rw [e] at h1
   have HF := Lib.hid (show sameB cols1 l1 cols2 l2 = true by rw [HE.out]; exact h1)
   have i3 : ¬ (k : Int) < l2.length := by have := HL.out; omega
   clear e h1 hall
   go_wp2
   go_ret
   exact ⟨retB HF.out.symm, hb⟩
theorem fk_cols {x : Tb} (hx : tableB x = true) {k : Nat} (hlt : k < x.fks.length) : ∀ y ∈ x.fks[k].cols, 0 ≤ y ∧ y < x.cols.length := by
 unfold tableB fksB at hx
 simp only [Bool.and_eq_true, decide_eq_true_eq] at hx
 have := List.all_eq_true.1 hx.2.2.2.2.2.2 _ (List.getElem_mem hlt)
 unfold fkB at this
 rw [Bool.and_eq_true] at this
 exact (colsInB_len this.1).2
theorem key_cols {x : Tb} (hx : tableB x = true) : ∀ y ∈ x.key, 0 ≤ y ∧ y < x.cols.length := by
 unfold tableB keyB at hx
 simp only [Bool.and_eq_true] at hx
 exact (colsInB_len hx.2.2.1.1).2
set_option maxRecDepth 100000 in
set_option maxHeartbeats 2000000 in
theorem implFksLead (s : List Tb) (x : Tb) (AS : Option Addr) (nS cS bm : Nat) (A1 : Option Addr) (n1 c1 : Nat) (A2 : Option Addr) (n2 c2 : Nat) (A3 : Option Addr) (n3 c3 : Nat) (A4 : Option Addr) (n4 c4 : Nat) (A5 : Option Addr) (n5 c5 : Nat) (ok : Nat → Prop) (w : World)
  (hs : Sl TbR 6 ok w AS nS s) (hp : PlacesIn w bm (s.map Tb.name)) (h1 : Sl ClR 6 ok w A1 n1 x.cols) (h5 : Sl FkR 5 ok w A5 n5 x.fks) (hx : tableB x = true) (hall : s.all tableB = true) (hsz : szL Tb.sz s ≤ 1048576) (hxs : x.sz ≤ 1048576) :
  Calls Tryz.prog 44 #[.slice AS nS cS, .map (some bm), .agg #[.string x.name, .slice A1 n1 c1, .slice A2 n2 c2, .slice A3 n3 c3, .slice A4 n4 c4, .slice A5 n5 c5]] w fun e w' => e = .returned (.bool (leadsB s x)) ∧ Below w.heap.size w w' := by
 obtain rfl : s.length = nS := hs.1
 obtain rfl : x.fks.length = n5 := h5.1
 have e1 := h1.1
 have HN1 := Lib.hid (show n1 ≤ 1048576 by unfold Tb.sz szL at hxs; omega)
 have hn5 : x.fks.length ≤ 1048576 := by unfold Tb.sz szL at hxs; omega
 have HXS := Lib.hid (show szL Fk.sz x.fks ≤ 1048576 by unfold Tb.sz at hxs; omega)
 have HSZ := Lib.hid hsz
 have HX := Lib.hid hx
 have HALL := Lib.hid hall
 clear hsz hxs hx hall e1
 have hb0 := (Below.refl w.heap.size w).alloc (Nat.le_refl _) (.cells #[.string x.name, .slice A1 n1 c1, .slice A2 n2 c2, .slice A3 n3 c3, .slice A4 n4 c4, .slice A5 x.fks.length c5] 57)
 have r0 := Row.new w 57 #[.string x.name, .slice A1 n1 c1, .slice A2 n2 c2, .slice A3 n3 c3, .slice A4 n4 c4, .slice A5 x.fks.length c5]
 have hp0 := hp.alloc (.cells #[.string x.name, .slice A1 n1 c1, .slice A2 n2 c2, .slice A3 n3 c3, .slice A4 n4 c4, .slice A5 x.fks.length c5] 57)
 go_enter Tryz.func44, Tryz.ntmps44
 go_wp2_with fail
 generalize w.alloc (.cells #[.string x.name, .slice A1 n1 c1, .slice A2 n2 c2, .slice A3 n3 c3, .slice A4 n4 c4, .slice A5 x.fks.length c5] 57) = x0 at *
 go_loopw [14] (fun i wr => ∃ k : Nat, k ≤ x.fks.length ∧ i = .int .i64 k ∧ Hid ((x.fks.take k).all (leadB s x) = true) ∧ Row wr w.heap.size 57 #[.string x.name, .slice A1 n1 c1, .slice A2 n2 c2, .slice A3 n3 c3, .slice A4 n4 c4, .slice A5 x.fks.length c5] ∧ PlacesIn wr bm (s.map Tb.name) ∧ Below w.heap.size w wr) (fun i _ => x.fks.length - (intOf i).toNat)
 case atStart => exact ⟨0, by omega, rfl, Lib.hid (by simp), r0, hp0, hb0⟩
 case round =>
  clear hp hp0 r0 hb0
  obtain ⟨k, hk, rfl, hall, hr, hp, hb⟩ := hrel
  by_cases hlt : k < x.fks.length
  ·obtain ⟨b, off, A9, n9, c9, -, rfl, q0, q1, q2, q3, q4, hfc, -⟩ := FkR.at_ (h5.below FkR.stays hb) hlt
   obtain rfl : x.fks[k].cols.length = n9 := hfc.1
   have hsn := all_take (leadB s x) x.fks k hlt
   rw [hall.out, Bool.true_and] at hsn
   have hno := fun hf : leadB s x x.fks[k] = false => show leadsB s x = false from all_no (leadB s x) x.fks k hlt hf
   have hfk : x.fks[k].cols.length ≤ 1048576 ∧ x.fks[k].table.size ≤ 1048576 := by have := HXS.out; have := sum_mem_le Fk.sz x.fks k hlt; unfold szL at *; simp only [Fk.sz] at *; omega
   have HN9 := Lib.hid hfk.1
   have HTB := Lib.hid (show x.fks[k].table.size ≤ maxLen by have := hfk.2; unfold maxLen; omega)
   have HI1 := Lib.hid (show ∀ y ∈ x.fks[k].cols, 0 ≤ y ∧ y < x.cols.length from fk_cols HX.out hlt)
   clear hfk
   generalize x.fks[k] = f at *
   have hbx := (Below.refl wr.heap.size wr).alloc (Nat.le_refl _) (.cells #[.slice A9 f.cols.length c9, .string f.table, .int .i64 f.del, .int .i64 f.upd, .bool f.dfr] 66)
   have hba := hb.trans (hbx.mono hb.size)
   have rf := Row.new wr 66 #[.slice A9 f.cols.length c9, .string f.table, .int .i64 f.del, .int .i64 f.upd, .bool f.dfr]
   have hr1 := hr.below hbx
   have hp1 := hp.below hbx
   obtain ⟨⟨f0, f1, f2, f3, f4⟩, -⟩ := rf.five
   obtain ⟨⟨x0, x1, x2, x3, x4, x5⟩, -⟩ := hr1.all6
   obtain ⟨D, m1', m2', m3, m4, m5⟩ := id hp1
   have hh := m3 f.table
   clear m5 m3 m2'
   by_cases hno1 : atN (s.map Tb.name) f.table = -1
   ·rw [decide_eq_false (by simp [hno1])] at hh
    have HH := Lib.hid hh
    have HF := Lib.hid (hno (by unfold leadB; rw [decide_eq_false (by simp [hno1])]; rfl))
    clear hh hno1 hno hsn hall m4
    go_wp2_with (first
     | (at_lookup; refine wpList_lookup_own_ok_int _ rfl _ _ 97 rfl 9 2 .i64 lawS Tryz.underlying97 Tryz.underlying2 (zeroI _) bm _ D rfl m1' _ _ rfl (keyS_of f.table HTB.out) ?_; intro c hat hwc; rw [HH.out]))
    clear hat hwc m1'
    go_quiet (fail)
    go_wp2_with fail
    go_ret
    exact ⟨retB HF.out.symm, below_drewN hba _⟩
   rw [decide_eq_true hno1] at hh
   have HH := Lib.hid hh
   obtain ⟨j, hj, hjl⟩ : ∃ j : Nat, atN (s.map Tb.name) f.table = (j : Int) ∧ j < s.length := by
    rcases atN_rng (s.map Tb.name) f.table with h | h
    ·exact absurd h hno1
    ·rw [List.length_map] at h; exact ⟨(atN (s.map Tb.name) f.table).toNat, by omega, by omega⟩
   have hm4 := m4 f.table hno1
   rw [hj] at hm4
   have HA := Lib.hid hm4
   have hld : leadB s x f = sameB x.cols f.cols s[j].cols s[j].key := by
    unfold leadB; rw [decide_eq_true hno1, hj]; simp [List.getElem?_eq_getElem hjl]
   rw [hld] at hsn hno
   obtain ⟨bs, offs, B1, m1, d1, B2, m2, d2, B3, m3, d3, B4, m4', d4, B5, m5, d5, -, rfl, y0, y1, y2, y3, y4, y5, hs1, hs2, -, -, -, -⟩ := TbR.at_ (hs.below TbR.stays hba) hjl
   have hx1 := h1.below ClR.stays hba
   have hfc := hfc.below IntR.stays hbx
   have hto : tableB s[j] = true := List.all_eq_true.1 HALL.out _ (List.getElem_mem hjl)
   have HI2 := Lib.hid (show ∀ y ∈ s[j].key, 0 ≤ y ∧ y < s[j].cols.length from key_cols hto)
   have hsj : m1 ≤ 1048576 ∧ m2 ≤ 1048576 := by have := HSZ.out; have := sum_mem_le Tb.sz s j hjl; have := hs1.1; have := hs2.1; unfold szL at *; simp only [Tb.sz] at *; unfold szL at *; omega
   have HM1 := Lib.hid hsj.1
   have HM2 := Lib.hid hsj.2
   have i0 : (0 : Int) ≤ j := by omega
   have i1 : (j : Int) < s.length := by omega
   clear hh hno1 hall m4 hm4 hj hld hto hsj
   cases hsm : sameB x.cols f.cols s[j].cols s[j].key
   ·have HSM := Lib.hid hsm
    have HF := Lib.hid (hno hsm)
    clear hsn hno hsm
    go_wp2_with (first
     | (at_lookup; refine wpList_lookup_own_ok_int _ rfl _ _ 97 rfl 9 2 .i64 lawS Tryz.underlying97 Tryz.underlying2 (zeroI _) bm _ D rfl m1' _ _ rfl (keyS_of f.table HTB.out) ?_; intro c hat hwc; rw [HH.out]))
    obtain rfl : c = (j : Int) := by have := HA.out; rw [hat] at this; simpa using this
    clear hat hwc m1'
    generalize wr.alloc (.cells #[.slice A9 f.cols.length c9, .string f.table, .int .i64 f.del, .int .i64 f.upd, .bool f.dfr] 66) = z1 at *
    refine wp_region_noPanic ?_
    refine wp_region_held_drew (S := fun w' => w'.cell? ⟨w.heap.size, 0, none⟩ = some (.string x.name) ∧ w'.cell? ⟨w.heap.size, 1, none⟩ = some (.slice A1 n1 c1) ∧ w'.cell? ⟨w.heap.size, 2, none⟩ = some (.slice A2 n2 c2) ∧ w'.cell? ⟨w.heap.size, 3, none⟩ = some (.slice A3 n3 c3) ∧ w'.cell? ⟨w.heap.size, 4, none⟩ = some (.slice A4 n4 c4) ∧ w'.cell? ⟨w.heap.size, 5, none⟩ = some (.slice (some ⟨b,off,none⟩) x.fks.length c5) ∧ w'.cell? ⟨wr.heap.size, 0, none⟩ = some (.slice A9 f.cols.length c9) ∧ w'.cell? ⟨bs, offs + j * 6, none⟩ = some (.string s[j].name) ∧ w'.cell? ⟨bs, offs + j * 6 + 1, none⟩ = some (.slice B1 m1 d1) ∧ w'.cell? ⟨bs, offs + j * 6 + 2, none⟩ = some (.slice B2 m2 d2) ∧ w'.cell? ⟨bs, offs + j * 6 + 3, none⟩ = some (.slice B3 m3 d3) ∧ w'.cell? ⟨bs, offs + j * 6 + 4, none⟩ = some (.slice B4 m4' d4) ∧ w'.cell? ⟨bs, offs + j * 6 + 5, none⟩ = some (.slice B5 m5 d5)) (by kernel_rfl) ⟨x0, x1, x2, x3, x4, x5, f0, y0, y1, y2, y3, y4, y5⟩ (fun hHeld => ?_)
    refine tk 0 ?_
    refine tk 1 ?_
    refine tk 2 ?_
    refine tk 3 ?_
    refine tk 4 ?_
    refine tk 5 ?_
    refine tk 6 ?_
    refine tk 7 ?_
    refine tk 8 ?_
    refine tk 9 ?_
    refine tk 10 ?_
    refine tk 11 ?_
    refine tk 12 ?_
    refine tk 13 ?_
    refine tk 14 ?_
    refine wpAnyH_ready (rs := [15]) (by kernel_rfl) (by simp) ?_
    refine AllReadyH.cons rfl (fun K hK => ?_) AllReadyH.nil
    go_simp
    refine (implSameKinds A1 A9 B1 B2 n1 c1 f.cols.length c9 m1 d1 m2 d2 _ _ _ _ _ _ _ _ _ _ x.cols s[j].cols f.cols s[j].key ok _ (hx1.drew ClR.stays) (hfc.drew IntR.stays) (hs1.drew ClR.stays) (hs2.drew IntR.stays) HI1.out HI2.out HN1.out HN9.out HM1.out HM2.out).mono ?_
    rintro e wd ⟨rfl, hqd⟩
    rw [HSM.out]
    go_wp2_with fail
    refine hK.out _ _ ⟨below_keep hqd _ _ hHeld.1, below_keep hqd _ _ hHeld.2.1, below_keep hqd _ _ hHeld.2.2.1, below_keep hqd _ _ hHeld.2.2.2.1, below_keep hqd _ _ hHeld.2.2.2.2.1, below_keep hqd _ _ hHeld.2.2.2.2.2.1, below_keep hqd _ _ hHeld.2.2.2.2.2.2.1, below_keep hqd _ _ hHeld.2.2.2.2.2.2.2.1, below_keep hqd _ _ hHeld.2.2.2.2.2.2.2.2.1, below_keep hqd _ _ hHeld.2.2.2.2.2.2.2.2.2.1, below_keep hqd _ _ hHeld.2.2.2.2.2.2.2.2.2.2.1, below_keep hqd _ _ hHeld.2.2.2.2.2.2.2.2.2.2.2.1, below_keep hqd _ _ hHeld.2.2.2.2.2.2.2.2.2.2.2.2⟩ (fun hHeld => ?_)
    clear hK K
    (try simp only [Act.put, pz0, pz1, pz2, pz3, pz4, pz5])
    refine tk 16 ?_
    refine tk 17 ?_
    refine wpAnyH_done (by kernel_rfl) ?_ _
    refine NoPanic.normal ?_
    have hz := hba.drew.trans (hqd.mono hba.drew.size)
    have rz := hr1.drew.below hqd
    have hpz := hp1.drew.below hqd
    clear hHeld x0 x1 x2 x3 x4 x5 f0 y0 y1 y2 y3 y4 y5
    go_wp2_with fail
    go_ret
    exact ⟨retB HF.out.symm, hz⟩
   ·have HSM := Lib.hid hsm
    have HG := Lib.hid (hsn.trans hsm)
    clear hsn hno hsm
    go_wp2_with (first
     | (at_lookup; refine wpList_lookup_own_ok_int _ rfl _ _ 97 rfl 9 2 .i64 lawS Tryz.underlying97 Tryz.underlying2 (zeroI _) bm _ D rfl m1' _ _ rfl (keyS_of f.table HTB.out) ?_; intro c hat hwc; rw [HH.out]))
    obtain rfl : c = (j : Int) := by have := HA.out; rw [hat] at this; simpa using this
    clear hat hwc m1'
    generalize wr.alloc (.cells #[.slice A9 f.cols.length c9, .string f.table, .int .i64 f.del, .int .i64 f.upd, .bool f.dfr] 66) = z1 at *
    refine wp_region_noPanic ?_
    refine wp_region_held_drew (S := fun w' => w'.cell? ⟨w.heap.size, 0, none⟩ = some (.string x.name) ∧ w'.cell? ⟨w.heap.size, 1, none⟩ = some (.slice A1 n1 c1) ∧ w'.cell? ⟨w.heap.size, 2, none⟩ = some (.slice A2 n2 c2) ∧ w'.cell? ⟨w.heap.size, 3, none⟩ = some (.slice A3 n3 c3) ∧ w'.cell? ⟨w.heap.size, 4, none⟩ = some (.slice A4 n4 c4) ∧ w'.cell? ⟨w.heap.size, 5, none⟩ = some (.slice (some ⟨b,off,none⟩) x.fks.length c5) ∧ w'.cell? ⟨wr.heap.size, 0, none⟩ = some (.slice A9 f.cols.length c9) ∧ w'.cell? ⟨bs, offs + j * 6, none⟩ = some (.string s[j].name) ∧ w'.cell? ⟨bs, offs + j * 6 + 1, none⟩ = some (.slice B1 m1 d1) ∧ w'.cell? ⟨bs, offs + j * 6 + 2, none⟩ = some (.slice B2 m2 d2) ∧ w'.cell? ⟨bs, offs + j * 6 + 3, none⟩ = some (.slice B3 m3 d3) ∧ w'.cell? ⟨bs, offs + j * 6 + 4, none⟩ = some (.slice B4 m4' d4) ∧ w'.cell? ⟨bs, offs + j * 6 + 5, none⟩ = some (.slice B5 m5 d5)) (by kernel_rfl) ⟨x0, x1, x2, x3, x4, x5, f0, y0, y1, y2, y3, y4, y5⟩ (fun hHeld => ?_)
    refine tk 0 ?_
    refine tk 1 ?_
    refine tk 2 ?_
    refine tk 3 ?_
    refine tk 4 ?_
    refine tk 5 ?_
    refine tk 6 ?_
    refine tk 7 ?_
    refine tk 8 ?_
    refine tk 9 ?_
    refine tk 10 ?_
    refine tk 11 ?_
    refine tk 12 ?_
    refine tk 13 ?_
    refine tk 14 ?_
    refine wpAnyH_ready (rs := [15]) (by kernel_rfl) (by simp) ?_
    refine AllReadyH.cons rfl (fun K hK => ?_) AllReadyH.nil
    go_simp
    refine (implSameKinds A1 A9 B1 B2 n1 c1 f.cols.length c9 m1 d1 m2 d2 _ _ _ _ _ _ _ _ _ _ x.cols s[j].cols f.cols s[j].key ok _ (hx1.drew ClR.stays) (hfc.drew IntR.stays) (hs1.drew ClR.stays) (hs2.drew IntR.stays) HI1.out HI2.out HN1.out HN9.out HM1.out HM2.out).mono ?_
    rintro e wd ⟨rfl, hqd⟩
    rw [HSM.out]
    go_wp2_with fail
    refine hK.out _ _ ⟨below_keep hqd _ _ hHeld.1, below_keep hqd _ _ hHeld.2.1, below_keep hqd _ _ hHeld.2.2.1, below_keep hqd _ _ hHeld.2.2.2.1, below_keep hqd _ _ hHeld.2.2.2.2.1, below_keep hqd _ _ hHeld.2.2.2.2.2.1, below_keep hqd _ _ hHeld.2.2.2.2.2.2.1, below_keep hqd _ _ hHeld.2.2.2.2.2.2.2.1, below_keep hqd _ _ hHeld.2.2.2.2.2.2.2.2.1, below_keep hqd _ _ hHeld.2.2.2.2.2.2.2.2.2.1, below_keep hqd _ _ hHeld.2.2.2.2.2.2.2.2.2.2.1, below_keep hqd _ _ hHeld.2.2.2.2.2.2.2.2.2.2.2.1, below_keep hqd _ _ hHeld.2.2.2.2.2.2.2.2.2.2.2.2⟩ (fun hHeld => ?_)
    clear hK K
    (try simp only [Act.put, pz0, pz1, pz2, pz3, pz4, pz5])
    refine tk 16 ?_
    refine tk 17 ?_
    refine wpAnyH_done (by kernel_rfl) ?_ _
    refine NoPanic.normal ?_
    have hz := hba.drew.trans (hqd.mono hba.drew.size)
    have rz := hr1.drew.below hqd
    have hpz := hp1.drew.below hqd
    clear hHeld x0 x1 x2 x3 x4 x5 f0 y0 y1 y2 y3 y4 y5
    go_wp2_with fail
    go_roundw
    case rel => exact ⟨k + 1, by omega, by go_num, Lib.hid HG.out, rz, hpz, hz⟩
    case measure => simp [intOf]; omega
  ·have e : x.fks.take k = x.fks := List.take_of_length_le (by omega)
   have g1 := hall.out
   rw [e] at g1
   have HF := Lib.hid (show leadsB s x = true from g1)
   clear e g1 hall
   go_wp2
   go_ret
   exact ⟨retB HF.out.symm, hb⟩
end Go.Proofs.YtkehfilmpdoglaaGreat
namespace Go.Proofs.YtkehfilmpdoglaaGreat
open Go.RowKit
theorem szL_mem {α : Type} (f : α → Nat) (l : List α) (y : α) (h : y ∈ l) : f y ≤ szL f l := by
 obtain ⟨i, hi, rfl⟩ := List.mem_iff_getElem.1 h
 have := sum_mem_le f l i hi
 unfold szL
 omega
end Go.Proofs.YtkehfilmpdoglaaGreat
namespace Go.Proofs.YtkehfilmpdoglaaGreat
open Go.RowKit
def Uq.cnt (x : Uq) : Nat := (x.cols.map (fun _ : Int => 1)).sum
def Ck.cnt (x : Ck) : Nat := (x.expr.map (fun _ : Tk => 5)).sum
def Fk.cnt (x : Fk) : Nat := 4 + (x.cols.map (fun _ : Int => 1)).sum
def Tb.cnt (x : Tb) : Nat := 1 + (x.cols.map (fun _ : Cl => 6)).sum + (x.key.map (fun _ : Int => 1)).sum + (x.uniqs.map Uq.cnt).sum + (x.checks.map Ck.cnt).sum + (x.fks.map Fk.cnt).sum
def Rw.cnt (x : Rw) : Nat := 1 + (x.vals.map (fun _ : Vl => 3)).sum
def Dt.cnt (x : Dt) : Nat := (x.rows.map Rw.cnt).sum
def Sv.cnt (x : Sv) : Nat := 1 + (x.db.map Dt.cnt).sum
end Go.Proofs.YtkehfilmpdoglaaGreat
namespace Go.Proofs.YtkehfilmpdoglaaGreat
open Go.RowKit
theorem chain2 (w : World) (o o' : Obj) : Below w.heap.size w ((w.alloc o).alloc o') := ((Below.refl _ w).alloc (Nat.le_refl _) o).alloc (by simp) o'
end Go.Proofs.YtkehfilmpdoglaaGreat
namespace Go.Proofs.YtkehfilmpdoglaaGreat
open Go.RowKit
def cellsAt (w : World) (b o : Nat) (cs : List Value) : Prop := ∀ (t : Nat) (v : Value), cs[t]? = some v → w.cell? ⟨b, o + t, none⟩ = some v
abbrev ElS := World → List Value → Nat → List Nat → Prop
structure NS (S : ElS) (sz : Nat) (w : World) (b off n : Nat) (cnts : List Nat) (bss : List (List Nat)) : Prop where
 l1 : cnts.length = n
 l2 : bss.length = n
 nodup : (b :: bss.flatten).Nodup
 lt : b < w.heap.size
 fr : ∀ o, w.frozen? ⟨b, o, none⟩ = false
 el : ∀ i, i < n → ∃ cs, cs.length = sz ∧ S w cs (cnts.getD i 0) (bss.getD i []) ∧ cellsAt w b (off + i * sz) cs
def ShL (S : ElS) (sz : Nat) (w : World) (A : Option Addr) (n : Nat) (cnts : List Nat) (bs : List Nat) : Prop :=
 n ≤ 1048576 ∧ (n = 0 ∧ cnts = [] ∧ bs = [] ∨ ∃ b off bss, A = some ⟨b, off, none⟩ ∧ bs = b :: bss.flatten ∧ NS S sz w b off n cnts bss)
theorem mem_flatten_getD {bss : List (List Nat)} {i x : Nat} (h : x ∈ bss.getD i []) : x ∈ bss.flatten := by
 by_cases hi : i < bss.length
 ·rw [List.getD_eq_getElem?_getD, List.getElem?_eq_getElem hi] at h
  exact List.mem_flatten.2 ⟨bss[i], List.getElem_mem hi, h⟩
 ·rw [List.getD_eq_getElem?_getD, List.getElem?_eq_none (by omega)] at h
  simp at h
end Go.Proofs.YtkehfilmpdoglaaGreat
namespace Go.Proofs.YtkehfilmpdoglaaGreat
open Go.RowKit
theorem flat_get {sz : Nat} : ∀ (l : List (List Value)) (i j : Nat) (hi : i < l.length) (hj : j < sz), (∀ c ∈ l, c.length = sz) → l.flatten[i * sz + j]? = (l[i])[j]?
 | [], i, j, hi, _, _ => by simp at hi
 | c :: cs, i, j, hi, hj, hz => by
  have hc := hz c (by simp)
  cases i with
  | zero => simp only [List.getElem_cons_zero, List.flatten_cons, Nat.zero_mul, Nat.zero_add]; rw [List.getElem?_append_left (by omega)]
  | succ i =>
   simp only [List.getElem_cons_succ]
   rw [List.flatten_cons, List.getElem?_append_right (by rw [hc, Nat.add_mul]; omega), hc, show (i + 1) * sz + j - sz = i * sz + j by rw [Nat.add_mul]; omega]
   exact flat_get cs i j (by simpa using hi) hj fun d hd => hz d (by simp [hd])
theorem flat_len {sz : Nat} : ∀ (l : List (List Value)), (∀ c ∈ l, c.length = sz) → l.flatten.length = l.length * sz
 | [], _ => by simp
 | c :: cs, h => by
  rw [List.flatten_cons, List.length_append, h c (by simp), flat_len cs fun d hd => h d (by simp [hd]), List.length_cons, Nat.add_mul]; omega
def OwnG {α : Type} (T : TypeId) (sz : Nat) (f : α → List Value) (w : World) (base : Nat) (v : Value) (xs : List α) : Prop := w.ownsRow base T sz v xs.length ((xs.map f).flatten)
section
variable {α : Type} {T : TypeId} {sz : Nat} {f : α → List Value}
theorem OwnG.lit (w : World) {base : Nat} (hb : base ≤ w.heap.size) : OwnG T sz f (w.alloc (.cells #[] T)) base (.slice (some ⟨w.heap.size, 0, none⟩) 0 0) ([] : List α) :=
 ⟨by simp, .inr ⟨w.heap.size, 0, #[], rfl, hb, Go.heap_alloc_last w _, Nat.le_refl _, by simp [maxLen], by simp, by simp⟩⟩
end
end Go.Proofs.YtkehfilmpdoglaaGreat
namespace Go.Proofs.YtkehfilmpdoglaaGreat
open Go.RowKit
abbrev ElO (α : Type) := World → Nat → List Value → α → List Nat → Prop
structure GoodO {α : Type} (Ts : List TypeId) (sz : Nat) (E : ElO α) : Prop where
 len : ∀ {w base cs x bs}, E w base cs x bs → cs.length = sz
 one : ∀ {w base cs x bs}, E w base cs x bs → ∀ u ∈ cs, u.oneCell' = true
 typed : ∀ {w base cs x bs}, E w base cs x bs → ∀ b ∈ bs, base ≤ b ∧ ∃ cur U, w.heap[b]? = some (.cells cur U (0, 0)) ∧ U ∈ Ts
 nodup : ∀ {w base cs x bs}, E w base cs x bs → bs.Nodup
 dep : ∀ {w w' : World} {base cs x bs}, E w base cs x bs → (∀ b ∈ bs, w'.heap[b]? = w.heap[b]?) → E w' base cs x bs
 mono : ∀ {w base base' cs x bs}, E w base cs x bs → base' ≤ base → E w base' cs x bs
theorem ownsRow_dep {w w' : World} {base : Nat} {T : TypeId} {sz : Nat} {v : Value} {n : Nat} {xs : List Value} (h : w.ownsRow base T sz v n xs) (hd : ∀ k, v.ownBlock = some k → w'.heap[k]? = w.heap[k]?) : w'.ownsRow base T sz v n xs := by
 refine ⟨h.1, ?_⟩
 rcases h.2 with h | ⟨g, cap, cur, rfl, h1, h2, h3⟩
 ·exact .inl h
 ·exact .inr ⟨g, cap, cur, rfl, h1, (hd g rfl).trans h2, h3⟩
theorem ownsRow_mono {w : World} {base base' : Nat} {T : TypeId} {sz : Nat} {v : Value} {n : Nat} {xs : List Value} (h : w.ownsRow base T sz v n xs) (hb : base' ≤ base) : w.ownsRow base' T sz v n xs := by
 refine ⟨h.1, ?_⟩
 rcases h.2 with h | ⟨g, cap, cur, rfl, h1, h2⟩
 ·exact .inl h
 ·exact .inr ⟨g, cap, cur, rfl, Nat.le_trans hb h1, h2⟩
theorem ownsRow_typed {w : World} {base : Nat} {T : TypeId} {sz : Nat} {v : Value} {n : Nat} {xs : List Value} (h : w.ownsRow base T sz v n xs) {k : Nat} (hk : v.ownBlock = some k) : base ≤ k ∧ ∃ cur, w.heap[k]? = some (.cells cur T (0, 0)) := by
 rcases h.2 with ⟨rfl, -⟩ | ⟨g, cap, cur, rfl, h1, h2, -⟩
 ·simp [Value.ownBlock] at hk
 ·simp [Value.ownBlock] at hk
  subst hk
  exact ⟨h1, cur, h2⟩
theorem ownsRow_shape' {w : World} {base : Nat} {T : TypeId} {sz : Nat} {v : Value} {n : Nat} {xs : List Value} (h : w.ownsRow base T sz v n xs) : ∃ A c, v = .slice A n c := by
 rcases h.2 with ⟨rfl, hn⟩ | ⟨g, cap, cur, rfl, -⟩
 ·exact ⟨none, 0, by rw [hn]⟩
 ·exact ⟨_, _, rfl⟩
theorem ownsRow_one {w : World} {base : Nat} {T : TypeId} {sz : Nat} {v : Value} {n : Nat} {xs : List Value} (h : w.ownsRow base T sz v n xs) : v.oneCell' = true := by
 rcases h.2 with ⟨rfl, -⟩ | ⟨g, cap, cur, rfl, -⟩ <;> rfl
def blkN (v : Value) : List Nat := v.ownBlock.toList
theorem mem_blkN {v : Value} {b : Nat} : b ∈ blkN v ↔ v.ownBlock = some b := by simp [blkN]
theorem nodup_blkN (v : Value) : (blkN v).Nodup := by
 have hs : ∀ a : Option Nat, a.toList.Nodup := fun a => by cases a <;> simp
 exact hs _
section
variable {α : Type} {Ts : List TypeId} {sz : Nat} {E : ElO α} {T : TypeId}
theorem GoodO.lt (G : GoodO Ts sz E) {w : World} {base : Nat} {cs : List Value} {x : α} {bs : List Nat} (h : E w base cs x bs) {b : Nat} (hb : b ∈ bs) : base ≤ b ∧ b < w.heap.size := by
 obtain ⟨h1, cur, U, h2, -⟩ := G.typed h b hb
 exact ⟨h1, lt_of_block h2⟩
structure OwnN (E : ElO α) (T : TypeId) (sz : Nat) (w : World) (base : Nat) (v : Value) (xs : List α) (css : List (List Value)) (bss : List (List Nat)) : Prop where
 l1 : css.length = xs.length
 l2 : bss.length = xs.length
 row : w.ownsRow base T sz v xs.length css.flatten
 el : ∀ i (hi : i < xs.length), E w base (css.getD i []) xs[i] (bss.getD i [])
 apart : bss.flatten.Nodup
def OwnL (E : ElO α) (T : TypeId) (sz : Nat) (w : World) (base : Nat) (v : Value) (xs : List α) : Prop := ∃ css bss, OwnN E T sz w base v xs css bss
theorem mem_flatten_iff {bss : List (List Nat)} {x : Nat} : x ∈ bss.flatten ↔ ∃ i, i < bss.length ∧ x ∈ bss.getD i [] := by
 constructor
 ·intro h
  obtain ⟨l, hl, hx⟩ := List.mem_flatten.1 h
  obtain ⟨i, hi, rfl⟩ := List.mem_iff_getElem.1 hl
  exact ⟨i, hi, by rwa [List.getD_eq_getElem?_getD, List.getElem?_eq_getElem hi]⟩
 ·rintro ⟨i, hi, h⟩
  exact mem_flatten_getD h
theorem OwnN.typed (G : GoodO Ts sz E) {w : World} {base : Nat} {v : Value} {xs : List α} {css : List (List Value)} {bss : List (List Nat)} (h : OwnN E T sz w base v xs css bss) {b : Nat} (hb : b ∈ bss.flatten) : base ≤ b ∧ ∃ cur U, w.heap[b]? = some (.cells cur U (0, 0)) ∧ U ∈ Ts := by
 obtain ⟨i, hi, hx⟩ := mem_flatten_iff.1 hb
 exact G.typed (h.el i (by rw [← h.l2]; exact hi)) b hx
theorem OwnN.out (G : GoodO Ts sz E) (hT : T ∉ Ts) {w : World} {base : Nat} {v : Value} {xs : List α} {css : List (List Value)} {bss : List (List Nat)} (h : OwnN E T sz w base v xs css bss) {k : Nat} (hk : v.ownBlock = some k) : k ∉ bss.flatten := fun hb => by
 obtain ⟨-, cur, U, h2, h3⟩ := h.typed G hb
 obtain ⟨-, cur', h4⟩ := ownsRow_typed h.row hk
 rw [h2] at h4
 injection h4 with h4
 injection h4 with _ h5
 exact hT (h5 ▸ h3)
theorem OwnN.dep (G : GoodO Ts sz E) {w w' : World} {base : Nat} {v : Value} {xs : List α} {css : List (List Value)} {bss : List (List Nat)} (h : OwnN E T sz w base v xs css bss) (h1 : ∀ k, v.ownBlock = some k → w'.heap[k]? = w.heap[k]?) (h2 : ∀ b ∈ bss.flatten, w'.heap[b]? = w.heap[b]?) : OwnN E T sz w' base v xs css bss :=
 ⟨h.l1, h.l2, ownsRow_dep h.row h1, fun i hi => G.dep (h.el i hi) fun b hb => h2 b (mem_flatten_getD hb), h.apart⟩
theorem OwnN.mono (G : GoodO Ts sz E) {w : World} {base base' : Nat} {v : Value} {xs : List α} {css : List (List Value)} {bss : List (List Nat)} (h : OwnN E T sz w base v xs css bss) (hb : base' ≤ base) : OwnN E T sz w base' v xs css bss :=
 ⟨h.l1, h.l2, ownsRow_mono h.row hb, fun i hi => G.mono (h.el i hi) hb, h.apart⟩
theorem OwnL.lit (w : World) {base : Nat} (hb : base ≤ w.heap.size) : OwnL E T sz (w.alloc (.cells #[] T)) base (.slice (some ⟨w.heap.size, 0, none⟩) 0 0) [] :=
 ⟨[], [], rfl, rfl, ⟨by simp, .inr ⟨w.heap.size, 0, #[], rfl, hb, Go.heap_alloc_last w _, Nat.le_refl _, by simp [maxLen], by simp, by simp⟩⟩, fun i h => by simp at h, by simp⟩
theorem made_flat (z : Array Value) (hz : 0 < z.size) (n : Nat) : (madeCells z (n * z.size)).toList = (List.replicate n z.toList).flatten := by
 refine List.ext_getElem? fun j => ?_
 have hl : ∀ c ∈ List.replicate n z.toList, c.length = z.size := fun c hc => by rw [(List.mem_replicate.1 hc).2]; simp
 by_cases hj : j < n * z.size
 ·have hd : j / z.size < n := Nat.div_lt_of_lt_mul (by rw [Nat.mul_comm]; exact hj)
  have hm : j % z.size < z.size := Nat.mod_lt _ hz
  have := flat_get (List.replicate n z.toList) (j / z.size) (j % z.size) (by simpa using hd) hm hl
  rw [show j / z.size * z.size + j % z.size = j by rw [Nat.mul_comm]; exact Nat.div_add_mod j _] at this
  rw [this, Array.getElem?_toList]
  simp [madeCells, hj, hm]
 ·rw [List.getElem?_eq_none (by simp [size_madeCells]; omega), List.getElem?_eq_none (by rw [flat_len _ hl]; simp; omega)]
theorem OwnL.made (w : World) {base : Nat} (hb : base ≤ w.heap.size) (n : Nat) (z : Array Value) (hz : 0 < z.size) (hs : z.size = sz) (x : α) (hE : ∀ w, E w base z.toList x []) (hn : n ≤ maxLen) :
  OwnL E T sz (w.alloc (.cells (madeCells z (n * sz)) T)) base (.slice (some ⟨w.heap.size, 0, none⟩) n n) (List.replicate n x) := by
 subst hs
 refine ⟨List.replicate n z.toList, List.replicate n [], by simp, by simp, ?_, fun i hi => ?_, by simp⟩
 ·have := World.ownsRow_lit (e := T) (size := z.size) w (madeCells z (n * z.size)) n hb hn (size_madeCells _ _)
  rw [made_flat z hz] at this
  simpa using this
 ·have hi' : i < n := by simpa using hi
  rw [List.getD_eq_getElem?_getD, List.getD_eq_getElem?_getD, List.getElem?_replicate, List.getElem?_replicate, if_pos hi', if_pos hi', List.getElem_replicate]
  exact hE _
def setCells (w : World) (g off : Nat) : List Value → World
 | [] => w
 | u :: us => setCells (w.setCell ⟨g, off, none⟩ u) g (off + 1) us
def setAll (l : List Value) (off : Nat) : List Value → List Value
 | [] => l
 | u :: us => setAll (l.set off u) (off + 1) us
theorem setAll_get : ∀ (us l : List Value) (off j : Nat), off + us.length ≤ l.length → (setAll l off us)[j]? = if off ≤ j ∧ j < off + us.length then us[j - off]? else l[j]?
 | [], l, off, j, _ => by
  rw [setAll, if_neg]
  intro h
  simp only [List.length_nil] at h
  omega
 | u :: us, l, off, j, hl => by
  simp only [List.length_cons] at hl
  rw [setAll, setAll_get us _ _ _ (by simp; omega)]
  simp only [List.length_cons]
  by_cases e : j = off
  ·subst e
   rw [if_neg (by omega), if_pos (by omega), List.getElem?_set_self (by omega)]
   simp
  ·by_cases h1 : off + 1 ≤ j ∧ j < off + 1 + us.length
   ·rw [if_pos h1, if_pos (by omega), show j - off = (j - (off + 1)) + 1 by omega]
    simp
   ·rw [if_neg h1, if_neg (by omega), List.getElem?_set_ne (by omega)]
theorem setAll_flat {css : List (List Value)} (hz : ∀ c ∈ css, c.length = sz) {cs : List Value} (hc : cs.length = sz) (h0 : 0 < sz) {k : Nat} (hk : k < css.length) : setAll css.flatten (k * sz) cs = (css.set k cs).flatten := by
 have hz' : ∀ c ∈ css.set k cs, c.length = sz := fun c hc' => by
  rcases List.mem_or_eq_of_mem_set hc' with h | rfl
  ·exact hz c h
  ·exact hc
 have hfl := flat_len css hz
 have hkk : k * sz + sz ≤ css.length * sz := by
  have : (k + 1) * sz ≤ css.length * sz := Nat.mul_le_mul_right sz (by omega)
  rwa [Nat.succ_mul] at this
 refine List.ext_getElem? fun j => ?_
 rw [setAll_get _ _ _ _ (by rw [hfl, hc]; exact hkk), hc]
 by_cases hj : j < css.length * sz
 ·have hd : j / sz < css.length := Nat.div_lt_of_lt_mul (by rw [Nat.mul_comm]; exact hj)
  have hm : j % sz < sz := Nat.mod_lt _ h0
  have e : j / sz * sz + j % sz = j := by rw [Nat.mul_comm]; exact Nat.div_add_mod j _
  have g1 := flat_get css (j / sz) (j % sz) hd hm hz
  have g2 := flat_get (css.set k cs) (j / sz) (j % sz) (by simpa using hd) hm hz'
  rw [e] at g1 g2
  rw [g1, g2, List.getElem_set]
  by_cases h1 : k = j / sz
  ·subst h1
   rw [if_pos rfl, if_pos (by omega), show j - j / sz * sz = j % sz by omega]
  ·rw [if_neg h1, if_neg]
   intro ⟨a, b⟩
   rcases Nat.lt_or_gt_of_ne h1 with h2 | h2
   ·have : (k + 1) * sz ≤ j / sz * sz := Nat.mul_le_mul_right sz h2
    rw [Nat.succ_mul] at this
    omega
   ·have : (j / sz + 1) * sz ≤ k * sz := Nat.mul_le_mul_right sz h2
    rw [Nat.succ_mul] at this
    omega
 ·rw [if_neg (by omega), List.getElem?_eq_none (by rw [hfl]; omega), List.getElem?_eq_none (by rw [flat_len _ hz']; simp; omega)]
theorem ownsRow_setCells {g n cap : Nat} : ∀ (us : List Value) (w : World) (base : Nat) (xs : List Value) (off : Nat), w.ownsRow base T sz (.slice (some ⟨g, 0, none⟩) n cap) n xs →
  (setCells w g off us).ownsRow base T sz (.slice (some ⟨g, 0, none⟩) n cap) n (setAll xs off us) ∧ w.grownBy (setCells w g off us) (some g)
 | [], w, base, xs, off, h => ⟨h, ⟨rfl, rfl, rfl, Nat.le_refl _, fun _ _ _ => rfl⟩⟩
 | u :: us, w, base, xs, off, h => by
  obtain ⟨h1, h2⟩ := h.stored off u
  obtain ⟨h3, h4⟩ := ownsRow_setCells us _ base _ (off + 1) h1
  exact ⟨h3, ⟨h4.os.trans h2.os, h4.tape.trans h2.tape, h4.output.trans h2.output, Nat.le_trans h2.size h4.size, fun k hk ho => (h4.block k (Nat.lt_of_lt_of_le hk h2.size) ho).trans (h2.block k hk ho)⟩⟩
theorem Below.setCells {base : Nat} {a : World} {g : Nat} (hg : base ≤ g) : ∀ (us : List Value) (w : World) (off : Nat), Below base a w → Below base a (setCells w g off us)
 | [], w, off, h => h
 | u :: us, w, off, h => Below.setCells hg us _ _ (h.setCell (p := ⟨g, off, none⟩) hg u)
theorem nodup_set {bss : List (List Nat)} (h : bss.flatten.Nodup) {k : Nat} {bs : List Nat} (hb : bs.Nodup) (hn : ∀ b ∈ bs, b ∉ bss.flatten) : (bss.set k bs).flatten.Nodup := by
 have hp := List.pairwise_flatten.1 h
 refine List.pairwise_flatten.2 ⟨fun l hl => ?_, ?_⟩
 ·rcases List.mem_or_eq_of_mem_set hl with h1 | rfl
  ·exact hp.1 l h1
  ·exact hb
 ·refine List.pairwise_iff_getElem.2 fun i j hi hj hij x hx y hy => ?_
  have hi' : i < bss.length := by simpa using hi
  have hj' : j < bss.length := by simpa using hj
  rw [List.getElem_set] at hx hy
  split at hx <;> split at hy
  ·omega
  ·rintro rfl
   exact hn x hx (List.mem_flatten.2 ⟨_, List.getElem_mem hj', hy⟩)
  ·rintro rfl
   exact hn x hy (List.mem_flatten.2 ⟨_, List.getElem_mem hi', hx⟩)
  ·exact (List.pairwise_iff_getElem.1 hp.2) i j hi' hj' hij x hx y hy
theorem OwnN.cells (G : GoodO Ts sz E) {w : World} {base : Nat} {v : Value} {xs : List α} {css : List (List Value)} {bss : List (List Nat)} (h : OwnN E T sz w base v xs css bss) :
  (v = .slice none 0 0 ∧ xs = []) ∨ ∃ g c, v = .slice (some ⟨g, 0, none⟩) xs.length c ∧ xs.length ≤ c ∧ c ≤ maxLen ∧ base ≤ g ∧ g < w.heap.size ∧ (∀ off, w.frozen? ⟨g, off, none⟩ = false) ∧ ∀ i, i < xs.length → (css.getD i []).length = sz ∧ cellsAt w g (0 + i * sz) (css.getD i []) := by
 have hz : ∀ c ∈ css, c.length = sz := fun c hc => by
  obtain ⟨i, hi, rfl⟩ := List.mem_iff_getElem.1 hc
  have := G.len (h.el i (by rw [← h.l1]; exact hi))
  rwa [List.getD_eq_getElem?_getD, List.getElem?_eq_getElem hi] at this
 rcases h.row.2 with ⟨rfl, hn⟩ | ⟨g, cap, cur, rfl, h1, h2, h3, h4, h5, h6⟩
 ·exact Or.inl ⟨rfl, List.length_eq_zero_iff.1 hn⟩
 ·refine Or.inr ⟨g, cap, rfl, h3, h4, h1, lt_of_block h2, fun off => by simp [World.frozen?, h2], fun i hi => ⟨G.len (h.el i hi), fun t u hu => ?_⟩⟩
  have hi' : i < css.length := by rw [h.l1]; exact hi
  rw [List.getD_eq_getElem?_getD, List.getElem?_eq_getElem hi'] at hu
  have ht : t < sz := by have := (List.getElem?_eq_some_iff.1 hu).1; have h9 := hz _ (List.getElem_mem hi'); simp at this; omega
  have h7 := flat_get css i t hi' ht hz
  have hlt : i * sz + t < xs.length * sz := by
   have : (i + 1) * sz ≤ xs.length * sz := Nat.mul_le_mul_right sz (by omega)
   rw [Nat.succ_mul] at this
   omega
  rw [show css[i][t]? = some u from hu, ← h6, List.getElem?_take, if_pos hlt] at h7
  rw [cell_of_row _ _ _ _ _ _ h2, Nat.zero_add, ← Array.getElem?_toList]
  exact h7
theorem OwnL.sl (G : GoodO Ts sz E) {R : Rd α} {w : World} {base : Nat} {v : Value} {xs : List α} (h : OwnL E T sz w base v xs) (hR : ∀ cs x bs, E w base cs x bs → R (okF base w) w cs x) : ∃ A c, v = .slice A xs.length c ∧ xs.length ≤ c ∧ c ≤ maxLen ∧ Sl R sz (okF base w) w A xs.length xs := by
 obtain ⟨css, bss, h⟩ := h
 rcases h.cells G with ⟨rfl, rfl⟩ | ⟨g, c, rfl, h1, h2, h3, h4, h5, h6⟩
 ·exact ⟨none, 0, rfl, Nat.le_refl _, by simp [maxLen], rfl, fun hn => by simp at hn⟩
 ·refine ⟨_, c, rfl, h1, h2, rfl, fun hn => ⟨g, 0, rfl, ⟨h3, h4, h5⟩, fun i hi => ?_⟩⟩
  obtain ⟨h7, h8⟩ := h6 i hi
  exact ⟨_, h7, hR _ _ _ (h.el i hi), h8⟩
theorem OwnL.shape {w : World} {base : Nat} {v : Value} {xs : List α} (h : OwnL E T sz w base v xs) : ∃ A c, v = .slice A xs.length c := by
 obtain ⟨css, bss, h⟩ := h
 exact ownsRow_shape' h.row
end
end Go.Proofs.YtkehfilmpdoglaaGreat
namespace Go.Proofs.YtkehfilmpdoglaaGreat
open Go.RowKit
structure Rdr (w : World) (R : Nat) (a : Option Addr) (len cap : Nat) (zs : List Int) : Prop where
 code : w.cell? ⟨R, 0, none⟩ = some (.slice a len cap)
 place : ∃ p : Nat, p ≤ len ∧ w.cell? ⟨R, 1, none⟩ = some (.int .i64 p)
 free : w.frozen? ⟨R, 1, none⟩ = false
 row : IsRow .u8 w a len cap zs
 apart : ∀ x, a = some x → 0 < cap → x.block ≠ R
def Drew (R : Nat) (a : Option Addr) (len cap : Nat) (zs : List Int) (P : Value → World → Prop) (w : World) (e : Ending) (w' : World) : Prop :=
 ∃ v, e = .returned v ∧ P v w' ∧ But R w w' ∧ Rdr w' R a len cap zs
def isInt (lo hi : Int) (v : Value) (_ : World) : Prop := ∃ n : Int, v = .int .i64 n ∧ lo ≤ n ∧ n ≤ hi
theorem Rdr.drewN {w : World} {R : Nat} {a : Option Addr} {len cap : Nat} {zs : List Int} (h : Rdr w R a len cap zs) (n : Nat) : Rdr (w.drewN n) R a len cap zs := ⟨h.code, h.place, h.free, h.row, h.apart⟩
theorem Rdr.step {w : World} {R : Nat} {a : Option Addr} {len cap : Nat} {zs : List Int} (h : Rdr w R a len cap zs) (p : Nat) (hp : p ≤ len) (n : Nat) : Rdr ((w.drewN n).setCell ⟨R, 1, none⟩ (.int .i64 p)) R a len cap zs := by
 obtain ⟨q, _, hq⟩ := h.place
 exact ⟨(World.cell?_setCell_other _ _ _ _ (by simp)).trans h.code, ⟨p, hp, World.cell?_setCell_same _ _ _ (u := .int .i64 q) hq⟩, (World.frozen?_setCell _ _ _ _).trans h.free,
  h.row.but (((But.refl R w).drewN n).setCell rfl _) h.apart, h.apart⟩
set_option maxHeartbeats 400000 in
theorem rdNext (w : World) (R : Nat) (a : Option Addr) (len cap : Nat) (zs : List Int) (h : Rdr w R a len cap zs) :
  Calls Tryz.prog 54 #[.pointer (some ⟨R, 0, none⟩)] w (Drew R a len cap zs (isInt 0 255) w) := by
 have hc0 := h.code
 obtain ⟨p, hp, hc1⟩ := h.place
 have hfz := h.free
 have hlen := h.row.len_le
 by_cases hlt : p < len
 ·have hge : decide ((len : Int) ≤ p) = false := by simp; omega
  go_enter Tryz.func54, Tryz.ntmps54
  go_wp2
  go_quiet (fail)
  go_wp2
  have h2 := h.step (p + 1) (by omega) nq
  have hb := ((But.refl R w).drewN nq).setCell (p := ⟨R, 1, none⟩) rfl (.int .i64 ((p + 1 : Nat) : Int))
  have d1 := World.cell?_setCell_same (w.drewN nq) ⟨R, 1, none⟩ (.int .i64 ((p + 1 : Nat) : Int)) (u := .int .i64 p) hc1
  rw [show ((p + 1 : Nat) : Int) = (p : Int) + 1 by omega] at h2 hb d1
  generalize (w.drewN nq).setCell ⟨R, 1, none⟩ (.int .i64 ((p : Int) + 1)) = w2 at *
  clear hc0 hc1 hfz hge
  have d0 := h2.code
  obtain ⟨b, off, z, ha, hz, z0, z1⟩ := h2.row.byte hlt
  subst ha
  have H2 := Lib.hid h2; have HB := Lib.hid hb
  clear h2 hb h
  go_quiet (fail)
  go_wp2
  go_ret
  exact ⟨_, rfl, ⟨z, rfl, z0, z1⟩, HB.out.drewN _, H2.out.drewN _⟩
 ·go_enter Tryz.func54, Tryz.ntmps54
  go_wp2
  go_quiet (fail)
  go_wp2
  go_ret
  exact ⟨_, rfl, ⟨0, rfl, by omega, by omega⟩, (But.refl _ _).drewN _, ⟨hc0, ⟨p, hp, hc1⟩, hfz, h.row, h.apart⟩⟩
def isBelow (n : Int) (v : Value) (_ : World) : Prop := ∃ r : Int, v = .int .i64 r ∧ 0 ≤ r ∧ (r = 0 ∨ r < n)
set_option maxHeartbeats 400000 in
theorem rdBelow (n : Int) (w : World) (R : Nat) (a : Option Addr) (len cap : Nat) (zs : List Int) (h : Rdr w R a len cap zs) :
  Calls Tryz.prog 40 #[.pointer (some ⟨R, 0, none⟩), .int .i64 n] w (Drew R a len cap zs (isBelow n) w) := by
 by_cases h1 : n ≤ 1
 ·go_enter Tryz.func40, Tryz.ntmps40
  go_wp2
  go_ret
  exact ⟨_, rfl, ⟨0, rfl, by omega, .inl rfl⟩, But.refl _ _, h⟩
 by_cases h2 : n ≤ 256
 ·have g1 : 1 < n := by omega
  go_enter Tryz.func40, Tryz.ntmps40
  go_wp2_with fail
  refine (rdNext w R a len cap zs h).mono ?_
  rintro e w' ⟨v, rfl, ⟨x, rfl, x0, x1⟩, hb, hr⟩
  go_wp2_with fail
  go_ret
  exact ⟨_, rfl, ⟨x % n, rfl, Int.emod_nonneg _ (by omega), .inr (Int.emod_lt_of_pos _ (by omega))⟩, hb, hr⟩
 ·have g1 : 256 < n := by omega
  go_enter Tryz.func40, Tryz.ntmps40
  go_wp2_with fail
  refine (rdNext w R a len cap zs h).mono ?_
  rintro e w' ⟨v, rfl, ⟨x, rfl, x0, x1⟩, hb, hr⟩
  go_wp2_with fail
  refine (rdNext w' R a len cap zs hr).mono ?_
  rintro e w2 ⟨v, rfl, ⟨y, rfl, y0, y1⟩, hb2, hr2⟩
  go_wp2_with fail
  go_ret
  exact ⟨_, rfl, ⟨(x * 256 + y) % n, rfl, Int.emod_nonneg _ (by omega), .inr (Int.emod_lt_of_pos _ (by omega))⟩, hb.trans hb2, hr2⟩
def isBool (v : Value) (_ : World) : Prop := ∃ b : Bool, v = .bool b
theorem rdOnce (n : Int) (w : World) (R : Nat) (a : Option Addr) (len cap : Nat) (zs : List Int) (h : Rdr w R a len cap zs) :
  Calls Tryz.prog 36 #[.pointer (some ⟨R, 0, none⟩), .int .i64 n] w (Drew R a len cap zs isBool w) := by
 go_enter Tryz.func36, Tryz.ntmps36
 go_wp2_with fail
 refine (rdBelow n w R a len cap zs h).mono ?_
 rintro e w' ⟨v, rfl, ⟨x, rfl, x0, x1⟩, hb, hr⟩
 go_wp2_with fail
 go_ret
 exact ⟨_, rfl, ⟨_, rfl⟩, hb, hr⟩
def isU64 (v : Value) (_ : World) : Prop := ∃ n : Int, v = .int .u64 n ∧ (Lit.int .u64 n).wf = true
set_option maxHeartbeats 1000000 in
theorem rdWord (w : World) (R : Nat) (a : Option Addr) (len cap : Nat) (zs : List Int) (h : Rdr w R a len cap zs) :
  Calls Tryz.prog 82 #[.pointer (some ⟨R, 0, none⟩)] w (Drew R a len cap zs isU64 w) := by
 go_enter Tryz.func82, Tryz.ntmps82
 go_wp2
 go_loopw [3, 4] (fun x i wr => ∃ (k : Nat) (n : Int), k ≤ 8 ∧ i = .int .i64 k ∧ x = .int .u64 n ∧ Hid ((Lit.int .u64 n).wf = true) ∧ But R w wr ∧ Rdr wr R a len cap zs) (fun _ i _ => 8 - (intOf i).toNat)
 case atStart => exact ⟨0, 0, by omega, rfl, rfl, Lib.hid (by decide), But.refl _ _, h⟩
 case round =>
  obtain ⟨k, n, hk, rfl, rfl, hn, hb, hr⟩ := hrel
  by_cases hlt : k < 8
  ·go_wp2_with fail
   refine (rdNext wr R a len cap zs hr).mono ?_
   rintro e w' ⟨v, rfl, ⟨x, rfl, x0, x1⟩, hb2, hr2⟩
   go_wp2_with fail
   go_roundw
   case rel => exact ⟨k + 1, _, by omega, by go_num, rfl, Lib.hid (wf_bits _ _ _ _), hb.trans hb2, hr2⟩
   case measure => simp [intOf]; omega
  ·go_wp2
   go_ret
   exact ⟨_, rfl, ⟨n, rfl, hn.out⟩, hb, hr⟩
set_option maxHeartbeats 400000 in
theorem rdNear (lo hi : Int) (h1 : -2000000000 ≤ lo) (h2 : lo ≤ hi) (h3 : hi ≤ 2000000000) (w : World) (R : Nat) (a : Option Addr) (len cap : Nat) (zs : List Int) (h : Rdr w R a len cap zs) :
  Calls Tryz.prog 55 #[.pointer (some ⟨R, 0, none⟩), .int .i64 lo, .int .i64 hi] w (Drew R a len cap zs (isInt lo hi) w) := by
 go_enter Tryz.func55, Tryz.ntmps55
 go_wp2_with fail
 refine (rdBelow _ w R a len cap zs h).mono ?_
 rintro e w' ⟨v, rfl, ⟨x, rfl, x0, x1⟩, hb, hr⟩
 by_cases c0 : x = 0
 ·subst c0
  go_wp2
  go_ret
  exact ⟨_, rfl, ⟨lo, rfl, by omega, by omega⟩, hb, hr⟩
 by_cases c1 : x = 1
 ·subst c1
  go_wp2
  go_ret
  exact ⟨_, rfl, ⟨hi, rfl, by omega, by omega⟩, hb, hr⟩
 have d0 : (x == 0) = false := by simpa using c0
 have d1 : (x == 1) = false := by simpa using c1
 go_wp2_with fail
 refine (rdWord w' R a len cap zs hr).mono ?_
 rintro e w2 ⟨v, rfl, ⟨y, rfl, hy⟩, hb2, hr2⟩
 obtain ⟨y0, y1⟩ := bounds_u64 hy
 clear hy
 go_wp2_with fail
 go_ret
 have m0 := Int.emod_nonneg (y / 2) (show hi - lo + 1 ≠ 0 by omega)
 have m1 := Int.emod_lt_of_pos (y / 2) (show 0 < hi - lo + 1 by omega)
 exact ⟨_, rfl, ⟨_, rfl, by unfold wrap64; omega, by unfold wrap64; omega⟩, hb.trans hb2, hr2⟩
theorem Rdr.alloc {w : World} {R : Nat} {a : Option Addr} {len cap : Nat} {zs : List Int} (h : Rdr w R a len cap zs) (o : Obj) : Rdr (w.alloc o) R a len cap zs := by
 obtain ⟨p, hp, hc1⟩ := h.place
 have hlt : R < w.heap.size := cell_lt h.code
 have hb : But (w.heap.size) w (w.alloc o) := (But.refl _ _).alloc o
 exact ⟨(hb.cell hlt (Nat.ne_of_lt hlt)).trans h.code, ⟨p, hp, (hb.cell hlt (Nat.ne_of_lt hlt)).trans hc1⟩, (hb.frozen hlt (Nat.ne_of_lt hlt)).trans h.free,
  h.row.but ((But.refl R w).alloc o) h.apart, h.apart⟩
theorem new_cell {R : Nat} {w w' : World} {xs : Array Value} {T : TypeId} (hb : But R (w.alloc (.cells xs T)) w') (hR : R < w.heap.size) (k : Nat) (hk : k < xs.size) : w'.cell? ⟨w.heap.size, k, none⟩ = some xs[k] := by
 rw [hb.cell (by simp) (by simpa using Nat.ne_of_gt hR), World.cell?_alloc_new]
 simp [hk]
theorem Rdr.setNew {w w' : World} {R : Nat} {a : Option Addr} {len cap : Nat} {zs : List Int} (h0 : Rdr w R a len cap zs) (h : Rdr w' R a len cap zs) {p : Addr} (hp : w.heap.size ≤ p.block) (v : Value) : Rdr (w'.setCell p v) R a len cap zs := by
 have hR : R < w.heap.size := cell_lt h0.code
 have hc : ∀ q : Addr, q.block < w.heap.size → (w'.setCell p v).cell? q = w'.cell? q := fun q hq => World.cell?_setCell_other _ _ _ _ (fun e => by subst e; omega)
 obtain ⟨i, hi, hi1⟩ := h.place
 refine ⟨(hc _ hR).trans h.code, ⟨i, hi, (hc _ hR).trans hi1⟩, (World.frozen?_setCell _ _ _ _).trans h.free, ?_, h.apart⟩
 rcases h0.row with e | ⟨x, rfl, hl, hm, hz, hcell, hwz⟩
 ·exact .inl e
 ·rcases h.row with ⟨e, _⟩ | ⟨x', e, _, _, _, hcell', _⟩
  ·cases e
  ·cases e
   exact .inr ⟨x, rfl, hl, hm, hz, fun i hi => (hc _ (cell_lt (hcell i hi))).trans (hcell' i hi), hwz⟩
theorem four {x n : Int} (h0 : 0 ≤ x) (h1 : x = 0 ∨ x < n) (hn : n = 4) : x = 0 ∨ x = 1 ∨ x = 2 ∨ x = 3 := by omega
set_option maxHeartbeats 400000 in
theorem rdOff (lo hi : Int) (h1 : -2000000000 ≤ lo) (h2 : lo ≤ hi) (h3 : hi ≤ 2000000000) (w : World) (R : Nat) (a : Option Addr) (len cap : Nat) (zs : List Int) (h : Rdr w R a len cap zs) :
  Calls Tryz.prog 41 #[.pointer (some ⟨R, 0, none⟩), .int .i64 lo, .int .i64 hi] w (Drew R a len cap zs (isInt (-9223372036854775808) 9223372036854775807) w) := by
 go_enter Tryz.func41, Tryz.ntmps41
 go_wp2_with fail
 refine (rdOnce _ w R a len cap zs h).mono ?_
 rintro e w' ⟨v, rfl, ⟨x, rfl⟩, hb, hr⟩
 have hlt : R < w'.heap.size := cell_lt hr.code
 cases x with
 | false =>
  go_wp2_with fail
  refine (rdNear lo hi h1 h2 h3 w' R a len cap zs hr).mono ?_
  rintro e w2 ⟨v, rfl, ⟨y, rfl, y0, y1⟩, hb2, hr2⟩
  go_wp2_with fail
  go_ret
  exact ⟨_, rfl, ⟨_, rfl, by omega, by omega⟩, hb.trans hb2, hr2⟩
 | true =>
  go_wp2_with fail
  refine (rdBelow _ _ R a len cap zs (hr.alloc _)).mono ?_
  rintro e w2 ⟨v, rfl, ⟨y, rfl, y0, y1⟩, hb2, hr2⟩
  have hb3 := (hb.alloc _).trans hb2
  rcases four y0 y1 rfl with rfl | rfl | rfl | rfl
  ·have c := new_cell hb2 hlt 0 (by simp)
   go_wp2_with fail
   go_ret
   exact ⟨_, rfl, ⟨_, rfl, by omega, by omega⟩, hb3, hr2⟩
  ·have c := new_cell hb2 hlt 1 (by simp)
   go_wp2_with fail
   go_ret
   exact ⟨_, rfl, ⟨_, rfl, by omega, by omega⟩, hb3, hr2⟩
  ·have c := new_cell hb2 hlt 2 (by simp)
   go_wp2_with fail
   go_ret
   exact ⟨_, rfl, ⟨_, rfl, by omega, by omega⟩, hb3, hr2⟩
  ·have c := new_cell hb2 hlt 3 (by simp)
   go_wp2_with fail
   go_ret
   exact ⟨_, rfl, ⟨_, rfl, by omega, by omega⟩, hb3, hr2⟩
theorem Rdr.new {w : World} {a : Option Addr} {len cap : Nat} {zs : List Int} (h : IsRow .u8 w a len cap zs) (T : TypeId) : Rdr (w.alloc (.cells #[.slice a len cap, .int .i64 0] T)) w.heap.size a len cap zs := by
 refine ⟨by simp, ⟨0, by omega, by simp⟩, World.frozen?_alloc_at _ _ _ _ rfl, ?_, ?_⟩
 ·rcases h with e | ⟨x, rfl, hl, hm, hz, hcell, hwz⟩
  ·exact .inl e
  ·exact .inr ⟨x, rfl, hl, hm, hz, fun i hi => (((But.refl w.heap.size w).alloc _).cell (cell_lt (hcell i hi)) (Nat.ne_of_lt (cell_lt (hcell i hi)))).trans (hcell i hi), hwz⟩
 ·intro x e hc
  rcases h with ⟨_, _, e0, _⟩ | ⟨y, rfl, hl, hm, hz, hcell, hwz⟩
  ·omega
  ·cases e
   have := cell_lt (hcell 0 (by omega))
   rw [add_block] at this
   omega
theorem specOpen (a : Option Addr) (len cap : Nat) (w : World) :
  Calls Tryz.prog 23 #[.slice a len cap] w fun e w' => e = .returned (.pointer (some ⟨w.heap.size, 0, none⟩)) ∧ w.alloc (.cells #[.slice a len cap, .int .i64 0] 82) = w' := by
 go_enter Tryz.func23, Tryz.ntmps23
 go_wp2
 go_ret
 exact ⟨rfl, rfl⟩
theorem lawsBig (a : Option Addr) (len cap : Nat) (w : World) :
  Calls Tryz.prog 4 #[.slice a len cap] w fun e w' => e = .returned (.bool (decide ((1048576 : Int) < len))) ∧ w = w' := by
 go_enter Tryz.func4, Tryz.ntmps4
 go_wp2
 go_ret
 exact ⟨rfl, rfl⟩
def Drawn (P : Value → World → Prop) (w : World) (e : Ending) (w' : World) : Prop := ∃ v, e = .returned v ∧ P v w' ∧ Below w.heap.size w w'
theorem IsRow.below {w w' : World} {a : Option Addr} {len cap : Nat} {zs : List Int} (h : IsRow .u8 w a len cap zs) (hb : Below w.heap.size w w') : IsRow .u8 w' a len cap zs := by
 rcases h with e | ⟨x, rfl, hl, hm, hz, hcell, hwz⟩
 ·exact .inl e
 ·exact .inr ⟨x, rfl, hl, hm, hz, fun i hi => (hb.cell (cell_lt (hcell i hi))).trans (hcell i hi), hwz⟩
def Hold (base : Nat) (w w' : World) : Prop := w.heap.size ≤ w'.heap.size ∧ ∀ g, base ≤ g → g < w.heap.size → w'.heap[g]? = w.heap[g]?
theorem Hold.trans {base : Nat} {a b c : World} (h : Hold base a b) (k : Hold base b c) : Hold base a c := ⟨Nat.le_trans h.1 k.1, fun g hg hl => (k.2 g hg (Nat.lt_of_lt_of_le hl h.1)).trans (h.2 g hg hl)⟩
theorem Hold.but {base R : Nat} {w w' : World} (h : But R w w') (hR : R < base) : Hold base w w' := ⟨h.size, fun g hg hl => h.block g hl (by omega)⟩
theorem Hold.alloc (base : Nat) (w : World) (o : Obj) : Hold base w (w.alloc o) := ⟨by simp, fun g _ hl => Below.heap_alloc _ _ _ hl⟩
def Blo (w : World) (g : Nat) (xs : List Value) (T : TypeId) : Prop := w.heap[g]? = some (.cells xs.toArray T)
theorem Blo.lt {w : World} {g : Nat} {xs : List Value} {T : TypeId} (h : Blo w g xs T) : g < w.heap.size := lt_of_block h
theorem Blo.hold {base : Nat} {w w' : World} {g : Nat} {xs : List Value} {T : TypeId} (h : Blo w g xs T) (hb : base ≤ g) (hh : Hold base w w') : Blo w' g xs T := (hh.2 g hb h.lt).trans h
theorem Blo.new (w : World) (xs : List Value) (T : TypeId) : Blo (w.alloc (.cells xs.toArray T)) w.heap.size xs T := Go.heap_alloc_last w _
theorem Blo.put {w : World} {g : Nat} {xs : List Value} {T : TypeId} (h : Blo w g xs T) (k : Nat) (v : Value) : Blo (w.setCell ⟨g, k, none⟩ v) g (xs.set k v) T := by
 have h' : w.heap[g]? = some (.cells xs.toArray T) := h
 have hl := lt_of_block h'
 unfold Blo World.setCell
 simp [Array.getElem?_modify, h']
theorem Blo.cell {w : World} {g : Nat} {xs : List Value} {T : TypeId} (h : Blo w g xs T) (k : Nat) (v : Value) (hv : xs[k]? = some v) : w.cell? ⟨g, k, none⟩ = some v := by
 have h' : w.heap[g]? = some (.cells xs.toArray T) := h
 simp only [World.cell?, h']
 simpa using hv
theorem Blo.free {w : World} {g : Nat} {xs : List Value} {T : TypeId} (h : Blo w g xs T) (k : Nat) : w.frozen? ⟨g, k, none⟩ = false := by
 have h' : w.heap[g]? = some (.cells xs.toArray T) := h
 simp [World.frozen?, h']
theorem Blo.set {w : World} {g : Nat} {xs : List Value} {T : TypeId} (h : Blo w g xs T) (p : Addr) (hp : p.block ≠ g) (v : Value) : Blo (w.setCell p v) g xs T := (Below.heap_setCell _ _ _ _ (by omega)).trans h
def okY (base : Nat) (w : World) (b : Nat) : Prop := base ≤ b ∧ ∃ xs T, w.heap[b]? = some (.cells xs T) ∧ T ≠ 57 ∧ T ≠ 86
theorem okY.okF {base : Nat} {w : World} {b : Nat} (h : okY base w b) : okF base w b := by
 obtain ⟨h1, xs, T, h2, -⟩ := h
 exact ⟨h1, lt_of_block h2, fun off => by simp [World.frozen?, h2]⟩
theorem okY.hold {base : Nat} {w w' : World} (hh : Hold base w w') {b : Nat} (h : okY base w b) : okY base w' b := by
 obtain ⟨h1, xs, T, h2, h3⟩ := h
 exact ⟨h1, xs, T, (hh.2 b h1 (lt_of_block h2)).trans h2, h3⟩
theorem okY.cell {base : Nat} {w w' : World} (hh : Hold base w w') {p : Addr} {v : Value} (h : okY base w p.block) (hc : w.cell? p = some v) : w'.cell? p = some v := by
 obtain ⟨h1, xs, T, h2, h3⟩ := h
 exact (World.cell?_of_block (w := w) (hh.2 p.block h1 (lt_of_block h2))).trans hc
def TC (w : World) (g : Nat) : Prop := ∃ xs T, w.heap[g]? = some (.cells xs T) ∧ (T = 57 ∨ T = 86)
theorem okY.ne {base : Nat} {w : World} {b g : Nat} (h : okY base w b) (hg : TC w g) : b ≠ g := by
 rintro rfl
 obtain ⟨h1, xs, T, h2, h3, h4⟩ := h
 obtain ⟨ys, T', h5, h6⟩ := hg
 rw [h2] at h5
 simp only [Option.some.injEq, Obj.cells.injEq] at h5
 obtain ⟨-, rfl, -⟩ := h5
 rcases h6 with h6 | h6
 ·exact h3 h6
 ·exact h4 h6
theorem okY.set {base : Nat} {w : World} {p : Addr} (hp : TC w p.block) (v : Value) {b : Nat} (h : okY base w b) : okY base (w.setCell p v) b := by
 have hn := h.ne hp
 obtain ⟨h1, xs, T, h2, h3⟩ := h
 exact ⟨h1, xs, T, (Below.heap_setCell _ _ _ _ (fun e => hn e)).trans h2, h3⟩
theorem Sl.laid {α : Type} {R : Rd α} {sz : Nat} {ok : Nat → Prop} {w : World} {g : Nat} {T : TypeId} {css : List (List Value)} {ds : List α} (hB : Blo w g css.flatten T) (hl : css.length = ds.length) (hok : ok g)
  (h : ∀ (i : Nat) (hi : i < css.length) (hd : i < ds.length), css[i].length = sz ∧ R ok w css[i] ds[i]) : Sl R sz ok w (some ⟨g, 0, none⟩) ds.length ds := by
 refine ⟨rfl, fun _ => ⟨g, 0, rfl, hok, fun i hi => ⟨css[i]'(by omega), (h i (by omega) hi).1, (h i (by omega) hi).2, fun j v hv => ?_⟩⟩⟩
 have hj : j < sz := by
  rw [← (h i (by omega) hi).1]
  exact (List.getElem?_eq_some_iff.1 hv).1
 have hc : css.flatten[i * sz + j]? = some v := by
  have hall : ∀ c ∈ css, c.length = sz := by
   intro c hc
   obtain ⟨k, hk, rfl⟩ := List.getElem_of_mem hc
   exact (h k hk (by omega)).1
  have key : ∀ (l : List (List Value)) (i : Nat) (hi : i < l.length), (∀ c ∈ l, c.length = sz) → l.flatten[i * sz + j]? = l[i][j]? := by
   intro l
   induction l with
   | nil => intro i hi; simp at hi
   | cons x l ih =>
    intro i hi ha
    have hx := ha x (List.mem_cons_self ..)
    cases i with
    | zero => rw [List.flatten_cons, Nat.zero_mul, Nat.zero_add, List.getElem?_append_left (by omega)]; rfl
    | succ i =>
     rw [List.flatten_cons, List.getElem?_append_right (by rw [hx, Nat.succ_mul]; omega), hx, show (i + 1) * sz + j - sz = i * sz + j by rw [Nat.succ_mul]; omega]
     exact ih i (by simpa using hi) fun c hc => ha c (List.mem_cons_of_mem _ hc)
  rw [key css i (by omega) hall]; exact hv
 rw [Nat.zero_add]
 show w.cell? ⟨g, i * sz + j, none⟩ = some v
 have hb : w.heap[g]? = some (.cells css.flatten.toArray T) := hB
 simp only [World.cell?, hb]
 simpa using hc
def TabY (base : Nat) (w : World) (gc : Nat) (cs : List Value) (t : Tb) : Prop := ∃ (n1 : Nat) (A2 : Option Addr) (n2 c2 : Nat) (A3 : Option Addr) (n3 c3 : Nat) (A4 : Option Addr) (n4 c4 : Nat) (A5 : Option Addr) (n5 c5 : Nat),
 cs = [.string t.name, .slice (some ⟨gc, 0, none⟩) n1 n1, .slice A2 n2 c2, .slice A3 n3 c3, .slice A4 n4 c4, .slice A5 n5 c5] ∧ base ≤ gc ∧ Blo w gc (t.cols.map Cl.cells).flatten 86 ∧ t.cols.length = n1 ∧ 2 ≤ n1 ∧
 Sl IntR 1 (okY base w) w A2 n2 t.key ∧ Sl UqR 1 (okY base w) w A3 n3 t.uniqs ∧ Sl CkR 1 (okY base w) w A4 n4 t.checks ∧ Sl FkR 5 (okY base w) w A5 n5 t.fks ∧ (n2 ≤ c2 ∧ n3 = c3 ∧ n4 ≤ c4 ∧ n5 ≤ c5) ∧ t.sz ≤ 1000
theorem TabY.hold {base : Nat} {w w' : World} {gc : Nat} {cs : List Value} {t : Tb} (h : TabY base w gc cs t) (hh : Hold base w w') : TabY base w' gc cs t := by
 obtain ⟨n1, A2, n2, c2, A3, n3, c3, A4, n4, c4, A5, n5, c5, e, hb, hB, hn, hp, h2, h3, h4, h5, hc, hz⟩ := h
 have ho : ∀ b, okY base w b → okY base w' b := fun b h => h.hold hh
 have hk : ∀ p v, okY base w p.block → w.cell? p = some v → w'.cell? p = some v := fun p v h hc => h.cell hh hc
 exact ⟨n1, A2, n2, c2, A3, n3, c3, A4, n4, c4, A5, n5, c5, e, hb, hB.hold hb hh, hn, hp, h2.stays IntR.stays ho hk, h3.stays UqR.stays ho hk, h4.stays CkR.stays ho hk, h5.stays FkR.stays ho hk, hc, hz⟩
theorem TabY.set {base : Nat} {w : World} {gc : Nat} {cs : List Value} {t : Tb} (h : TabY base w gc cs t) {p : Addr} (hp : TC w p.block) (hne : p.block ≠ gc) (v : Value) : TabY base (w.setCell p v) gc cs t := by
 obtain ⟨n1, A2, n2, c2, A3, n3, c3, A4, n4, c4, A5, n5, c5, e, hb, hB, hn, hq, h2, h3, h4, h5, hc, hz⟩ := h
 have ho : ∀ b, okY base w b → okY base (w.setCell p v) b := fun b h => h.set hp v
 have hk : ∀ q u, okY base w q.block → w.cell? q = some u → (w.setCell p v).cell? q = some u := fun q u h hc => (World.cell?_setCell_other _ _ _ _ (fun e => h.ne hp (by rw [e]))).trans hc
 exact ⟨n1, A2, n2, c2, A3, n3, c3, A4, n4, c4, A5, n5, c5, e, hb, hB.set p hne v, hn, hq, h2.stays IntR.stays ho hk, h3.stays UqR.stays ho hk, h4.stays CkR.stays ho hk, h5.stays FkR.stays ho hk, hc, hz⟩
theorem cols_flat (l : List Cl) (i : Nat) (hi : i < (l.map Cl.cells).length) (hd : i < l.length) {ok : Nat → Prop} {w : World} : (l.map Cl.cells)[i].length = 6 ∧ ClR ok w (l.map Cl.cells)[i] l[i] := by
 rw [List.getElem_map]; exact ⟨rfl, rfl⟩
theorem okF_blo {base : Nat} {w : World} {g : Nat} {xs : List Value} {T : TypeId} (hb : base ≤ g) (h : Blo w g xs T) : okF base w g := ⟨hb, h.lt, fun off => by have h' : w.heap[g]? = some (.cells xs.toArray T) := h; simp [World.frozen?, h']⟩
theorem TabY.reads {base : Nat} {w : World} {gc : Nat} {cs : List Value} {t : Tb} (h : TabY base w gc cs t) : TbR (okF base w) w cs t := by
 obtain ⟨n1, A2, n2, c2, A3, n3, c3, A4, n4, c4, A5, n5, c5, e, hb, hB, rfl, hp, h2, h3, h4, h5, hc, hz⟩ := h
 have ho : ∀ b, okY base w b → okF base w b := fun b h => h.okF
 have hk : ∀ p v, okY base w p.block → w.cell? p = some v → w.cell? p = some v := fun p v _ hc => hc
 exact ⟨_, _, _, A2, n2, c2, A3, n3, c3, A4, n4, c4, A5, n5, c5, e, Sl.laid hB (by simp) (okF_blo hb hB) (fun i hi hd => cols_flat _ i hi hd), h2.stays IntR.stays ho hk, h3.stays UqR.stays ho hk, h4.stays CkR.stays ho hk, h5.stays FkR.stays ho hk, ⟨Nat.le_refl _, hc.1, Nat.le_of_eq hc.2.1, hc.2.2⟩⟩
theorem TabY.uniq {base : Nat} {w : World} {gc : Nat} {cs : List Value} {t : Tb} (h : TabY base w gc cs t) {A : Option Addr} {n c : Nat} {us : List Uq} (hu : Sl UqR 1 (okY base w) w A n us) (hc : n = c) (hz : ({ t with uniqs := us } : Tb).sz ≤ 1000) : TabY base w gc (cs.set 3 (.slice A n c)) { t with uniqs := us } := by
 obtain ⟨n1, A2, n2, c2, A3, n3, c3, A4, n4, c4, A5, n5, c5, rfl, hb, hB, hn, hp, h2, h3, h4, h5, ⟨k2, k3, k4, k5⟩, _⟩ := h
 exact ⟨n1, A2, n2, c2, A, n, c, A4, n4, c4, A5, n5, c5, rfl, hb, hB, hn, hp, h2, hu, h4, h5, ⟨k2, hc, k4, k5⟩, hz⟩
theorem TabY.chk {base : Nat} {w : World} {gc : Nat} {cs : List Value} {t : Tb} (h : TabY base w gc cs t) {A : Option Addr} {n c : Nat} {us : List Ck} (hu : Sl CkR 1 (okY base w) w A n us) (hc : n ≤ c) (hz : ({ t with checks := us } : Tb).sz ≤ 1000) : TabY base w gc (cs.set 4 (.slice A n c)) { t with checks := us } := by
 obtain ⟨n1, A2, n2, c2, A3, n3, c3, A4, n4, c4, A5, n5, c5, rfl, hb, hB, hn, hp, h2, h3, h4, h5, ⟨k2, k3, k4, k5⟩, _⟩ := h
 exact ⟨n1, A2, n2, c2, A3, n3, c3, A, n, c, A5, n5, c5, rfl, hb, hB, hn, hp, h2, h3, hu, h5, ⟨k2, k3, hc, k5⟩, hz⟩
theorem TabY.len {base : Nat} {w : World} {gc : Nat} {cs : List Value} {t : Tb} (h : TabY base w gc cs t) : ∃ x0 x1 x2 x3 x4 x5, cs = [x0, x1, x2, x3, x4, x5] := by
 obtain ⟨n1, A2, n2, c2, A3, n3, c3, A4, n4, c4, A5, n5, c5, rfl, -⟩ := h
 exact ⟨_, _, _, _, _, _, rfl⟩
theorem Sl.nilY {α : Type} {R : Rd α} {sz : Nat} {ok : Nat → Prop} {w : World} : Sl R sz ok w none 0 ([] : List α) := ⟨rfl, fun h => by omega⟩
theorem intsY {base : Nat} {w : World} {g : Nat} (ns : List Int) (hB : Blo w g (ns.map (Value.int .i64)) 2) (hb : base ≤ g) : Sl IntR 1 (okY base w) w (some ⟨g, 0, none⟩) ns.length ns := by
 have hB2 : Blo w g (ns.map fun n => [Value.int .i64 n]).flatten 2 := by
  have e : (ns.map fun n => [Value.int .i64 n]).flatten = ns.map (Value.int .i64) := by
   clear hB
   induction ns with
   | nil => rfl
   | cons n ns ih => rw [List.map_cons, List.flatten_cons, ih]; rfl
  rw [e]; exact hB
 refine Sl.laid hB2 (by simp) ⟨hb, _, _, hB2, by decide, by decide⟩ fun i hi hd => ?_
 rw [List.getElem_map]; exact ⟨rfl, rfl⟩
theorem uniqY {base : Nat} {w : World} {g g1 : Nat} (ns : List Int) (hB : Blo w g1 (ns.map (Value.int .i64)) 2) (hb : base ≤ g1) (hB2 : Blo w g [.slice (some ⟨g1, 0, none⟩) ns.length ns.length] 60) (hb2 : base ≤ g) : Sl UqR 1 (okY base w) w (some ⟨g, 0, none⟩) 1 [⟨ns⟩] := by
 have h := Sl.laid (R := UqR) (sz := 1) (ok := okY base w) (css := [[.slice (some ⟨g1, 0, none⟩) ns.length ns.length]]) (ds := [⟨ns⟩]) (g := g) (T := 60) hB2 rfl ⟨hb2, _, _, hB2, by decide, by decide⟩ fun i hi hd => by
  obtain rfl : i = 0 := by simpa using hi
  exact ⟨rfl, _, _, _, rfl, intsY ns hB hb, Nat.le_refl _⟩
 exact h
def SchY (base : Nat) (w : World) (v : Value) (xs : List (Nat × List Value × Tb)) : Prop :=
 w.ownsRow base 57 6 v xs.length (xs.map (·.2.1)).flatten ∧ (xs.map (·.1)).Nodup ∧ ∀ x ∈ xs, TabY base w x.1 x.2.1 x.2.2
def PB (w w' : World) (R : Nat) (a : Option Addr) (len cap : Nat) (zs : List Int) (gp gc : Nat) (m : Nat) : Prop := ∃ cs t, Blo w' gp cs 57 ∧ w.heap.size ≤ gp ∧ TabY w.heap.size w' gc cs t ∧ t.cols.length = 3 ∧ But R w w' ∧ Rdr w' R a len cap zs ∧ t.sz ≤ m
theorem PB.but {w w' w'' : World} {R : Nat} {a : Option Addr} {len cap : Nat} {zs : List Int} {gp gc m : Nat} (h : PB w w' R a len cap zs gp gc m) (hb : But R w' w'') (hr : Rdr w'' R a len cap zs) (hR : R < w.heap.size) : PB w w'' R a len cap zs gp gc m := by
 obtain ⟨cs, t, h1, h2, h3, h4, h5, h6, h7⟩ := h
 exact ⟨cs, t, h1.hold h2 (Hold.but hb hR), h2, h3.hold (Hold.but hb hR), h4, h5.trans hb, hr, h7⟩
theorem PB.mono {w w' : World} {R : Nat} {a : Option Addr} {len cap : Nat} {zs : List Int} {gp gc m m' : Nat} (h : PB w w' R a len cap zs gp gc m) (hm : m ≤ m') : PB w w' R a len cap zs gp gc m' := by
 obtain ⟨cs, t, h1, h2, h3, h4, h5, h6, h7⟩ := h
 exact ⟨cs, t, h1, h2, h3, h4, h5, h6, by omega⟩
theorem Blo.tc {w : World} {g : Nat} {xs : List Value} (h : Blo w g xs 57) : TC w g := ⟨_, _, h, .inl rfl⟩
theorem TabY.ne {base : Nat} {w : World} {gc g : Nat} {cs xs : List Value} {t : Tb} (h : TabY base w gc cs t) (hg : Blo w g xs 57) : g ≠ gc := by
 rintro rfl
 obtain ⟨n1, A2, n2, c2, A3, n3, c3, A4, n4, c4, A5, n5, c5, e, hb, hB, -⟩ := h
 unfold Blo at hB hg
 rw [hB] at hg
 simp only [Option.some.injEq, Obj.cells.injEq] at hg
 exact absurd hg.2.1 (by decide)
theorem PB.cell {w w' : World} {R : Nat} {a : Option Addr} {len cap : Nat} {zs : List Int} {gp gc m : Nat} (h : PB w w' R a len cap zs gp gc m) {w2 : World} (hh : Hold w.heap.size w' w2) (k : Nat) (hk : k < 6) : (∃ u, w2.cell? ⟨gp, k, none⟩ = some u) ∧ w2.frozen? ⟨gp, k, none⟩ = false := by
 obtain ⟨cs, t, h1, h2, h3, -⟩ := h
 obtain ⟨x0, x1, x2, x3, x4, x5, rfl⟩ := h3.len
 have hB := h1.hold h2 hh
 refine ⟨⟨[x0, x1, x2, x3, x4, x5][k]'(by simpa using hk), hB.cell k _ (by rw [List.getElem?_eq_getElem])⟩, hB.free k⟩
theorem PB.uniq {w y : World} {R : Nat} {a : Option Addr} {len cap : Nat} {zs : List Int} {gp gc m : Nat} (h : PB w y R a len cap zs gp gc m) (h0 : Rdr w R a len cap zs) (hm : m ≤ 900) :
  PB w (((y.alloc (.cells #[.int .i64 2] 2)).alloc (.cells #[.slice (some ⟨y.heap.size, 0, none⟩) 1 1] 60)).setCell ⟨gp, 3, none⟩ (.slice (some ⟨y.heap.size + 1, 0, none⟩) 1 1)) R a len cap zs gp gc (m + 2) := by
 obtain ⟨cs, t, h1, h2, h3, h4, h5, h6, h7⟩ := h
 have b1 := Blo.new y ([2].map (Value.int .i64)) 2
 have b2 := Blo.new (y.alloc (.cells ([2].map (Value.int .i64)).toArray 2)) [.slice (some ⟨y.heap.size, 0, none⟩) 1 1] 60
 rw [show (y.alloc (.cells ([2].map (Value.int .i64)).toArray 2)).heap.size = y.heap.size + 1 by simp] at b2
 have hw : w.heap.size ≤ y.heap.size := h5.size
 have k1 := Hold.alloc w.heap.size y (.cells ([2].map (Value.int .i64)).toArray 2)
 have k2 := Hold.alloc w.heap.size (y.alloc (.cells ([2].map (Value.int .i64)).toArray 2)) (.cells [.slice (some ⟨y.heap.size, 0, none⟩) 1 1].toArray 60)
 have hu := uniqY (base := w.heap.size) [2] (b1.hold hw k2) hw b2 (by omega)
 have hz : ({ t with uniqs := [⟨[2]⟩] } : Tb).sz ≤ t.sz + 2 := by
  have e : szL Uq.sz [⟨[2]⟩] = 2 := rfl
  unfold Tb.sz
  simp only [e]
  omega
 have t1 := (h3.hold (k1.trans k2)).uniq hu rfl (by omega)
 have B1 := h1.hold h2 (k1.trans k2)
 exact ⟨cs.set 3 (.slice (some ⟨y.heap.size + 1, 0, none⟩) 1 1), { t with uniqs := [⟨[2]⟩] }, B1.put 3 _, h2, t1.set B1.tc (t1.ne B1) _, h4, ((h5.alloc _).alloc _).setNew h2 _, h0.setNew ((h6.alloc _).alloc _) h2 _, by omega⟩
theorem chkY {base : Nat} {w : World} {g g1 : Nat} (ts : List Tk) (hB : Blo w g1 (ts.map Tk.cells).flatten 90) (hb : base ≤ g1) (hB2 : Blo w g [.slice (some ⟨g1, 0, none⟩) ts.length ts.length] 64) (hb2 : base ≤ g) : Sl CkR 1 (okY base w) w (some ⟨g, 0, none⟩) 1 [⟨ts⟩] := by
 have h := Sl.laid (R := CkR) (sz := 1) (ok := okY base w) (css := [[.slice (some ⟨g1, 0, none⟩) ts.length ts.length]]) (ds := [⟨ts⟩]) (g := g) (T := 64) hB2 rfl ⟨hb2, _, _, hB2, by decide, by decide⟩ fun i hi hd => by
  obtain rfl : i = 0 := by simpa using hi
  refine ⟨rfl, _, _, _, rfl, Sl.laid hB (by simp) ⟨hb, _, _, hB, by decide, by decide⟩ fun i hi hd => ?_, Nat.le_refl _⟩
  rw [List.getElem_map]; exact ⟨rfl, rfl⟩
 exact h
def toksP : List Tk := [⟨1, 0, 0, 0, ⟨#[]⟩⟩, ⟨2, 0, 1, 4, ⟨#[]⟩⟩, ⟨4, 0, 0, 0, ⟨#[]⟩⟩]
theorem PB.chk {w y : World} {R : Nat} {a : Option Addr} {len cap : Nat} {zs : List Int} {gp gc m : Nat} (h : PB w y R a len cap zs gp gc m) (h0 : Rdr w R a len cap zs) (hm : m ≤ 900) :
  PB w (((y.alloc (.cells #[.int .i64 1, .int .i64 0, .int .i64 0, .int .i64 0, .string ⟨#[]⟩, .int .i64 2, .int .i64 0, .int .i64 1, .int .i64 4, .string ⟨#[]⟩, .int .i64 4, .int .i64 0, .int .i64 0, .int .i64 0, .string ⟨#[]⟩] 90)).alloc (.cells #[.slice (some ⟨y.heap.size, 0, none⟩) 3 3] 64)).setCell ⟨gp, 4, none⟩ (.slice (some ⟨y.heap.size + 1, 0, none⟩) 1 1)) R a len cap zs gp gc (m + 4) := by
 obtain ⟨cs, t, h1, h2, h3, h4, h5, h6, h7⟩ := h
 have b1 := Blo.new y (toksP.map Tk.cells).flatten 90
 have b2 := Blo.new (y.alloc (.cells (toksP.map Tk.cells).flatten.toArray 90)) [.slice (some ⟨y.heap.size, 0, none⟩) 3 3] 64
 rw [show (y.alloc (.cells (toksP.map Tk.cells).flatten.toArray 90)).heap.size = y.heap.size + 1 by simp] at b2
 have hw : w.heap.size ≤ y.heap.size := h5.size
 have k1 := Hold.alloc w.heap.size y (.cells (toksP.map Tk.cells).flatten.toArray 90)
 have k2 := Hold.alloc w.heap.size (y.alloc (.cells (toksP.map Tk.cells).flatten.toArray 90)) (.cells [.slice (some ⟨y.heap.size, 0, none⟩) 3 3].toArray 64)
 have hu := chkY (base := w.heap.size) toksP (b1.hold hw k2) hw b2 (by omega)
 have hz : ({ t with checks := [⟨toksP⟩] } : Tb).sz ≤ t.sz + 4 := by
  have e : szL Ck.sz [⟨toksP⟩] = 4 := by decide
  unfold Tb.sz
  simp only [e]
  omega
 have t1 := (h3.hold (k1.trans k2)).chk hu (Nat.le_refl _) (by omega)
 have B1 := h1.hold h2 (k1.trans k2)
 exact ⟨cs.set 4 (.slice (some ⟨y.heap.size + 1, 0, none⟩) 1 1), { t with checks := [⟨toksP⟩] }, B1.put 4 _, h2, t1.set B1.tc (t1.ne B1) _, h4, ((h5.alloc _).alloc _).setNew h2 _, h0.setNew ((h6.alloc _).alloc _) h2 _, by omega⟩
theorem SchY.hold {base : Nat} {w w' : World} {v : Value} {xs : List (Nat × List Value × Tb)} (h : SchY base w v xs) (hh : Hold base w w') : SchY base w' v xs := by
 obtain ⟨⟨h1, h2⟩, h3, h4⟩ := h
 refine ⟨⟨h1, ?_⟩, h3, fun x hx => (h4 x hx).hold hh⟩
 rcases h2 with h2 | ⟨g, cap, cur, rfl, k1, k2, k3⟩
 ·exact .inl h2
 ·exact .inr ⟨g, cap, cur, rfl, k1, (hh.2 g k1 (lt_of_block k2)).trans k2, k3⟩
theorem TabY.grown {base : Nat} {w w' : World} {row : Option Nat} {gc : Nat} {cs : List Value} {t : Tb} (h : TabY base w gc cs t) (hg : w.grownBy w' row) (hr : ∀ k, row = some k → ∃ cur, w.heap[k]? = some (.cells cur 57)) : TabY base w' gc cs t := by
 obtain ⟨n1, A2, n2, c2, A3, n3, c3, A4, n4, c4, A5, n5, c5, e, hb, hB, hn, hp, h2, h3, h4, h5, hc, hz⟩ := h
 have hne : ∀ b, okY base w b → some b ≠ row := fun b hb he => by
  obtain ⟨cur, hcur⟩ := hr b he.symm
  exact hb.ne ⟨_, _, hcur, .inl rfl⟩ rfl
 have ho : ∀ b, okY base w b → okY base w' b := fun b h => by
  have hn := hne b h
  obtain ⟨k1, xs, T, k2, k3⟩ := h
  exact ⟨k1, xs, T, (hg.block b (lt_of_block k2) hn).trans k2, k3⟩
 have hk : ∀ p v, okY base w p.block → w.cell? p = some v → w'.cell? p = some v := fun p v h hc => hg.cell hc (hne _ h)
 have hgc : some gc ≠ row := fun he => by
  obtain ⟨cur, hcur⟩ := hr gc he.symm
  unfold Blo at hB
  rw [hB] at hcur
  simp only [Option.some.injEq, Obj.cells.injEq] at hcur
  exact absurd hcur.2.1 (by decide)
 exact ⟨n1, A2, n2, c2, A3, n3, c3, A4, n4, c4, A5, n5, c5, e, hb, (hg.block gc hB.lt hgc).trans hB, hn, hp, h2.stays IntR.stays ho hk, h3.stays UqR.stays ho hk, h4.stays CkR.stays ho hk, h5.stays FkR.stays ho hk, hc, hz⟩
theorem SchY.row {base : Nat} {w : World} {v : Value} {xs : List (Nat × List Value × Tb)} (h : SchY base w v xs) : ∀ k, v.ownBlock = some k → ∃ cur, w.heap[k]? = some (.cells cur 57) := fun k hk => by
 rcases h.1.2 with ⟨rfl, -⟩ | ⟨g, cap, cur, rfl, k1, k2, -⟩
 ·cases hk
 ·obtain rfl := Option.some.inj hk
  exact ⟨cur, k2⟩
theorem SchY.app {base : Nat} {w w' : World} {v v' : Value} {xs : List (Nat × List Value × Tb)} {gc : Nat} {cs : List Value} {t : Tb} (h : SchY base w v xs) (ht : TabY base w gc cs t) (hn : gc ∉ xs.map (·.1))
  (h' : w'.ownsRow base 57 6 v' (xs.length + 1) ((xs.map (·.2.1)).flatten ++ cs)) (hg : w.grownBy w' v.ownBlock) : SchY base w' v' (xs ++ [(gc, cs, t)]) := by
 have hnd : ((xs ++ [(gc, cs, t)]).map (·.1)).Nodup := by
  rw [List.map_append, List.nodup_append]
  refine ⟨h.2.1, by simp, ?_⟩
  intro b hb c hc he
  have e2 : c = gc := by simpa using hc
  exact hn (by rw [← e2, ← he]; exact hb)
 refine ⟨by rw [List.length_append, List.map_append, List.flatten_append]; simpa using h', hnd, fun x hx => ?_⟩
 rcases List.mem_append.1 hx with hx | hx
 ·exact (h.2.2 x hx).grown hg h.row
 ·rw [List.mem_singleton.1 hx]
  exact ht.grown hg h.row
theorem SchY.one {base : Nat} {w : World} {gc : Nat} {cs : List Value} {t : Tb} (h : TabY base w gc cs t) (hb : base ≤ w.heap.size) : SchY base (w.alloc (.cells cs.toArray 57)) (.slice (some ⟨w.heap.size, 0, none⟩) 1 1) [(gc, cs, t)] := by
 obtain ⟨x0, x1, x2, x3, x4, x5, rfl⟩ := h.len
 refine ⟨⟨rfl, .inr ⟨w.heap.size, 1, _, rfl, hb, Go.heap_alloc_last w _, Nat.le_refl _, by simp [maxLen], rfl, by simp⟩⟩, by simp, fun x hx => ?_⟩
 rw [List.mem_singleton.1 hx]
 exact h.hold (Hold.alloc base w _)
theorem mkTab {base : Nat} {w : World} {gc gk gf gx : Nat} (nm tn : ByteArray) (cols : List Cl) (d u : Int) (df : Bool) (n : Nat) (hn : cols.length = n) (h0 : 2 ≤ n)
  (h1 : Blo w gc (cols.map Cl.cells).flatten 86) (h2 : Blo w gk [.int .i64 0] 2) (h3 : Blo w gf [.int .i64 1] 2) (h4 : Blo w gx [.slice (some ⟨gf, 0, none⟩) 1 1, .string tn, .int .i64 d, .int .i64 u, .bool df] 66)
  (b1 : base ≤ gc) (b2 : base ≤ gk) (b3 : base ≤ gf) (b4 : base ≤ gx) (hz : (⟨nm, cols, [0], [], [], [⟨[1], tn, d, u, df⟩]⟩ : Tb).sz ≤ 1000) :
  TabY base w gc [.string nm, .slice (some ⟨gc, 0, none⟩) n n, .slice (some ⟨gk, 0, none⟩) 1 1, .slice none 0 0, .slice none 0 0, .slice (some ⟨gx, 0, none⟩) 1 1] ⟨nm, cols, [0], [], [], [⟨[1], tn, d, u, df⟩]⟩ := by
 have hf := Sl.laid (R := FkR) (sz := 5) (ok := okY base w) (css := [[.slice (some ⟨gf, 0, none⟩) 1 1, .string tn, .int .i64 d, .int .i64 u, .bool df]]) (ds := [⟨[1], tn, d, u, df⟩]) (g := gx) (T := 66) h4 rfl ⟨b4, _, _, h4, by decide, by decide⟩ fun i hi hd => by
  obtain rfl : i = 0 := by simpa using hi
  exact ⟨rfl, _, _, _, rfl, intsY [1] h3 b3, Nat.le_refl _⟩
 exact ⟨n, _, 1, 1, none, 0, 0, none, 0, 0, _, 1, 1, rfl, b1, h1, hn, h0, intsY [0] h2 b2, Sl.nilY, Sl.nilY, hf, by omega, hz⟩
theorem TabY.lt {base : Nat} {w : World} {gc : Nat} {cs : List Value} {t : Tb} (h : TabY base w gc cs t) : gc < w.heap.size := by
 obtain ⟨_, _, _, _, _, _, _, _, _, _, _, _, _, _, _, hB, _⟩ := h
 exact hB.lt
theorem cellsY (w : World) (l : List Value) (t : TypeId) {g : Nat} (hg : g = w.heap.size) : ∀ j u, l[j]? = some u → (w.alloc (.cells l.toArray t)).cell? ((⟨g, 0, none⟩ : Addr).add j) = some u := by
 subst hg
 intro j u hj
 rw [addr_add, Nat.zero_add, cell_of_row _ _ _ _ _ _ (Go.heap_alloc_last w _)]
 simpa using hj
theorem but_above {w w' w'' : World} {R : Nat} (h : But R w w') (hb : Below w.heap.size w' w'') : But R w w'' :=
 ⟨hb.os.trans h.os, hb.tape.trans h.tape, hb.output.trans h.output, Nat.le_trans h.size hb.size, fun k hk hr => (hb.block k hk).trans (h.block k hk hr)⟩
theorem rdr_above {w w' w'' : World} {R : Nat} {a : Option Addr} {len cap : Nat} {zs : List Int} (h0 : Rdr w R a len cap zs) (h : Rdr w' R a len cap zs) (hb : Below w.heap.size w' w'') : Rdr w'' R a len cap zs := by
 have hR : R < w.heap.size := cell_lt h0.code
 obtain ⟨i, hi, hi1⟩ := h.place
 refine ⟨(hb.cell (p := ⟨R, 0, none⟩) hR).trans h.code, ⟨i, hi, (hb.cell (p := ⟨R, 1, none⟩) hR).trans hi1⟩, (hb.frozen (p := ⟨R, 1, none⟩) hR).trans h.free, ?_, h.apart⟩
 rcases h0.row with e | ⟨x, rfl, hl, hm, hz, hcell, hwz⟩
 ·exact .inl e
 ·rcases h.row with ⟨e, _⟩ | ⟨x', e, _, _, _, hcell', _⟩
  ·cases e
  ·cases e
   exact .inr ⟨x, rfl, hl, hm, hz, fun i hi => (hb.cell (cell_lt (hcell i hi))).trans (hcell' i hi), hwz⟩
def SB (w w' : World) (R : Nat) (a : Option Addr) (len cap : Nat) (zs : List Int) (v : Value) (n m : Nat) : Prop := ∃ xs, SchY w.heap.size w' v xs ∧ 0 < xs.length ∧ xs.length ≤ n ∧ (∀ x ∈ xs, x.2.2.sz ≤ m) ∧ But R w w' ∧ Rdr w' R a len cap zs
theorem SB.but {w w' w'' : World} {R : Nat} {a : Option Addr} {len cap : Nat} {zs : List Int} {v : Value} {n m : Nat} (h : SB w w' R a len cap zs v n m) (hb : But R w' w'') (hr : Rdr w'' R a len cap zs) (hR : R < w.heap.size) : SB w w'' R a len cap zs v n m := by
 obtain ⟨xs, h1, h2, h3, h4, h5, h6⟩ := h
 exact ⟨xs, h1.hold (Hold.but hb hR), h2, h3, h4, h5.trans hb, hr⟩
theorem SB.mono {w w' : World} {R : Nat} {a : Option Addr} {len cap : Nat} {zs : List Int} {v : Value} {n m n' m' : Nat} (h : SB w w' R a len cap zs v n m) (hn : n ≤ n') (hm : m ≤ m') : SB w w' R a len cap zs v n' m' := by
 obtain ⟨xs, h1, h2, h3, h4, h5, h6⟩ := h
 exact ⟨xs, h1, h2, by omega, fun x hx => Nat.le_trans (h4 x hx) hm, h5, h6⟩
theorem SB.rdr {w w' : World} {R : Nat} {a : Option Addr} {len cap : Nat} {zs : List Int} {v : Value} {n m : Nat} (h : SB w w' R a len cap zs v n m) : Rdr w' R a len cap zs := by
 obtain ⟨_, _, _, _, _, _, hr⟩ := h; exact hr
theorem SB.add {w q w' : World} {R : Nat} {a : Option Addr} {len cap : Nat} {zs : List Int} {v v' : Value} {xs : List (Nat × List Value × Tb)} {gc n m : Nat} {cs : List Value} {t : Tb} (h0 : Rdr w R a len cap zs) (hs : SchY w.heap.size q v xs) (ht : TabY w.heap.size q gc cs t) (hn : gc ∉ xs.map (·.1))
  (hl : xs.length ≤ n) (hm : ∀ x ∈ xs, x.2.2.sz ≤ m) (hm2 : t.sz ≤ m) (hb : But R w q) (hr : Rdr q R a len cap zs)
  (h' : w'.ownsRow w.heap.size 57 6 v' (xs.length + 1) ((xs.map (·.2.1)).flatten ++ cs)) (hg : q.grownBy w' v.ownBlock) : SB w w' R a len cap zs v' (n + 1) m := by
 have hB : Below w.heap.size q w' := (Below.refl w.heap.size q).grown hg hb.size fun k hk => (hs.1.lt k hk).1
 refine ⟨_, hs.app ht hn h' hg, by simp, by simpa using hl, fun x hx => ?_, but_above hb hB, rdr_above h0 hr hB⟩
 rcases List.mem_append.1 hx with hx | hx
 ·exact hm x hx
 ·rw [List.mem_singleton.1 hx]; exact hm2
theorem SB.table {w z1 z4 : World} {R : Nat} {a : Option Addr} {len cap : Nat} {zs : List Int} {v : Value} {n m : Nat} (h : SB w z1 R a len cap zs v n m) (hR : R < w.heap.size) (nm tn : ByteArray) (cols : List Cl) (d u : Int) (df : Bool) (hc : cols.length = 2)
  (hb : But R (((z1.alloc (.cells (cols.map Cl.cells).flatten.toArray 86)).alloc (.cells #[.int .i64 0] 2)).alloc (.cells #[.int .i64 1] 2)) z4) (hr : Rdr z4 R a len cap zs) (hz : (⟨nm, cols, [0], [], [], [⟨[1], tn, d, u, df⟩]⟩ : Tb).sz ≤ 1000) (box : List Value) (S : List Value) :
  ∃ xs, SchY w.heap.size (((z4.alloc (.cells #[.slice (some ⟨z1.heap.size + 1 + 1, 0, none⟩) 1 1, .string tn, .int .i64 d, .int .i64 u, .bool df] 66)).alloc (.cells box.toArray 57)).alloc (.cells S.toArray 57)) v xs ∧ 0 < xs.length ∧ xs.length ≤ n ∧ (∀ x ∈ xs, x.2.2.sz ≤ m) ∧ z1.heap.size ∉ xs.map (·.1) ∧
   TabY w.heap.size (((z4.alloc (.cells #[.slice (some ⟨z1.heap.size + 1 + 1, 0, none⟩) 1 1, .string tn, .int .i64 d, .int .i64 u, .bool df] 66)).alloc (.cells box.toArray 57)).alloc (.cells S.toArray 57)) z1.heap.size
    [.string nm, .slice (some ⟨z1.heap.size, 0, none⟩) 2 2, .slice (some ⟨z1.heap.size + 1, 0, none⟩) 1 1, .slice none 0 0, .slice none 0 0, .slice (some ⟨z4.heap.size, 0, none⟩) 1 1] ⟨nm, cols, [0], [], [], [⟨[1], tn, d, u, df⟩]⟩ ∧
   But R w (((z4.alloc (.cells #[.slice (some ⟨z1.heap.size + 1 + 1, 0, none⟩) 1 1, .string tn, .int .i64 d, .int .i64 u, .bool df] 66)).alloc (.cells box.toArray 57)).alloc (.cells S.toArray 57)) ∧
   Rdr (((z4.alloc (.cells #[.slice (some ⟨z1.heap.size + 1 + 1, 0, none⟩) 1 1, .string tn, .int .i64 d, .int .i64 u, .bool df] 66)).alloc (.cells box.toArray 57)).alloc (.cells S.toArray 57)) R a len cap zs := by
 obtain ⟨xs, h1, h2, h3, h4, h5, h6⟩ := h
 have hw : w.heap.size ≤ z1.heap.size := h5.size
 obtain ⟨C, eC⟩ : ∃ C, (cols.map Cl.cells).flatten = C := ⟨_, rfl⟩
 rw [eC] at hb
 have b1 := Blo.new z1 C 86
 have b2 := Blo.new (z1.alloc (.cells C.toArray 86)) [.int .i64 0] 2
 have b3 := Blo.new ((z1.alloc (.cells C.toArray 86)).alloc (.cells [.int .i64 0].toArray 2)) [.int .i64 1] 2
 rw [show (z1.alloc (.cells C.toArray 86)).heap.size = z1.heap.size + 1 by simp] at b2
 rw [show ((z1.alloc (.cells C.toArray 86)).alloc (.cells [.int .i64 0].toArray 2)).heap.size = z1.heap.size + 1 + 1 by simp] at b3
 have k1 := Hold.alloc w.heap.size z1 (.cells C.toArray 86)
 have k2 := Hold.alloc w.heap.size (z1.alloc (.cells C.toArray 86)) (.cells [.int .i64 0].toArray 2)
 have k3 := Hold.alloc w.heap.size ((z1.alloc (.cells C.toArray 86)).alloc (.cells [.int .i64 0].toArray 2)) (.cells [.int .i64 1].toArray 2)
 have kb : Hold w.heap.size (((z1.alloc (.cells C.toArray 86)).alloc (.cells [.int .i64 0].toArray 2)).alloc (.cells [.int .i64 1].toArray 2)) z4 := Hold.but hb hR
 have b4 := Blo.new z4 [.slice (some ⟨z1.heap.size + 1 + 1, 0, none⟩) 1 1, .string tn, .int .i64 d, .int .i64 u, .bool df] 66
 have hz4 : z1.heap.size + 1 + 1 + 1 ≤ z4.heap.size := by have := hb.size; simpa using this
 obtain ⟨X, eX⟩ : ∃ X, (Obj.cells #[.slice (some ⟨z1.heap.size + 1 + 1, 0, none⟩) 1 1, .string tn, .int .i64 d, .int .i64 u, .bool df] 66) = X := ⟨_, rfl⟩
 rw [eX] at b4 ⊢
 have q1 := Hold.alloc w.heap.size z4 X
 have q2 := Hold.alloc w.heap.size (z4.alloc X) (.cells box.toArray 57)
 have q3 := Hold.alloc w.heap.size ((z4.alloc X).alloc (.cells box.toArray 57)) (.cells S.toArray 57)
 have qq := q1.trans (q2.trans q3)
 refine ⟨xs, h1.hold (((k1.trans k2).trans k3).trans (kb.trans qq)), h2, h3, h4, fun hx => ?_, mkTab nm tn cols d u df 2 hc (by omega) (by rw [eC]; exact b1.hold hw ((k2.trans k3).trans (kb.trans qq))) (b2.hold (by omega) (k3.trans (kb.trans qq))) (b3.hold (by omega) (kb.trans qq)) (b4.hold (by omega) (q2.trans q3)) hw (by omega) (by omega) (by omega) hz,
  (((((h5.alloc _).alloc _).alloc _).trans hb).alloc _).alloc _ |>.alloc _, ((hr.alloc _).alloc _).alloc _⟩
 obtain ⟨x, hx, e⟩ := List.mem_map.1 hx
 have := (h1.2.2 x hx).lt
 omega
theorem TabY.len6 {base : Nat} {w : World} {gc : Nat} {cs : List Value} {t : Tb} (h : TabY base w gc cs t) : cs.length = 6 := by
 obtain ⟨_, _, _, _, _, _, rfl⟩ := h.len; rfl
theorem TabY.noKey {base : Nat} {w : World} {gc : Nat} {cs : List Value} {t : Tb} (h : TabY base w gc cs t) : TabY base w gc (cs.set 2 (.slice none 0 0)) { t with key := [] } := by
 obtain ⟨n1, A2, n2, c2, A3, n3, c3, A4, n4, c4, A5, n5, c5, rfl, hb, hB, hn, hp, h2, h3, h4, h5, ⟨k2, k3, k4, k5⟩, hz⟩ := h
 refine ⟨n1, none, 0, 0, A3, n3, c3, A4, n4, c4, A5, n5, c5, rfl, hb, hB, hn, hp, Sl.nilY, h3, h4, h5, ⟨Nat.le_refl _, k3, k4, k5⟩, ?_⟩
 unfold Tb.sz at hz ⊢
 simp only [List.length_nil]
 omega
theorem TabY.named {base : Nat} {w : World} {gc : Nat} {cs : List Value} {t : Tb} (h : TabY base w gc cs t) (nm : ByteArray) (hz : ({ t with name := nm } : Tb).sz ≤ 1000) : TabY base w gc (cs.set 0 (.string nm)) { t with name := nm } := by
 obtain ⟨n1, A2, n2, c2, A3, n3, c3, A4, n4, c4, A5, n5, c5, rfl, hb, hB, hn, hp, h2, h3, h4, h5, hc, _⟩ := h
 exact ⟨n1, A2, n2, c2, A3, n3, c3, A4, n4, c4, A5, n5, c5, rfl, hb, hB, hn, hp, h2, h3, h4, h5, hc, hz⟩
theorem SchY.head {base : Nat} {w : World} {v : Value} {x : Nat × List Value × Tb} {xs : List (Nat × List Value × Tb)} (h : SchY base w v (x :: xs)) : ∃ g cap, v = .slice (some ⟨g, 0, none⟩) (xs.length + 1) cap ∧ base ≤ g ∧ (∀ k u, x.2.1[k]? = some u → w.cell? ⟨g, k, none⟩ = some u) ∧ (∀ k, w.frozen? ⟨g, k, none⟩ = false) ∧ TC w g ∧ g ≠ x.1 ∧
  (∀ k u cs' t', k < 6 → cs' = x.2.1.set k u → TabY base (w.setCell ⟨g, k, none⟩ u) x.1 cs' t' → SchY base (w.setCell ⟨g, k, none⟩ u) v ((x.1, cs', t') :: xs)) := by
 obtain ⟨⟨h1, h2⟩, h3, h4⟩ := h
 have hx := h4 x (List.mem_cons_self ..)
 have hx6 := hx.len6
 rcases h2 with ⟨-, h2⟩ | ⟨g, cap, cur, rfl, k1, k2, k3, k4, k5, k6⟩
 ·simp at h2
 have hne : ∀ y ∈ x :: xs, g ≠ y.1 := fun y hy => by
  rintro rfl
  obtain ⟨_, _, _, _, _, _, _, _, _, _, _, _, _, _, _, hB, _⟩ := h4 y hy
  unfold Blo at hB
  rw [hB] at k2
  simp only [Option.some.injEq, Obj.cells.injEq] at k2
  exact absurd k2.2.1 (by decide)
 have htc : TC w g := ⟨_, _, k2, .inl rfl⟩
 have hlen : (x :: xs).length = xs.length + 1 := rfl
 rw [hlen] at k3 k6 h1
 refine ⟨g, cap, rfl, k1, fun k u hk => ?_, fun k => by simp [World.frozen?, k2], htc, hne x (List.mem_cons_self ..), fun k u cs' t' hk e ht => ?_⟩
 ·have hk6 : k < 6 := by rw [← hx6]; exact (List.getElem?_eq_some_iff.1 hk).1
  have e : (cur.toList.take ((xs.length + 1) * 6))[k]? = some u := by rw [k6, List.map_cons, List.flatten_cons, List.getElem?_append_left (by omega)]; exact hk
  rw [List.getElem?_take, if_pos (by omega)] at e
  simp only [World.cell?, k2]
  rw [← Array.getElem?_toList]
  simpa using e
 ·subst e
  have hcur : (xs.length + 1) * 6 ≤ cur.size := by rw [k5]; exact Nat.mul_le_mul_right _ k3
  refine ⟨⟨?_, .inr ⟨g, cap, cur.set! k u, rfl, k1, ?_, k3, k4, by simpa using k5, ?_⟩⟩, h3, fun y hy => ?_⟩
  ·rw [List.map_cons, List.flatten_cons, List.length_append] at h1 ⊢
   rw [List.length_set]
   exact h1
  ·unfold World.setCell
   simp [Array.getElem?_modify, k2]
  ·rw [List.map_cons, List.flatten_cons] at k6 ⊢
   show List.take ((xs.length + 1) * 6) (cur.set! k u).toList = _
   rw [show (cur.set! k u).toList = cur.toList.set k u by simp, List.take_set, k6, List.set_append, if_pos (by omega)]
  ·rcases List.mem_cons.1 hy with rfl | hy
   ·exact ht
   ·exact (h4 y (List.mem_cons_of_mem _ hy)).set htc (hne y (List.mem_cons_of_mem _ hy)) u
theorem SchY.kind {base : Nat} {w : World} {v : Value} {x : Nat × List Value × Tb} {xs : List (Nat × List Value × Tb)} (h : SchY base w v (x :: xs)) : ∃ c0 cs0, x.2.2.cols = c0 :: cs0 ∧ base ≤ x.1 ∧ (∃ n1, x.2.1[1]? = some (.slice (some ⟨x.1, 0, none⟩) n1 n1) ∧ 0 < n1) ∧ (∃ u, w.cell? ⟨x.1, 1, none⟩ = some u) ∧ w.frozen? ⟨x.1, 1, none⟩ = false ∧
  ∀ z, SchY base (w.setCell ⟨x.1, 1, none⟩ (.int .i64 z)) v ((x.1, x.2.1, { x.2.2 with cols := { c0 with kind := z } :: cs0 }) :: xs) := by
 obtain ⟨⟨h1, h2⟩, h3, h4⟩ := h
 obtain ⟨gx, cx, tx⟩ := x
 obtain ⟨n1, A2, n2, c2, A3, n3, c3, A4, n4, c4, A5, n5, c5, e, hb, hB, hn, hp, g2, g3, g4, g5, hc, hz⟩ := h4 _ (List.mem_cons_self ..)
 dsimp only at e hb hB hn g2 g3 g4 g5 hz ⊢
 subst e
 obtain ⟨c0, cs0, ec⟩ : ∃ c0 cs0, tx.cols = c0 :: cs0 := by
  cases hcl : tx.cols with
  | nil => rw [hcl] at hn; simp at hn; omega
  | cons a b => exact ⟨a, b, rfl⟩
 have hB' := hB
 rw [ec] at hB'
 have htc : TC w gx := ⟨_, _, hB, .inr rfl⟩
 refine ⟨c0, cs0, ec, hb, ⟨n1, rfl, by omega⟩, ⟨.int .i64 c0.kind, hB'.cell 1 _ (by simp [Cl.cells])⟩, hB'.free 1, fun z => ⟨⟨h1, ?_⟩, h3, fun y hy => ?_⟩⟩
 ·rcases h2 with h2 | ⟨g, cap, cur, k0, k1, k2, k3⟩
  ·exact .inl h2
  ·refine .inr ⟨g, cap, cur, k0, k1, (Below.heap_setCell _ _ _ _ fun he => ?_).trans k2, k3⟩
   have he : g = gx := he
   subst he
   unfold Blo at hB
   rw [hB] at k2
   simp only [Option.some.injEq, Obj.cells.injEq] at k2
   exact absurd k2.2.1 (by decide)
 ·rcases List.mem_cons.1 hy with rfl | hy
  ·have ho : ∀ b, okY base w b → okY base (w.setCell ⟨gx, 1, none⟩ (.int .i64 z)) b := fun b h => h.set htc _
   have hk : ∀ q u, okY base w q.block → w.cell? q = some u → (w.setCell ⟨gx, 1, none⟩ (.int .i64 z)).cell? q = some u := fun q u h hc => (World.cell?_setCell_other _ _ _ _ (fun e => h.ne htc (by rw [← e]))).trans hc
   refine ⟨n1, A2, n2, c2, A3, n3, c3, A4, n4, c4, A5, n5, c5, rfl, hb, ?_, ?_, hp, g2.stays IntR.stays ho hk, g3.stays UqR.stays ho hk, g4.stays CkR.stays ho hk, g5.stays FkR.stays ho hk, hc, ?_⟩
   ·exact hB'.put 1 (.int .i64 z)
   ·rw [ec] at hn; exact hn
   ·unfold Tb.sz at hz ⊢
    rw [ec] at hz
    exact hz
  ·have hne : gx ≠ y.1 := fun e => by
    have h3' : gx ∉ xs.map (·.1) := (List.nodup_cons.1 h3).1
    exact h3' (by rw [e]; exact List.mem_map.2 ⟨y, hy, rfl⟩)
   exact (h4 y (List.mem_cons_of_mem _ hy)).set (p := ⟨gx, 1, none⟩) htc hne _
set_option maxHeartbeats 1000000 in
theorem specColTok (n : Int) (w : World) :
  Calls Tryz.prog 37 #[.int .i64 n] w fun e w' => e = .returned (.agg #[.int .i64 1, .int .i64 n, .int .i64 0, .int .i64 0, .string ⟨#[]⟩]) ∧ Below w.heap.size w w' := by
 go_enter Tryz.func37, Tryz.ntmps37
 go_wp2
 exact bodyPost_ret (v := .agg #[.int .i64 1, .int .i64 n, .int .i64 0, .int .i64 0, .string ⟨#[]⟩]) (by simp [results, Tryz.results37, go_sem]) rfl
  ⟨rfl, (Below.refl _ _).alloc (Nat.le_refl _) _⟩
set_option maxHeartbeats 1000000 in
theorem specConstTok (k n : Int) (s : ByteArray) (w : World) :
  Calls Tryz.prog 38 #[.agg #[.int .i64 k, .int .i64 n, .string s]] w fun e w' => e = .returned (.agg #[.int .i64 2, .int .i64 0, .int .i64 k, .int .i64 n, .string s]) ∧ Below w.heap.size w w' := by
 go_enter Tryz.func38, Tryz.ntmps38
 go_wp2
 exact bodyPost_ret (v := .agg #[.int .i64 2, .int .i64 0, .int .i64 k, .int .i64 n, .string s]) (by simp [results, Tryz.results38, go_sem]) rfl
  ⟨rfl, ((Below.refl _ _).alloc (Nat.le_refl _) _).alloc (by simp) _⟩
theorem below_but {w w' : World} (h : Below w.heap.size w w') (R : Nat) : But R w w' := ⟨h.os, h.tape, h.output, h.size, fun k hk _ => h.block k hk⟩
theorem rdr_below {w w' : World} {R : Nat} {a : Option Addr} {len cap : Nat} {zs : List Int} (h : Rdr w R a len cap zs) (hb : Below w.heap.size w w') : Rdr w' R a len cap zs := by
 have hR : R < w.heap.size := cell_lt h.code
 obtain ⟨i, hi, hi1⟩ := h.place
 exact ⟨(hb.cell (p := ⟨R, 0, none⟩) hR).trans h.code, ⟨i, hi, (hb.cell (p := ⟨R, 1, none⟩) hR).trans hi1⟩, (hb.frozen (p := ⟨R, 1, none⟩) hR).trans h.free, h.row.below hb, h.apart⟩
theorem PB.below {w w' w'' : World} {R : Nat} {a : Option Addr} {len cap : Nat} {zs : List Int} {gp gc m : Nat} (h : PB w w' R a len cap zs gp gc m) (hb : Below w'.heap.size w' w'') (hR : R < w.heap.size) : PB w w'' R a len cap zs gp gc m :=
 h.but (below_but hb R) (rdr_below (by obtain ⟨_, _, _, _, _, _, _, hr, _⟩ := h; exact hr) hb) hR
theorem PB.rdr {w w' : World} {R : Nat} {a : Option Addr} {len cap : Nat} {zs : List Int} {gp gc m : Nat} (h : PB w w' R a len cap zs gp gc m) : Rdr w' R a len cap zs := by
 obtain ⟨_, _, _, _, _, _, _, hr, _⟩ := h; exact hr
theorem rdAction (w : World) (R : Nat) (a : Option Addr) (len cap : Nat) (zs : List Int) (h : Rdr w R a len cap zs) :
  Calls Tryz.prog 39 #[.pointer (some ⟨R, 0, none⟩)] w (Drew R a len cap zs (isInt 0 2) w) := by
 go_enter Tryz.func39, Tryz.ntmps39
 go_wp2_with fail
 refine (rdBelow 3 w R a len cap zs h).mono ?_
 rintro e w' ⟨v, rfl, ⟨x, rfl, x0, x1⟩, hb, hr⟩
 go_wp2_with fail
 go_ret
 exact ⟨_, rfl, ⟨x, rfl, by omega, by omega⟩, hb, hr⟩
def isSch (base m : Nat) (v : Value) (w : World) : Prop := ∃ xs, SchY base w v xs ∧ 0 < xs.length ∧ xs.length ≤ 3 ∧ ∀ x ∈ xs, x.2.2.sz ≤ m
theorem rdr_drewY {w : World} {R : Nat} {a : Option Addr} {len cap : Nat} {zs : List Int} (h : Rdr w R a len cap zs) : Rdr w.drew R a len cap zs := ⟨h.code, h.place, h.free, h.row, h.apart⟩
theorem but_undrewY {R : Nat} {w w' : World} (h : But R w.drew w') : But R w w' := ⟨h.os, h.tape, h.output, h.size, h.block⟩
theorem sz_noKey (t : Tb) : ({ t with key := [] } : Tb).sz ≤ t.sz := by unfold Tb.sz; simp only [List.length_nil]; omega
theorem sz_named (t : Tb) (nm : ByteArray) : ({ t with name := nm } : Tb).sz ≤ t.sz + nm.size := by unfold Tb.sz; simp only; omega
theorem sz_kind (t : Tb) {c0 : Cl} {cs0 : List Cl} (h : t.cols = c0 :: cs0) (z : Int) : ({ t with cols := { c0 with kind := z } :: cs0 } : Tb).sz = t.sz := by unfold Tb.sz; rw [h]; rfl
def colsP : List Cl := [⟨⟨#[107]⟩, 1, true, ⟨0, 0, ⟨#[]⟩⟩⟩, ⟨⟨#[116]⟩, 2, false, ⟨0, 0, ⟨#[]⟩⟩⟩, ⟨⟨#[110]⟩, 1, false, ⟨1, 1, ⟨#[]⟩⟩⟩]
def tabP : Tb := ⟨⟨#[112]⟩, colsP, [0], [], [], []⟩
set_option maxRecDepth 100000 in
set_option maxHeartbeats 4000000 in
theorem rdSchema (w : World) (R : Nat) (a : Option Addr) (len cap : Nat) (zs : List Int) (h : Rdr w R a len cap zs) :
  Calls Tryz.prog 24 #[.pointer (some ⟨R, 0, none⟩)] w (Drew R a len cap zs (isSch w.heap.size 61) w) := by
 have hlt : R < w.heap.size := cell_lt h.code
 obtain ⟨i0, hi, hz0, hz1, hz2⟩ := info_parts infoTableT
 have H1 := Lib.hid hi
 have H2 := Lib.hid hz0
 have H3 := Lib.hid hz1
 have H4 := Lib.hid hz2
 clear hi hz0 hz1 hz2
 go_enter Tryz.func24, Tryz.ntmps24
 go_wp2_with fail
 refine (specInt 1 _).mono ?_
 rintro e w1 ⟨rfl, o, rfl⟩
 go_wp2_with fail
 have hp0 : PB w ((((w.alloc o).alloc (.cells #[.string ⟨#[107]⟩, .int .i64 1, .bool true, .int .i64 0, .int .i64 0, .string ⟨#[]⟩, .string ⟨#[116]⟩, .int .i64 2, .bool false, .int .i64 0, .int .i64 0, .string ⟨#[]⟩, .string ⟨#[110]⟩, .int .i64 1, .bool false, .int .i64 1, .int .i64 1, .string ⟨#[]⟩] 86)).alloc (.cells #[.int .i64 0] 2)).alloc (.cells #[.string ⟨#[112]⟩, .slice (some ⟨w.heap.size + 1, 0, none⟩) 3 3, .slice (some ⟨w.heap.size + 1 + 1, 0, none⟩) 1 1, .slice none 0 0, .slice none 0 0, .slice none 0 0] 57)) R a len cap zs (w.heap.size + 1 + 1 + 1) (w.heap.size + 1) 30 := by
  have b1 := Blo.new (w.alloc o) (colsP.map Cl.cells).flatten 86
  have b2 := Blo.new ((w.alloc o).alloc (.cells (colsP.map Cl.cells).flatten.toArray 86)) ([0].map (Value.int .i64)) 2
  rw [show ((w.alloc o).alloc (.cells (colsP.map Cl.cells).flatten.toArray 86)).heap.size = w.heap.size + 1 + 1 by simp] at b2
  rw [show (w.alloc o).heap.size = w.heap.size + 1 by simp] at b1
  have b3 := Blo.new ((((w.alloc o).alloc (.cells (colsP.map Cl.cells).flatten.toArray 86)).alloc (.cells ([0].map (Value.int .i64)).toArray 2))) [.string ⟨#[112]⟩, .slice (some ⟨w.heap.size + 1, 0, none⟩) 3 3, .slice (some ⟨w.heap.size + 1 + 1, 0, none⟩) 1 1, .slice none 0 0, .slice none 0 0, .slice none 0 0] 57
  rw [show (((w.alloc o).alloc (.cells (colsP.map Cl.cells).flatten.toArray 86)).alloc (.cells ([0].map (Value.int .i64)).toArray 2)).heap.size = w.heap.size + 1 + 1 + 1 by simp] at b3
  have h2 := Hold.alloc w.heap.size ((w.alloc o).alloc (.cells (colsP.map Cl.cells).flatten.toArray 86)) (.cells ([0].map (Value.int .i64)).toArray 2)
  have h3 := Hold.alloc w.heap.size (((w.alloc o).alloc (.cells (colsP.map Cl.cells).flatten.toArray 86)).alloc (.cells ([0].map (Value.int .i64)).toArray 2)) (.cells [.string ⟨#[112]⟩, .slice (some ⟨w.heap.size + 1, 0, none⟩) 3 3, .slice (some ⟨w.heap.size + 1 + 1, 0, none⟩) 1 1, .slice none 0 0, .slice none 0 0, .slice none 0 0].toArray 57)
  refine ⟨[.string ⟨#[112]⟩, .slice (some ⟨w.heap.size + 1, 0, none⟩) 3 3, .slice (some ⟨w.heap.size + 1 + 1, 0, none⟩) 1 1, .slice none 0 0, .slice none 0 0, .slice none 0 0], tabP, b3, by omega, ?_, rfl, (((But.refl R w).alloc o).alloc _).alloc _ |>.alloc _, (((h.alloc o).alloc _).alloc _).alloc _, by decide⟩
  exact ⟨3, _, 1, 1, none, 0, 0, none, 0, 0, none, 0, 0, rfl, by omega, b1.hold (by omega) (h2.trans h3), rfl, by omega, intsY [0] (b2.hold (by omega) h3) (by omega), Sl.nilY, Sl.nilY, Sl.nilY, by omega, by decide⟩
 have H0 := Lib.hid h
 have HP0 := Lib.hid hp0
 clear hp0
 generalize ((((w.alloc o).alloc (.cells #[.string ⟨#[107]⟩, .int .i64 1, .bool true, .int .i64 0, .int .i64 0, .string ⟨#[]⟩, .string ⟨#[116]⟩, .int .i64 2, .bool false, .int .i64 0, .int .i64 0, .string ⟨#[]⟩, .string ⟨#[110]⟩, .int .i64 1, .bool false, .int .i64 1, .int .i64 1, .string ⟨#[]⟩] 86)).alloc (.cells #[.int .i64 0] 2)).alloc (.cells #[.string ⟨#[112]⟩, .slice (some ⟨w.heap.size + 1, 0, none⟩) 3 3, .slice (some ⟨w.heap.size + 1 + 1, 0, none⟩) 1 1, .slice none 0 0, .slice none 0 0, .slice none 0 0] 57)) = y at *
 refine (rdOnce 2 _ R a len cap zs HP0.out.rdr).mono ?_
 rintro e y1 ⟨v, rfl, ⟨b, rfl⟩, hb1, hr1⟩
 have HP1 := Lib.hid (HP0.out.but hb1 hr1 hlt)
 clear HP0 hb1 hr1 h
 obtain ⟨gp, egp⟩ : ∃ gp, w.heap.size + 1 + 1 + 1 = gp := ⟨_, rfl⟩
 obtain ⟨gc, egc⟩ : ∃ gc, w.heap.size + 1 = gc := ⟨_, rfl⟩
 obtain ⟨gk, egk⟩ : ∃ gk, w.heap.size + 1 + 1 = gk := ⟨_, rfl⟩
 rw [egp, egc] at HP1
 rw [egp, egk, egc]
 clear egp egc egk
 go_upto_if 15 with (fail)
 go_cut [] from 14 (fun wx => PB w wx R a len cap zs gp gc 40)
 case first =>
  cases b
  ·go_wp2_with fail
   go_meet
   case rel => exact HP1.out.mono (by omega)
  ·have k1 := Hold.alloc w.heap.size y1 (.cells #[.int .i64 2] 2)
   have k2 := Hold.alloc w.heap.size (y1.alloc (.cells #[.int .i64 2] 2)) (.cells #[.slice (some ⟨y1.heap.size, 0, none⟩) 1 1] 60)
   obtain ⟨⟨u, c3⟩, f3⟩ := HP1.out.cell (k1.trans k2) 3 (by omega)
   clear k1 k2
   go_wp2_with fail
   go_meet
   case rel => exact (HP1.out.uniq H0.out (by omega)).mono (by omega)
 case rest =>
  have HP2 := Lib.hid hcut
  clear hcut HP1
  go_wp2_with fail
  refine (rdOnce 2 _ R a len cap zs HP2.out.rdr).mono ?_
  rintro e y2 ⟨v, rfl, ⟨b2, rfl⟩, hb2, hr2⟩
  have HP3 := Lib.hid (HP2.out.but hb2 hr2 hlt)
  clear HP2 hb2 hr2
  go_upto_if 21 with (fail)
  go_cut [] from 20 (fun wx => PB w wx R a len cap zs gp gc 60)
  case first =>
   cases b2
   ·go_wp2_with fail
    go_meet
    case rel => exact HP3.out.mono (by omega)
   ·go_wp2_with fail
    refine (specColTok 0 _).mono ?_
    rintro e y3 ⟨rfl, hb3⟩
    have HP4 := Lib.hid (HP3.out.below hb3 hlt)
    go_wp2_with fail
    refine (specInt 4 _).mono ?_
    rintro e y4 ⟨rfl, o4, rfl⟩
    have HP5 := Lib.hid (HP4.out.below ((Below.refl y3.heap.size y3).alloc (Nat.le_refl _) o4) hlt)
    generalize y3.alloc o4 = y4 at *
    go_wp2_with fail
    refine (specConstTok 1 4 ⟨#[]⟩ _).mono ?_
    rintro e y5 ⟨rfl, hb5⟩
    have HP6 := Lib.hid (HP5.out.below hb5 hlt)
    clear HP3 HP4 HP5 hb3 hb5
    have k1 := Hold.alloc w.heap.size y5 (.cells #[.int .i64 1, .int .i64 0, .int .i64 0, .int .i64 0, .string ⟨#[]⟩, .int .i64 2, .int .i64 0, .int .i64 1, .int .i64 4, .string ⟨#[]⟩, .int .i64 4, .int .i64 0, .int .i64 0, .int .i64 0, .string ⟨#[]⟩] 90)
    have k2 := Hold.alloc w.heap.size (y5.alloc (.cells #[.int .i64 1, .int .i64 0, .int .i64 0, .int .i64 0, .string ⟨#[]⟩, .int .i64 2, .int .i64 0, .int .i64 1, .int .i64 4, .string ⟨#[]⟩, .int .i64 4, .int .i64 0, .int .i64 0, .int .i64 0, .string ⟨#[]⟩] 90)) (.cells #[.slice (some ⟨y5.heap.size, 0, none⟩) 3 3] 64)
    obtain ⟨⟨u, c4⟩, f4⟩ := HP6.out.cell (k1.trans k2) 4 (by omega)
    clear k1 k2
    go_wp2_with fail
    go_meet
    case rel => exact (HP6.out.chk H0.out (by omega)).mono (by omega)
  case rest =>
   obtain ⟨cs, t, hB, hgp, hT, hc3, hb6, hr6, hz6⟩ := hcut
   obtain ⟨x0, x1, x2, x3, x4, x5, rfl⟩ := hT.len
   have d0 := hB.cell 0 x0 rfl
   have d1 := hB.cell 1 x1 rfl
   have d2 := hB.cell 2 x2 rfl
   have d3 := hB.cell 3 x3 rfl
   have d4 := hB.cell 4 x4 rfl
   have d5 := hB.cell 5 x5 rfl
   have HS1 := Lib.hid (show SB w (wc.alloc (.cells #[x0, x1, x2, x3, x4, x5] 57)) R a len cap zs (.slice (some ⟨wc.heap.size, 0, none⟩) 1 1) 1 60 from
    ⟨_, SchY.one hT hb6.size, by simp, by simp, fun x hx => by rw [List.mem_singleton.1 hx]; exact hz6, hb6.alloc _, hr6.alloc _⟩)
   clear hB hT hb6 hr6 HP3
   go_wp2_with fail
   generalize wc.alloc (.cells #[x0, x1, x2, x3, x4, x5] 57) = u1 at *
   generalize Value.slice (some ⟨wc.heap.size, 0, none⟩) 1 1 = v1 at *
   clear d0 d1 d2 d3 d4 d5
   refine (rdOnce 4 _ R a len cap zs HS1.out.rdr).mono ?_
   rintro e u2 ⟨v, rfl, ⟨b3, rfl⟩, hb2, hr2⟩
   have HS2 := Lib.hid (HS1.out.but hb2 hr2 hlt)
   clear HS1 hb2 hr2
   go_upto_if 34 with (fail)
   go_cut [4] from 32 (fun v wx => SB w wx R a len cap zs v 2 60)
   case first =>
    cases b3
    ·go_wp2_with fail
     refine (rdOnce 4 _ R a len cap zs HS2.out.rdr).mono ?_
     rintro e z1 ⟨v, rfl, ⟨nn, rfl⟩, hb2, hr2⟩
     have HS3 := Lib.hid (HS2.out.but hb2 hr2 hlt)
     clear HS2 hb2 hr2
     go_wp2_with fail
     refine (rdAction _ R a len cap zs (((HS3.out.rdr.alloc _).alloc _).alloc _)).mono ?_
     rintro e z2 ⟨v, rfl, ⟨d, rfl, d0, d1⟩, hb2, hr2⟩
     go_wp2_with fail
     refine (rdAction _ R a len cap zs hr2).mono ?_
     rintro e z3 ⟨v, rfl, ⟨dd, rfl, dd0, dd1⟩, hb3, hr3⟩
     go_wp2_with fail
     refine (rdOnce 4 _ R a len cap zs hr3).mono ?_
     rintro e z4 ⟨v, rfl, ⟨df, rfl⟩, hb4, hr4⟩
     have HT := Lib.hid (HS3.out.table hlt ⟨#[99]⟩ ⟨#[112]⟩ [⟨⟨#[107]⟩, 1, true, ⟨0, 0, ⟨#[]⟩⟩⟩, ⟨⟨#[112]⟩, 1, nn, ⟨0, 0, ⟨#[]⟩⟩⟩] d dd df rfl ((hb2.trans hb3).trans hb4) hr4 (show (9 : Nat) ≤ 1000 by omega)
      [.string ⟨#[99]⟩, .slice (some ⟨z1.heap.size, 0, none⟩) 2 2, .slice (some ⟨z1.heap.size + 1, 0, none⟩) 1 1, .slice none 0 0, .slice none 0 0, .slice (some ⟨z4.heap.size, 0, none⟩) 1 1]
      [.string ⟨#[99]⟩, .slice (some ⟨z1.heap.size, 0, none⟩) 2 2, .slice (some ⟨z1.heap.size + 1, 0, none⟩) 1 1, .slice none 0 0, .slice none 0 0, .slice (some ⟨z4.heap.size, 0, none⟩) 1 1])
     clear hb2 hb3 hb4 hr2 hr3 hr4 d0 d1 dd0 dd1 HS3
     obtain ⟨xs, hs, hl0, hl, hm, hn, ht, hbq, hrq⟩ := HT.out
     have HS := Lib.hid hs
     have HTT := Lib.hid ht
     have HN := Lib.hid hn
     have HM := Lib.hid hm
     have HBQ := Lib.hid hbq
     have HRQ := Lib.hid hrq
     have hwq : w.heap.size ≤ z4.heap.size + 1 + 1 + 1 := by have := HBQ.out.size; simpa using this
     clear hs ht hn hm hbq hrq HT
     go_wp2_with (at_builtin; refine wpList_append_own _ rfl _ _ 24 rfl w.heap.size 57 i0 (.agg #[.string ⟨#[]⟩, .slice none 0 0, .slice none 0 0, .slice none 0 0, .slice none 0 0, .slice none 0 0]) 6 136 Tryz.underlying24 H1.out H2.out H3.out H4.out rfl (by decide) _ _ _ rfl HS.out.1 ⟨_, 0, none⟩ 1 1 [.string ⟨#[99]⟩, .slice (some ⟨z1.heap.size, 0, none⟩) 2 2, .slice (some ⟨z1.heap.size + 1, 0, none⟩) 1 1, .slice none 0 0, .slice none 0 0, .slice (some ⟨z4.heap.size, 0, none⟩) 1 1] rfl rfl ?c1 ?c2 ?c3 ?c4 ?c5 ?_)
     case c1 => exact cellsY _ [.string ⟨#[99]⟩, .slice (some ⟨z1.heap.size, 0, none⟩) 2 2, .slice (some ⟨z1.heap.size + 1, 0, none⟩) 1 1, .slice none 0 0, .slice none 0 0, .slice (some ⟨z4.heap.size, 0, none⟩) 1 1] _ (by simp)
     case c2 => intro u hu; simp at hu; rcases hu with rfl | rfl | rfl | rfl | rfl | rfl <;> rfl
     case c3 => unfold maxLen; omega
     case c4 => omega
     case c5 => simp; omega
     intro v' w3 hown3 hgrow _
     have HZ := Lib.hid (SB.add H0.out HS.out HTT.out HN.out hl HM.out (show (9 : Nat) ≤ 60 by omega) HBQ.out HRQ.out hown3 hgrow)
     clear hown3 hgrow HS HTT HN HM HBQ HRQ
     go_wp2_with fail
     go_meet
     case rel => exact HZ.out
    ·go_wp2_with fail
     go_meet
     case rel => exact HS2.out.mono (by omega) (by omega)
   case rest =>
    have HS4 := Lib.hid hcut
    clear hcut HS2
    go_wp2_with fail
    refine (rdOnce 3 _ R a len cap zs HS4.out.rdr).mono ?_
    rintro e z1 ⟨v, rfl, ⟨b4, rfl⟩, hb2, hr2⟩
    have HS5 := Lib.hid (HS4.out.but hb2 hr2 hlt)
    clear HS4 hb2 hr2
    go_upto_if 56 with (fail)
    go_cut [4] from 55 (fun v wx => SB w wx R a len cap zs v 3 60)
    case first =>
     cases b4
     ·go_wp2_with fail
      go_meet
      case rel => exact HS5.out.mono (by omega) (by omega)
     ·go_wp2_with fail
      refine (rdAction _ R a len cap zs (((HS5.out.rdr.alloc _).alloc _).alloc _)).mono ?_
      rintro e z2 ⟨v, rfl, ⟨d, rfl, d0, d1⟩, hb2, hr2⟩
      go_wp2_with fail
      refine (rdAction _ R a len cap zs hr2).mono ?_
      rintro e z3 ⟨v, rfl, ⟨dd, rfl, dd0, dd1⟩, hb3, hr3⟩
      have HT := Lib.hid (HS5.out.table hlt ⟨#[116, 114, 101, 101]⟩ ⟨#[116, 114, 101, 101]⟩ [⟨⟨#[107]⟩, 1, true, ⟨0, 0, ⟨#[]⟩⟩⟩, ⟨⟨#[117, 112]⟩, 1, false, ⟨0, 0, ⟨#[]⟩⟩⟩] d dd false rfl (hb2.trans hb3) hr3 (show (16 : Nat) ≤ 1000 by omega)
       [.string ⟨#[116, 114, 101, 101]⟩, .slice (some ⟨z1.heap.size, 0, none⟩) 2 2, .slice (some ⟨z1.heap.size + 1, 0, none⟩) 1 1, .slice none 0 0, .slice none 0 0, .slice (some ⟨z3.heap.size, 0, none⟩) 1 1]
       [.string ⟨#[116, 114, 101, 101]⟩, .slice (some ⟨z1.heap.size, 0, none⟩) 2 2, .slice (some ⟨z1.heap.size + 1, 0, none⟩) 1 1, .slice none 0 0, .slice none 0 0, .slice (some ⟨z3.heap.size, 0, none⟩) 1 1])
      clear hb2 hb3 hr2 hr3 d0 d1 dd0 dd1 HS5
      obtain ⟨xs, hs, hl0, hl, hm, hn, ht, hbq, hrq⟩ := HT.out
      have HS := Lib.hid hs
      have HTT := Lib.hid ht
      have HN := Lib.hid hn
      have HM := Lib.hid hm
      have HBQ := Lib.hid hbq
      have HRQ := Lib.hid hrq
      have hwq : w.heap.size ≤ z3.heap.size + 1 + 1 + 1 := by have := HBQ.out.size; simpa using this
      clear hs ht hn hm hbq hrq HT
      go_wp2_with (at_builtin; refine wpList_append_own _ rfl _ _ 24 rfl w.heap.size 57 i0 (.agg #[.string ⟨#[]⟩, .slice none 0 0, .slice none 0 0, .slice none 0 0, .slice none 0 0, .slice none 0 0]) 6 136 Tryz.underlying24 H1.out H2.out H3.out H4.out rfl (by decide) _ _ _ rfl HS.out.1 ⟨_, 0, none⟩ 1 1 [.string ⟨#[116, 114, 101, 101]⟩, .slice (some ⟨z1.heap.size, 0, none⟩) 2 2, .slice (some ⟨z1.heap.size + 1, 0, none⟩) 1 1, .slice none 0 0, .slice none 0 0, .slice (some ⟨z3.heap.size, 0, none⟩) 1 1] rfl rfl ?c1 ?c2 ?c3 ?c4 ?c5 ?_)
      case c1 => exact cellsY _ [.string ⟨#[116, 114, 101, 101]⟩, .slice (some ⟨z1.heap.size, 0, none⟩) 2 2, .slice (some ⟨z1.heap.size + 1, 0, none⟩) 1 1, .slice none 0 0, .slice none 0 0, .slice (some ⟨z3.heap.size, 0, none⟩) 1 1] _ (by simp)
      case c2 => intro u hu; simp at hu; rcases hu with rfl | rfl | rfl | rfl | rfl | rfl <;> rfl
      case c3 => unfold maxLen; omega
      case c4 => omega
      case c5 => simp; omega
      intro v' w3 hown3 hgrow _
      have HZ := Lib.hid (SB.add H0.out HS.out HTT.out HN.out hl HM.out (show (16 : Nat) ≤ 60 by omega) HBQ.out HRQ.out hown3 hgrow)
      clear hown3 hgrow HS HTT HN HM HBQ HRQ
      go_wp2_with fail
      go_meet
      case rel => exact HZ.out
    case rest =>
     have HS6 := Lib.hid hcut
     clear hcut HS5
     go_wp2_with fail
     refine (rdBelow 40 _ R a len cap zs HS6.out.rdr).mono ?_
     rintro e q1 ⟨v, rfl, ⟨y, rfl, y0, y1⟩, hb2, hr2⟩
     have HS7 := Lib.hid (HS6.out.but hb2 hr2 hlt)
     clear HS6 hb2 hr2
     obtain ⟨xs, hs, hl0, hl, hm, hb, hr⟩ := HS7.out
     have hq : y = 37 ∨ y = 38 ∨ y = 39 ∨ (y ≠ 37 ∧ y ≠ 38 ∧ y ≠ 39) := by omega
     clear HS7
     rcases hq with rfl | rfl | rfl | ⟨n7, n8, n9⟩
     ·obtain ⟨x, xs, rfl⟩ : ∃ x l, xs = x :: l := by cases xs with
       | nil => simp at hl0
       | cons x l => exact ⟨x, l, rfl⟩
      obtain ⟨g, ca, rfl, hg, hcell, hfree, htc, hne, hput⟩ := hs.head
      have hT := hs.2.2 x (List.mem_cons_self ..)
      obtain ⟨w2, d2⟩ : ∃ u, q1.cell? ⟨g, 2, none⟩ = some u := ⟨_, hcell 2 (x.2.1[2]'(by rw [hT.len6]; omega)) (by rw [List.getElem?_eq_getElem])⟩
      have f2 := hfree 2
      have HF := Lib.hid (show isSch w.heap.size 61 (.slice (some ⟨g, 0, none⟩) (xs.length + 1) ca) (q1.setCell ⟨g, 2, none⟩ (.slice none 0 0)) from
       ⟨_, hput 2 _ _ _ (by omega) rfl (hT.set (p := ⟨g, 2, none⟩) htc hne _).noKey, by simp, by simpa using hl, fun z hz => by
        rcases List.mem_cons.1 hz with rfl | hz
        ·have := hm x (List.mem_cons_self ..); have := sz_noKey x.2.2; dsimp only; omega
        ·have := hm z (List.mem_cons_of_mem _ hz); omega⟩)
      have HBF := Lib.hid (hb.setNew (p := ⟨g, 2, none⟩) hg (.slice none 0 0))
      have HRF := Lib.hid (H0.out.setNew hr (p := ⟨g, 2, none⟩) hg (.slice none 0 0))
      clear hs hcell hfree hput hT hm hb hr hl hl0
      go_wp2_with fail
      go_ret
      exact ⟨_, rfl, HF.out, HBF.out, HRF.out⟩
     ·obtain ⟨x, xs, rfl⟩ : ∃ x l, xs = x :: l := by cases xs with
       | nil => simp at hl0
       | cons x l => exact ⟨x, l, rfl⟩
      obtain ⟨g, ca, rfl, hg, hcell, hfree, htc, hne, hput⟩ := hs.head
      have hT := hs.2.2 x (List.mem_cons_self ..)
      obtain ⟨w0, d0⟩ : ∃ u, q1.cell? ⟨g, 0, none⟩ = some u := ⟨_, hcell 0 (x.2.1[0]'(by rw [hT.len6]; omega)) (by rw [List.getElem?_eq_getElem])⟩
      have f0 := hfree 0
      have hx60 := hm x (List.mem_cons_self ..)
      have hsn := sz_named x.2.2 ⟨#[99]⟩
      have hsn1 : (⟨#[99]⟩ : ByteArray).size = 1 := rfl
      have HF := Lib.hid (show isSch w.heap.size 61 (.slice (some ⟨g, 0, none⟩) (xs.length + 1) ca) (q1.setCell ⟨g, 0, none⟩ (.string ⟨#[99]⟩)) from
       ⟨_, hput 0 _ _ _ (by omega) rfl ((hT.set (p := ⟨g, 0, none⟩) htc hne _).named ⟨#[99]⟩ (by omega)), by simp, by simpa using hl, fun z hz => by
        rcases List.mem_cons.1 hz with rfl | hz
        ·dsimp only; omega
        ·have := hm z (List.mem_cons_of_mem _ hz); omega⟩)
      have HBF := Lib.hid (hb.setNew (p := ⟨g, 0, none⟩) hg (.string ⟨#[99]⟩))
      have HRF := Lib.hid (H0.out.setNew hr (p := ⟨g, 0, none⟩) hg (.string ⟨#[99]⟩))
      clear hs hcell hfree hput hT hm hb hr hl hl0 hsn hsn1 hx60
      go_wp2_with fail
      go_ret
      exact ⟨_, rfl, HF.out, HBF.out, HRF.out⟩
     ·obtain ⟨x, xs, rfl⟩ : ∃ x l, xs = x :: l := by cases xs with
       | nil => simp at hl0
       | cons x l => exact ⟨x, l, rfl⟩
      obtain ⟨g, ca, rfl, hg, hcell, hfree, htc, hne, hput⟩ := hs.head
      obtain ⟨c00, cs00, ec0, hgx, ⟨n1, e1, hn1⟩, -⟩ := hs.kind
      have d1 := hcell 1 _ e1
      have hgs : g < q1.heap.size := cell_lt d1
      have hRg : g ≠ R := by omega
      have HSX := Lib.hid hs
      have HRX := Lib.hid hr
      have HBX := Lib.hid hb
      have HM := Lib.hid hm
      have hn1' : (0 : Int) < n1 := by omega
      clear hs hr hb hm hcell hfree hput htc hne ec0
      go_wp2_with fail
      go_region_with (go_at_call 41; refine (rdOff 1 2 (by omega) (by omega) (by omega) _ R a len cap zs (rdr_drewY HRX.out)).mono ?_; rintro e q2 ⟨v, rfl, ⟨z, rfl, z0, z1⟩, hb2', hr2⟩; have hb2 := but_undrewY hb2'; have HS2 := Lib.hid (HSX.out.hold (Hold.but hb2 hlt)); obtain ⟨c0, cs0, ec, -, -, ⟨k0, k1⟩, k2, k3⟩ := HS2.out.kind; have d1' := (hb2.cell (p := ⟨g, 1, none⟩) hgs hRg).trans d1; have HK3 := Lib.hid k3; have HEC := Lib.hid ec; clear k3 ec hb2')
      all_goals
       go_wp2_with fail
       go_ret
       refine ⟨_, rfl, ⟨_, HK3.out z, by simp, by simpa using hl, fun z' hz => ?_⟩, (HBX.out.trans hb2).setNew (p := ⟨x.1, 1, none⟩) hgx _, H0.out.setNew hr2 (p := ⟨x.1, 1, none⟩) hgx _⟩
       rcases List.mem_cons.1 hz with rfl | hz
       ·have := HM.out x (List.mem_cons_self ..); have := sz_kind x.2.2 HEC.out z; dsimp only; omega
       ·have := HM.out z' (List.mem_cons_of_mem _ hz); omega
     ·have m7 : (y == 37) = false := by simpa using n7
      have m8 : (y == 38) = false := by simpa using n8
      have m9 : (y == 39) = false := by simpa using n9
      have HF := Lib.hid (show isSch w.heap.size 61 u4 q1 from ⟨xs, hs, hl0, hl, fun z hz => by have := hm z hz; omega⟩)
      have HBF := Lib.hid hb
      have HRF := Lib.hid hr
      clear hs hl0 hl hm hb hr
      go_wp2_with fail
      go_ret
      exact ⟨_, rfl, HF.out, HBF.out, HRF.out⟩
def isTbs (v : Value) (w : World) : Prop := ∃ (ok : Nat → Prop) (A : Option Addr) (n c : Nat) (ts : List Tb), v = .slice A n c ∧ n ≤ c ∧ Sl TbR 6 ok w A n ts ∧ szL Tb.sz ts ≤ 1000
theorem szL_le {α : Type} (f : α → Nat) (m : Nat) : ∀ l : List α, (∀ x ∈ l, f x ≤ m) → szL f l ≤ l.length + l.length * m
 | [], _ => by simp [szL]
 | x :: l, h => by
  have h1 := szL_le f m l fun y hy => h y (List.mem_cons_of_mem _ hy)
  have h2 := h x (List.mem_cons_self ..)
  unfold szL at h1 ⊢
  rw [List.map_cons, List.sum_cons, List.length_cons, Nat.succ_mul]
  omega
theorem tabs_sl {base : Nat} {w : World} {v : Value} {xs : List (Nat × List Value × Tb)} (hr : w.ownsRow base 57 6 v xs.length (xs.map (·.2.1)).flatten) (ha : ∀ x ∈ xs, TabY base w x.1 x.2.1 x.2.2) : ∃ A c, v = .slice A xs.length c ∧ xs.length ≤ c ∧ c ≤ maxLen ∧ Sl TbR 6 (okF base w) w A xs.length (xs.map (·.2.2)) := by
 rcases hr.2 with ⟨rfl, h0⟩ | ⟨g, cap, cur, rfl, k1, k2, k3, k4, k5, k6⟩
 ·exact ⟨none, 0, by rw [h0], by omega, by simp [maxLen], by rw [List.length_map], fun hn => by omega⟩
 ·refine ⟨_, cap, rfl, k3, k4, by rw [List.length_map], fun hn => ⟨g, 0, rfl, ⟨k1, lt_of_block k2, fun off => by simp [World.frozen?, k2]⟩, fun i hi => ?_⟩⟩
  have hi' : i < xs.length := by simpa using hi
  have ht := ha _ (List.getElem_mem hi')
  refine ⟨xs[i].2.1, ht.len6, by rw [List.getElem_map]; exact ht.reads, fun j u hj => ?_⟩
  have hj6 : j < 6 := by rw [← ht.len6]; exact (List.getElem?_eq_some_iff.1 hj).1
  have key : ∀ (l : List (List Value)) (i : Nat) (hi : i < l.length), (∀ c ∈ l, c.length = 6) → l.flatten[i * 6 + j]? = l[i][j]? := by
   intro l
   induction l with
   | nil => intro i hi; simp at hi
   | cons x l ih =>
    intro i hi ha
    have hx := ha x (List.mem_cons_self ..)
    cases i with
    | zero => rw [List.flatten_cons, Nat.zero_mul, Nat.zero_add, List.getElem?_append_left (by omega)]; rfl
    | succ i =>
     rw [List.flatten_cons, List.getElem?_append_right (by rw [hx, Nat.succ_mul]; omega), hx, show (i + 1) * 6 + j - 6 = i * 6 + j by rw [Nat.succ_mul]; omega]
     exact ih i (by simpa using hi) fun c hc => ha c (List.mem_cons_of_mem _ hc)
  have e := key (xs.map (·.2.1)) i (by simpa using hi') fun c hc => by
   obtain ⟨y, hy, rfl⟩ := List.mem_map.1 hc
   exact (ha y hy).len6
  rw [List.getElem_map, hj, ← k6, List.getElem?_take, if_pos (by have := Nat.mul_le_mul_right 6 (show i + 1 ≤ xs.length from hi'); rw [Nat.succ_mul] at this; omega)] at e
  rw [Nat.zero_add]
  simp only [World.cell?, k2]
  rw [← Array.getElem?_toList]
  simpa using e
theorem SchY.sl {base : Nat} {w : World} {v : Value} {xs : List (Nat × List Value × Tb)} (h : SchY base w v xs) : ∃ A c, v = .slice A xs.length c ∧ xs.length ≤ c ∧ c ≤ maxLen ∧ Sl TbR 6 (okF base w) w A xs.length (xs.map (·.2.2)) := tabs_sl h.1 h.2.2
theorem isSch.tbs {base m : Nat} {v : Value} {w : World} (h : isSch base m v w) (hm : m ≤ 200) : isTbs v w := by
 obtain ⟨xs, hs, h0, h1, h2⟩ := h
 obtain ⟨A, c, rfl, hc, -, hsl⟩ := hs.sl
 refine ⟨_, A, _, c, _, rfl, hc, hsl, ?_⟩
 have := szL_le Tb.sz m (xs.map (·.2.2)) fun t ht => by
  obtain ⟨x, hx, rfl⟩ := List.mem_map.1 ht
  exact h2 x hx
 rw [List.length_map] at this
 have h3 : xs.length * m ≤ 3 * m := Nat.mul_le_mul_right _ h1
 omega
end Go.Proofs.YtkehfilmpdoglaaGreat
namespace Go.Proofs.YtkehfilmpdoglaaGreat
open Go.RowKit Go.Maps
theorem But.ofBelow {R : Nat} {w w' : World} (h : Below w.heap.size w w') : But R w w' := ⟨h.os, h.tape, h.output, h.size, fun k hk _ => h.block k hk⟩
section
variable {α : Type} {T : TypeId} {sz : Nat} {f : α → List Value}
end
end Go.Proofs.YtkehfilmpdoglaaGreat
namespace Go.Proofs.YtkehfilmpdoglaaGreat
open Go.RowKit
theorem infoDataR : (Tryz.prog.info? 69).map (fun i => (i.zero, i.size, i.bytes)) = some (some (.agg #[.slice none 0 0]), 1, 24) := by kernel_rfl
end Go.Proofs.YtkehfilmpdoglaaGreat
namespace Go.Proofs.YtkehfilmpdoglaaGreat
open Go.RowKit
section
variable {α : Type} {Rr : Rd α} {T : TypeId} {sz : Nat}
theorem Sl.cells {ok : Nat → Prop} {w : World} {A : Option Addr} {n : Nat} {ds : List α} (hsz : 0 < sz) (h : Sl Rr sz ok w A n ds) :
  ∃ vs : List (List Value), vs.length = ds.length ∧ (∀ c ∈ vs, c.length = sz) ∧ (∀ i (hi : i < ds.length) (hi' : i < vs.length), Rr ok w vs[i] ds[i]) ∧ ∀ b off, A = some ⟨b, off, none⟩ → ∀ j u, vs.flatten[j]? = some u → w.cell? ((⟨b, off, none⟩ : Addr).add j) = some u := by
 have hx : ∀ i : Fin ds.length, ∃ cs : List Value, cs.length = sz ∧ Rr ok w cs ds[i.1] ∧ ∀ b off, A = some ⟨b, off, none⟩ → ∀ j u, cs[j]? = some u → w.cell? ⟨b, off + i.1 * sz + j, none⟩ = some u := fun i => by
  obtain ⟨b, off, e, -, hc⟩ := h.2 (by have := h.1; have := i.2; omega)
  obtain ⟨cs, h1, h2, h3⟩ := hc i.1 i.2
  exact ⟨cs, h1, h2, fun b' off' e' j u hj => by rw [e] at e'; cases e'; exact h3 j u hj⟩
 have hall : ∀ c ∈ List.ofFn (fun i => Classical.choose (hx i)), c.length = sz := fun c hc => by
  obtain ⟨i, hi, rfl⟩ := List.mem_iff_getElem.1 hc
  rw [List.getElem_ofFn]
  exact (Classical.choose_spec (hx _)).1
 refine ⟨List.ofFn fun i => Classical.choose (hx i), by simp, hall, fun i hi hi' => ?_, fun b off e j u hj => ?_⟩
 ·rw [List.getElem_ofFn]
  exact (Classical.choose_spec (hx ⟨i, hi⟩)).2.1
 ·have hl := flat_len (sz := sz) _ hall
  rw [List.length_ofFn] at hl
  have hjl : j < ds.length * sz := by rw [← hl]; exact (List.getElem?_eq_some_iff.1 hj).1
  have hi : j / sz < ds.length := (Nat.div_lt_iff_lt_mul hsz).2 hjl
  have hr : j % sz < sz := Nat.mod_lt _ hsz
  have e2 : j / sz * sz + j % sz = j := by rw [Nat.mul_comm]; exact Nat.div_add_mod j sz
  have h7 := flat_get (sz := sz) (List.ofFn fun i => Classical.choose (hx i)) (j / sz) (j % sz) (by simpa using hi) hr hall
  rw [e2, hj, List.getElem_ofFn] at h7
  have := (Classical.choose_spec (hx ⟨j / sz, hi⟩)).2.2 b off e (j % sz) u h7.symm
  rw [addr_add, ← e2, ← Nat.add_assoc]
  exact this
end
end Go.Proofs.YtkehfilmpdoglaaGreat
