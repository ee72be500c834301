/-
  Several texts in one: what the proof leans on, part 1.
-/
import Derived.Test.YtjhhamlnlalkoaaGreatRows
import Derived.WalkKit
import Derived.ProofKit
import Derived.OpenShut
import Derived.ShutString
import Derived.ChangeOld
import Derived.Below
import Derived.Lib.SmallJoins
import Derived.Lib.Hide
import Derived.Deep.QuietTactic
import Derived.BigQuiet
import Derived.WalkSpells
import Derived.WalkLawsBesides
import Derived.Deep.Slices
import Derived.Deep.WholeRow
import Derived.Laws.StructEq
import Derived.Deep.RegionHeld3
import Derived.Stop.Asserts
import Derived.Deep.RegionWith
import Derived.Deep.LoopGhost
import Derived.Maps.AppendAt
set_option linter.unusedVariables false
set_option linter.unusedSimpArgs false
namespace Go.Proofs.YtjhhamlnlalkoaaGreat
theorem pz0 {α : Type _} {l : List α} {i : Nat} (h : i < l.toArray.size) : l.toArray[i] = l[i] := rfl
theorem pz1 {α : Type _} (a : α) (l : List α) (h : 0 < (a :: l).length) : (a :: l)[0] = a := rfl
theorem pz2 {α : Type _} (a : α) (l : List α) (i : Nat) (h : i + 1 < (a :: l).length) : (a :: l)[i + 1] = l[i]'(Nat.lt_of_succ_lt_succ h) := rfl
theorem pz3 {α : Type _} (l : List α) (i : Nat) (a : α) : l.toArray.setIfInBounds i a = (l.set i a).toArray := List.setIfInBounds_toArray l i a
theorem pz4 {α : Type _} {x : α} {l : List α} {a : α} : (x :: l).set 0 a = a :: l := rfl
theorem pz5 {α : Type _} {x : α} {l : List α} {i : Nat} {a : α} : (x :: l).set (i + 1) a = x :: l.set i a := rfl
section
variable {P : Program} {ops : Array Oper} {Q : Exit → Act → World → Prop} {md : Region.Mode} {S : World → Prop} {oi : Oper} {v : Value} {fuel : Nat} {listed : Array Bool} {a b : Act} {w : World}
theorem tk (i : Nat) (h : wpAnyH P md ops (NoPanic Q) S fuel (listed.setIfInBounds i true) b w) (hi : ops[i]? = some oi := by rfl) (hs : (Region.noSelect ops && (Region.free md ops listed i && (Region.ready md ops listed).contains i)) = true := by kernel_rfl) (hg : Region.wanted oi (yielded ops a.tmps) = true := by rfl) (hS : S w := by assumption) (hy : ∀ w, S w → (execOp a.eval oi).run P w = .ok (.value v) w := by (intro w' q; go_simp; try with_reducible rfl)) (hb : a.put oi.dst v = b := by simp only [Act.put, List.getElem_toArray, List.getElem_cons_zero, List.getElem_cons_succ, List.setIfInBounds_toArray, List.set_cons_zero, List.set_cons_succ]; rfl) : wpAnyH P md ops (NoPanic Q) S (fuel + 1) listed a w := by
  rw [Bool.and_eq_true, Bool.and_eq_true] at hs
  exact wpAnyH_take hi hs.1 hs.2.1 hs.2.2 (fun _ _ _ h => h) (Or.inl ⟨hg, hy⟩) hS (hb ▸ h)
theorem tu (i : Nat) (h : wpAnyH P md ops (NoPanic Q) S fuel (listed.setIfInBounds i true) b w) (hi : ops[i]? = some oi := by rfl) (hs : (Region.noSelect ops && (Region.free md ops listed i && (Region.ready md ops listed).contains i)) = true := by kernel_rfl) (hg : Region.wanted oi (yielded ops a.tmps) = false := by rfl) (hS : S w := by assumption) (hb : a.put oi.dst undef = b := by simp only [Act.put, List.getElem_toArray, List.getElem_cons_zero, List.getElem_cons_succ, List.setIfInBounds_toArray, List.set_cons_zero, List.set_cons_succ]; rfl) : wpAnyH P md ops (NoPanic Q) S (fuel + 1) listed a w := by
  rw [Bool.and_eq_true, Bool.and_eq_true] at hs
  exact wpAnyH_take hi hs.1 hs.2.1 hs.2.2 (fun _ _ _ h => h) (Or.inr ⟨hg, rfl⟩) hS (hb ▸ h)
end
end Go.Proofs.YtjhhamlnlalkoaaGreat
namespace Go.Proofs.YtjhhamlnlalkoaaGreat
open Go.ChangeShapes Go.WideShapes Go.ChangeAt Go.RowKit Go.Joins
theorem own : ownKnob Tryz.prog.godebug = none := by kernel_rfl
theorem laidOut : laidOutB Tryz.prog = true := by kernel_rfl
def IsRow (k : IntKind) (w : World) (a : Option Addr) (len cap : Nat) (zs : List Int) : Prop :=
 (a = none ∧ len = 0 ∧ cap = 0 ∧ zs = []) ∨
 ∃ x, a = some x ∧ len ≤ cap ∧ cap ≤ maxLen ∧ zs.length = cap ∧ (∀ i, i < zs.length → w.cell? (x.add i) = some (.int k (zs.getD i 0))) ∧ ∀ n ∈ zs, (Lit.int k n).wf = true
theorem isRow_of_trod {H : Type} {enc : TypeId × Value → H} {P : Program} {W : World} {t t1 : TypeId} {k : IntKind} {a : Option Addr} {len cap : Nat} {d : DataW H} {p : List MemPlace}
  (ht : P.underlying t = some (.slice t1)) (ht1 : P.underlying t1 = some (.int k)) (hc : P.cellsOf t1 = 1)
  (h : DataW.Trod enc P W 0 (fun _ => true) true t (.slice a len cap) d p) : ∃ zs, IsRow k W a len cap zs := by
 obtain ⟨fuel, hf⟩ := h
 rcases open_ints ht ht1 hc hf with ⟨hcs, _⟩ | ⟨x, l, c, zs, hcs, _, hl, hm, hz, _, hcell, hwz⟩
 ·simp [Value.cells] at hcs
  obtain ⟨rfl, rfl, rfl⟩ := hcs
  exact ⟨[], .inl ⟨rfl, rfl, rfl, rfl⟩⟩
 ·simp [Value.cells] at hcs
  obtain ⟨rfl, rfl, rfl⟩ := hcs
  exact ⟨zs, .inr ⟨_, rfl, hl, hm, by simpa using hz, hcell, hwz⟩⟩
end Go.Proofs.YtjhhamlnlalkoaaGreat
namespace Go.Proofs.YtjhhamlnlalkoaaGreat
open Go.RowKit
structure But (R : Nat) (w w' : World) : Prop where
 os : w'.os = w.os
 tape : w'.tape = w.tape
 output : w'.output = w.output
 size : w.heap.size ≤ w'.heap.size
 block : ∀ k, k < w.heap.size → k ≠ R → w'.heap[k]? = w.heap[k]?
theorem But.refl (R : Nat) (w : World) : But R w w := ⟨rfl, rfl, rfl, Nat.le_refl _, fun _ _ _ => rfl⟩
theorem But.trans {R : Nat} {a b c : World} (h : But R a b) (k : But R b c) : But R a c :=
 ⟨k.os.trans h.os, k.tape.trans h.tape, k.output.trans h.output, Nat.le_trans h.size k.size, fun i hi hr => (k.block i (Nat.lt_of_lt_of_le hi h.size) hr).trans (h.block i hi hr)⟩
theorem But.drew {R : Nat} {a w : World} (h : But R a w) : But R a w.drew := ⟨h.os, h.tape, h.output, h.size, h.block⟩
theorem But.drewN {R : Nat} {a w : World} (h : But R a w) (n : Nat) : But R a (w.drewN n) := ⟨h.os, h.tape, h.output, h.size, h.block⟩
theorem But.alloc {R : Nat} {a w : World} (h : But R a w) (o : Obj) : But R a (w.alloc o) :=
 h.trans ⟨rfl, rfl, rfl, by simp, fun k hk _ => Below.heap_alloc _ _ _ hk⟩
theorem But.setCell {R : Nat} {a w : World} (h : But R a w) {p : Addr} (hp : p.block = R) (u : Value) : But R a (w.setCell p u) :=
 h.trans ⟨rfl, rfl, rfl, by simp [World.setCell], fun k _ hr => Below.heap_setCell _ _ _ _ (by omega)⟩
theorem But.setNew {R : Nat} {a w : World} (h : But R a w) {p : Addr} (hp : a.heap.size ≤ p.block) (u : Value) : But R a (w.setCell p u) :=
 ⟨h.os, h.tape, h.output, by simpa [World.setCell] using h.size, fun k hk hr => (Below.heap_setCell _ _ _ _ (by omega)).trans (h.block k hk hr)⟩
theorem But.cell {R : Nat} {w w' : World} (h : But R w w') {p : Addr} (hp : p.block < w.heap.size) (hr : p.block ≠ R) : w'.cell? p = w.cell? p := World.cell?_of_block (w := w) (h.block p.block hp hr)
theorem But.frozen {R : Nat} {w w' : World} (h : But R w w') {p : Addr} (hp : p.block < w.heap.size) (hr : p.block ≠ R) : w'.frozen? p = w.frozen? p := World.frozen?_of_block (w := w) (h.block p.block hp hr)
theorem But.below {R B : Nat} {w w' : World} (h : But R w w') (hB : B ≤ R) (hw : B ≤ w.heap.size) : Below B w w' :=
 ⟨h.os, h.tape, h.output, h.size, fun k hk => h.block k (by omega) (by omega)⟩
theorem cell_lt {w : World} {p : Addr} {v : Value} (h : w.cell? p = some v) : p.block < w.heap.size := by
 by_cases hb : p.block < w.heap.size
 ·exact hb
 ·simp [World.cell?, Array.getElem?_eq_none (Nat.le_of_not_lt hb)] at h
theorem add_block (x : Addr) (i : Nat) : (x.add i).block = x.block := by
 unfold Addr.add; split <;> rfl
theorem IsRow.but {R : Nat} {w w' : World} {a : Option Addr} {len cap : Nat} {zs : List Int} (h : IsRow .u8 w a len cap zs) (hb : But R w w') (hr : ∀ x, a = some x → 0 < cap → x.block ≠ R) : IsRow .u8 w' a len cap zs := by
 rcases h with h | ⟨x, rfl, hl, hm, hz, hcell, hwz⟩
 ·exact .inl h
 ·refine .inr ⟨x, rfl, hl, hm, hz, fun i hi => ?_, hwz⟩
  have h1 := hcell i hi
  rw [hb.cell (cell_lt h1) (by rw [add_block]; exact hr x rfl (by omega))]
  exact h1
theorem IsRow.byte {w : World} {a : Option Addr} {len cap : Nat} {zs : List Int} (h : IsRow .u8 w a len cap zs) {i : Nat} (hi : i < len) :
  ∃ b off : Nat, ∃ z : Int, a = some ⟨b, off, none⟩ ∧ w.cell? ⟨b, off + i, none⟩ = some (.int .u8 z) ∧ 0 ≤ z ∧ z ≤ 255 := by
 rcases h with ⟨_, h, _⟩ | ⟨x, rfl, hl, hm, hz, hcell, hwz⟩
 ·omega
 ·obtain ⟨b, off, spot⟩ := x
  have hc := hcell i (by omega)
  have e : zs.getD i 0 = zs[i]'(by omega) := by simp [List.getD, List.getElem?_eq_getElem (show i < zs.length by omega)]
  have hw := hwz (zs.getD i 0) (e ▸ List.getElem_mem _)
  have h0 := hcell 0 (by omega)
  have hspot : spot = none := by simpa [Addr.add] using World.cell?_spot h0
  subst hspot
  refine ⟨b, off, zs.getD i 0, rfl, ?_, ?_⟩
  ·have e : (⟨b, off, none⟩ : Addr).add i = ⟨b, off + i, none⟩ := by
    unfold Addr.add; split
    ·subst_vars; rfl
    ·rfl
   rw [← e]; exact hc
  ·exact bounds_u8 hw
theorem IsRow.len_le {w : World} {a : Option Addr} {len cap : Nat} {zs : List Int} (h : IsRow .u8 w a len cap zs) : len ≤ 9223372036854775807 := by
 rcases h with ⟨_, h, _⟩ | ⟨x, rfl, hl, hm, hz, hcell, hwz⟩
 ·omega
 ·unfold maxLen at hm; omega
theorem retB {a b : Bool} (h : a = b) : Ending.returned (.bool a) = .returned (.bool b) := by rw [h]
theorem retI {k : IntKind} {a b : Int} (h : a = b) : Ending.returned (.int k a) = .returned (.int k b) := by rw [h]
end Go.Proofs.YtjhhamlnlalkoaaGreat
namespace Go.Proofs.YtjhhamlnlalkoaaGreat
open Go.ChangeShapes Go.WideShapes Go.ChangeAt Go.RowKit Go.Joins Go.Deep
def Cellz (w : World) (sz : Nat) (A : Option Addr) (n : Nat) (xss : List (List Value)) : Prop :=
 xss.length = n ∧ (∀ c ∈ xss, c.length = sz) ∧
 (0 < n → ∃ b off, A = some ⟨b, off, none⟩ ∧ ∀ (i : Nat) (h : i < xss.length) (j : Nat) (h' : j < (xss[i]).length), w.cell? ⟨b, off + (i * sz + j), none⟩ = some (xss[i])[j])
theorem Cellz.keep {w w' : World} {sz : Nat} {A : Option Addr} {n : Nat} {xss : List (List Value)} (h : Cellz w sz A n xss) (hk : ∀ p v, w.cell? p = some v → w'.cell? p = some v) : Cellz w' sz A n xss :=
 ⟨h.1, h.2.1, fun hn => by
  obtain ⟨b, off, e, hc⟩ := h.2.2 hn
  exact ⟨b, off, e, fun i hi j hj => hk _ _ (hc i hi j hj)⟩⟩
theorem Cellz.below {w w' : World} {sz : Nat} {A : Option Addr} {n : Nat} {xss : List (List Value)} (h : Cellz w sz A n xss) (hb : Below w.heap.size w w') : Cellz w' sz A n xss :=
 h.keep fun _ _ hp => (hb.cell (cell_lt hp)).trans hp
theorem addr_add (b off i : Nat) : (⟨b, off, none⟩ : Addr).add i = ⟨b, off + i, none⟩ := by
 unfold Addr.add; split
 ·subst_vars; rfl
 ·rfl
def Row (w : World) (g : Nat) (T : TypeId) (cs : Array Value) : Prop := w.heap[g]? = some (.cells cs T (0, 0))
theorem Row.set {w : World} {g : Nat} {T : TypeId} {cs : Array Value} (h : Row w g T cs) (i : Nat) (v : Value) : Row (w.setCell ⟨g, i, none⟩ v) g T (cs.setIfInBounds i v) := by
 unfold Row at h ⊢
 simp [World.setCell, Array.getElem?_modify, h]
theorem Row.cell {w : World} {g : Nat} {T : TypeId} {cs : Array Value} (h : Row w g T cs) (i : Nat) : w.cell? ⟨g, i, none⟩ = cs[i]? := cell_of_row w g i cs T (0, 0) h
theorem Row.free {w : World} {g : Nat} {T : TypeId} {cs : Array Value} (h : Row w g T cs) (i : Nat) : w.frozen? ⟨g, i, none⟩ = false := by
 unfold Row at h
 simp [World.frozen?, h]
theorem Row.below {w w' : World} {g : Nat} {T : TypeId} {cs : Array Value} (h : Row w g T cs) (hb : Below w.heap.size w w') : Row w' g T cs := (hb.block g (lt_of_block h)).trans h
theorem Row.new (w : World) (T : TypeId) (cs : Array Value) : Row (w.alloc (.cells cs T)) w.heap.size T cs := Go.heap_alloc_last w _
theorem Row.five {w : World} {g : Nat} {T : TypeId} {a0 a1 a2 a3 a4 : Value} (h : Row w g T #[a0, a1, a2, a3, a4]) :
  (w.cell? ⟨g, 0, none⟩ = some a0 ∧ w.cell? ⟨g, 1, none⟩ = some a1 ∧ w.cell? ⟨g, 2, none⟩ = some a2 ∧ w.cell? ⟨g, 3, none⟩ = some a3 ∧ w.cell? ⟨g, 4, none⟩ = some a4) ∧
  (w.frozen? ⟨g, 0, none⟩ = false ∧ w.frozen? ⟨g, 1, none⟩ = false ∧ w.frozen? ⟨g, 2, none⟩ = false ∧ w.frozen? ⟨g, 3, none⟩ = false ∧ w.frozen? ⟨g, 4, none⟩ = false) :=
 ⟨⟨h.cell 0, h.cell 1, h.cell 2, h.cell 3, h.cell 4⟩, ⟨h.free 0, h.free 1, h.free 2, h.free 3, h.free 4⟩⟩
theorem Row.alloc {w : World} {g : Nat} {T : TypeId} {cs : Array Value} (h : Row w g T cs) (o : Obj) : Row (w.alloc o) g T cs := (Below.heap_alloc w o g (lt_of_block h)).trans h
theorem Row.three {w : World} {g : Nat} {T : TypeId} {a0 a1 a2 : Value} (h : Row w g T #[a0, a1, a2]) :
  (w.cell? ⟨g, 0, none⟩ = some a0 ∧ w.cell? ⟨g, 1, none⟩ = some a1 ∧ w.cell? ⟨g, 2, none⟩ = some a2) ∧ (w.frozen? ⟨g, 0, none⟩ = false ∧ w.frozen? ⟨g, 1, none⟩ = false ∧ w.frozen? ⟨g, 2, none⟩ = false) :=
 ⟨⟨h.cell 0, h.cell 1, h.cell 2⟩, ⟨h.free 0, h.free 1, h.free 2⟩⟩
theorem Row.drew {w : World} {g : Nat} {T : TypeId} {cs : Array Value} (h : Row w g T cs) : Row w.drew g T cs := h
theorem Row.drewN {w : World} {g : Nat} {T : TypeId} {cs : Array Value} (h : Row w g T cs) (n : Nat) : Row (w.drewN n) g T cs := h
theorem Row.far {w : World} {g : Nat} {T : TypeId} {cs : Array Value} (h : Row w g T cs) {p : Addr} (hp : g ≠ p.block) (v : Value) : Row (w.setCell p v) g T cs := (Below.heap_setCell w p v g hp).trans h
theorem size1 (w : World) (o : Obj) : (w.alloc o).heap.size = w.heap.size + 1 := by simp
theorem Row.newAt (w : World) (T : TypeId) (cs : Array Value) (g : Nat) (hg : w.heap.size = g) : Row (w.alloc (.cells cs T)) g T cs := hg ▸ Row.new w T cs
theorem keep3 {w w' : World} {a0 a1 a2 : Addr} {v0 v1 v2 : Value} (h : w.cell? a0 = some v0 ∧ w.cell? a1 = some v1 ∧ w.cell? a2 = some v2) (hb : Below w.heap.size w w') : w'.cell? a0 = some v0 ∧ w'.cell? a1 = some v1 ∧ w'.cell? a2 = some v2 := by
 obtain ⟨h0, h1, h2⟩ := h
 exact ⟨(hb.cell (cell_lt h0)).trans h0, (hb.cell (cell_lt h1)).trans h1, (hb.cell (cell_lt h2)).trans h2⟩
def Laid (cs : Array Value) (sz k : Nat) (xss : List (List Value)) : Prop := ∀ (i j : Nat) (v : Value) (c : List Value), i < k → xss[i]? = some c → c[j]? = some v → cs[i * sz + j]? = some v
theorem Laid.zero (cs : Array Value) (sz : Nat) (xss : List (List Value)) : Laid cs sz 0 xss := fun i _ _ _ h => by omega
theorem cellz_of_mid {w : World} {g : Nat} {T : TypeId} {cs : Array Value} {sz n m : Nat} {xss : List (List Value)} (hr : Row w g T cs) (hl : Laid cs sz n xss) (hn : xss.length = n) (hz : ∀ c ∈ xss, c.length = sz) (hm : m ≤ n) : Cellz w sz (some ⟨g, m * sz, none⟩) (n - m) (xss.drop m) := by
 refine ⟨by simp [hn], fun c hc => hz c (List.mem_of_mem_drop hc), fun _ => ⟨g, m * sz, rfl, fun i hi j hj => ?_⟩⟩
 simp only [List.length_drop] at hi
 simp only [List.getElem_drop] at hj ⊢
 rw [hr.cell, ← Nat.add_assoc, ← Nat.add_mul]
 exact hl (m + i) j _ _ (by omega) (List.getElem?_eq_getElem (by omega)) (List.getElem?_eq_getElem hj)
theorem Laid.snoc3 {cs : Array Value} {n m : Nat} {xss : List (List Value)} (h : Laid cs 3 n xss) (hn : xss.length = n) (hz : ∀ c ∈ xss, c.length = 3) (hm : m ≤ n) (v0 v1 v2 : Value) (hs : m * 3 + 3 ≤ cs.size) :
  Laid (((cs.setIfInBounds (m * 3) v0).setIfInBounds (m * 3 + 1) v1).setIfInBounds (m * 3 + 2) v2) 3 (m + 1) (xss.take m ++ [[v0, v1, v2]]) := by
 intro i j v c hi hc hj
 have hlt : (xss.take m).length = m := by simp; omega
 by_cases e : i = m
 ·subst e
  rw [List.getElem?_append_right (by omega), hlt] at hc
  simp at hc
  subst hc
  have hj3 : j < 3 := by obtain ⟨hj', _⟩ := List.getElem?_eq_some_iff.1 hj; simpa using hj'
  have : j = 0 ∨ j = 1 ∨ j = 2 := by omega
  rcases this with rfl | rfl | rfl <;> simp at hj <;> subst hj <;> simp [Array.getElem?_setIfInBounds] <;> omega
 ·rw [List.getElem?_append_left (by omega), List.getElem?_take_of_lt (by omega)] at hc
  have hl := hz c (List.mem_of_getElem? hc)
  have hj3 : j < 3 := by obtain ⟨hj', _⟩ := List.getElem?_eq_some_iff.1 hj; omega
  have := h i j v c (by omega) hc hj
  simp only [Array.getElem?_setIfInBounds, Array.size_setIfInBounds]
  rw [if_neg (by omega), if_neg (by omega), if_neg (by omega)]
  exact this
abbrev Rd (α : Type) := (Nat → Prop) → World → List Value → α → Prop
def Sl {α : Type} (R : Rd α) (sz : Nat) (ok : Nat → Prop) (w : World) (A : Option Addr) (n : Nat) (ds : List α) : Prop :=
 ds.length = n ∧ (0 < n → ∃ b off, A = some ⟨b, off, none⟩ ∧ ok b ∧ ∀ (i : Nat) (h : i < ds.length), ∃ cs : List Value, cs.length = sz ∧ R ok w cs ds[i] ∧ ∀ (j : Nat) (v : Value), cs[j]? = some v → w.cell? ⟨b, off + i * sz + j, none⟩ = some v)
def Stays {α : Type} (R : Rd α) : Prop := ∀ (ok ok' : Nat → Prop) (w w' : World) (cs : List Value) (d : α), R ok w cs d → (∀ b, ok b → ok' b) → (∀ p v, ok p.block → w.cell? p = some v → w'.cell? p = some v) → R ok' w' cs d
theorem Sl.stays {α : Type} {R : Rd α} (hR : Stays R) {sz : Nat} {ok ok' : Nat → Prop} {w w' : World} {A : Option Addr} {n : Nat} {ds : List α} (h : Sl R sz ok w A n ds) (ho : ∀ b, ok b → ok' b) (hk : ∀ p v, ok p.block → w.cell? p = some v → w'.cell? p = some v) : Sl R sz ok' w' A n ds :=
 ⟨h.1, fun hn => by
  obtain ⟨b, off, e, hb, hi⟩ := h.2 hn
  refine ⟨b, off, e, ho b hb, fun i hlt => ?_⟩
  obtain ⟨cs, h1, h2, h3⟩ := hi i hlt
  exact ⟨cs, h1, hR _ _ _ _ _ _ h2 ho hk, fun j v hv => hk _ _ hb (h3 j v hv)⟩⟩
theorem below_keep {w w' : World} (hb : Below w.heap.size w w') : ∀ p v, w.cell? p = some v → w'.cell? p = some v := fun _ _ hp => (hb.cell (cell_lt hp)).trans hp
theorem Sl.below {α : Type} {R : Rd α} (hR : Stays R) {sz : Nat} {ok : Nat → Prop} {w w' : World} {A : Option Addr} {n : Nat} {ds : List α} (h : Sl R sz ok w A n ds) (hb : Below w.heap.size w w') : Sl R sz ok w' A n ds :=
 h.stays hR (fun _ h => h) fun p v _ hp => below_keep hb p v hp
def FlatR {α : Type} (f : α → List Value) : Rd α := fun _ _ cs d => cs = f d
theorem FlatR.stays {α : Type} (f : α → List Value) : Stays (FlatR f) := fun _ _ _ _ _ _ h _ _ => h
theorem Sl.cellz {α : Type} {f : α → List Value} {sz : Nat} {ok : Nat → Prop} {w : World} {A : Option Addr} {n : Nat} {ds : List α} (hf : ∀ d, (f d).length = sz) (h : Sl (FlatR f) sz ok w A n ds) : Cellz w sz A n (ds.map f) := by
 refine ⟨by simpa using h.1, fun c hc => by obtain ⟨d, _, rfl⟩ := List.mem_map.1 hc; exact hf d, fun hn => ?_⟩
 obtain ⟨b, off, e, hb, hi⟩ := h.2 hn
 refine ⟨b, off, e, fun i hlt j hj => ?_⟩
 obtain ⟨cs, h1, h2, h3⟩ := hi i (by simpa using hlt)
 have e2 : (ds.map f)[i] = cs := by rw [List.getElem_map]; exact h2.symm
 rw [← Nat.add_assoc]
 exact h3 j _ (by rw [List.getElem?_eq_some_iff]; exact ⟨by rw [e2] at hj; exact hj, by simp only [e2]⟩)
def LaidR {α : Type} (R : Rd α) (sz : Nat) (ok : Nat → Prop) (w : World) (cs : Array Value) (k : Nat) (ds : List α) : Prop :=
 ∀ (i : Nat) (h : i < ds.length), i < k → ∃ c : List Value, c.length = sz ∧ R ok w c ds[i] ∧ ∀ (j : Nat) (v : Value), c[j]? = some v → cs[i * sz + j]? = some v
theorem LaidR.zero {α : Type} (R : Rd α) (sz : Nat) (ok : Nat → Prop) (w : World) (cs : Array Value) (ds : List α) : LaidR R sz ok w cs 0 ds := fun _ _ h => by omega
theorem LaidR.more {α : Type} {R : Rd α} {sz : Nat} {ok : Nat → Prop} {w : World} {cs cs' : Array Value} {k : Nat} {ds : List α} (h : LaidR R sz ok w cs k ds) (hk : k < ds.length) {c : List Value} (hc : c.length = sz) (hr : R ok w c ds[k])
  (hold : ∀ m, m < k * sz → cs'[m]? = cs[m]?) (hnew : ∀ (j : Nat) (v : Value), c[j]? = some v → cs'[k * sz + j]? = some v) : LaidR R sz ok w cs' (k + 1) ds := fun i hi hlt => by
 by_cases e : i = k
 ·subst e
  exact ⟨c, hc, hr, hnew⟩
 ·obtain ⟨c', h1, h2, h3⟩ := h i hi (by omega)
  refine ⟨c', h1, h2, fun j v hv => ?_⟩
  have hj : j < sz := by obtain ⟨hj, _⟩ := List.getElem?_eq_some_iff.1 hv; omega
  rw [hold _ ?_]
  ·exact h3 j v hv
  ·have : (i + 1) * sz ≤ k * sz := Nat.mul_le_mul_right _ (by omega)
   rw [Nat.add_mul] at this
   omega
end Go.Proofs.YtjhhamlnlalkoaaGreat
namespace Go.Proofs.YtjhhamlnlalkoaaGreat
open Go.RowKit
theorem eqlVal (k n k' n' : Int) (s s' : ByteArray) (w : World) :
  (binOp .eql 53 (.agg #[.int .i64 k, .int .i64 n, .string s]) (.agg #[.int .i64 k', .int .i64 n', .string s'])).run Tryz.prog w = .ok (.bool (k == k' && (n == n' && s.toList == s'.toList))) w := by
 have u1 := Tryz.underlying2
 have u2 := Tryz.underlying9
 have a1 := Tryz.isAgg2
 have z1 := Tryz.sizeOf2
 have a2 := Tryz.isAgg9
 have z2 := Tryz.sizeOf9
 have hS : Tryz.prog.underlying 53 = some (.struct (Tryz.prog.fieldsOf 53)) := by kernel_rfl
 have hp : Tryz.prog.stoodInHeld 53 = false := by kernel_rfl
 rw [run_eql_struct, show (10000 : Nat) = 9999 + 1 from rfl, run_equalIn_agg w 9999 53 _ _ hS hp]
 simp only [Program.fieldsOf, Tryz.underlying53]
 go_simp
 by_cases h1 : k = k' <;> by_cases h2 : n = n' <;> by_cases h3 : s.toList = s'.toList <;> simp [h1, h2, h3]
def valOkB (k n : Int) (s : ByteArray) : Bool :=
 if k = 0 then n == 0 && s.toList.isEmpty else if k = 1 then decide (-1000000000 ≤ n) && decide (n ≤ 1000000000) && s.toList.isEmpty else if k = 2 then n == 0 && decide ((s.size : Int) ≤ 12) else false
theorem specIn (n lo hi : Int) (w : World) :
  Calls Tryz.prog 93 #[.int .i64 n, .int .i64 lo, .int .i64 hi] w fun e w' => e = .returned (.bool (decide (lo ≤ n) && decide (n ≤ hi))) ∧ w = w' := by
 by_cases h : lo ≤ n
 ·go_enter Tryz.func93, Tryz.ntmps93
  go_wp2
  go_ret
  exact ⟨retB (by simp [h]), rfl⟩
 ·have h' : decide (lo ≤ n) = false := by simpa using h
  go_enter Tryz.func93, Tryz.ntmps93
  go_wp2
  go_ret
  exact ⟨retB (by simp), rfl⟩
theorem specValOk (k n : Int) (s : ByteArray) (w : World) :
  Calls Tryz.prog 96 #[.agg #[.int .i64 k, .int .i64 n, .string s]] w fun e w' => e = .returned (.bool (valOkB k n s)) ∧ Below w.heap.size w w' := by
 have hb := fun o => (Below.refl w.heap.size w).alloc (Nat.le_refl _) o
 have HB := Lib.hid hb
 clear hb
 by_cases k0 : k = 0
 ·subst k0
  go_enter Tryz.func96, Tryz.ntmps96
  go_wp2
  all_goals
   go_ret
   exact ⟨retB (by simp [valOkB, *]), HB.out _⟩
 have d0 : (k == 0) = false := by simpa using k0
 by_cases k1 : k = 1
 ·subst k1
  by_cases h : (decide (-1000000000 ≤ n) && decide (n ≤ 1000000000)) = true
  ·go_enter Tryz.func96, Tryz.ntmps96
   go_wp2_with (go_at_call 93; refine (specIn _ _ _ _).mono ?_; rintro e w' ⟨rfl, rfl⟩)
   go_ret
   exact ⟨retB (by simp [valOkB] at h ⊢; simp [h]), HB.out _⟩
  ·have h' : (decide (-1000000000 ≤ n) && decide (n ≤ 1000000000)) = false := by simpa using h
   go_enter Tryz.func96, Tryz.ntmps96
   go_wp2_with (go_at_call 93; refine (specIn _ _ _ _).mono ?_; rintro e w' ⟨rfl, rfl⟩)
   go_ret
   exact ⟨retB (by simp [valOkB, h']), HB.out _⟩
 have d1 : (k == 1) = false := by simpa using k1
 by_cases k2 : k = 2
 ·subst k2
  by_cases h : n = 0
  ·subst h
   go_enter Tryz.func96, Tryz.ntmps96
   go_wp2
   go_ret
   exact ⟨retB (by simp [valOkB]), HB.out _⟩
  ·have h' : (n == 0) = false := by simpa using h
   go_enter Tryz.func96, Tryz.ntmps96
   go_wp2
   go_ret
   exact ⟨retB (by simp [valOkB, h']), HB.out _⟩
 ·have d2 : (k == 2) = false := by simpa using k2
  go_enter Tryz.func96, Tryz.ntmps96
  go_wp2
  go_ret
  exact ⟨retB (by simp [valOkB, k0, k1, k2]), HB.out _⟩
theorem as_num_num (v : Value) (w : World) : (Instr.typeAssert (.iface 139 v) 134 139 true).run Tryz.prog w = .ok (.tuple #[v, .bool true]) w := by kernel_rfl
theorem as_str_num (v : Value) (w : World) : (Instr.typeAssert (.iface 162 v) 134 139 true).run Tryz.prog w = .ok (.tuple #[.int .i64 0, .bool false]) w := by kernel_rfl
theorem as_str_str (v : Value) (w : World) : (Instr.typeAssert (.iface 162 v) 134 162 true).run Tryz.prog w = .ok (.tuple #[v, .bool true]) w := by kernel_rfl
theorem as_not_num (v : Value) (w : World) : (Instr.typeAssert (.iface 138 v) 134 139 true).run Tryz.prog w = .ok (.tuple #[.int .i64 0, .bool false]) w := by kernel_rfl
theorem as_not_str (v : Value) (w : World) : (Instr.typeAssert (.iface 138 v) 134 162 true).run Tryz.prog w = .ok (.tuple #[.string ByteArray.empty, .bool false]) w := by kernel_rfl
theorem specInt (n : Int) (w : World) :
  Calls Tryz.prog 68 #[.int .i64 n] w fun e w' => e = .returned (.agg #[.int .i64 1, .int .i64 n, .string ⟨#[]⟩]) ∧ ∃ o, w.alloc o = w' := by
 go_enter Tryz.func68, Tryz.ntmps68
 go_wp2
 exact bodyPost_ret (v := .agg #[.int .i64 1, .int .i64 n, .string ⟨#[]⟩]) (by simp [results, Tryz.results68, go_sem]) rfl ⟨rfl, _, rfl⟩
theorem specStr (s : ByteArray) (w : World) :
  Calls Tryz.prog 83 #[.string s] w fun e w' => e = .returned (.agg #[.int .i64 2, .int .i64 0, .string s]) ∧ ∃ o, w.alloc o = w' := by
 go_enter Tryz.func83, Tryz.ntmps83
 go_wp2
 exact bodyPost_ret (v := .agg #[.int .i64 2, .int .i64 0, .string s]) (by simp [results, Tryz.results83, go_sem]) rfl ⟨rfl, _, rfl⟩
theorem implValOfNum (n : Int) (w : World) :
  Calls Tryz.prog 119 #[.iface 139 (.int .i64 n)] w fun e w' => e = .returned (.agg #[.int .i64 1, .int .i64 n, .string ⟨#[]⟩]) ∧ Below w.heap.size w w' := by
 have as1 := as_num_num
 go_enter Tryz.func119, Tryz.ntmps119
 go_wp2
 exact bodyPost_ret (v := .agg #[.int .i64 1, .int .i64 n, .string ⟨#[]⟩]) (by simp [results, Tryz.results119, go_sem]) rfl ⟨rfl, (Below.refl _ _).alloc (Nat.le_refl _) _⟩
theorem implValOfStr (s : ByteArray) (w : World) :
  Calls Tryz.prog 119 #[.iface 162 (.string s)] w fun e w' => e = .returned (.agg #[.int .i64 2, .int .i64 0, .string s]) ∧ Below w.heap.size w w' := by
 have as1 := as_str_num
 have as2 := as_str_str
 go_enter Tryz.func119, Tryz.ntmps119
 go_wp2
 exact bodyPost_ret (v := .agg #[.int .i64 2, .int .i64 0, .string s]) (by simp [results, Tryz.results119, go_sem]) rfl ⟨rfl, (Below.refl _ _).alloc (Nat.le_refl _) _⟩
theorem implValOfNot (w : World) :
  Calls Tryz.prog 119 #[.iface 138 (.agg #[])] w fun e w' => e = .returned (.agg #[.int .i64 0, .int .i64 0, .string ⟨#[]⟩]) ∧ Below w.heap.size w w' := by
 have as1 := as_not_num
 have as2 := as_not_str
 go_enter Tryz.func119, Tryz.ntmps119
 go_wp2
 exact bodyPost_ret (v := .agg #[.int .i64 0, .int .i64 0, .string ⟨#[]⟩]) (by simp [results, Tryz.results119, go_sem]) rfl ⟨rfl, (Below.refl _ _).alloc (Nat.le_refl _) _⟩
theorem rightOfNot (w : World) : (method 341 138 (.agg #[]) "loop.example/g00570/impl.right").run Tryz.prog w = .ok (211, .agg #[]) w := by kernel_rfl
theorem rightOfNum (n : Int) (w : World) : (method 341 139 (.int .i64 n) "loop.example/g00570/impl.right").run Tryz.prog w = .ok (162, .int .i64 n) w := by kernel_rfl
theorem rightOfStr (s : ByteArray) (w : World) : (method 341 162 (.string s) "loop.example/g00570/impl.right").run Tryz.prog w = .ok (214, .string s) w := by kernel_rfl
theorem rightNot (w : World) : Calls Tryz.prog 211 #[.agg #[]] w fun e w' => e = .returned (.bool true) ∧ Below w.heap.size w w' := by
 go_enter Tryz.func211, Tryz.ntmps211
 go_wp2
 go_ret
 first | exact ⟨rfl, Below.refl _ _⟩ | exact ⟨rfl, (Below.refl _ _).alloc (Nat.le_refl _) _⟩
theorem rightNum (n : Int) (w : World) : Calls Tryz.prog 162 #[.int .i64 n] w fun e w' => e = .returned (.bool (decide (-1000000000 ≤ n) && decide (n ≤ 1000000000))) ∧ w = w' := by
 by_cases h : -1000000000 ≤ n
 ·go_enter Tryz.func162, Tryz.ntmps162
  go_wp2
  go_ret
  exact ⟨retB (by simp [h]), rfl⟩
 ·have h' : decide (-1000000000 ≤ n) = false := by simpa using h
  go_enter Tryz.func162, Tryz.ntmps162
  go_wp2
  go_ret
  exact ⟨retB (by simp), rfl⟩
theorem rightStr (s : ByteArray) (w : World) : Calls Tryz.prog 214 #[.string s] w fun e w' => e = .returned (.bool (decide ((s.size : Int) ≤ 12))) ∧ w = w' := by
 go_enter Tryz.func214, Tryz.ntmps214
 go_wp2
 go_ret
 exact ⟨rfl, rfl⟩
def Cells3 (w : World) (b : Nat) (k n : Int) (s : ByteArray) : Prop := w.cell? ⟨b, 0, none⟩ = some (.int .i64 k) ∧ w.cell? ⟨b, 1, none⟩ = some (.int .i64 n) ∧ w.cell? ⟨b, 2, none⟩ = some (.string s)
theorem Cells3.below {w w' : World} {b : Nat} {k n : Int} {s : ByteArray} (h : Cells3 w b k n s) (hb : Below w.heap.size w w') : Cells3 w' b k n s :=
 ⟨(hb.cell (cell_lt h.1)).trans h.1, (hb.cell (cell_lt h.2.1)).trans h.2.1, (hb.cell (cell_lt h.2.2)).trans h.2.2⟩
def heldV (k n : Int) (s : ByteArray) : Value := if k = 0 then .iface 138 (.agg #[]) else if k = 1 then .iface 139 (.int .i64 n) else .iface 162 (.string s)
theorem chain1 (w : World) (o : Obj) {w1 : World} (hb : Below (w.alloc o).drew.heap.size (w.alloc o).drew w1) : Below w.heap.size w w1 :=
 (((Below.refl _ w).alloc (Nat.le_refl _) o).drew).trans (hb.mono (by simp))
theorem boxed {w w1 : World} {k n : Int} {s : ByteArray} {T : TypeId} (hb : Below (w.alloc (.cells #[.int .i64 k, .int .i64 n, .string s] T)).drew.heap.size (w.alloc (.cells #[.int .i64 k, .int .i64 n, .string s] T)).drew w1) :
  w1.cell? ⟨w.heap.size, 0, none⟩ = some (.int .i64 k) ∧ w1.cell? ⟨w.heap.size, 1, none⟩ = some (.int .i64 n) ∧ w1.cell? ⟨w.heap.size, 2, none⟩ = some (.string s) := by
 refine ⟨?_, ?_, ?_⟩ <;> (rw [hb.cell (by simp)]; simp)
def HeldOk (k n : Int) (s : ByteArray) (w : World) (e : Ending) (w' : World) : Prop := e = .returned (.tuple #[heldV k n s, .bool true]) ∧ Below w.heap.size w w'
def HeldNo (w : World) (e : Ending) (w' : World) : Prop := e = .returned (.tuple #[.nilIface, .bool false]) ∧ Below w.heap.size w w'
set_option maxRecDepth 100000 in
set_option maxHeartbeats 1000000 in
theorem held0yes (s : ByteArray) (w : World) (hs : s.toList = []) :
  Calls Tryz.prog 79 #[.agg #[.int .i64 0, .int .i64 0, .string s]] w (HeldOk 0 0 s w) := by
 have hm := rightOfNot
 go_enter Tryz.func79, Tryz.ntmps79
 go_wp2_with fail
 go_region_held3 (fun w' => w'.cell? ⟨w.heap.size, 0, none⟩ = some (.int .i64 0) ∧ w'.cell? ⟨w.heap.size, 1, none⟩ = some (.int .i64 0) ∧ w'.cell? ⟨w.heap.size, 2, none⟩ = some (.string s)) (first | go_keep | (refine ⟨?_, ?_, ?_⟩ <;> (rw [hb.cell (by simp)]; simp)) | (refine ⟨?_, ?_, ?_⟩ <;> (rw [hb2.cell (by have := hb.size; simp at this; simp; omega), hb.cell (by simp)]; simp)))
  (first | (go_at_call 119; refine (implValOfNot _).mono ?_; rintro e w1 ⟨rfl, hb⟩) | (go_at_call 211; refine (rightNot _).mono ?_; rintro e w2 ⟨rfl, hb2⟩))
 go_wp2
 go_ret2
 exact ⟨rfl, (chain1 w _ hb).trans (hb2.mono (by have := hb.size; simp at this; omega))⟩
set_option maxRecDepth 100000 in
set_option maxHeartbeats 1000000 in
theorem held0n (n : Int) (s : ByteArray) (w : World) (hn : ¬ n = 0) :
  Calls Tryz.prog 79 #[.agg #[.int .i64 0, .int .i64 n, .string s]] w (HeldNo w) := by
 have e1 : (0 == n) = false := by simp; omega
 go_enter Tryz.func79, Tryz.ntmps79
 go_wp2_with fail
 first | (go_region_with ((go_at_call 119; refine (implValOfNot _).mono ?_; rintro e w1 ⟨rfl, hb⟩; obtain ⟨r0, r1, r2⟩ := boxed hb))) | fail
 all_goals
  go_wp2
  go_ret2
  exact ⟨rfl, chain1 w _ hb⟩
set_option maxRecDepth 100000 in
set_option maxHeartbeats 1000000 in
theorem held0s (n : Int) (s : ByteArray) (w : World) (hs : ¬ s.toList = []) :
  Calls Tryz.prog 79 #[.agg #[.int .i64 0, .int .i64 n, .string s]] w (HeldNo w) := by
 by_cases hn : n = 0
 ·subst hn
  have e1 : (([] : List UInt8) == s.toList) = false := by simpa using hs
  go_enter Tryz.func79, Tryz.ntmps79
  go_wp2_with fail
  first | (go_region_with ((go_at_call 119; refine (implValOfNot _).mono ?_; rintro e w1 ⟨rfl, hb⟩; obtain ⟨r0, r1, r2⟩ := boxed hb))) | fail
  all_goals
   go_wp2
   go_ret2
   exact ⟨rfl, chain1 w _ hb⟩
 ·exact held0n n s w hn
set_option maxRecDepth 100000 in
set_option maxHeartbeats 1000000 in
theorem held1yes (n : Int) (s : ByteArray) (w : World) (hs : s.toList = []) (h : (decide (-1000000000 ≤ n) && decide (n ≤ 1000000000)) = true) :
  Calls Tryz.prog 79 #[.agg #[.int .i64 1, .int .i64 n, .string s]] w (HeldOk 1 n s w) := by
 have hm := rightOfNum n
 go_enter Tryz.func79, Tryz.ntmps79
 go_wp2_with fail
 go_region_held3 (fun w' => w'.cell? ⟨w.heap.size, 0, none⟩ = some (.int .i64 1) ∧ w'.cell? ⟨w.heap.size, 1, none⟩ = some (.int .i64 n) ∧ w'.cell? ⟨w.heap.size, 2, none⟩ = some (.string s)) (first | go_keep | (refine ⟨?_, ?_, ?_⟩ <;> (rw [hb.cell (by simp)]; simp)) | (refine ⟨?_, ?_, ?_⟩ <;> (rw [hb2.cell (by have := hb.size; simp at this; simp; omega), hb.cell (by simp)]; simp)))
  (first | (go_at_call 119; refine (implValOfNum _ _).mono ?_; rintro e w1 ⟨rfl, hb⟩) | (go_at_call 162; refine (rightNum _ _).mono ?_; rintro e w2 ⟨rfl, rfl⟩))
 go_wp2
 go_ret2
 exact ⟨rfl, chain1 w _ hb⟩
set_option maxRecDepth 100000 in
set_option maxHeartbeats 1000000 in
theorem held1no (n : Int) (s : ByteArray) (w : World) (hs : s.toList = []) (h : (decide (-1000000000 ≤ n) && decide (n ≤ 1000000000)) = false) :
  Calls Tryz.prog 79 #[.agg #[.int .i64 1, .int .i64 n, .string s]] w (HeldNo w) := by
 have hm := rightOfNum n
 go_enter Tryz.func79, Tryz.ntmps79
 go_wp2_with fail
 go_region_held3 (fun w' => w'.cell? ⟨w.heap.size, 0, none⟩ = some (.int .i64 1) ∧ w'.cell? ⟨w.heap.size, 1, none⟩ = some (.int .i64 n) ∧ w'.cell? ⟨w.heap.size, 2, none⟩ = some (.string s)) (first | go_keep | (refine ⟨?_, ?_, ?_⟩ <;> (rw [hb.cell (by simp)]; simp)) | (refine ⟨?_, ?_, ?_⟩ <;> (rw [hb2.cell (by have := hb.size; simp at this; simp; omega), hb.cell (by simp)]; simp)))
  (first | (go_at_call 119; refine (implValOfNum _ _).mono ?_; rintro e w1 ⟨rfl, hb⟩) | (go_at_call 162; refine (rightNum _ _).mono ?_; rintro e w2 ⟨rfl, rfl⟩))
 go_wp2
 go_ret2
 exact ⟨rfl, chain1 w _ hb⟩
set_option maxRecDepth 100000 in
set_option maxHeartbeats 1000000 in
theorem held1s (n : Int) (s : ByteArray) (w : World) (hs : ¬ s.toList = []) :
  Calls Tryz.prog 79 #[.agg #[.int .i64 1, .int .i64 n, .string s]] w (HeldNo w) := by
 have e1 : (([] : List UInt8) == s.toList) = false := by simpa using hs
 go_enter Tryz.func79, Tryz.ntmps79
 go_wp2_with fail
 first | (go_region_with ((go_at_call 119; refine (implValOfNum _ _).mono ?_; rintro e w1 ⟨rfl, hb⟩; obtain ⟨r0, r1, r2⟩ := boxed hb))) | fail
 all_goals
  go_wp2
  go_ret2
  exact ⟨rfl, chain1 w _ hb⟩
set_option maxRecDepth 100000 in
set_option maxHeartbeats 1000000 in
theorem held2yes (s : ByteArray) (w : World) (h : decide ((s.size : Int) ≤ 12) = true) :
  Calls Tryz.prog 79 #[.agg #[.int .i64 2, .int .i64 0, .string s]] w (HeldOk 2 0 s w) := by
 have hm := rightOfStr s
 go_enter Tryz.func79, Tryz.ntmps79
 go_wp2_with fail
 go_region_held3 (fun w' => w'.cell? ⟨w.heap.size, 0, none⟩ = some (.int .i64 2) ∧ w'.cell? ⟨w.heap.size, 1, none⟩ = some (.int .i64 0) ∧ w'.cell? ⟨w.heap.size, 2, none⟩ = some (.string s)) (first | go_keep | (refine ⟨?_, ?_, ?_⟩ <;> (rw [hb.cell (by simp)]; simp)) | (refine ⟨?_, ?_, ?_⟩ <;> (rw [hb2.cell (by have := hb.size; simp at this; simp; omega), hb.cell (by simp)]; simp)))
  (first | (go_at_call 119; refine (implValOfStr _ _).mono ?_; rintro e w1 ⟨rfl, hb⟩) | (go_at_call 214; refine (rightStr _ _).mono ?_; rintro e w2 ⟨rfl, rfl⟩))
 go_wp2
 go_ret2
 exact ⟨rfl, chain1 w _ hb⟩
set_option maxRecDepth 100000 in
set_option maxHeartbeats 1000000 in
theorem held2no (s : ByteArray) (w : World) (h : decide ((s.size : Int) ≤ 12) = false) :
  Calls Tryz.prog 79 #[.agg #[.int .i64 2, .int .i64 0, .string s]] w (HeldNo w) := by
 have hm := rightOfStr s
 go_enter Tryz.func79, Tryz.ntmps79
 go_wp2_with fail
 go_region_held3 (fun w' => w'.cell? ⟨w.heap.size, 0, none⟩ = some (.int .i64 2) ∧ w'.cell? ⟨w.heap.size, 1, none⟩ = some (.int .i64 0) ∧ w'.cell? ⟨w.heap.size, 2, none⟩ = some (.string s)) (first | go_keep | (refine ⟨?_, ?_, ?_⟩ <;> (rw [hb.cell (by simp)]; simp)) | (refine ⟨?_, ?_, ?_⟩ <;> (rw [hb2.cell (by have := hb.size; simp at this; simp; omega), hb.cell (by simp)]; simp)))
  (first | (go_at_call 119; refine (implValOfStr _ _).mono ?_; rintro e w1 ⟨rfl, hb⟩) | (go_at_call 214; refine (rightStr _ _).mono ?_; rintro e w2 ⟨rfl, rfl⟩))
 go_wp2
 go_ret2
 exact ⟨rfl, chain1 w _ hb⟩
set_option maxRecDepth 100000 in
set_option maxHeartbeats 1000000 in
theorem held2n (n : Int) (s : ByteArray) (w : World) (hn : ¬ n = 0) :
  Calls Tryz.prog 79 #[.agg #[.int .i64 2, .int .i64 n, .string s]] w (HeldNo w) := by
 have e1 : (0 == n) = false := by simp; omega
 go_enter Tryz.func79, Tryz.ntmps79
 go_wp2_with fail
 first | (go_region_with ((go_at_call 119; refine (implValOfStr _ _).mono ?_; rintro e w1 ⟨rfl, hb⟩; obtain ⟨r0, r1, r2⟩ := boxed hb))) | fail
 all_goals
  go_wp2
  go_ret2
  exact ⟨rfl, chain1 w _ hb⟩
theorem heldElse (k n : Int) (s : ByteArray) (w : World) (k0 : (k == 0) = false) (k1 : (k == 1) = false) (k2 : (k == 2) = false) :
  Calls Tryz.prog 79 #[.agg #[.int .i64 k, .int .i64 n, .string s]] w (HeldNo w) := by
 go_enter Tryz.func79, Tryz.ntmps79
 go_wp2
 go_ret2
 exact ⟨rfl, (Below.refl _ _).alloc (Nat.le_refl _) _⟩
theorem heldYes (k n : Int) (s : ByteArray) (w : World) (h : valOkB k n s = true) :
  Calls Tryz.prog 79 #[.agg #[.int .i64 k, .int .i64 n, .string s]] w (HeldOk k n s w) := by
 unfold valOkB at h
 by_cases k0 : k = 0
 ·subst k0
  simp at h
  obtain ⟨rfl, hs⟩ := h
  exact held0yes s w hs
 by_cases k1 : k = 1
 ·subst k1
  simp at h
  exact held1yes n s w h.2 (by simpa using h.1)
 by_cases k2 : k = 2
 ·subst k2
  simp at h
  obtain ⟨rfl, hs⟩ := h
  exact held2yes s w (by simpa using hs)
 ·simp [k0, k1, k2] at h
theorem heldNo (k n : Int) (s : ByteArray) (w : World) (h : valOkB k n s = false) :
  Calls Tryz.prog 79 #[.agg #[.int .i64 k, .int .i64 n, .string s]] w (HeldNo w) := by
 unfold valOkB at h
 by_cases k0 : k = 0
 ·subst k0
  by_cases hs : s.toList = []
  ·by_cases hn : n = 0
   ·simp [hs, hn] at h
   ·exact held0n n s w hn
  ·exact held0s n s w hs
 by_cases k1 : k = 1
 ·subst k1
  by_cases hs : s.toList = []
  ·refine held1no n s w hs ?_
   simpa [hs] using h
  ·exact held1s n s w hs
 by_cases k2 : k = 2
 ·subst k2
  by_cases hn : n = 0
  ·subst hn
   refine held2no s w ?_
   simpa using h
  ·exact held2n n s w hn
 ·exact heldElse k n s w (by simpa using k0) (by simpa using k1) (by simpa using k2)
theorem implValOk (k n : Int) (s : ByteArray) (w : World) :
  Calls Tryz.prog 66 #[.agg #[.int .i64 k, .int .i64 n, .string s]] w fun e w' => e = .returned (.bool (valOkB k n s)) ∧ Below w.heap.size w w' := by
 have hb0 := (Below.refl w.heap.size w).alloc (Nat.le_refl _) (.cells #[.int .i64 k, .int .i64 n, .string s] 53)
 cases h : valOkB k n s
 ·have H := Lib.hid h; clear h
  go_enter Tryz.func66, Tryz.ntmps66
  go_wp2_with fail
  refine (heldNo k n s _ H.out).mono ?_
  rintro e w1 ⟨rfl, hb⟩
  go_wp2
  go_ret
  exact ⟨rfl, hb0.trans (hb.mono (by simp))⟩
 ·have H := Lib.hid h; clear h
  go_enter Tryz.func66, Tryz.ntmps66
  go_wp2_with fail
  refine (heldYes k n s _ H.out).mono ?_
  rintro e w1 ⟨rfl, hb⟩
  go_wp2
  go_ret
  exact ⟨rfl, hb0.trans (hb.mono (by simp))⟩
def cmpI (x y : Int) : Int := if x < y then -1 else if y < x then 1 else 0
def cmpS (x y : ByteArray) : Int := if Op.bytesLess x.toList y.toList = true then -1 else if x.toList = y.toList then 0 else 1
def firstNZ (x y z : Int) : Int := if x ≠ 0 then x else if y ≠ 0 then y else z
theorem cmpInt (x y : Int) (w : World) :
  Calls Tryz.prog 182 #[.int .i64 x, .int .i64 y] w fun e w' => e = .returned (.int .i64 (cmpI x y)) ∧ w = w' := by
 unfold cmpI
 by_cases h : x < y
 ·rw [if_pos h]
  go_enter Tryz.func182, Tryz.ntmps182
  go_wp2
  go_ret
  exact ⟨rfl, rfl⟩
 by_cases h2 : y < x
 ·rw [if_neg h, if_pos h2]
  have hd : decide (x < y) = false := by simpa using h
  go_enter Tryz.func182, Tryz.ntmps182
  go_wp2
  go_ret
  exact ⟨rfl, rfl⟩
 ·rw [if_neg h, if_neg h2]
  have hd : decide (x < y) = false := by simpa using h
  have hd2 : decide (y < x) = false := by simpa using h2
  go_enter Tryz.func182, Tryz.ntmps182
  go_wp2
  go_ret
  exact ⟨rfl, rfl⟩
theorem cmpStr (x y : ByteArray) (w : World) :
  Calls Tryz.prog 183 #[.string x, .string y] w fun e w' => e = .returned (.int .i64 (cmpS x y)) ∧ w = w' := by
 unfold cmpS
 by_cases h : Op.bytesLess x.toList y.toList = true
 ·rw [if_pos h]
  go_enter Tryz.func183, Tryz.ntmps183
  go_wp2
  go_ret
  exact ⟨rfl, rfl⟩
 have h' : Op.bytesLess x.toList y.toList = false := by simpa using h
 by_cases h2 : x.toList = y.toList
 ·rw [if_neg h, if_pos h2]
  have h3 : (x.toList == y.toList) = true := by simpa using h2
  clear h h2
  go_enter Tryz.func183, Tryz.ntmps183
  go_wp2
  go_ret
  exact ⟨rfl, rfl⟩
 ·rw [if_neg h, if_neg h2]
  have h3 : (x.toList == y.toList) = false := by simpa using h2
  clear h
  go_enter Tryz.func183, Tryz.ntmps183
  go_wp2
  go_ret
  exact ⟨rfl, rfl⟩
set_option maxHeartbeats 1000000 in
theorem cmpOr (b : Nat) (x y z : Int) (w : World) (h0 : w.cell? ⟨b, 0, none⟩ = some (.int .i64 x)) (h1 : w.cell? ⟨b, 1, none⟩ = some (.int .i64 y)) (h2 : w.cell? ⟨b, 2, none⟩ = some (.int .i64 z)) :
  Calls Tryz.prog 181 #[.slice (some ⟨b, 0, none⟩) 3 3] w fun e w' => e = .returned (.int .i64 (firstNZ x y z)) ∧ w = w' := by
 by_cases hx : x = 0
 ·subst hx
  by_cases hy : y = 0
  ·subst hy
   by_cases hz : z = 0
   ·subst hz
    rw [show firstNZ 0 0 0 = 0 by decide]
    go_enter Tryz.func181, Tryz.ntmps181
    go_wp2
    refine wp_loop_rounds 4 ?_
    rw [rounds_succ]
    go_wp2
    rw [rounds_succ]
    go_wp2
    rw [rounds_succ]
    go_wp2
    rw [rounds_succ]
    go_wp2
    go_ret
    exact ⟨rfl, rfl⟩
   ·rw [show firstNZ 0 0 z = z by simp [firstNZ]]
    have hz' : (z != 0) = true := by simpa using hz
    go_enter Tryz.func181, Tryz.ntmps181
    go_wp2
    refine wp_loop_rounds 4 ?_
    rw [rounds_succ]
    go_wp2
    rw [rounds_succ]
    go_wp2
    rw [rounds_succ]
    go_wp2
    go_ret
    exact ⟨rfl, rfl⟩
  ·rw [show firstNZ 0 y z = y by simp [firstNZ, hy]]
   have hy' : (y != 0) = true := by simpa using hy
   go_enter Tryz.func181, Tryz.ntmps181
   go_wp2
   refine wp_loop_rounds 4 ?_
   rw [rounds_succ]
   go_wp2
   rw [rounds_succ]
   go_wp2
   go_ret
   exact ⟨rfl, rfl⟩
 ·rw [show firstNZ x y z = x by simp [firstNZ, hx]]
  have hx' : (x != 0) = true := by simpa using hx
  go_enter Tryz.func181, Tryz.ntmps181
  go_wp2
  refine wp_loop_rounds 4 ?_
  rw [rounds_succ]
  go_wp2
  go_ret
  exact ⟨rfl, rfl⟩
end Go.Proofs.YtjhhamlnlalkoaaGreat
namespace Go.Proofs.YtjhhamlnlalkoaaGreat
open Go.RowKit
structure Vl where
 k : Int
 n : Int
 s : ByteArray
structure Tk where
 k : Int
 c : Int
 vk : Int
 vn : Int
 vs : ByteArray
def zeroB (k n : Int) (s : ByteArray) : Bool := k == 0 && (n == 0 && s.toList.isEmpty)
def isOpB (k : Int) : Bool := decide (3 ≤ k) && decide (k ≤ 10)
def tokB (t : Tk) (cols : Int) : Bool :=
 if t.k = 1 then decide (0 ≤ t.c) && (decide (t.c < cols) && zeroB t.vk t.vn t.vs)
 else if t.k = 2 then t.c == 0 && valOkB t.vk t.vn t.vs
 else if isOpB t.k then t.c == 0 && zeroB t.vk t.vn t.vs else false
def takes (k : Int) : Nat := if k = 7 ∨ k = 8 then 1 else if k = 3 ∨ k = 4 ∨ k = 5 ∨ k = 6 ∨ k = 9 ∨ k = 10 then 2 else 0
def exprGo (cols : Int) : List Tk → Nat → Option Nat
 | [], left => some left
 | t :: ts, left => if tokB t cols = true ∧ takes t.k ≤ left then exprGo cols ts (left - takes t.k + 1) else none
def exprB (ts : List Tk) (cols : Int) : Bool := decide (0 ≤ cols) && (decide (cols ≤ 16) && (decide (ts.length ≤ 24) && exprGo cols ts 0 == some 1))
theorem exprGo_append (cols : Int) : ∀ (a b : List Tk) (n : Nat), exprGo cols (a ++ b) n = (exprGo cols a n).bind (exprGo cols b)
 | [], b, n => rfl
 | t :: ts, b, n => by
  simp only [List.cons_append, exprGo]
  split
  ·exact exprGo_append cols ts b _
  ·rfl
theorem takes_le (k : Int) : takes k ≤ 2 := by unfold takes; split <;> (try split) <;> omega
theorem exprGo_snoc (cols : Int) (ts : List Tk) (i : Nat) (hi : i < ts.length) (n m : Nat) (h : exprGo cols (ts.take i) n = some m) :
  exprGo cols (ts.take (i + 1)) n = if tokB ts[i] cols = true ∧ takes ts[i].k ≤ m then some (m - takes ts[i].k + 1) else none := by
 rw [List.take_succ_eq_append_getElem hi, exprGo_append, h]
 simp [exprGo]
theorem exprGo_dead (cols : Int) (ts : List Tk) (i : Nat) (n : Nat) (h : exprGo cols (ts.take i) n = none) : exprGo cols ts n = none := by
 have e : ts = ts.take i ++ ts.drop i := (List.take_append_drop i ts).symm
 rw [e, exprGo_append, h]
 rfl
def Tk.cells (t : Tk) : List Value := [.int .i64 t.k, .int .i64 t.c, .int .i64 t.vk, .int .i64 t.vn, .string t.vs]
def Toks (w : World) (A : Option Addr) (n : Nat) (ts : List Tk) : Prop := Cellz w 5 A n (ts.map Tk.cells)
theorem Toks.len {w : World} {A : Option Addr} {n : Nat} {ts : List Tk} (h : Toks w A n ts) : ts.length = n := by simpa using h.1
theorem Toks.below {w w' : World} {A : Option Addr} {n : Nat} {ts : List Tk} (h : Toks w A n ts) (hb : Below w.heap.size w w') : Toks w' A n ts := Cellz.below h hb
theorem Toks.at_ {w : World} {A : Option Addr} {n : Nat} {ts : List Tk} (h : Toks w A n ts) {i : Nat} (hi : i < ts.length) :
  ∃ b off, A = some ⟨b, off, none⟩ ∧ w.cell? ⟨b, off + i * 5, none⟩ = some (.int .i64 ts[i].k) ∧ w.cell? ⟨b, off + i * 5 + 1, none⟩ = some (.int .i64 ts[i].c) ∧
   w.cell? ⟨b, off + i * 5 + 2, none⟩ = some (.int .i64 ts[i].vk) ∧ w.cell? ⟨b, off + i * 5 + 3, none⟩ = some (.int .i64 ts[i].vn) ∧ w.cell? ⟨b, off + i * 5 + 4, none⟩ = some (.string ts[i].vs) := by
 have hl := h.len
 obtain ⟨b, off, rfl, hc⟩ := h.2.2 (by omega)
 have hi' : i < (ts.map Tk.cells).length := by simpa using hi
 have g : ∀ j v, ts[i].cells[j]? = some v → w.cell? ⟨b, off + i * 5 + j, none⟩ = some v := by
  intro j v hv
  have e : (ts.map Tk.cells)[i] = ts[i].cells := by simp
  obtain ⟨hj, hv'⟩ := List.getElem?_eq_some_iff.1 hv
  have := hc i hi' j (by rw [e]; exact hj)
  rw [Nat.add_assoc, this]
  simp only [e, hv']
 exact ⟨b, off, rfl, g 0 _ rfl, g 1 _ rfl, g 2 _ rfl, g 3 _ rfl, g 4 _ rfl⟩
theorem implIsOp (k : Int) (w : World) : Calls Tryz.prog 141 #[.int .i64 k] w fun e w' => e = .returned (.bool (isOpB k)) ∧ w = w' := by
 unfold isOpB
 by_cases h : 3 ≤ k
 ·go_enter Tryz.func141, Tryz.ntmps141
  go_wp2
  go_ret
  exact ⟨retB (by simp [h]), rfl⟩
 ·have h' : decide (3 ≤ k) = false := by simpa using h
  go_enter Tryz.func141, Tryz.ntmps141
  go_wp2
  go_ret
  exact ⟨retB (by simp), rfl⟩
set_option maxRecDepth 100000 in
set_option maxHeartbeats 1000000 in
theorem implTokOk (t : Tk) (cols : Int) (w : World) :
  Calls Tryz.prog 110 #[.agg #[.int .i64 t.k, .int .i64 t.c, .int .i64 t.vk, .int .i64 t.vn, .string t.vs], .int .i64 cols] w fun e w' => e = .returned (.bool (tokB t cols)) ∧ Below w.heap.size w w' := by
 obtain ⟨k, c, vk, vn, vs⟩ := t
 have hb := (Below.refl w.heap.size w).alloc (Nat.le_refl _) (.cells #[.int .i64 k, .int .i64 c, .int .i64 vk, .int .i64 vn, .string vs] 115)
 have HB := Lib.hid hb
 clear hb
 by_cases h1 : k = 1
 ·subst h1
  go_enter Tryz.func110, Tryz.ntmps110
  go_wp2
  all_goals
   go_ret
   exact ⟨retB (by first | (simp [tokB, zeroB, *]; done) | (simp [tokB, zeroB]; omega)), (Below.refl _ _).alloc (Nat.le_refl _) _⟩
 have e1 : (k == 1) = false := by simpa using h1
 by_cases h2 : k = 2
 ·subst h2
  by_cases hc : c = 0
  ·subst hc
   go_enter Tryz.func110, Tryz.ntmps110
   go_wp2_with fail
   refine (implValOk _ _ _ _).mono ?_
   rintro e w1 ⟨rfl, hb1⟩
   go_wp2
   go_ret
   exact ⟨retB (by simp [tokB]), HB.out.trans (hb1.mono (by simp))⟩
  ·have ec : (c == 0) = false := by simpa using hc
   go_enter Tryz.func110, Tryz.ntmps110
   go_wp2
   go_ret
   exact ⟨retB (by simp [tokB, hc]), (Below.refl _ _).alloc (Nat.le_refl _) _⟩
 have e2 : (k == 2) = false := by simpa using h2
 cases ho : isOpB k
 ·have HO := Lib.hid ho
  go_enter Tryz.func110, Tryz.ntmps110
  go_wp2_with fail
  refine (implIsOp _ _).mono ?_
  rintro e w1 ⟨rfl, rfl⟩
  go_wp2
  go_ret
  exact ⟨retB (by simp [tokB, h1, h2, HO.out]), (Below.refl _ _).alloc (Nat.le_refl _) _⟩
 ·have HO := Lib.hid ho
  go_enter Tryz.func110, Tryz.ntmps110
  go_wp2_with fail
  refine (implIsOp _ _).mono ?_
  rintro e w1 ⟨rfl, rfl⟩
  go_wp2
  all_goals
   go_ret
   exact ⟨retB (by simp [tokB, zeroB, HO.out, *]), (Below.refl _ _).alloc (Nat.le_refl _) _⟩
def opsCells : Array Value := #[.string ⟨#[]⟩, .int .i64 0, .nilFunc, .string ⟨#[]⟩, .int .i64 0, .nilFunc, .string ⟨#[]⟩, .int .i64 0, .nilFunc, .string ⟨#[61]⟩, .int .i64 2, .func (.func 111) #[] #[], .string ⟨#[60]⟩, .int .i64 2, .func (.func 112) #[] #[], .string ⟨#[97, 110, 100]⟩, .int .i64 2, .func (.func 113) #[] #[], .string ⟨#[111, 114]⟩, .int .i64 2, .func (.func 114) #[] #[], .string ⟨#[110, 111, 116]⟩, .int .i64 1, .func (.func 115) #[] #[], .string ⟨#[105, 115, 110, 117, 108, 108]⟩, .int .i64 1, .func (.func 116) #[] #[], .string ⟨#[43]⟩, .int .i64 2, .func (.func 117) #[] #[], .string ⟨#[45]⟩, .int .i64 2, .func (.func 118) #[] #[]]
def opsZero : Array Value := #[.string ⟨#[]⟩, .int .i64 0, .nilFunc, .string ⟨#[]⟩, .int .i64 0, .nilFunc, .string ⟨#[]⟩, .int .i64 0, .nilFunc, .string ⟨#[]⟩, .int .i64 0, .nilFunc, .string ⟨#[]⟩, .int .i64 0, .nilFunc, .string ⟨#[]⟩, .int .i64 0, .nilFunc, .string ⟨#[]⟩, .int .i64 0, .nilFunc, .string ⟨#[]⟩, .int .i64 0, .nilFunc, .string ⟨#[]⟩, .int .i64 0, .nilFunc, .string ⟨#[]⟩, .int .i64 0, .nilFunc, .string ⟨#[]⟩, .int .i64 0, .nilFunc]
set_option maxRecDepth 100000 in
set_option maxHeartbeats 1000000 in
theorem implOpTable (w : World) :
  Calls Tryz.prog 77 #[] w fun e w' => e = .returned (.agg opsCells) ∧ Below w.heap.size w w' := by
 have hsz : (Tryz.prog.info? 129).map (·.size) = some opsCells.size := by kernel_rfl
 have hg := Go.heap_alloc_last w (.cells opsCells 129)
 have h1 : opsCells.all (·.oneCell') = true := by simp [opsCells, Value.oneCell']
 have HS := Lib.hid hsz
 have H1 := Lib.hid h1
 have HG := Lib.hid hg
 clear hsz hg h1
 go_enter Tryz.func77, Tryz.ntmps77
 go_wp2_with (refine wpList_store_row rfl 129 (.tmp 0) (.tmp 9) rfl w.heap.size opsCells rfl rfl 129 opsZero (Go.heap_alloc_last w (.cells opsZero 129)) HS.out rfl H1.out ?_)
 rw [World.setRow_alloc_new]
 exact bodyPost_ret (results_cell_row (p := 0) (ty := 129) rfl _ _ w.heap.size 129 opsCells (0, 0) _ rfl HG.out Tryz.underlying129 rfl HS.out) rfl ⟨rfl, (Below.refl _ _).alloc (Nat.le_refl _) _⟩
def takesOr (t : Tk) (cols : Int) : Int := if tokB t cols = true then takes t.k else -1
set_option maxRecDepth 100000 in
set_option maxHeartbeats 4000000 in
theorem specTakes (t : Tk) (cols : Int) (w : World) (h0 : 0 ≤ cols) (h16 : cols ≤ 16) :
  Calls Tryz.prog 124 #[.agg #[.int .i64 t.k, .int .i64 t.c, .int .i64 t.vk, .int .i64 t.vn, .string t.vs], .int .i64 cols] w fun e w' => e = .returned (.int .i64 (takesOr t cols)) ∧ Below w.heap.size w w' := by
 obtain ⟨k, c, vk, vn, vs⟩ := t
 by_cases h1 : k = 1
 ·subst h1
  go_enter Tryz.func124, Tryz.ntmps124
  go_wp2_with (go_at_call 93; refine (specIn _ _ _ _).mono ?_; rintro e w1 ⟨rfl, rfl⟩)
  all_goals
   go_ret
   exact ⟨retI (by first | (simp [takesOr, tokB, zeroB, takes, *]; done) | (simp [takesOr, tokB, zeroB, takes, *]; omega)), (Below.refl _ _).alloc (Nat.le_refl _) _⟩
 have e1 : (k == 1) = false := by simpa using h1
 have d1 : (k != 1) = true := by simpa using h1
 by_cases h2 : k = 2
 ·subst h2
  by_cases hc : c = 0
  ·subst hc
   go_enter Tryz.func124, Tryz.ntmps124
   go_wp2_with fail
   refine (specValOk _ _ _ _).mono ?_
   rintro e w1 ⟨rfl, hb1⟩
   have HB := Lib.hid (((Below.refl w.heap.size w).alloc (Nat.le_refl _) _).trans (hb1.mono (by simp)))
   clear hb1
   go_wp2
   all_goals
    go_ret
    exact ⟨retI (by simp [takesOr, tokB, takes, *]), HB.out⟩
  ·have ec : (c != 0) = true := by simpa using hc
   go_enter Tryz.func124, Tryz.ntmps124
   go_wp2
   go_ret
   exact ⟨retI (by simp [takesOr, tokB, hc]), (Below.refl _ _).alloc (Nat.le_refl _) _⟩
 have e2 : (k == 2) = false := by simpa using h2
 have d2 : (k != 2) = true := by simpa using h2
 by_cases h7 : k = 7
 ·subst h7
  by_cases hc : c = 0
  ·subst hc
   go_enter Tryz.func124, Tryz.ntmps124
   go_wp2
   all_goals
    go_ret
    exact ⟨retI (by simp [takesOr, tokB, zeroB, isOpB, takes, *]), (Below.refl _ _).alloc (Nat.le_refl _) _⟩
  ·have ec : (c != 0) = true := by simpa using hc
   go_enter Tryz.func124, Tryz.ntmps124
   go_wp2
   go_ret
   exact ⟨retI (by simp [takesOr, tokB, isOpB, hc]), (Below.refl _ _).alloc (Nat.le_refl _) _⟩
 have e7 : (k == 7) = false := by simpa using h7
 by_cases h8 : k = 8
 ·subst h8
  by_cases hc : c = 0
  ·subst hc
   go_enter Tryz.func124, Tryz.ntmps124
   go_wp2
   all_goals
    go_ret
    exact ⟨retI (by simp [takesOr, tokB, zeroB, isOpB, takes, *]), (Below.refl _ _).alloc (Nat.le_refl _) _⟩
  ·have ec : (c != 0) = true := by simpa using hc
   go_enter Tryz.func124, Tryz.ntmps124
   go_wp2
   go_ret
   exact ⟨retI (by simp [takesOr, tokB, isOpB, hc]), (Below.refl _ _).alloc (Nat.le_refl _) _⟩
 have e8 : (k == 8) = false := by simpa using h8
 by_cases h3 : k = 3
 ·subst h3
  by_cases hc : c = 0
  ·subst hc
   go_enter Tryz.func124, Tryz.ntmps124
   go_wp2
   all_goals
    go_ret
    exact ⟨retI (by simp [takesOr, tokB, zeroB, isOpB, takes, *]), (Below.refl _ _).alloc (Nat.le_refl _) _⟩
  ·have ec : (c != 0) = true := by simpa using hc
   go_enter Tryz.func124, Tryz.ntmps124
   go_wp2
   go_ret
   exact ⟨retI (by simp [takesOr, tokB, isOpB, hc]), (Below.refl _ _).alloc (Nat.le_refl _) _⟩
 have e3 : (k == 3) = false := by simpa using h3
 by_cases h4 : k = 4
 ·subst h4
  by_cases hc : c = 0
  ·subst hc
   go_enter Tryz.func124, Tryz.ntmps124
   go_wp2
   all_goals
    go_ret
    exact ⟨retI (by simp [takesOr, tokB, zeroB, isOpB, takes, *]), (Below.refl _ _).alloc (Nat.le_refl _) _⟩
  ·have ec : (c != 0) = true := by simpa using hc
   go_enter Tryz.func124, Tryz.ntmps124
   go_wp2
   go_ret
   exact ⟨retI (by simp [takesOr, tokB, isOpB, hc]), (Below.refl _ _).alloc (Nat.le_refl _) _⟩
 have e4 : (k == 4) = false := by simpa using h4
 by_cases h5 : k = 5
 ·subst h5
  by_cases hc : c = 0
  ·subst hc
   go_enter Tryz.func124, Tryz.ntmps124
   go_wp2
   all_goals
    go_ret
    exact ⟨retI (by simp [takesOr, tokB, zeroB, isOpB, takes, *]), (Below.refl _ _).alloc (Nat.le_refl _) _⟩
  ·have ec : (c != 0) = true := by simpa using hc
   go_enter Tryz.func124, Tryz.ntmps124
   go_wp2
   go_ret
   exact ⟨retI (by simp [takesOr, tokB, isOpB, hc]), (Below.refl _ _).alloc (Nat.le_refl _) _⟩
 have e5 : (k == 5) = false := by simpa using h5
 by_cases h6 : k = 6
 ·subst h6
  by_cases hc : c = 0
  ·subst hc
   go_enter Tryz.func124, Tryz.ntmps124
   go_wp2
   all_goals
    go_ret
    exact ⟨retI (by simp [takesOr, tokB, zeroB, isOpB, takes, *]), (Below.refl _ _).alloc (Nat.le_refl _) _⟩
  ·have ec : (c != 0) = true := by simpa using hc
   go_enter Tryz.func124, Tryz.ntmps124
   go_wp2
   go_ret
   exact ⟨retI (by simp [takesOr, tokB, isOpB, hc]), (Below.refl _ _).alloc (Nat.le_refl _) _⟩
 have e6 : (k == 6) = false := by simpa using h6
 by_cases h9 : k = 9
 ·subst h9
  by_cases hc : c = 0
  ·subst hc
   go_enter Tryz.func124, Tryz.ntmps124
   go_wp2
   all_goals
    go_ret
    exact ⟨retI (by simp [takesOr, tokB, zeroB, isOpB, takes, *]), (Below.refl _ _).alloc (Nat.le_refl _) _⟩
  ·have ec : (c != 0) = true := by simpa using hc
   go_enter Tryz.func124, Tryz.ntmps124
   go_wp2
   go_ret
   exact ⟨retI (by simp [takesOr, tokB, isOpB, hc]), (Below.refl _ _).alloc (Nat.le_refl _) _⟩
 have e9 : (k == 9) = false := by simpa using h9
 by_cases h10 : k = 10
 ·subst h10
  by_cases hc : c = 0
  ·subst hc
   go_enter Tryz.func124, Tryz.ntmps124
   go_wp2
   all_goals
    go_ret
    exact ⟨retI (by simp [takesOr, tokB, zeroB, isOpB, takes, *]), (Below.refl _ _).alloc (Nat.le_refl _) _⟩
  ·have ec : (c != 0) = true := by simpa using hc
   go_enter Tryz.func124, Tryz.ntmps124
   go_wp2
   go_ret
   exact ⟨retI (by simp [takesOr, tokB, isOpB, hc]), (Below.refl _ _).alloc (Nat.le_refl _) _⟩
 have e10 : (k == 10) = false := by simpa using h10
 have ho : isOpB k = false := by unfold isOpB; simp; omega
 have HO := Lib.hid ho
 clear ho
 by_cases hc : c = 0
 ·subst hc
  go_enter Tryz.func124, Tryz.ntmps124
  go_wp2
  all_goals
   go_ret
   exact ⟨retI (by simp [takesOr, tokB, h1, h2, HO.out]), (Below.refl _ _).alloc (Nat.le_refl _) _⟩
 ·have ec : (c != 0) = true := by simpa using hc
  go_enter Tryz.func124, Tryz.ntmps124
  go_wp2
  all_goals
   go_ret
   exact ⟨retI (by simp [takesOr, tokB, h1, h2, HO.out]), (Below.refl _ _).alloc (Nat.le_refl _) _⟩
def l2B (ts : List Tk) (cols : Int) : Bool := exprGo cols ts 0 == some 1 && decide (ts.length ≤ 24)
set_option maxRecDepth 100000 in
set_option maxHeartbeats 1000000 in
theorem specL2Expr (A : Option Addr) (n cap : Nat) (ts : List Tk) (cols : Int) (w : World) (h : Toks w A n ts) (hn : n ≤ maxLen) (h0 : 0 ≤ cols) (h16 : cols ≤ 16) :
  Calls Tryz.prog 97 #[.slice A n cap, .int .i64 cols] w fun e w' => e = .returned (.bool (l2B ts cols)) ∧ Below w.heap.size w w' := by
 unfold maxLen at hn
 obtain rfl : n = ts.length := h.len.symm
 go_enter Tryz.func97, Tryz.ntmps97
 go_wp2
 go_loopw [5, 6] (fun m i wr => ∃ k l : Nat, k ≤ ts.length ∧ i = .int .i64 k ∧ m = .int .i64 l ∧ l ≤ k ∧ Hid (exprGo cols (ts.take k) 0 = some l) ∧ Below w.heap.size w wr) (fun _ i _ => ts.length - (intOf i).toNat)
 case atStart => exact ⟨0, 0, by omega, rfl, rfl, by omega, Lib.hid (by simp [exprGo]), Below.refl _ _⟩
 case round =>
  obtain ⟨k, l, hk, rfl, rfl, hlk, hgo, hb⟩ := hrel
  by_cases hlt : k < ts.length
  ·obtain ⟨b, off, rfl, c0, c1, c2, c3, c4⟩ := (h.below hb).at_ hlt
   have hsn := Lib.hid (exprGo_snoc cols ts k hlt 0 l hgo.out)
   by_cases ht : tokB ts[k] cols = true ∧ takes ts[k].k ≤ l
   ·have HT := Lib.hid ht
    have hq : takesOr ts[k] cols = takes ts[k].k := by simp [takesOr, ht.1]
    have HQ := Lib.hid hq
    have hq2 := takes_le ts[k].k
    have hq3 := ht.2
    clear hq ht
    go_wp2_with fail
    refine (specTakes ts[k] cols _ h0 h16).mono ?_
    rintro e w1 ⟨rfl, hb1⟩
    rw [HQ.out]
    generalize takes ts[k].k = q at *
    go_wp2_with fail
    go_roundw
    case rel => exact ⟨k + 1, l - q + 1, by omega, by go_num, by go_num, by omega, Lib.hid (by rw [hsn.out, if_pos HT.out]), hb.trans (hb1.mono hb.size)⟩
    case measure => simp [intOf]; omega
   ·have HT := Lib.hid ht
    have hd : exprGo cols ts 0 = none := exprGo_dead cols ts (k + 1) 0 (by rw [hsn.out, if_neg ht])
    have HD := Lib.hid (show l2B ts cols = false by simp [l2B, hd])
    by_cases ht1 : tokB ts[k] cols = true
    ·have hq : takesOr ts[k] cols = takes ts[k].k := by simp [takesOr, ht1]
     have HQ := Lib.hid hq
     have hq2 := takes_le ts[k].k
     have hq3 : l < takes ts[k].k := Nat.lt_of_not_le fun x => ht ⟨ht1, x⟩
     clear hq ht hd ht1
     go_wp2_with fail
     refine (specTakes ts[k] cols _ h0 h16).mono ?_
     rintro e w1 ⟨rfl, hb1⟩
     rw [HQ.out]
     generalize takes ts[k].k = q at *
     go_wp2_with fail
     go_ret
     exact ⟨retB (by rw [HD.out]), hb.trans (hb1.mono hb.size)⟩
    ·have hq : takesOr ts[k] cols = -1 := by simp [takesOr, ht1]
     have HQ := Lib.hid hq
     clear hq ht hd ht1
     go_wp2_with fail
     refine (specTakes ts[k] cols _ h0 h16).mono ?_
     rintro e w1 ⟨rfl, hb1⟩
     rw [HQ.out]
     go_wp2_with fail
     go_ret
     exact ⟨retB (by rw [HD.out]), hb.trans (hb1.mono hb.size)⟩
  ·have e : ts.take k = ts := List.take_of_length_le (by omega)
   have hg2 := hgo.out
   rw [e] at hg2
   have HF := Lib.hid (show l2B ts cols = (l == 1 && decide (ts.length ≤ 24)) by simp [l2B, hg2])
   clear hgo e hg2
   by_cases hl1 : l = 1
   ·subst hl1
    go_wp2
    go_ret
    exact ⟨retB (by rw [HF.out]; simp; omega), hb⟩
   ·have el : ((l : Int) == 1) = false := by simp; omega
    go_wp2
    go_ret
    exact ⟨retB (by rw [HF.out]; simp [hl1]), hb⟩
theorem ops_takes (k : Nat) (h : k < 11) : opsCells[k * 3 + 1]? = some (.int .i64 (takes k)) := by
 have : k = 0 ∨ k = 1 ∨ k = 2 ∨ k = 3 ∨ k = 4 ∨ k = 5 ∨ k = 6 ∨ k = 7 ∨ k = 8 ∨ k = 9 ∨ k = 10 := by omega
 rcases this with rfl | rfl | rfl | rfl | rfl | rfl | rfl | rfl | rfl | rfl | rfl <;> rfl
theorem tokB_kind {t : Tk} {cols : Int} (h : tokB t cols = true) : 1 ≤ t.k ∧ t.k ≤ 10 := by
 unfold tokB isOpB at h
 split at h
 ·omega
 ·split at h
  ·omega
  ·split at h
   ·rename_i h'; simp at h'; omega
   ·cases h
theorem new_at {w w' : World} {xs : Array Value} {T : TypeId} (hb : Below (w.alloc (.cells xs T)).heap.size (w.alloc (.cells xs T)) w') (j : Nat) (v : Value) (hv : xs[j]? = some v) : w'.cell? ⟨w.heap.size, j, none⟩ = some v := by
 rw [hb.cell (by simp), World.cell?_alloc_new]
 exact hv
set_option maxRecDepth 100000 in
set_option maxHeartbeats 1000000 in
theorem implExprOk (A : Option Addr) (n cap : Nat) (ts : List Tk) (cols : Int) (w : World) (h : Toks w A n ts) (hn : n ≤ maxLen) :
  Calls Tryz.prog 76 #[.slice A n cap, .int .i64 cols] w fun e w' => e = .returned (.bool (exprB ts cols)) ∧ Below w.heap.size w w' := by
 unfold maxLen at hn
 obtain rfl : n = ts.length := h.len.symm
 by_cases h0 : cols < 0
 ·go_enter Tryz.func76, Tryz.ntmps76
  go_wp2
  go_ret
  exact ⟨retB (by simp [exprB]; omega), Below.refl _ _⟩
 have e0 : decide (cols < 0) = false := by simpa using h0
 by_cases h16 : 16 < cols
 ·go_enter Tryz.func76, Tryz.ntmps76
  go_wp2
  go_ret
  exact ⟨retB (by simp [exprB]; omega), Below.refl _ _⟩
 have e16 : decide (16 < cols) = false := by simpa using h16
 by_cases h24 : (24 : Int) < ts.length
 ·go_enter Tryz.func76, Tryz.ntmps76
  go_wp2
  go_ret
  exact ⟨retB (by simp [exprB]; omega), Below.refl _ _⟩
 have e24 : decide ((24 : Int) < ts.length) = false := by simpa using h24
 go_enter Tryz.func76, Tryz.ntmps76
 go_wp2_with fail
 refine (implOpTable _).mono ?_
 rintro e w1 ⟨rfl, hb1⟩
 have hs1 : (Tryz.prog.info? 129).map (·.size) = some opsCells.size := by kernel_rfl
 have hs2 : opsCells.all (·.oneCell') = true := by simp [opsCells, Value.oneCell']
 have S1 := Lib.hid hs1
 have S2 := Lib.hid hs2
 clear hs1 hs2
 go_wp2_with (refine wpList_store_row rfl 129 (.tmp 5) (.tmp 20) rfl w1.heap.size opsCells rfl rfl 129 opsZero (Go.heap_alloc_last w1 (.cells opsZero 129)) S1.out rfl S2.out ?_)
 rw [World.setRow_alloc_new]
 have hg := Go.heap_alloc_last w1 (.cells opsCells 129)
 have hb2 := hb1.trans (((Below.refl w1.heap.size w1).alloc (Nat.le_refl _) (.cells opsCells 129)).mono hb1.size)
 have hg0 : w.heap.size ≤ w1.heap.size := hb1.size
 generalize w1.alloc (.cells opsCells 129) = w2 at *
 generalize w1.heap.size = g at *
 have HG := Lib.hid hg
 clear hg hb1 S1 S2
 go_loopw [6, 23] (fun m i wr => ∃ k l : Nat, k ≤ ts.length ∧ i = .int .i64 k ∧ m = .int .i64 l ∧ l ≤ k ∧ Hid (exprGo cols (ts.take k) 0 = some l) ∧ Below w2.heap.size w2 wr) (fun _ i _ => ts.length - (intOf i).toNat)
 case atStart => exact ⟨0, 0, by omega, rfl, rfl, by omega, Lib.hid (by simp [exprGo]), Below.refl _ _⟩
 case round =>
  obtain ⟨k, l, hk, rfl, rfl, hlk, hgo, hb⟩ := hrel
  by_cases hlt : k < ts.length
  ·obtain ⟨b, off, rfl, c0, c1, c2, c3, c4⟩ := (h.below (hb2.trans (hb.mono hb2.size))).at_ hlt
   have hsn := Lib.hid (exprGo_snoc cols ts k hlt 0 l hgo.out)
   cases ht : tokB ts[k] cols
   ·have HD := Lib.hid (show exprB ts cols = false by
     have hd := exprGo_dead cols ts (k + 1) 0 (by rw [hsn.out, if_neg (by simp [ht])])
     simp [exprB, hd])
    have HT := Lib.hid ht
    clear ht hsn
    go_wp2_with fail
    refine (implTokOk ts[k] cols _).mono ?_
    rintro e w3 ⟨rfl, hb3⟩
    rw [HT.out]
    go_wp2_with fail
    go_ret
    exact ⟨retB (by rw [HD.out]), hb2.trans ((hb.trans ((((Below.refl wr.heap.size wr).alloc (Nat.le_refl _) _).trans (hb3.mono (by simp))).mono hb.size)).mono hb2.size)⟩
   ·have HT := Lib.hid ht
    obtain ⟨k1, k10⟩ := tokB_kind ht
    obtain ⟨kk, hkk⟩ := Int.eq_ofNat_of_zero_le (show 0 ≤ ts[k].k by omega)
    have hk11 : kk < 11 := by omega
    have hops := ops_takes kk hk11
    have htk : takes ts[k].k = takes kk := by rw [hkk]
    have HOPS := Lib.hid hops
    have HTK := Lib.hid htk
    have HKK := Lib.hid hkk
    have hq2 := takes_le kk
    clear ht hops htk hkk k1 k10
    go_wp2_with fail
    refine (implTokOk ts[k] cols _).mono ?_
    rintro e w3 ⟨rfl, hb3⟩
    rw [HT.out]
    have hbt := hb.trans ((((Below.refl wr.heap.size wr).alloc (Nat.le_refl _) _).trans (hb3.mono (by simp))).mono hb.size)
    have t0 : w3.cell? ⟨wr.heap.size, 0, none⟩ = some (.int .i64 kk) := new_at hb3 0 _ (by rw [← HKK.out]; rfl)
    have g0 : w3.cell? ⟨g, kk * 3 + 1, none⟩ = some (.int .i64 (takes kk)) := by
     rw [hbt.cell (lt_of_block HG.out), cell_of_row _ _ _ _ _ _ HG.out]
     exact HOPS.out
    by_cases hle : takes kk ≤ l
    ·have hle' : decide ((l : Int) < takes kk) = false := by simp; omega
     go_wp2_with fail
     go_roundw
     case rel => exact ⟨k + 1, l - takes kk + 1, by omega, by go_num, by go_num, by omega, Lib.hid (by rw [hsn.out, if_pos ⟨HT.out, by rw [HTK.out]; exact hle⟩, HTK.out]), hbt⟩
     case measure => simp [intOf]; omega
    ·have hle' : decide ((l : Int) < takes kk) = true := by simp; omega
     have HD := Lib.hid (show exprB ts cols = false by
      have hd := exprGo_dead cols ts (k + 1) 0 (by rw [hsn.out, if_neg (by rw [HTK.out]; exact fun x => hle x.2)])
      simp [exprB, hd])
     go_wp2_with fail
     go_ret
     exact ⟨retB (by rw [HD.out]), hb2.trans (hbt.mono hb2.size)⟩
  ·have e : ts.take k = ts := List.take_of_length_le (by omega)
   have hg2 := hgo.out
   rw [e] at hg2
   have HF := Lib.hid (show exprB ts cols = (l == 1) by
    have h24' : ts.length ≤ 24 := by omega
    simp [exprB, hg2, h0, h16, h24'])
   clear hgo e hg2
   go_wp2
   go_ret
   exact ⟨retB (by rw [HF.out, Bool.eq_iff_iff]; simp; omega), hb2.trans (hb.mono hb2.size)⟩
theorem mk_rows {P : Program} {t e : TypeId} {sz bs : Nat} {z : Value} (ht : P.underlying t = some (.slice e)) (hi : (P.info? e).map (fun i => (i.zero, i.size, i.bytes)) = some (some z, sz, bs)) (hbs : bs ≤ 100000) (n : Nat) (hn : n ≤ 1048576) (w : World) :
  (Instr.makeSlice t (.int .i64 (n : Int)) (.int .i64 (n : Int))).run P w = .ok (.slice (some ⟨w.heap.size, 0, none⟩) n n) (w.alloc (.cells (madeCells z.cells (n * sz)) e)) := by
 obtain ⟨i, h1, h2, h3, h4⟩ := info_parts hi
 have hb : (i.bytes : Int) * n ≤ 281474976710656 := by
  rw [h4]
  have h5 : bs * n ≤ 100000 * 1048576 := Nat.mul_le_mul hbs hn
  have h6 : ((bs * n : Nat) : Int) ≤ 104857600000 := by omega
  rw [Int.natCast_mul] at h6
  omega
 have hr := run_make (P := P) w t e i z ht h1 h2 .i64 .i64 n n (by omega) (by omega) hb (by omega)
 simp only [Int.toNat_natCast, h3] at hr
 exact hr
def szL {α : Type} (f : α → Nat) (l : List α) : Nat := l.length + (l.map f).sum
theorem sum_take {α : Type} (f : α → Nat) (l : List α) (k : Nat) (h : k < l.length) : ((l.take (k + 1)).map f).sum = ((l.take k).map f).sum + f l[k] := by
 rw [List.take_succ_eq_append_getElem h, List.map_append, List.sum_append]; simp
theorem sum_take_le {α : Type} (f : α → Nat) (l : List α) (k : Nat) : ((l.take k).map f).sum ≤ (l.map f).sum := by
 have e : (l.map f).sum = ((l.take k).map f).sum + ((l.drop k).map f).sum := by rw [← List.sum_append, ← List.map_append, List.take_append_drop]
 omega
theorem sum_mem_le {α : Type} (f : α → Nat) (l : List α) (k : Nat) (h : k < l.length) : f l[k] ≤ (l.map f).sum := by
 have := sum_take f l k h
 have := sum_take_le f l (k + 1)
 omega
def Vl.cells (v : Vl) : List Value := [.int .i64 v.k, .int .i64 v.n, .string v.s]
def Vals (w : World) (A : Option Addr) (n : Nat) (vs : List Vl) : Prop := Cellz w 3 A n (vs.map Vl.cells)
theorem Vals.len {w : World} {A : Option Addr} {n : Nat} {vs : List Vl} (h : Vals w A n vs) : vs.length = n := by simpa using h.1
theorem Vals.below {w w' : World} {A : Option Addr} {n : Nat} {vs : List Vl} (h : Vals w A n vs) (hb : Below w.heap.size w w') : Vals w' A n vs := Cellz.below h hb
theorem Vals.at_ {w : World} {A : Option Addr} {n : Nat} {vs : List Vl} (h : Vals w A n vs) {i : Nat} (hi : i < vs.length) :
  ∃ b off, A = some ⟨b, off, none⟩ ∧ w.cell? ⟨b, off + i * 3, none⟩ = some (.int .i64 vs[i].k) ∧ w.cell? ⟨b, off + i * 3 + 1, none⟩ = some (.int .i64 vs[i].n) ∧ w.cell? ⟨b, off + i * 3 + 2, none⟩ = some (.string vs[i].s) := by
 have hl := h.len
 obtain ⟨b, off, rfl, hc⟩ := h.2.2 (by omega)
 have hi' : i < (vs.map Vl.cells).length := by simpa using hi
 have g : ∀ j v, vs[i].cells[j]? = some v → w.cell? ⟨b, off + i * 3 + j, none⟩ = some v := by
  intro j v hv
  have e : (vs.map Vl.cells)[i] = vs[i].cells := by simp
  obtain ⟨hj, hv'⟩ := List.getElem?_eq_some_iff.1 hv
  have := hc i hi' j (by rw [e]; exact hj)
  rw [Nat.add_assoc, this]
  simp only [e, hv']
 exact ⟨b, off, rfl, g 0 _ rfl, g 1 _ rfl, g 2 _ rfl⟩
theorem infoVal : (Tryz.prog.info? 53).map (fun i => (i.zero, i.size, i.bytes)) = some (some (.agg #[.int .i64 0, .int .i64 0, .string ⟨#[]⟩]), 3, 32) := by kernel_rfl
def IntR : Rd Int := FlatR fun n => [.int .i64 n]
def TkR : Rd Tk := FlatR Tk.cells
def VlR : Rd Vl := FlatR Vl.cells
theorem IntR.stays : Stays IntR := FlatR.stays _
theorem TkR.stays : Stays TkR := FlatR.stays _
theorem VlR.stays : Stays VlR := FlatR.stays _
structure Cl where
 name : ByteArray
 kind : Int
 nn : Bool
 d : Vl
def Cl.cells (x : Cl) : List Value := [.string x.name, .int .i64 x.kind, .bool x.nn, .int .i64 x.d.k, .int .i64 x.d.n, .string x.d.s]
def ClR : Rd Cl := FlatR Cl.cells
theorem ClR.stays : Stays ClR := FlatR.stays _
def Cl.sz (x : Cl) : Nat := x.name.size + x.d.s.size
structure Uq where
 cols : List Int
def UqR : Rd Uq := fun ok w cs x => ∃ (A0 : Option Addr) (n0 c0 : Nat), cs = [.slice A0 n0 c0] ∧ Sl IntR 1 ok w A0 n0 x.cols ∧ (n0 ≤ c0)
theorem UqR.stays : Stays UqR := fun _ _ _ _ _ _ ⟨A0, n0, c0, e, h0, hcp⟩ ho hk => ⟨A0, n0, c0, e, h0.stays IntR.stays ho hk, hcp⟩
def Uq.sz (x : Uq) : Nat := x.cols.length
structure Ck where
 expr : List Tk
def CkR : Rd Ck := fun ok w cs x => ∃ (A0 : Option Addr) (n0 c0 : Nat), cs = [.slice A0 n0 c0] ∧ Sl TkR 5 ok w A0 n0 x.expr ∧ (n0 ≤ c0)
theorem CkR.stays : Stays CkR := fun _ _ _ _ _ _ ⟨A0, n0, c0, e, h0, hcp⟩ ho hk => ⟨A0, n0, c0, e, h0.stays TkR.stays ho hk, hcp⟩
def Ck.sz (x : Ck) : Nat := szL (fun t : Tk => t.vs.size) x.expr
structure Fk where
 cols : List Int
 table : ByteArray
 del : Int
 upd : Int
 dfr : Bool
def FkR : Rd Fk := fun ok w cs x => ∃ (A0 : Option Addr) (n0 c0 : Nat), cs = [.slice A0 n0 c0, .string x.table, .int .i64 x.del, .int .i64 x.upd, .bool x.dfr] ∧ Sl IntR 1 ok w A0 n0 x.cols ∧ (n0 ≤ c0)
theorem FkR.stays : Stays FkR := fun _ _ _ _ _ _ ⟨A0, n0, c0, e, h0, hcp⟩ ho hk => ⟨A0, n0, c0, e, h0.stays IntR.stays ho hk, hcp⟩
def Fk.sz (x : Fk) : Nat := x.cols.length + x.table.size
structure Tb where
 name : ByteArray
 cols : List Cl
 key : List Int
 uniqs : List Uq
 checks : List Ck
 fks : List Fk
def TbR : Rd Tb := fun ok w cs x => ∃ (A1 : Option Addr) (n1 c1 : Nat) (A2 : Option Addr) (n2 c2 : Nat) (A3 : Option Addr) (n3 c3 : Nat) (A4 : Option Addr) (n4 c4 : Nat) (A5 : Option Addr) (n5 c5 : Nat), cs = [.string x.name, .slice A1 n1 c1, .slice A2 n2 c2, .slice A3 n3 c3, .slice A4 n4 c4, .slice A5 n5 c5] ∧ Sl ClR 6 ok w A1 n1 x.cols ∧ Sl IntR 1 ok w A2 n2 x.key ∧ Sl UqR 1 ok w A3 n3 x.uniqs ∧ Sl CkR 1 ok w A4 n4 x.checks ∧ Sl FkR 5 ok w A5 n5 x.fks ∧ (n1 ≤ c1 ∧ n2 ≤ c2 ∧ n3 ≤ c3 ∧ n4 ≤ c4 ∧ n5 ≤ c5)
theorem TbR.stays : Stays TbR := fun _ _ _ _ _ _ ⟨A1, n1, c1, A2, n2, c2, A3, n3, c3, A4, n4, c4, A5, n5, c5, e, h1, h2, h3, h4, h5, hcp⟩ ho hk => ⟨A1, n1, c1, A2, n2, c2, A3, n3, c3, A4, n4, c4, A5, n5, c5, e, h1.stays ClR.stays ho hk, h2.stays IntR.stays ho hk, h3.stays UqR.stays ho hk, h4.stays CkR.stays ho hk, h5.stays FkR.stays ho hk, hcp⟩
def Tb.sz (x : Tb) : Nat := x.name.size + szL Cl.sz x.cols + x.key.length + szL Uq.sz x.uniqs + szL Ck.sz x.checks + szL Fk.sz x.fks
structure Rw where
 id : Int
 vals : List Vl
def RwR : Rd Rw := fun ok w cs x => ∃ (A1 : Option Addr) (n1 c1 : Nat), cs = [.int .i64 x.id, .slice A1 n1 c1] ∧ Sl VlR 3 ok w A1 n1 x.vals ∧ (n1 ≤ c1)
theorem RwR.stays : Stays RwR := fun _ _ _ _ _ _ ⟨A1, n1, c1, e, h1, hcp⟩ ho hk => ⟨A1, n1, c1, e, h1.stays VlR.stays ho hk, hcp⟩
def Rw.sz (x : Rw) : Nat := szL (fun v : Vl => v.s.size) x.vals
structure Dt where
 rows : List Rw
def DtR : Rd Dt := fun ok w cs x => ∃ (A0 : Option Addr) (n0 c0 : Nat), cs = [.slice A0 n0 c0] ∧ Sl RwR 2 ok w A0 n0 x.rows ∧ (n0 ≤ c0)
theorem DtR.stays : Stays DtR := fun _ _ _ _ _ _ ⟨A0, n0, c0, e, h0, hcp⟩ ho hk => ⟨A0, n0, c0, e, h0.stays RwR.stays ho hk, hcp⟩
def Dt.sz (x : Dt) : Nat := szL Rw.sz x.rows
theorem Row.all1 {w : World} {g : Nat} {T : TypeId} {a0 : Value} (h : Row w g T #[a0]) :
  (w.cell? ⟨g, 0, none⟩ = some a0) ∧ (w.frozen? ⟨g, 0, none⟩ = false) :=
 ⟨h.cell 0, h.free 0⟩
theorem Row.all2 {w : World} {g : Nat} {T : TypeId} {a0 a1 : Value} (h : Row w g T #[a0, a1]) :
  (w.cell? ⟨g, 0, none⟩ = some a0 ∧ w.cell? ⟨g, 1, none⟩ = some a1) ∧ (w.frozen? ⟨g, 0, none⟩ = false ∧ w.frozen? ⟨g, 1, none⟩ = false) :=
 ⟨⟨h.cell 0, h.cell 1⟩, ⟨h.free 0, h.free 1⟩⟩
theorem Row.all6 {w : World} {g : Nat} {T : TypeId} {a0 a1 a2 a3 a4 a5 : Value} (h : Row w g T #[a0, a1, a2, a3, a4, a5]) :
  (w.cell? ⟨g, 0, none⟩ = some a0 ∧ w.cell? ⟨g, 1, none⟩ = some a1 ∧ w.cell? ⟨g, 2, none⟩ = some a2 ∧ w.cell? ⟨g, 3, none⟩ = some a3 ∧ w.cell? ⟨g, 4, none⟩ = some a4 ∧ w.cell? ⟨g, 5, none⟩ = some a5) ∧ (w.frozen? ⟨g, 0, none⟩ = false ∧ w.frozen? ⟨g, 1, none⟩ = false ∧ w.frozen? ⟨g, 2, none⟩ = false ∧ w.frozen? ⟨g, 3, none⟩ = false ∧ w.frozen? ⟨g, 4, none⟩ = false ∧ w.frozen? ⟨g, 5, none⟩ = false) :=
 ⟨⟨h.cell 0, h.cell 1, h.cell 2, h.cell 3, h.cell 4, h.cell 5⟩, ⟨h.free 0, h.free 1, h.free 2, h.free 3, h.free 4, h.free 5⟩⟩
theorem VlR.at_ {ok : Nat → Prop} {w : World} {A : Option Addr} {n : Nat} {ds : List Vl} (h : Sl VlR 3 ok w A n ds) {i : Nat} (hi : i < ds.length) :
  ∃ (b off : Nat), ok b ∧ A = some ⟨b, off, none⟩ ∧ w.cell? ⟨b, off + i * 3, none⟩ = some (.int .i64 ds[i].k) ∧ w.cell? ⟨b, off + i * 3 + 1, none⟩ = some (.int .i64 ds[i].n) ∧ w.cell? ⟨b, off + i * 3 + 2, none⟩ = some (.string ds[i].s) := by
 have hl := h.1
 obtain ⟨b, off, rfl, hb, hc⟩ := h.2 (by omega)
 obtain ⟨cs, -, hR, g⟩ := hc i hi
 have e : cs = _ := hR
 subst e
 exact ⟨b, off, hb, rfl, g 0 _ rfl, g 1 _ rfl, g 2 _ rfl⟩
theorem IntR.at_ {ok : Nat → Prop} {w : World} {A : Option Addr} {n : Nat} {ds : List Int} (h : Sl IntR 1 ok w A n ds) {i : Nat} (hi : i < ds.length) :
  ∃ (b off : Nat) , ok b ∧ A = some ⟨b, off, none⟩ ∧ w.cell? ⟨b, off + i, none⟩ = some (.int .i64 ds[i]) := by
 have hl := h.1
 obtain ⟨b, off, rfl, hb, hc⟩ := h.2 (by omega)
 obtain ⟨cs, -, hR, g⟩ := hc i hi
 have e : cs = _ := hR
 subst e
 exact ⟨b, off, hb, rfl, by have := g 0 _ rfl; rwa [Nat.mul_one] at this⟩
theorem ClR.at_ {ok : Nat → Prop} {w : World} {A : Option Addr} {n : Nat} {ds : List Cl} (h : Sl ClR 6 ok w A n ds) {i : Nat} (hi : i < ds.length) :
  ∃ (b off : Nat) , ok b ∧ A = some ⟨b, off, none⟩ ∧ w.cell? ⟨b, off + i * 6, none⟩ = some (.string ds[i].name) ∧ w.cell? ⟨b, off + i * 6 + 1, none⟩ = some (.int .i64 ds[i].kind) ∧ w.cell? ⟨b, off + i * 6 + 2, none⟩ = some (.bool ds[i].nn) ∧ w.cell? ⟨b, off + i * 6 + 3, none⟩ = some (.int .i64 ds[i].d.k) ∧ w.cell? ⟨b, off + i * 6 + 4, none⟩ = some (.int .i64 ds[i].d.n) ∧ w.cell? ⟨b, off + i * 6 + 5, none⟩ = some (.string ds[i].d.s) := by
 have hl := h.1
 obtain ⟨b, off, rfl, hb, hc⟩ := h.2 (by omega)
 obtain ⟨cs, -, hR, g⟩ := hc i hi
 have e : cs = _ := hR
 subst e
 exact ⟨b, off, hb, rfl, g 0 _ rfl, g 1 _ rfl, g 2 _ rfl, g 3 _ rfl, g 4 _ rfl, g 5 _ rfl⟩
theorem UqR.at_ {ok : Nat → Prop} {w : World} {A : Option Addr} {n : Nat} {ds : List Uq} (h : Sl UqR 1 ok w A n ds) {i : Nat} (hi : i < ds.length) :
  ∃ (b off : Nat) (A0 : Option Addr) (n0 c0 : Nat), ok b ∧ A = some ⟨b, off, none⟩ ∧ w.cell? ⟨b, off + i, none⟩ = some (.slice A0 n0 c0) ∧ Sl IntR 1 ok w A0 n0 ds[i].cols ∧ (n0 ≤ c0) := by
 have hl := h.1
 obtain ⟨b, off, rfl, hb, hc⟩ := h.2 (by omega)
 obtain ⟨cs, -, hR, g⟩ := hc i hi
 obtain ⟨A0, n0, c0, rfl, h0, hcp⟩ := hR
 exact ⟨b, off, A0, n0, c0, hb, rfl, by have := g 0 _ rfl; rwa [Nat.mul_one] at this, h0, hcp⟩
theorem CkR.at_ {ok : Nat → Prop} {w : World} {A : Option Addr} {n : Nat} {ds : List Ck} (h : Sl CkR 1 ok w A n ds) {i : Nat} (hi : i < ds.length) :
  ∃ (b off : Nat) (A0 : Option Addr) (n0 c0 : Nat), ok b ∧ A = some ⟨b, off, none⟩ ∧ w.cell? ⟨b, off + i, none⟩ = some (.slice A0 n0 c0) ∧ Sl TkR 5 ok w A0 n0 ds[i].expr ∧ (n0 ≤ c0) := by
 have hl := h.1
 obtain ⟨b, off, rfl, hb, hc⟩ := h.2 (by omega)
 obtain ⟨cs, -, hR, g⟩ := hc i hi
 obtain ⟨A0, n0, c0, rfl, h0, hcp⟩ := hR
 exact ⟨b, off, A0, n0, c0, hb, rfl, by have := g 0 _ rfl; rwa [Nat.mul_one] at this, h0, hcp⟩
theorem FkR.at_ {ok : Nat → Prop} {w : World} {A : Option Addr} {n : Nat} {ds : List Fk} (h : Sl FkR 5 ok w A n ds) {i : Nat} (hi : i < ds.length) :
  ∃ (b off : Nat) (A0 : Option Addr) (n0 c0 : Nat), ok b ∧ A = some ⟨b, off, none⟩ ∧ w.cell? ⟨b, off + i * 5, none⟩ = some (.slice A0 n0 c0) ∧ w.cell? ⟨b, off + i * 5 + 1, none⟩ = some (.string ds[i].table) ∧ w.cell? ⟨b, off + i * 5 + 2, none⟩ = some (.int .i64 ds[i].del) ∧ w.cell? ⟨b, off + i * 5 + 3, none⟩ = some (.int .i64 ds[i].upd) ∧ w.cell? ⟨b, off + i * 5 + 4, none⟩ = some (.bool ds[i].dfr) ∧ Sl IntR 1 ok w A0 n0 ds[i].cols ∧ (n0 ≤ c0) := by
 have hl := h.1
 obtain ⟨b, off, rfl, hb, hc⟩ := h.2 (by omega)
 obtain ⟨cs, -, hR, g⟩ := hc i hi
 obtain ⟨A0, n0, c0, rfl, h0, hcp⟩ := hR
 exact ⟨b, off, A0, n0, c0, hb, rfl, g 0 _ rfl, g 1 _ rfl, g 2 _ rfl, g 3 _ rfl, g 4 _ rfl, h0, hcp⟩
theorem TbR.at_ {ok : Nat → Prop} {w : World} {A : Option Addr} {n : Nat} {ds : List Tb} (h : Sl TbR 6 ok w A n ds) {i : Nat} (hi : i < ds.length) :
  ∃ (b off : Nat) (A1 : Option Addr) (n1 c1 : Nat) (A2 : Option Addr) (n2 c2 : Nat) (A3 : Option Addr) (n3 c3 : Nat) (A4 : Option Addr) (n4 c4 : Nat) (A5 : Option Addr) (n5 c5 : Nat), ok b ∧ A = some ⟨b, off, none⟩ ∧ w.cell? ⟨b, off + i * 6, none⟩ = some (.string ds[i].name) ∧ w.cell? ⟨b, off + i * 6 + 1, none⟩ = some (.slice A1 n1 c1) ∧ w.cell? ⟨b, off + i * 6 + 2, none⟩ = some (.slice A2 n2 c2) ∧ w.cell? ⟨b, off + i * 6 + 3, none⟩ = some (.slice A3 n3 c3) ∧ w.cell? ⟨b, off + i * 6 + 4, none⟩ = some (.slice A4 n4 c4) ∧ w.cell? ⟨b, off + i * 6 + 5, none⟩ = some (.slice A5 n5 c5) ∧ Sl ClR 6 ok w A1 n1 ds[i].cols ∧ Sl IntR 1 ok w A2 n2 ds[i].key ∧ Sl UqR 1 ok w A3 n3 ds[i].uniqs ∧ Sl CkR 1 ok w A4 n4 ds[i].checks ∧ Sl FkR 5 ok w A5 n5 ds[i].fks ∧ (n1 ≤ c1 ∧ n2 ≤ c2 ∧ n3 ≤ c3 ∧ n4 ≤ c4 ∧ n5 ≤ c5) := by
 have hl := h.1
 obtain ⟨b, off, rfl, hb, hc⟩ := h.2 (by omega)
 obtain ⟨cs, -, hR, g⟩ := hc i hi
 obtain ⟨A1, n1, c1, A2, n2, c2, A3, n3, c3, A4, n4, c4, A5, n5, c5, rfl, h1, h2, h3, h4, h5, hcp⟩ := hR
 exact ⟨b, off, A1, n1, c1, A2, n2, c2, A3, n3, c3, A4, n4, c4, A5, n5, c5, hb, rfl, g 0 _ rfl, g 1 _ rfl, g 2 _ rfl, g 3 _ rfl, g 4 _ rfl, g 5 _ rfl, h1, h2, h3, h4, h5, hcp⟩
theorem RwR.at_ {ok : Nat → Prop} {w : World} {A : Option Addr} {n : Nat} {ds : List Rw} (h : Sl RwR 2 ok w A n ds) {i : Nat} (hi : i < ds.length) :
  ∃ (b off : Nat) (A1 : Option Addr) (n1 c1 : Nat), ok b ∧ A = some ⟨b, off, none⟩ ∧ w.cell? ⟨b, off + i * 2, none⟩ = some (.int .i64 ds[i].id) ∧ w.cell? ⟨b, off + i * 2 + 1, none⟩ = some (.slice A1 n1 c1) ∧ Sl VlR 3 ok w A1 n1 ds[i].vals ∧ (n1 ≤ c1) := by
 have hl := h.1
 obtain ⟨b, off, rfl, hb, hc⟩ := h.2 (by omega)
 obtain ⟨cs, -, hR, g⟩ := hc i hi
 obtain ⟨A1, n1, c1, rfl, h1, hcp⟩ := hR
 exact ⟨b, off, A1, n1, c1, hb, rfl, g 0 _ rfl, g 1 _ rfl, h1, hcp⟩
theorem DtR.at_ {ok : Nat → Prop} {w : World} {A : Option Addr} {n : Nat} {ds : List Dt} (h : Sl DtR 1 ok w A n ds) {i : Nat} (hi : i < ds.length) :
  ∃ (b off : Nat) (A0 : Option Addr) (n0 c0 : Nat), ok b ∧ A = some ⟨b, off, none⟩ ∧ w.cell? ⟨b, off + i, none⟩ = some (.slice A0 n0 c0) ∧ Sl RwR 2 ok w A0 n0 ds[i].rows ∧ (n0 ≤ c0) := by
 have hl := h.1
 obtain ⟨b, off, rfl, hb, hc⟩ := h.2 (by omega)
 obtain ⟨cs, -, hR, g⟩ := hc i hi
 obtain ⟨A0, n0, c0, rfl, h0, hcp⟩ := hR
 exact ⟨b, off, A0, n0, c0, hb, rfl, by have := g 0 _ rfl; rwa [Nat.mul_one] at this, h0, hcp⟩
theorem Sl.set {α : Type} {R : Rd α} (hR : Stays R) {sz : Nat} {ok : Nat → Prop} {w : World} {A : Option Addr} {n : Nat} {ds : List α} (h : Sl R sz ok w A n ds) {p : Addr} (hp : ∀ b, ok b → b ≠ p.block) (v : Value) : Sl R sz ok (w.setCell p v) A n ds :=
 h.stays hR (fun _ h => h) fun q u hq hu => (World.cell?_of_block (w := w) (a := q) (Below.heap_setCell w p v q.block (hp _ hq))).trans hu
def okF (G : Nat) (w : World) : Nat → Prop := fun b => G ≤ b ∧ b < w.heap.size ∧ ∀ off, w.frozen? ⟨b, off, none⟩ = false
theorem frozen_setCell (w : World) (p : Addr) (v : Value) (a : Addr) : (w.setCell p v).frozen? a = w.frozen? a := by
 unfold World.frozen? World.setCell
 by_cases e : p.block = a.block
 ·simp only [Array.getElem?_modify, if_pos e]
  cases h : w.heap[a.block]? with
  | none => rfl
  | some o => cases o <;> rfl
 ·simp only [Array.getElem?_modify, if_neg e]
theorem okF.mono {G G' : Nat} {w : World} {b : Nat} (h : okF G w b) (hG : G' ≤ G) : okF G' w b := ⟨Nat.le_trans hG h.1, h.2⟩
theorem okF.set {G : Nat} {w : World} {b : Nat} (h : okF G w b) (p : Addr) (v : Value) : okF G (w.setCell p v) b :=
 ⟨h.1, by simpa [World.setCell] using h.2.1, fun off => (frozen_setCell w p v _).trans (h.2.2 off)⟩
theorem LaidR.setF {α : Type} {R : Rd α} (hR : Stays R) {sz G : Nat} {w : World} {cs : Array Value} {k : Nat} {ds : List α} (h : LaidR R sz (okF G w) w cs k ds) {p : Addr} (hp : p.block < G) (v : Value) : LaidR R sz (okF G (w.setCell p v)) (w.setCell p v) cs k ds := fun i hi hlt => by
 obtain ⟨c, h1, h2, h3⟩ := h i hi hlt
 exact ⟨c, h1, hR _ _ _ _ _ _ h2 (fun _ h => h.set p v) (fun q u hq hu => (World.cell?_of_block (w := w) (a := q) (Below.heap_setCell w p v q.block (by have := hq.1; omega))).trans hu), h3⟩
theorem hold3 (cs : Array Value) (k : Nat) (v0 v1 v2 : Value) : ∀ m, m < k * 3 → (((cs.setIfInBounds (k * 3) v0).setIfInBounds (k * 3 + 1) v1).setIfInBounds (k * 3 + 2) v2)[m]? = cs[m]? := by
 intro m hm
 simp only [Array.getElem?_setIfInBounds, Array.size_setIfInBounds]
 rw [if_neg (by omega)]; rw [if_neg (by omega)]; rw [if_neg (by omega)]
theorem fresh3 (cs : Array Value) (k : Nat) (v0 v1 v2 : Value) (hs : k * 3 + 3 ≤ cs.size) : ∀ (j : Nat) (v : Value), [v0, v1, v2][j]? = some v → (((cs.setIfInBounds (k * 3) v0).setIfInBounds (k * 3 + 1) v1).setIfInBounds (k * 3 + 2) v2)[k * 3 + j]? = some v := by
 intro j v hj
 have hlt : j < 3 := by obtain ⟨h, _⟩ := List.getElem?_eq_some_iff.1 hj; simpa using h
 have : j = 0 ∨ j = 1 ∨ j = 2 := by omega
 rcases this with rfl | rfl | rfl <;> simp at hj <;> subst hj <;> simp [Array.getElem?_setIfInBounds] <;> omega
theorem infoTableT : (Tryz.prog.info? 45).map (fun i => (i.zero, i.size, i.bytes)) = some (some (.agg #[.string ⟨#[]⟩, .slice none 0 0, .slice none 0 0, .slice none 0 0, .slice none 0 0, .slice none 0 0]), 6, 136) := by kernel_rfl
theorem szL_mem {α : Type} (f : α → Nat) (l : List α) (y : α) (h : y ∈ l) : f y ≤ szL f l := by
 obtain ⟨i, hi, rfl⟩ := List.mem_iff_getElem.1 h
 have := sum_mem_le f l i hi
 unfold szL
 omega
theorem infoIntI : (Tryz.prog.info? 2).map (fun i => (i.zero, i.size, i.bytes)) = some (some (.int .i64 0), 1, 8) := by kernel_rfl
def OwnI (w : World) (base : Nat) (v : Value) (xs : List Int) : Prop := w.ownsRow base 2 1 v xs.length (xs.map (Value.int .i64))
theorem OwnI.nil (w : World) (base : Nat) : OwnI w base (.slice none 0 0) [] := World.ownsRow_nil _ _ _ _
theorem OwnI.below {w w' : World} {base : Nat} {v : Value} {xs : List Int} (h : OwnI w base v xs) (hb : Below w.heap.size w w') : OwnI w' base v xs := by
 refine ⟨h.1, ?_⟩
 rcases h.2 with h | ⟨g, cap, cur, rfl, h1, h2, h3⟩
 ·exact .inl h
 ·exact .inr ⟨g, cap, cur, rfl, h1, (hb.block g (lt_of_block h2)).trans h2, h3⟩
theorem OwnI.lit (w : World) {base : Nat} (hb : base ≤ w.heap.size) : OwnI (w.alloc (.cells #[] 2)) base (.slice (some ⟨w.heap.size, 0, none⟩) 0 0) [] :=
 ⟨rfl, .inr ⟨w.heap.size, 0, #[], rfl, hb, Go.heap_alloc_last w _, Nat.le_refl _, by simp [maxLen], rfl, rfl⟩⟩
theorem OwnI.sl {w : World} {base : Nat} {v : Value} {xs : List Int} (h : OwnI w base v xs) : ∃ A c, v = .slice A xs.length c ∧ xs.length ≤ c ∧ c ≤ maxLen ∧ Sl IntR 1 (okF base w) w A xs.length xs := by
 rcases h.2 with ⟨rfl, hn⟩ | ⟨g, cap, cur, rfl, h1, h2, h3, h4, h5, h6⟩
 ·exact ⟨none, 0, by rw [hn], by omega, by simp [maxLen], rfl, fun h => by omega⟩
 ·refine ⟨_, cap, rfl, h3, h4, rfl, fun hn => ⟨g, 0, rfl, ⟨h1, lt_of_block h2, fun off => by simp [World.frozen?, h2]⟩, fun i hi => ⟨[.int .i64 xs[i]], rfl, rfl, fun j x hx => ?_⟩⟩⟩
  have hj : j = 0 := by have := (List.getElem?_eq_some_iff.1 hx).1; simpa using this
  subst hj
  obtain rfl := Option.some.inj hx
  rw [cell_of_row _ _ _ _ _ _ h2, Nat.zero_add, Nat.mul_one, Nat.add_zero]
  have h7 : (cur.toList.take (xs.length * 1))[i]? = some (.int .i64 xs[i]) := by rw [h6, List.getElem?_map, List.getElem?_eq_getElem hi]; rfl
  rw [List.getElem?_take, if_pos (by omega)] at h7
  rw [← Array.getElem?_toList]
  exact h7
theorem OwnI.block_lt {w : World} {base : Nat} {v : Value} {xs : List Int} (h : OwnI w base v xs) : ∀ k, v.ownBlock = some k → base ≤ k ∧ k < w.heap.size := World.ownsRow.lt h
theorem OwnI.app {w w' : World} {base : Nat} {v v' : Value} {xs : List Int} {x : Int} {o : Obj} (h : OwnI w base v xs) (hb : base ≤ w.heap.size)
  (h' : w'.ownsRow base 2 1 v' (xs.length + 1) (xs.map (Value.int .i64) ++ [.int .i64 x])) (hg : (w.alloc o).grownBy w' v.ownBlock) : OwnI w' base v' (xs ++ [x]) ∧ Below base w w' :=
 ⟨by unfold OwnI; rw [List.length_append, List.map_append]; exact h', ((Below.refl base w).alloc hb o).grown hg (by simp; omega) fun k hk => (h.block_lt k hk).1⟩
end Go.Proofs.YtjhhamlnlalkoaaGreat
namespace Go.Proofs.YtjhhamlnlalkoaaGreat
open Go.RowKit
theorem flat_get {sz : Nat} : ∀ (l : List (List Value)) (i j : Nat) (hi : i < l.length) (hj : j < sz), (∀ c ∈ l, c.length = sz) → l.flatten[i * sz + j]? = (l[i])[j]?
 | [], i, j, hi, _, _ => by simp at hi
 | c :: cs, i, j, hi, hj, hz => by
  have hc := hz c (by simp)
  cases i with
  | zero => simp only [List.getElem_cons_zero, List.flatten_cons, Nat.zero_mul, Nat.zero_add]; rw [List.getElem?_append_left (by omega)]
  | succ i =>
   simp only [List.getElem_cons_succ]
   rw [List.flatten_cons, List.getElem?_append_right (by rw [hc, Nat.add_mul]; omega), hc, show (i + 1) * sz + j - sz = i * sz + j by rw [Nat.add_mul]; omega]
   exact flat_get cs i j (by simpa using hi) hj fun d hd => hz d (by simp [hd])
theorem flat_len {sz : Nat} : ∀ (l : List (List Value)), (∀ c ∈ l, c.length = sz) → l.flatten.length = l.length * sz
 | [], _ => by simp
 | c :: cs, h => by
  rw [List.flatten_cons, List.length_append, h c (by simp), flat_len cs fun d hd => h d (by simp [hd]), List.length_cons, Nat.add_mul]; omega
def OwnG {α : Type} (T : TypeId) (sz : Nat) (f : α → List Value) (w : World) (base : Nat) (v : Value) (xs : List α) : Prop := w.ownsRow base T sz v xs.length ((xs.map f).flatten)
section
variable {α : Type} {T : TypeId} {sz : Nat} {f : α → List Value}
theorem OwnG.nil (w : World) (base : Nat) : OwnG T sz f w base (.slice none 0 0) [] := World.ownsRow_nil _ _ _ _
theorem OwnG.below {w w' : World} {base : Nat} {v : Value} {xs : List α} (h : OwnG T sz f w base v xs) (hb : Below w.heap.size w w') : OwnG T sz f w' base v xs := by
 refine ⟨h.1, ?_⟩
 rcases h.2 with h | ⟨g, cap, cur, rfl, h1, h2, h3⟩
 ·exact .inl h
 ·exact .inr ⟨g, cap, cur, rfl, h1, (hb.block g (lt_of_block h2)).trans h2, h3⟩
theorem OwnG.lit (w : World) {base : Nat} (hb : base ≤ w.heap.size) : OwnG T sz f (w.alloc (.cells #[] T)) base (.slice (some ⟨w.heap.size, 0, none⟩) 0 0) ([] : List α) :=
 ⟨by simp, .inr ⟨w.heap.size, 0, #[], rfl, hb, Go.heap_alloc_last w _, Nat.le_refl _, by simp [maxLen], by simp, by simp⟩⟩
theorem OwnG.sl (hf : ∀ d, (f d).length = sz) {w : World} {base : Nat} {v : Value} {xs : List α} (h : OwnG T sz f w base v xs) : ∃ A c, v = .slice A xs.length c ∧ xs.length ≤ c ∧ c ≤ maxLen ∧ Sl (FlatR f) sz (okF base w) w A xs.length xs := by
 rcases h.2 with ⟨rfl, hn⟩ | ⟨g, cap, cur, rfl, h1, h2, h3, h4, h5, h6⟩
 ·exact ⟨none, 0, by rw [hn], by omega, by simp [maxLen], rfl, fun h => by omega⟩
 ·refine ⟨_, cap, rfl, h3, h4, rfl, fun hn => ⟨g, 0, rfl, ⟨h1, lt_of_block h2, fun off => by simp [World.frozen?, h2]⟩, fun i hi => ⟨f xs[i], hf _, rfl, fun j x hx => ?_⟩⟩⟩
  have hj : j < sz := by have := (List.getElem?_eq_some_iff.1 hx).1; rw [hf] at this; exact this
  rw [cell_of_row _ _ _ _ _ _ h2, Nat.zero_add]
  have hlt : i * sz + j < xs.length * sz := by have : (i + 1) * sz ≤ xs.length * sz := Nat.mul_le_mul_right _ hi; rw [Nat.add_mul] at this; omega
  have h7 := flat_get (sz := sz) (xs.map f) i j (by simpa using hi) hj (fun c hc => by obtain ⟨d, _, rfl⟩ := List.mem_map.1 hc; exact hf d)
  rw [List.getElem_map, hx, ← h6, List.getElem?_take, if_pos hlt] at h7
  rw [← Array.getElem?_toList]
  exact h7
theorem OwnG.block_lt {w : World} {base : Nat} {v : Value} {xs : List α} (h : OwnG T sz f w base v xs) : ∀ k, v.ownBlock = some k → base ≤ k ∧ k < w.heap.size := World.ownsRow.lt h
theorem OwnG.app {w w' : World} {base : Nat} {v v' : Value} {xs : List α} {x : α} {o : Obj} (h : OwnG T sz f w base v xs) (hb : base ≤ w.heap.size)
  (h' : w'.ownsRow base T sz v' (xs.length + 1) ((xs.map f).flatten ++ f x)) (hg : (w.alloc o).grownBy w' v.ownBlock) : OwnG T sz f w' base v' (xs ++ [x]) ∧ Below base w w' :=
 ⟨by unfold OwnG; rw [List.length_append, List.map_append, List.flatten_append]; simpa using h', ((Below.refl base w).alloc hb o).grown hg (by simp; omega) fun k hk => (h.block_lt k hk).1⟩
end
theorem cells_new (w : World) (l : List Value) (t : TypeId) : ∀ j u, l[j]? = some u → (w.alloc (.cells l.toArray t)).cell? ((⟨w.heap.size, 0, none⟩ : Addr).add j) = some u := by
 intro j u hj
 rw [addr_add, Nat.zero_add, cell_of_row _ _ _ _ _ _ (Go.heap_alloc_last w _)]
 simpa using hj
theorem cells_newAt (w : World) (l : List Value) (t : TypeId) {g : Nat} (hg : g = w.heap.size) : ∀ j u, l[j]? = some u → (w.alloc (.cells l.toArray t)).cell? ((⟨g, 0, none⟩ : Addr).add j) = some u := by
 subst hg
 exact cells_new w l t
end Go.Proofs.YtjhhamlnlalkoaaGreat
namespace Go.Proofs.YtjhhamlnlalkoaaGreat
open Go.RowKit
def lessV (k n : Int) (s : ByteArray) (k' n' : Int) (s' : ByteArray) : Bool := decide (k < k') || (k == k' && (decide (n < n') || Op.bytesLess s.toList s'.toList))
def sameV (k n : Int) (s : ByteArray) (k' n' : Int) (s' : ByteArray) : Bool := k == k' && (n == n' && s.toList == s'.toList)
def ordV (k n : Int) (s : ByteArray) (k' n' : Int) (s' : ByteArray) : Int := if lessV k n s k' n' s' = true then -1 else if sameV k n s k' n' s' = true then 0 else 1
theorem valOk_cases {k n : Int} {s : ByteArray} (h : valOkB k n s = true) : (k = 0 ∧ n = 0 ∧ s.toList = []) ∨ (k = 1 ∧ s.toList = []) ∨ (k = 2 ∧ n = 0) := by
 unfold valOkB at h
 by_cases k0 : k = 0
 ·subst k0; simp at h; exact .inl ⟨rfl, h.1, h.2⟩
 by_cases k1 : k = 1
 ·subst k1; simp at h; exact .inr (.inl ⟨rfl, h.2⟩)
 by_cases k2 : k = 2
 ·subst k2; simp at h; exact .inr (.inr ⟨rfl, h.1⟩)
 ·simp [k0, k1, k2] at h
theorem ord_eq {k n : Int} {s : ByteArray} {k' n' : Int} {s' : ByteArray} (h : valOkB k n s = true) (h' : valOkB k' n' s' = true) :
  firstNZ (cmpI k k') (cmpI n n') (cmpS s s') = ordV k n s k' n' s' := by
 have e0 : Op.bytesLess [] [] = false := rfl
 rcases valOk_cases h with ⟨rfl, rfl, e1⟩ | ⟨rfl, e1⟩ | ⟨rfl, rfl⟩ <;> rcases valOk_cases h' with ⟨rfl, rfl, e2⟩ | ⟨rfl, e2⟩ | ⟨rfl, rfl⟩
 ·simp [firstNZ, cmpI, cmpS, ordV, lessV, sameV, e1, e2, e0]
 ·simp [firstNZ, cmpI, ordV, lessV]
 ·simp [firstNZ, cmpI, ordV, lessV]
 ·simp [firstNZ, cmpI, ordV, lessV, sameV]
 ·simp only [firstNZ, cmpI, cmpS, ordV, lessV, sameV, e1, e2, e0]
  by_cases a : n < n'
  ·simp [a]
  ·by_cases b : n' < n
   ·have c : ¬ n = n' := by omega
    simp [a, b, c]
   ·have c : n = n' := by omega
    simp [c]
 ·simp [firstNZ, cmpI, ordV, lessV]
 ·simp [firstNZ, cmpI, ordV, lessV, sameV]
 ·simp [firstNZ, cmpI, ordV, lessV, sameV]
 ·simp only [firstNZ, cmpI, cmpS, ordV, lessV, sameV]
  simp
theorem ordV_of {k n : Int} {s : ByteArray} {k' n' : Int} {s' : ByteArray} (h : lessV k n s k' n' s' = false) : ordV k n s k' n' s' = if sameV k n s k' n' s' = true then 0 else 1 := by simp [ordV, h]
theorem chain2 (w : World) (o o' : Obj) : Below w.heap.size w ((w.alloc o).alloc o') := ((Below.refl _ w).alloc (Nat.le_refl _) o).alloc (by simp) o'
set_option maxHeartbeats 400000 in
theorem specL1Order (k n : Int) (s : ByteArray) (k' n' : Int) (s' : ByteArray) (w : World) :
  Calls Tryz.prog 184 #[.agg #[.int .i64 k, .int .i64 n, .string s], .agg #[.int .i64 k', .int .i64 n', .string s']] w fun e w' => e = .returned (.int .i64 (ordV k n s k' n' s')) ∧ Below w.heap.size w w' := by
 by_cases c1 : k < k'
 ·go_enter Tryz.func184, Tryz.ntmps184
  go_wp2
  go_ret
  exact ⟨retI (by simp [ordV, lessV, c1]), chain2 w _ _⟩
 have d1 : decide (k < k') = false := by simpa using c1
 by_cases c2 : k = k'
 ·subst c2
  by_cases c3 : n < n'
  ·go_enter Tryz.func184, Tryz.ntmps184
   go_wp2
   go_ret
   exact ⟨retI (by simp [ordV, lessV, c3]), chain2 w _ _⟩
  have d3 : decide (n < n') = false := by simpa using c3
  by_cases c4 : Op.bytesLess s.toList s'.toList = true
  ·go_enter Tryz.func184, Tryz.ntmps184
   go_wp2
   go_ret
   exact ⟨retI (by simp [ordV, lessV, c4]), chain2 w _ _⟩
  have d4 : Op.bytesLess s.toList s'.toList = false := by simpa using c4
  have HL := Lib.hid (show lessV k n s k n' s' = false by simp [lessV, d4]; omega)
  clear c1 c3 c4
  go_enter Tryz.func184, Tryz.ntmps184
  go_wp2
  all_goals
   go_ret
   exact ⟨retI (by rw [ordV_of HL.out]; simp [sameV, *]), chain2 w _ _⟩
 ·have d2 : (k == k') = false := by simpa using c2
  go_enter Tryz.func184, Tryz.ntmps184
  go_wp2
  go_ret
  exact ⟨retI (by simp [ordV, lessV, sameV, c1, c2]), chain2 w _ _⟩
theorem Cells3.two (w : World) (k n : Int) (s : ByteArray) (k' n' : Int) (s' : ByteArray) (T : TypeId) :
  Cells3 ((w.alloc (.cells #[.int .i64 k, .int .i64 n, .string s] T)).alloc (.cells #[.int .i64 k', .int .i64 n', .string s'] T)) w.heap.size k n s ∧
  Cells3 ((w.alloc (.cells #[.int .i64 k, .int .i64 n, .string s] T)).alloc (.cells #[.int .i64 k', .int .i64 n', .string s'] T)) (w.heap.size + 1) k' n' s' := by simp [Cells3]
theorem two_below {w w' : World} {b b' : Nat} {k n : Int} {s : ByteArray} {k' n' : Int} {s' : ByteArray} (h : Cells3 w b k n s ∧ Cells3 w b' k' n' s') (hb : Below w.heap.size w w') : Cells3 w' b k n s ∧ Cells3 w' b' k' n' s' :=
 ⟨h.1.below hb, h.2.below hb⟩
theorem keep6 {w w' : World} {a0 a1 a2 a3 a4 a5 : Addr} {v0 v1 v2 v3 v4 v5 : Value} (h : w.cell? a0 = some v0 ∧ w.cell? a1 = some v1 ∧ w.cell? a2 = some v2 ∧ w.cell? a3 = some v3 ∧ w.cell? a4 = some v4 ∧ w.cell? a5 = some v5) (hb : Below w.heap.size w w') : w'.cell? a0 = some v0 ∧ w'.cell? a1 = some v1 ∧ w'.cell? a2 = some v2 ∧ w'.cell? a3 = some v3 ∧ w'.cell? a4 = some v4 ∧ w'.cell? a5 = some v5 := by
 obtain ⟨h0, h1, h2, h3, h4, h5⟩ := h
 exact ⟨(hb.cell (cell_lt h0)).trans h0, (hb.cell (cell_lt h1)).trans h1, (hb.cell (cell_lt h2)).trans h2, (hb.cell (cell_lt h3)).trans h3, (hb.cell (cell_lt h4)).trans h4, (hb.cell (cell_lt h5)).trans h5⟩
def ordOk (k n : Int) (s : ByteArray) (k' n' : Int) (s' : ByteArray) : Int := if (valOkB k n s && valOkB k' n' s') = true then ordV k n s k' n' s' else 0
set_option maxHeartbeats 1000000 in
theorem implOrder (k n : Int) (s : ByteArray) (k' n' : Int) (s' : ByteArray) (w : World) :
  Calls Tryz.prog 160 #[.agg #[.int .i64 k, .int .i64 n, .string s], .agg #[.int .i64 k', .int .i64 n', .string s']] w fun e w' => e = .returned (.int .i64 (ordOk k n s k' n' s')) ∧ Below w.heap.size w w' := by
 have Q0 := Lib.hid (Cells3.two w k n s k' n' s' 53)
 have HB0 := Lib.hid (chain2 w (.cells #[.int .i64 k, .int .i64 n, .string s] 53) (.cells #[.int .i64 k', .int .i64 n', .string s'] 53))
 cases ha : valOkB k n s
 ·have Ha := Lib.hid ha
  go_enter Tryz.func160, Tryz.ntmps160
  go_wp2_with fail
  refine (implValOk k n s _).mono ?_
  rintro e w1 ⟨rfl, hb1⟩
  go_wp2
  go_ret
  exact ⟨retI (by simp [ordOk, Ha.out]), HB0.out.trans (hb1.mono HB0.out.size)⟩
 cases hc : valOkB k' n' s'
 ·have Hc := Lib.hid hc
  go_enter Tryz.func160, Tryz.ntmps160
  go_wp2_with fail
  refine (implValOk k n s _).mono ?_
  rintro e w1 ⟨rfl, hb1⟩
  obtain ⟨⟨c0, c1, c2⟩, ⟨d0, d1, d2⟩⟩ := two_below Q0.out hb1
  go_wp2_with fail
  refine (implValOk k' n' s' _).mono ?_
  rintro e w2 ⟨rfl, hb2⟩
  go_wp2
  go_ret
  exact ⟨retI (by simp [ordOk, Hc.out]), (HB0.out.trans (hb1.mono HB0.out.size)).trans (hb2.mono (HB0.out.trans (hb1.mono HB0.out.size)).size)⟩
 ·have Ha := Lib.hid ha
  have Hc := Lib.hid hc
  go_enter Tryz.func160, Tryz.ntmps160
  go_wp2_with fail
  refine (implValOk k n s _).mono ?_
  rintro e w1 ⟨rfl, hb1⟩
  have q1 := two_below Q0.out hb1
  obtain ⟨⟨c0, c1, c2⟩, ⟨d0, d1, d2⟩⟩ := q1
  go_wp2_with fail
  refine (implValOk k' n' s' _).mono ?_
  rintro e w2 ⟨rfl, hb2⟩
  have h2 := (HB0.out.trans (hb1.mono HB0.out.size)).trans (hb2.mono (HB0.out.trans (hb1.mono HB0.out.size)).size)
  have H2 := Lib.hid h2
  obtain ⟨⟨g0, g1, g2⟩, ⟨e0, e1, e2⟩⟩ := two_below (s := s) (s' := s') ⟨⟨c0, c1, c2⟩, ⟨d0, d1, d2⟩⟩ hb2
  clear c0 c1 c2 d0 d1 d2 hb1 hb2 h2
  go_wp2_with fail
  go_region_held3 (fun w' => w'.cell? ⟨w.heap.size, 0, none⟩ = some (.int .i64 k) ∧ w'.cell? ⟨w.heap.size, 1, none⟩ = some (.int .i64 n) ∧ w'.cell? ⟨w.heap.size, 2, none⟩ = some (.string s) ∧ w'.cell? ⟨w.heap.size + 1, 0, none⟩ = some (.int .i64 k') ∧ w'.cell? ⟨w.heap.size + 1, 1, none⟩ = some (.int .i64 n') ∧ w'.cell? ⟨w.heap.size + 1, 2, none⟩ = some (.string s')) (go_keep)
   (first | (go_at_call 182; refine (cmpInt _ _ _).mono ?_; rintro e w3 ⟨rfl, rfl⟩) | (go_at_call 183; refine (cmpStr _ _ _).mono ?_; rintro e w3 ⟨rfl, rfl⟩) | (go_at_call 181; refine Calls.mono (cmpOr _ (cmpI k k') (cmpI n n') (cmpS s s') _ ?_ ?_ ?_) ?_; simp; simp; simp; rintro e w3 ⟨rfl, rfl⟩))
  go_wp2
  go_ret
  exact ⟨retI (by rw [ord_eq Ha.out Hc.out]; simp [ordOk, Ha.out, Hc.out]), by first | exact (H2.out.alloc H2.out.size _).drew | exact H2.out.drew.alloc H2.out.size _⟩
theorem bytesLess_irrefl (l : List UInt8) : Op.bytesLess l l = false := by
 induction l with
 | nil => rfl
 | cons a l ih => simp [Op.bytesLess, ih]
def knownB (k n : Int) (s : ByteArray) : Bool := k != 0 && valOkB k n s
def yes (b : Bool) : Int := if b = true then 1 else 0
def eq3 (k n : Int) (s : ByteArray) (k' n' : Int) (s' : ByteArray) : Int := if (knownB k n s && knownB k' n' s') = true then yes (sameV k n s k' n' s') else 2
def less3 (k n : Int) (s : ByteArray) (k' n' : Int) (s' : ByteArray) : Int := if (knownB k n s && knownB k' n' s') = true then yes (decide (ordV k n s k' n' s' < 0)) else 2
theorem ordV_zero (k n : Int) (s : ByteArray) (k' n' : Int) (s' : ByteArray) : (ordV k n s k' n' s' == 0) = sameV k n s k' n' s' := by
 unfold ordV
 cases hs : sameV k n s k' n' s'
 ·cases hl : lessV k n s k' n' s' <;> simp
 ·have : lessV k n s k' n' s' = false := by
   simp [sameV] at hs
   obtain ⟨rfl, rfl, h⟩ := hs
   simp [lessV, h, bytesLess_irrefl]
  simp [this]
theorem implTruthIf (b : Bool) (w : World) : Calls Tryz.prog 80 #[.bool b] w fun e w' => e = .returned (.int .i64 (yes b)) ∧ w = w' := by
 cases b
 ·go_enter Tryz.func80, Tryz.ntmps80
  go_wp2
  go_ret
  exact ⟨rfl, rfl⟩
 ·go_enter Tryz.func80, Tryz.ntmps80
  go_wp2
  go_ret
  exact ⟨rfl, rfl⟩
theorem specYes (b : Bool) (w : World) : Calls Tryz.prog 149 #[.bool b] w fun e w' => e = .returned (.int .i64 (yes b)) ∧ w = w' := by
 cases b
 ·go_enter Tryz.func149, Tryz.ntmps149
  go_wp2
  go_ret
  exact ⟨rfl, rfl⟩
 ·go_enter Tryz.func149, Tryz.ntmps149
  go_wp2
  go_ret
  exact ⟨rfl, rfl⟩
theorem implKnown (k n : Int) (s : ByteArray) (w : World) :
  Calls Tryz.prog 159 #[.agg #[.int .i64 k, .int .i64 n, .string s]] w fun e w' => e = .returned (.bool (knownB k n s)) ∧ Below w.heap.size w w' := by
 have HB0 := Lib.hid ((Below.refl w.heap.size w).alloc (Nat.le_refl _) (.cells #[.int .i64 k, .int .i64 n, .string s] 53))
 by_cases h : k = 0
 ·subst h
  go_enter Tryz.func159, Tryz.ntmps159
  go_wp2
  go_ret
  exact ⟨rfl, HB0.out⟩
 ·have h' : (k != 0) = true := by simpa using h
  go_enter Tryz.func159, Tryz.ntmps159
  go_wp2_with fail
  refine (implValOk k n s _).mono ?_
  rintro e w1 ⟨rfl, hb1⟩
  go_wp2
  go_ret
  exact ⟨retB (by simp [knownB, h]), HB0.out.trans (hb1.mono HB0.out.size)⟩
set_option maxHeartbeats 1000000 in
theorem implEqual3 (k n : Int) (s : ByteArray) (k' n' : Int) (s' : ByteArray) (w : World) :
  Calls Tryz.prog 143 #[.agg #[.int .i64 k, .int .i64 n, .string s], .agg #[.int .i64 k', .int .i64 n', .string s']] w fun e w' => e = .returned (.int .i64 (eq3 k n s k' n' s')) ∧ Below w.heap.size w w' := by
 have Q0 := Lib.hid (Cells3.two w k n s k' n' s' 53)
 have HB0 := Lib.hid (chain2 w (.cells #[.int .i64 k, .int .i64 n, .string s] 53) (.cells #[.int .i64 k', .int .i64 n', .string s'] 53))
 cases ha : knownB k n s
 ·have Ha := Lib.hid ha
  go_enter Tryz.func143, Tryz.ntmps143
  go_wp2_with fail
  refine (implKnown k n s _).mono ?_
  rintro e w1 ⟨rfl, hb1⟩
  go_wp2
  go_ret
  exact ⟨retI (by simp [eq3, Ha.out]), (HB0.out.trans (hb1.mono HB0.out.size))⟩
 cases hc : knownB k' n' s'
 ·have Hc := Lib.hid hc
  go_enter Tryz.func143, Tryz.ntmps143
  go_wp2_with fail
  refine (implKnown k n s _).mono ?_
  rintro e w1 ⟨rfl, hb1⟩
  obtain ⟨⟨c0, c1, c2⟩, ⟨d0, d1, d2⟩⟩ := two_below Q0.out hb1
  go_wp2_with fail
  refine (implKnown k' n' s' _).mono ?_
  rintro e w2 ⟨rfl, hb2⟩
  go_wp2
  go_ret
  exact ⟨retI (by simp [eq3, Hc.out]), (HB0.out.trans (hb1.mono HB0.out.size)).trans (hb2.mono (HB0.out.trans (hb1.mono HB0.out.size)).size)⟩
 ·have Ha := Lib.hid ha
  have Hc := Lib.hid hc
  go_enter Tryz.func143, Tryz.ntmps143
  go_wp2_with fail
  refine (implKnown k n s _).mono ?_
  rintro e w1 ⟨rfl, hb1⟩
  obtain ⟨⟨c0, c1, c2⟩, ⟨d0, d1, d2⟩⟩ := two_below Q0.out hb1
  go_wp2_with fail
  refine (implKnown k' n' s' _).mono ?_
  rintro e w2 ⟨rfl, hb2⟩
  have H2 := Lib.hid ((HB0.out.trans (hb1.mono HB0.out.size)).trans (hb2.mono (HB0.out.trans (hb1.mono HB0.out.size)).size))
  obtain ⟨⟨g0, g1, g2⟩, ⟨e0, e1, e2⟩⟩ := two_below (s := s) (s' := s') ⟨⟨c0, c1, c2⟩, ⟨d0, d1, d2⟩⟩ hb2
  clear c0 c1 c2 d0 d1 d2 hb1 hb2
  go_wp2_with fail
  refine (implOrder k n s k' n' s' _).mono ?_
  rintro e w3 ⟨rfl, hb3⟩
  go_wp2_with fail
  refine (implTruthIf _ _).mono ?_
  rintro e w4 ⟨rfl, rfl⟩
  go_wp2
  go_ret
  have o1 : valOkB k n s = true := by have := Ha.out; simp [knownB] at this; exact this.2
  have o2 : valOkB k' n' s' = true := by have := Hc.out; simp [knownB] at this; exact this.2
  exact ⟨retI (by simp only [eq3, Ha.out, Hc.out, Bool.and_self, if_true, ordOk, o1, o2, ordV_zero]), H2.out.trans (hb3.mono H2.out.size)⟩
set_option maxHeartbeats 1000000 in
theorem implLess3 (k n : Int) (s : ByteArray) (k' n' : Int) (s' : ByteArray) (w : World) :
  Calls Tryz.prog 144 #[.agg #[.int .i64 k, .int .i64 n, .string s], .agg #[.int .i64 k', .int .i64 n', .string s']] w fun e w' => e = .returned (.int .i64 (less3 k n s k' n' s')) ∧ Below w.heap.size w w' := by
 have Q0 := Lib.hid (Cells3.two w k n s k' n' s' 53)
 have HB0 := Lib.hid (chain2 w (.cells #[.int .i64 k, .int .i64 n, .string s] 53) (.cells #[.int .i64 k', .int .i64 n', .string s'] 53))
 cases ha : knownB k n s
 ·have Ha := Lib.hid ha
  go_enter Tryz.func144, Tryz.ntmps144
  go_wp2_with fail
  refine (implKnown k n s _).mono ?_
  rintro e w1 ⟨rfl, hb1⟩
  go_wp2
  go_ret
  exact ⟨retI (by simp [less3, Ha.out]), (HB0.out.trans (hb1.mono HB0.out.size))⟩
 cases hc : knownB k' n' s'
 ·have Hc := Lib.hid hc
  go_enter Tryz.func144, Tryz.ntmps144
  go_wp2_with fail
  refine (implKnown k n s _).mono ?_
  rintro e w1 ⟨rfl, hb1⟩
  obtain ⟨⟨c0, c1, c2⟩, ⟨d0, d1, d2⟩⟩ := two_below Q0.out hb1
  go_wp2_with fail
  refine (implKnown k' n' s' _).mono ?_
  rintro e w2 ⟨rfl, hb2⟩
  go_wp2
  go_ret
  exact ⟨retI (by simp [less3, Hc.out]), (HB0.out.trans (hb1.mono HB0.out.size)).trans (hb2.mono (HB0.out.trans (hb1.mono HB0.out.size)).size)⟩
 ·have Ha := Lib.hid ha
  have Hc := Lib.hid hc
  go_enter Tryz.func144, Tryz.ntmps144
  go_wp2_with fail
  refine (implKnown k n s _).mono ?_
  rintro e w1 ⟨rfl, hb1⟩
  obtain ⟨⟨c0, c1, c2⟩, ⟨d0, d1, d2⟩⟩ := two_below Q0.out hb1
  go_wp2_with fail
  refine (implKnown k' n' s' _).mono ?_
  rintro e w2 ⟨rfl, hb2⟩
  have H2 := Lib.hid ((HB0.out.trans (hb1.mono HB0.out.size)).trans (hb2.mono (HB0.out.trans (hb1.mono HB0.out.size)).size))
  obtain ⟨⟨g0, g1, g2⟩, ⟨e0, e1, e2⟩⟩ := two_below (s := s) (s' := s') ⟨⟨c0, c1, c2⟩, ⟨d0, d1, d2⟩⟩ hb2
  clear c0 c1 c2 d0 d1 d2 hb1 hb2
  go_wp2_with fail
  refine (implOrder k n s k' n' s' _).mono ?_
  rintro e w3 ⟨rfl, hb3⟩
  go_wp2_with fail
  refine (implTruthIf _ _).mono ?_
  rintro e w4 ⟨rfl, rfl⟩
  go_wp2
  go_ret
  have o1 : valOkB k n s = true := by have := Ha.out; simp [knownB] at this; exact this.2
  have o2 : valOkB k' n' s' = true := by have := Hc.out; simp [knownB] at this; exact this.2
  exact ⟨retI (by simp only [less3, Ha.out, Hc.out, Bool.and_self, if_true, ordOk, o1, o2]), H2.out.trans (hb3.mono H2.out.size)⟩
set_option maxHeartbeats 1000000 in
theorem specLess3 (k n : Int) (s : ByteArray) (k' n' : Int) (s' : ByteArray) (w : World) :
  Calls Tryz.prog 164 #[.agg #[.int .i64 k, .int .i64 n, .string s], .agg #[.int .i64 k', .int .i64 n', .string s']] w fun e w' => e = .returned (.int .i64 (less3 k n s k' n' s')) ∧ Below w.heap.size w w' := by
 have Q0 := Lib.hid (Cells3.two w k n s k' n' s' 53)
 have HB0 := Lib.hid (chain2 w (.cells #[.int .i64 k, .int .i64 n, .string s] 53) (.cells #[.int .i64 k', .int .i64 n', .string s'] 53))
 cases ha : valOkB k n s
 ·have Ha := Lib.hid ha
  go_enter Tryz.func164, Tryz.ntmps164
  go_wp2_with fail
  refine (specValOk k n s _).mono ?_
  rintro e w1 ⟨rfl, hb1⟩
  go_wp2
  go_ret
  exact ⟨retI (by simp [less3, knownB, Ha.out]), (HB0.out.trans (hb1.mono HB0.out.size))⟩
 cases hc : valOkB k' n' s'
 ·have Hc := Lib.hid hc
  go_enter Tryz.func164, Tryz.ntmps164
  go_wp2_with fail
  refine (specValOk k n s _).mono ?_
  rintro e w1 ⟨rfl, hb1⟩
  obtain ⟨⟨c0, c1, c2⟩, ⟨d0, d1, d2⟩⟩ := two_below Q0.out hb1
  go_wp2_with fail
  refine (specValOk k' n' s' _).mono ?_
  rintro e w2 ⟨rfl, hb2⟩
  have H2 := Lib.hid ((HB0.out.trans (hb1.mono HB0.out.size)).trans (hb2.mono (HB0.out.trans (hb1.mono HB0.out.size)).size))
  obtain ⟨⟨g0, g1, g2⟩, ⟨e0, e1, e2⟩⟩ := two_below (s := s) (s' := s') ⟨⟨c0, c1, c2⟩, ⟨d0, d1, d2⟩⟩ hb2
  clear c0 c1 c2 d0 d1 d2 hb1 hb2
  go_wp2
  go_ret
  exact ⟨retI (by simp [less3, knownB, Hc.out]), H2.out⟩
 have Ha := Lib.hid ha
 have Hc := Lib.hid hc
 by_cases k0 : k = 0
 ·have K0 := Lib.hid k0
  have k0' : (k == 0) = true := by simpa using k0
  clear k0
  go_enter Tryz.func164, Tryz.ntmps164
  go_wp2_with fail
  refine (specValOk k n s _).mono ?_
  rintro e w1 ⟨rfl, hb1⟩
  obtain ⟨⟨c0, c1, c2⟩, ⟨d0, d1, d2⟩⟩ := two_below Q0.out hb1
  go_wp2_with fail
  refine (specValOk k' n' s' _).mono ?_
  rintro e w2 ⟨rfl, hb2⟩
  have H2 := Lib.hid ((HB0.out.trans (hb1.mono HB0.out.size)).trans (hb2.mono (HB0.out.trans (hb1.mono HB0.out.size)).size))
  obtain ⟨⟨g0, g1, g2⟩, ⟨e0, e1, e2⟩⟩ := two_below (s := s) (s' := s') ⟨⟨c0, c1, c2⟩, ⟨d0, d1, d2⟩⟩ hb2
  clear c0 c1 c2 d0 d1 d2 hb1 hb2
  go_wp2
  go_ret
  exact ⟨retI (by simp [less3, knownB, K0.out]), H2.out⟩
 have k0' : (k == 0) = false := by simpa using k0
 by_cases k1 : k' = 0
 ·have K1 := Lib.hid k1
  have k1' : (k' == 0) = true := by simpa using k1
  clear k1
  go_enter Tryz.func164, Tryz.ntmps164
  go_wp2_with fail
  refine (specValOk k n s _).mono ?_
  rintro e w1 ⟨rfl, hb1⟩
  obtain ⟨⟨c0, c1, c2⟩, ⟨d0, d1, d2⟩⟩ := two_below Q0.out hb1
  go_wp2_with fail
  refine (specValOk k' n' s' _).mono ?_
  rintro e w2 ⟨rfl, hb2⟩
  have H2 := Lib.hid ((HB0.out.trans (hb1.mono HB0.out.size)).trans (hb2.mono (HB0.out.trans (hb1.mono HB0.out.size)).size))
  obtain ⟨⟨g0, g1, g2⟩, ⟨e0, e1, e2⟩⟩ := two_below (s := s) (s' := s') ⟨⟨c0, c1, c2⟩, ⟨d0, d1, d2⟩⟩ hb2
  clear c0 c1 c2 d0 d1 d2 hb1 hb2
  go_wp2
  go_ret
  exact ⟨retI (by simp [less3, knownB, K1.out]), H2.out⟩
 ·have k1' : (k' == 0) = false := by simpa using k1
  go_enter Tryz.func164, Tryz.ntmps164
  go_wp2_with fail
  refine (specValOk k n s _).mono ?_
  rintro e w1 ⟨rfl, hb1⟩
  obtain ⟨⟨c0, c1, c2⟩, ⟨d0, d1, d2⟩⟩ := two_below Q0.out hb1
  go_wp2_with fail
  refine (specValOk k' n' s' _).mono ?_
  rintro e w2 ⟨rfl, hb2⟩
  have H2 := Lib.hid ((HB0.out.trans (hb1.mono HB0.out.size)).trans (hb2.mono (HB0.out.trans (hb1.mono HB0.out.size)).size))
  obtain ⟨⟨g0, g1, g2⟩, ⟨e0, e1, e2⟩⟩ := two_below (s := s) (s' := s') ⟨⟨c0, c1, c2⟩, ⟨d0, d1, d2⟩⟩ hb2
  clear c0 c1 c2 d0 d1 d2 hb1 hb2
  go_wp2_with fail
  refine (specL1Order k n s k' n' s' _).mono ?_
  rintro e w3 ⟨rfl, hb3⟩
  go_wp2_with fail
  refine (specYes _ _).mono ?_
  rintro e w4 ⟨rfl, rfl⟩
  go_wp2
  go_ret
  exact ⟨retI (by simp [less3, knownB, Ha.out, Hc.out, k0, k1]), H2.out.trans (hb3.mono H2.out.size)⟩
set_option maxHeartbeats 1000000 in
theorem specEqual3 (k n : Int) (s : ByteArray) (k' n' : Int) (s' : ByteArray) (w : World) :
  Calls Tryz.prog 163 #[.agg #[.int .i64 k, .int .i64 n, .string s], .agg #[.int .i64 k', .int .i64 n', .string s']] w fun e w' => e = .returned (.int .i64 (eq3 k n s k' n' s')) ∧ Below w.heap.size w w' := by
 have Q0 := Lib.hid (Cells3.two w k n s k' n' s' 53)
 have HB0 := Lib.hid (chain2 w (.cells #[.int .i64 k, .int .i64 n, .string s] 53) (.cells #[.int .i64 k', .int .i64 n', .string s'] 53))
 cases ha : valOkB k n s
 ·have Ha := Lib.hid ha
  go_enter Tryz.func163, Tryz.ntmps163
  go_wp2_with fail
  refine (specValOk k n s _).mono ?_
  rintro e w1 ⟨rfl, hb1⟩
  go_wp2
  go_ret
  exact ⟨retI (by simp [eq3, knownB, Ha.out]), (HB0.out.trans (hb1.mono HB0.out.size))⟩
 cases hc : valOkB k' n' s'
 ·have Hc := Lib.hid hc
  go_enter Tryz.func163, Tryz.ntmps163
  go_wp2_with fail
  refine (specValOk k n s _).mono ?_
  rintro e w1 ⟨rfl, hb1⟩
  obtain ⟨⟨c0, c1, c2⟩, ⟨d0, d1, d2⟩⟩ := two_below Q0.out hb1
  go_wp2_with fail
  refine (specValOk k' n' s' _).mono ?_
  rintro e w2 ⟨rfl, hb2⟩
  have H2 := Lib.hid ((HB0.out.trans (hb1.mono HB0.out.size)).trans (hb2.mono (HB0.out.trans (hb1.mono HB0.out.size)).size))
  obtain ⟨⟨g0, g1, g2⟩, ⟨e0, e1, e2⟩⟩ := two_below (s := s) (s' := s') ⟨⟨c0, c1, c2⟩, ⟨d0, d1, d2⟩⟩ hb2
  clear c0 c1 c2 d0 d1 d2 hb1 hb2
  go_wp2
  go_ret
  exact ⟨retI (by simp [eq3, knownB, Hc.out]), H2.out⟩
 have Ha := Lib.hid ha
 have Hc := Lib.hid hc
 by_cases k0 : k = 0
 ·have K0 := Lib.hid k0
  have k0' : (k == 0) = true := by simpa using k0
  clear k0
  go_enter Tryz.func163, Tryz.ntmps163
  go_wp2_with fail
  refine (specValOk k n s _).mono ?_
  rintro e w1 ⟨rfl, hb1⟩
  obtain ⟨⟨c0, c1, c2⟩, ⟨d0, d1, d2⟩⟩ := two_below Q0.out hb1
  go_wp2_with fail
  refine (specValOk k' n' s' _).mono ?_
  rintro e w2 ⟨rfl, hb2⟩
  have H2 := Lib.hid ((HB0.out.trans (hb1.mono HB0.out.size)).trans (hb2.mono (HB0.out.trans (hb1.mono HB0.out.size)).size))
  obtain ⟨⟨g0, g1, g2⟩, ⟨e0, e1, e2⟩⟩ := two_below (s := s) (s' := s') ⟨⟨c0, c1, c2⟩, ⟨d0, d1, d2⟩⟩ hb2
  clear c0 c1 c2 d0 d1 d2 hb1 hb2
  go_wp2
  go_ret
  exact ⟨retI (by simp [eq3, knownB, K0.out]), H2.out⟩
 have k0' : (k == 0) = false := by simpa using k0
 by_cases k1 : k' = 0
 ·have K1 := Lib.hid k1
  have k1' : (k' == 0) = true := by simpa using k1
  clear k1
  go_enter Tryz.func163, Tryz.ntmps163
  go_wp2_with fail
  refine (specValOk k n s _).mono ?_
  rintro e w1 ⟨rfl, hb1⟩
  obtain ⟨⟨c0, c1, c2⟩, ⟨d0, d1, d2⟩⟩ := two_below Q0.out hb1
  go_wp2_with fail
  refine (specValOk k' n' s' _).mono ?_
  rintro e w2 ⟨rfl, hb2⟩
  have H2 := Lib.hid ((HB0.out.trans (hb1.mono HB0.out.size)).trans (hb2.mono (HB0.out.trans (hb1.mono HB0.out.size)).size))
  obtain ⟨⟨g0, g1, g2⟩, ⟨e0, e1, e2⟩⟩ := two_below (s := s) (s' := s') ⟨⟨c0, c1, c2⟩, ⟨d0, d1, d2⟩⟩ hb2
  clear c0 c1 c2 d0 d1 d2 hb1 hb2
  go_wp2
  go_ret
  exact ⟨retI (by simp [eq3, knownB, K1.out]), H2.out⟩
 ·have k1' : (k' == 0) = false := by simpa using k1
  go_enter Tryz.func163, Tryz.ntmps163
  go_wp2_with fail
  refine (specValOk k n s _).mono ?_
  rintro e w1 ⟨rfl, hb1⟩
  obtain ⟨⟨c0, c1, c2⟩, ⟨d0, d1, d2⟩⟩ := two_below Q0.out hb1
  go_wp2_with fail
  refine (specValOk k' n' s' _).mono ?_
  rintro e w2 ⟨rfl, hb2⟩
  have H2 := Lib.hid ((HB0.out.trans (hb1.mono HB0.out.size)).trans (hb2.mono (HB0.out.trans (hb1.mono HB0.out.size)).size))
  obtain ⟨⟨g0, g1, g2⟩, ⟨e0, e1, e2⟩⟩ := two_below (s := s) (s' := s') ⟨⟨c0, c1, c2⟩, ⟨d0, d1, d2⟩⟩ hb2
  clear c0 c1 c2 d0 d1 d2 hb1 hb2
  have hq := fun w => eqlVal k n k' n' s s' w
  go_wp2_with fail
  refine (specYes _ _).mono ?_
  rintro e w4 ⟨rfl, rfl⟩
  go_wp2
  go_ret
  exact ⟨retI (by simp [eq3, knownB, sameV, Ha.out, Hc.out, k0, k1]), H2.out⟩
def not3 (a : Int) : Int := if a = 0 then 1 else if a = 1 then 0 else if a = 2 then 2 else -1
def tru (a : Int) : Bool := a == 0 || a == 1 || a == 2
def and3 (a b : Int) : Int := if !tru a || !tru b then -1 else if a = 0 ∨ b = 0 then 0 else if a = 1 ∧ b = 1 then 1 else 2
def or3 (a b : Int) : Int := if !tru a || !tru b then -1 else if a = 1 ∨ b = 1 then 1 else if a = 0 ∧ b = 0 then 0 else 2
theorem tri (a : Int) : a = 0 ∨ a = 1 ∨ a = 2 ∨ (a < 0 ∧ decide (0 ≤ a) = false ∧ (a == 0) = false ∧ (a == 1) = false ∧ (a == 2) = false) ∨ (2 < a ∧ decide (a ≤ 2) = false ∧ (a == 0) = false ∧ (a == 1) = false ∧ (a == 2) = false) := by
 simp only [beq_eq_false_iff_ne, ne_eq, decide_eq_false_iff_not]; omega
theorem implNot3 (a : Int) (w : World) :
  Calls Tryz.prog 147 #[.int .i64 a] w fun e w' => e = .returned (.int .i64 (not3 a)) ∧ w = w' := by
 rcases tri a with rfl | rfl | rfl | ⟨h, hd, h0, h1, h2⟩ | ⟨h, hd, h0, h1, h2⟩
 case' inr.inr.inr.inl => rw [show not3 a = -1 by unfold not3; rw [if_neg (by omega), if_neg (by omega), if_neg (by omega)]]
 case' inr.inr.inr.inr => rw [show not3 a = -1 by unfold not3; rw [if_neg (by omega), if_neg (by omega), if_neg (by omega)]]
 all_goals
  go_enter Tryz.func147, Tryz.ntmps147
  go_wp2
  go_ret
  exact ⟨rfl, rfl⟩
theorem specNot3 (a : Int) (w : World) :
  Calls Tryz.prog 151 #[.int .i64 a] w fun e w' => e = .returned (.int .i64 (not3 a)) ∧ w = w' := by
 rcases tri a with rfl | rfl | rfl | ⟨h, hd, h0, h1, h2⟩ | ⟨h, hd, h0, h1, h2⟩
 case' inr.inr.inr.inl => rw [show not3 a = -1 by unfold not3; rw [if_neg (by omega), if_neg (by omega), if_neg (by omega)]]
 case' inr.inr.inr.inr => rw [show not3 a = -1 by unfold not3; rw [if_neg (by omega), if_neg (by omega), if_neg (by omega)]]
 all_goals
  go_enter Tryz.func151, Tryz.ntmps151
  go_wp2
  go_ret
  exact ⟨rfl, rfl⟩
theorem tru_lo {a : Int} (h : a < 0) : tru a = false := by simp [tru]; omega
theorem tru_hi {a : Int} (h : 2 < a) : tru a = false := by simp [tru]; omega
theorem and3_a {a : Int} (h : tru a = false) (b : Int) : and3 a b = -1 := by simp [and3, h]
theorem and3_b {b : Int} (h : tru b = false) (a : Int) : and3 a b = -1 := by simp [and3, h]
theorem or3_a {a : Int} (h : tru a = false) (b : Int) : or3 a b = -1 := by simp [or3, h]
theorem or3_b {b : Int} (h : tru b = false) (a : Int) : or3 a b = -1 := by simp [or3, h]
theorem implAnd3 (a b : Int) (w : World) :
  Calls Tryz.prog 145 #[.int .i64 a, .int .i64 b] w fun e w' => e = .returned (.int .i64 (and3 a b)) ∧ w = w' := by
 rcases tri a with rfl | rfl | rfl | ⟨h, hd, h0, h1, h2⟩ | ⟨h, hd, h0, h1, h2⟩ <;> rcases tri b with rfl | rfl | rfl | ⟨k, kd, k0, k1, k2⟩ | ⟨k, kd, k0, k1, k2⟩
 all_goals
  first
  | rw [and3_a (tru_lo ‹_›)]
  | rw [and3_a (tru_hi ‹_›)]
  | rw [and3_b (tru_lo ‹_›)]
  | rw [and3_b (tru_hi ‹_›)]
  | skip
 all_goals
  go_enter Tryz.func145, Tryz.ntmps145
  go_wp2
  go_ret
  exact ⟨rfl, rfl⟩
theorem implOr3 (a b : Int) (w : World) :
  Calls Tryz.prog 146 #[.int .i64 a, .int .i64 b] w fun e w' => e = .returned (.int .i64 (or3 a b)) ∧ w = w' := by
 rcases tri a with rfl | rfl | rfl | ⟨h, hd, h0, h1, h2⟩ | ⟨h, hd, h0, h1, h2⟩ <;> rcases tri b with rfl | rfl | rfl | ⟨k, kd, k0, k1, k2⟩ | ⟨k, kd, k0, k1, k2⟩
 all_goals
  first
  | rw [or3_a (tru_lo ‹_›)]
  | rw [or3_a (tru_hi ‹_›)]
  | rw [or3_b (tru_lo ‹_›)]
  | rw [or3_b (tru_hi ‹_›)]
  | skip
 all_goals
  go_enter Tryz.func146, Tryz.ntmps146
  go_wp2
  go_ret
  exact ⟨rfl, rfl⟩
theorem specAnd3 (a b : Int) (w : World) :
  Calls Tryz.prog 166 #[.int .i64 a, .int .i64 b] w fun e w' => e = .returned (.int .i64 (and3 a b)) ∧ w = w' := by
 rcases tri a with rfl | rfl | rfl | ⟨h, hd, h0, h1, h2⟩ | ⟨h, hd, h0, h1, h2⟩ <;> rcases tri b with rfl | rfl | rfl | ⟨k, kd, k0, k1, k2⟩ | ⟨k, kd, k0, k1, k2⟩
 all_goals
  first
  | rw [and3_a (tru_lo ‹_›)]
  | rw [and3_a (tru_hi ‹_›)]
  | rw [and3_b (tru_lo ‹_›)]
  | rw [and3_b (tru_hi ‹_›)]
  | skip
 all_goals
  go_enter Tryz.func166, Tryz.ntmps166
  go_wp2
  go_ret
  exact ⟨rfl, rfl⟩
theorem specOr3 (a b : Int) (w : World) :
  Calls Tryz.prog 167 #[.int .i64 a, .int .i64 b] w fun e w' => e = .returned (.int .i64 (or3 a b)) ∧ w = w' := by
 rcases tri a with rfl | rfl | rfl | ⟨h, hd, h0, h1, h2⟩ | ⟨h, hd, h0, h1, h2⟩ <;> rcases tri b with rfl | rfl | rfl | ⟨k, kd, k0, k1, k2⟩ | ⟨k, kd, k0, k1, k2⟩
 all_goals
  first
  | rw [or3_a (tru_lo ‹_›)]
  | rw [or3_a (tru_hi ‹_›)]
  | rw [or3_b (tru_lo ‹_›)]
  | rw [or3_b (tru_hi ‹_›)]
  | skip
 all_goals
  go_enter Tryz.func167, Tryz.ntmps167
  go_wp2
  go_ret
  exact ⟨rfl, rfl⟩
def Vl.zero : Vl := ⟨0, 0, ⟨#[]⟩⟩
def Vl.ok (v : Vl) : Bool := valOkB v.k v.n v.s
def truOf (v : Vl) : Int := if v.k = 0 then 2 else if v.k = 1 then yes (v.n != 0) else -1
def asVl (a : Int) : Vl := if a = 2 then Vl.zero else ⟨1, a, ⟨#[]⟩⟩
def asOpt (a : Int) : Option Vl := if a = -1 then none else some (asVl a)
def sumVl (a b : Vl) (sg : Int) : Option Vl :=
 if a.k = 2 ∨ b.k = 2 then none else if a.k = 0 ∨ b.k = 0 then some Vl.zero
 else if -1000000000 ≤ a.n + sg * b.n ∧ a.n + sg * b.n ≤ 1000000000 then some ⟨1, a.n + sg * b.n, ⟨#[]⟩⟩ else none
def op1 (k : Int) (a : Vl) : Option Vl := if k = 7 then asOpt (not3 (truOf a)) else asOpt (yes (a.k == 0))
def op2 (k : Int) (a b : Vl) : Option Vl :=
 if k = 3 then asOpt (eq3 a.k a.n a.s b.k b.n b.s) else if k = 4 then asOpt (less3 a.k a.n a.s b.k b.n b.s)
 else if k = 5 then asOpt (and3 (truOf a) (truOf b)) else if k = 6 then asOpt (or3 (truOf a) (truOf b))
 else if k = 9 then sumVl a b 1 else sumVl a b (-1)
def opOf (k : Int) (xs : List Vl) : Option Vl :=
 match xs with
 | [a] => op1 k a
 | [a, b] => op2 k a b
 | _ => none
def tokVal (row : List Vl) (t : Tk) (xs : List Vl) : Option Vl :=
 if t.k = 1 then row[t.c.toNat]? else if t.k = 2 then some ⟨t.vk, t.vn, t.vs⟩ else opOf t.k xs
def evalStep (row : List Vl) (t : Tk) (st : List Vl) : Option (List Vl) :=
 (tokVal row t (st.drop (st.length - takes t.k))).map fun v => st.take (st.length - takes t.k) ++ [v]
def evalGo (row : List Vl) : List Tk → List Vl → Option (List Vl)
 | [], st => some st
 | t :: ts, st => (evalStep row t st).bind (evalGo row ts)
def rowB (row : List Vl) : Bool := decide (row.length ≤ 16) && row.all Vl.ok
def evalB (ts : List Tk) (row : List Vl) : Option Vl :=
 if (rowB row && exprB ts row.length) = true then ((evalGo row ts []).bind (·[0]?)) else none
theorem evalGo_append (row : List Vl) : ∀ (a b : List Tk) (st : List Vl), evalGo row (a ++ b) st = (evalGo row a st).bind (evalGo row b)
 | [], b, st => rfl
 | t :: ts, b, st => by
  simp only [List.cons_append, evalGo]
  cases evalStep row t st with
  | none => rfl
  | some st' => simp [evalGo_append row ts b st']
theorem evalGo_snoc (row : List Vl) (ts : List Tk) (i : Nat) (hi : i < ts.length) (st st' : List Vl) (h : evalGo row (ts.take i) st = some st') :
  evalGo row (ts.take (i + 1)) st = evalStep row ts[i] st' := by
 rw [List.take_succ_eq_append_getElem hi, evalGo_append, h]
 simp only [Option.bind_some, evalGo]
 cases evalStep row ts[i] st' <;> rfl
theorem evalGo_dead (row : List Vl) (ts : List Tk) (i : Nat) (st : List Vl) (h : evalGo row (ts.take i) st = none) : evalGo row ts st = none := by
 have e : ts = ts.take i ++ ts.drop i := (List.take_append_drop i ts).symm
 rw [e, evalGo_append, h]
 rfl
theorem truOf_cases {v : Vl} (h : v.ok = true) : (v.k = 0 ∧ truOf v = 2) ∨ (v.k = 1 ∧ (truOf v = 0 ∨ truOf v = 1)) ∨ (v.k = 2 ∧ truOf v = -1) := by
 have h1 : v.k = 0 ∨ v.k = 1 ∨ v.k = 2 := by
  unfold Vl.ok valOkB at h
  by_cases a : v.k = 0
  ·exact .inl a
  by_cases b : v.k = 1
  ·exact .inr (.inl b)
  by_cases c : v.k = 2
  ·exact .inr (.inr c)
  ·simp [a, b, c] at h
 rcases h1 with e | e | e
 ·left; simp [truOf, e]
 ·right; left; refine ⟨e, ?_⟩; unfold truOf yes; rw [e]; simp; exact Classical.em _
 ·right; right; simp [truOf, e]
theorem asVl_ok {a : Int} (h : a = 0 ∨ a = 1 ∨ a = 2) : (asVl a).ok = true := by
 rcases h with rfl | rfl | rfl <;> simp [asVl, Vl.zero, Vl.ok, valOkB]
theorem asOpt_ok {a : Int} (h : a = -1 ∨ a = 0 ∨ a = 1 ∨ a = 2) {v : Vl} (e : asOpt a = some v) : v.ok = true := by
 unfold asOpt at e
 rcases h with rfl | h
 ·simp at e
 ·rw [if_neg (by omega)] at e
  cases e
  exact asVl_ok h
theorem sumVl_ok {a b : Vl} {sg : Int} {v : Vl} (e : sumVl a b sg = some v) : v.ok = true := by
 unfold sumVl at e
 split at e
 ·cases e
 ·split at e
  ·cases e; simp [Vl.zero, Vl.ok, valOkB]
  ·split at e
   ·rename_i h
    cases e
    simp [Vl.ok, valOkB, h.1, h.2]
   ·cases e
theorem yes01 (b : Bool) : yes b = 0 ∨ yes b = 1 := by cases b <;> simp [yes]
theorem eq3_rng (k n : Int) (s : ByteArray) (k' n' : Int) (s' : ByteArray) : eq3 k n s k' n' s' = -1 ∨ eq3 k n s k' n' s' = 0 ∨ eq3 k n s k' n' s' = 1 ∨ eq3 k n s k' n' s' = 2 := by
 unfold eq3; split
 ·rcases yes01 (sameV k n s k' n' s') with h | h <;> simp [h]
 ·simp
theorem less3_rng (k n : Int) (s : ByteArray) (k' n' : Int) (s' : ByteArray) : less3 k n s k' n' s' = -1 ∨ less3 k n s k' n' s' = 0 ∨ less3 k n s k' n' s' = 1 ∨ less3 k n s k' n' s' = 2 := by
 unfold less3; split
 ·rcases yes01 (decide (ordV k n s k' n' s' < 0)) with h | h <;> simp [h]
 ·simp
theorem and3_rng (a b : Int) : and3 a b = -1 ∨ and3 a b = 0 ∨ and3 a b = 1 ∨ and3 a b = 2 := by unfold and3; (repeat' split) <;> simp
theorem or3_rng (a b : Int) : or3 a b = -1 ∨ or3 a b = 0 ∨ or3 a b = 1 ∨ or3 a b = 2 := by unfold or3; (repeat' split) <;> simp
theorem not3_rng (a : Int) : not3 a = -1 ∨ not3 a = 0 ∨ not3 a = 1 ∨ not3 a = 2 := by unfold not3; (repeat' split) <;> simp
theorem op1_ok {k : Int} {a v : Vl} (e : op1 k a = some v) : v.ok = true := by
 unfold op1 at e
 split at e
 ·exact asOpt_ok (not3_rng _) e
 ·exact asOpt_ok (by rcases yes01 (a.k == 0) with h | h <;> simp [h]) e
theorem op2_ok {k : Int} {a b v : Vl} (e : op2 k a b = some v) : v.ok = true := by
 unfold op2 at e
 split at e
 ·exact asOpt_ok (eq3_rng ..) e
 split at e
 ·exact asOpt_ok (less3_rng ..) e
 split at e
 ·exact asOpt_ok (and3_rng ..) e
 split at e
 ·exact asOpt_ok (or3_rng ..) e
 split at e
 ·exact sumVl_ok e
 ·exact sumVl_ok e
theorem opOf_ok {k : Int} {xs : List Vl} {v : Vl} (e : opOf k xs = some v) : v.ok = true := by
 unfold opOf at e
 split at e
 ·exact op1_ok e
 ·exact op2_ok e
 ·cases e
theorem right_at {cols : Int} {ts : List Tk} (h : exprGo cols ts 0 = some 1) {k l : Nat} (hk : k < ts.length) (hg : exprGo cols (ts.take k) 0 = some l) :
  tokB ts[k] cols = true ∧ takes ts[k].k ≤ l ∧ exprGo cols (ts.take (k + 1)) 0 = some (l - takes ts[k].k + 1) := by
 have hs := exprGo_snoc cols ts k hk 0 l hg
 by_cases hc : tokB ts[k] cols = true ∧ takes ts[k].k ≤ l
 ·rw [if_pos hc] at hs
  exact ⟨hc.1, hc.2, hs⟩
 ·rw [if_neg hc] at hs
  rw [exprGo_dead cols ts (k + 1) 0 hs] at h
  cases h
theorem exprB_go {ts : List Tk} {cols : Int} (h : exprB ts cols = true) : exprGo cols ts 0 = some 1 ∧ ts.length ≤ 24 := by
 simp [exprB] at h
 exact ⟨h.2.2.2, h.2.2.1⟩
theorem tokVal_ok {row : List Vl} {t : Tk} {xs : List Vl} {v : Vl} {cols : Int} (hrow : ∀ v ∈ row, v.ok = true) (ht : tokB t cols = true) (e : tokVal row t xs = some v) : v.ok = true := by
 unfold tokVal at e
 split at e
 ·exact hrow v (List.mem_of_getElem? e)
 ·split at e
  ·rename_i h1 h2
   cases e
   unfold tokB at ht
   rw [if_neg h1, if_pos h2] at ht
   simp at ht
   exact ht.2
  ·exact opOf_ok e
theorem evalStep_none {row : List Vl} {t : Tk} {st : List Vl} (h : tokVal row t (st.drop (st.length - takes t.k)) = none) : evalStep row t st = none := by simp [evalStep, h]
theorem evalStep_some {row : List Vl} {t : Tk} {st : List Vl} {v : Vl} (h : tokVal row t (st.drop (st.length - takes t.k)) = some v) : evalStep row t st = some (st.take (st.length - takes t.k) ++ [v]) := by simp [evalStep, h]
def OptPost (o : Option Vl) (w : World) (e : Ending) (w' : World) : Prop := ∃ x : Vl, e = .returned (.tuple #[.agg #[.int .i64 x.k, .int .i64 x.n, .string x.s], .bool o.isSome]) ∧ (∀ v, o = some v → x = v) ∧ Below w.heap.size w w'
def truN (v : Vl) : Int := if truOf v = -1 then 0 else truOf v
def truS (v : Vl) : Bool := decide (truOf v ≠ -1)
theorem specOf (v : Vl) (w : World) :
  Calls Tryz.prog 126 #[.agg #[.int .i64 v.k, .int .i64 v.n, .string v.s]] w fun e w' => e = .returned (.tuple #[.int .i64 (truN v), .bool (truS v)]) ∧ Below w.heap.size w w' := by
 have HB := Lib.hid ((Below.refl w.heap.size w).alloc (Nat.le_refl _) (.cells #[.int .i64 v.k, .int .i64 v.n, .string v.s] 53))
 unfold truN truS
 obtain ⟨k, n, s⟩ := v
 by_cases h0 : k = 0
 ·subst h0
  rw [show truOf ⟨0, n, s⟩ = 2 by simp [truOf]]
  go_enter Tryz.func126, Tryz.ntmps126
  go_wp2
  go_ret2
  exact ⟨rfl, HB.out⟩
 by_cases h1 : k = 1
 ·subst h1
  have e : truOf ⟨1, n, s⟩ = yes (n != 0) := by simp [truOf]
  have e2 : truOf ⟨1, n, s⟩ ≠ -1 := by rw [e]; rcases yes01 (n != 0) with h | h <;> rw [h] <;> omega
  rw [if_neg e2, decide_eq_true e2, e]
  clear e e2
  go_enter Tryz.func126, Tryz.ntmps126
  go_wp2_with fail
  refine (specYes _ _).mono ?_
  rintro e w1 ⟨rfl, rfl⟩
  go_wp2
  go_ret2
  exact ⟨rfl, HB.out⟩
 ·rw [show truOf ⟨k, n, s⟩ = -1 by simp [truOf, h0, h1]]
  have e0 : (k == 0) = false := by simpa using h0
  have e1 : (k == 1) = false := by simpa using h1
  go_enter Tryz.func126, Tryz.ntmps126
  go_wp2
  go_ret2
  exact ⟨rfl, HB.out⟩
theorem specAs (a : Int) (w : World) :
  Calls Tryz.prog 150 #[.int .i64 a] w fun e w' => e = .returned (.agg #[.int .i64 (asVl a).k, .int .i64 (asVl a).n, .string (asVl a).s]) ∧ Below w.heap.size w w' := by
 by_cases h : a = 2
 ·subst h
  rw [show asVl 2 = Vl.zero by simp [asVl]]
  go_enter Tryz.func150, Tryz.ntmps150
  go_wp2
  exact bodyPost_ret (v := .agg #[.int .i64 0, .int .i64 0, .string ⟨#[]⟩]) (by simp [results, Tryz.results150, go_sem]) rfl ⟨rfl, (Below.refl _ _).alloc (Nat.le_refl _) _⟩
 ·rw [show asVl a = ⟨1, a, ⟨#[]⟩⟩ by simp [asVl, h]]
  have e0 : (a == 2) = false := by simpa using h
  go_enter Tryz.func150, Tryz.ntmps150
  go_wp2_with fail
  refine (specInt _ _).mono ?_
  rintro e w1 ⟨rfl, o, rfl⟩
  go_wp2
  exact bodyPost_ret (v := .agg #[.int .i64 1, .int .i64 a, .string ⟨#[]⟩]) (by simp [results, Tryz.results150, go_sem]) rfl ⟨rfl, ((Below.refl _ _).alloc (Nat.le_refl _) _).alloc (by simp) _⟩
theorem Vl.kinds {v : Vl} (h : v.ok = true) : v.k = 0 ∨ v.k = 1 ∧ -1000000000 ≤ v.n ∧ v.n ≤ 1000000000 ∨ v.k = 2 := by
 unfold Vl.ok valOkB at h
 by_cases a : v.k = 0
 ·exact .inl a
 by_cases b : v.k = 1
 ·simp [b] at h
  exact .inr (.inl ⟨b, h.1.1, h.1.2⟩)
 by_cases c : v.k = 2
 ·exact .inr (.inr c)
 ·simp [a, b, c] at h
theorem sum_wraps {x y sg : Int} (hx : -1000000000 ≤ x ∧ x ≤ 1000000000) (hy : -1000000000 ≤ y ∧ y ≤ 1000000000) (hsg : sg = 1 ∨ sg = -1) : wrap64 (sg * y) = sg * y ∧ wrap64 (x + sg * y) = x + sg * y := by
 rcases hsg with rfl | rfl <;> unfold wrap64 <;> omega
set_option maxHeartbeats 1000000 in
theorem specSum (a b : Vl) (sg : Int) (w : World) (ha : a.ok = true) (hb : b.ok = true) (hsg : sg = 1 ∨ sg = -1) :
  Calls Tryz.prog 165 #[.agg #[.int .i64 a.k, .int .i64 a.n, .string a.s], .agg #[.int .i64 b.k, .int .i64 b.n, .string b.s], .int .i64 sg] w (OptPost (sumVl a b sg) w) := by
 have ka := Vl.kinds ha
 have kb := Vl.kinds hb
 clear ha hb
 obtain ⟨k, n, s⟩ := a
 obtain ⟨k', n', s'⟩ := b
 simp only at ka kb
 by_cases a2 : k = 2
 ·subst a2
  have HV := Lib.hid (show sumVl ⟨2, n, s⟩ ⟨k', n', s'⟩ sg = none by simp [sumVl])
  go_enter Tryz.func165, Tryz.ntmps165
  go_wp2
  exact bodyPost_ret (v := .tuple #[.agg #[.int .i64 0, .int .i64 0, .string ⟨#[]⟩], .bool false]) (by simp [results, Tryz.results165, go_sem]) rfl ⟨Vl.zero, by rw [HV.out]; rfl, by rw [HV.out]; simp, ((((Below.refl _ _).alloc (Nat.le_refl _) _).alloc (by simp) _).alloc (by simp; omega) _)⟩
 have a2' : (k == 2) = false := by simpa using a2
 by_cases b2 : k' = 2
 ·subst b2
  have HV := Lib.hid (show sumVl ⟨k, n, s⟩ ⟨2, n', s'⟩ sg = none by simp [sumVl])
  go_enter Tryz.func165, Tryz.ntmps165
  go_wp2
  exact bodyPost_ret (v := .tuple #[.agg #[.int .i64 0, .int .i64 0, .string ⟨#[]⟩], .bool false]) (by simp [results, Tryz.results165, go_sem]) rfl ⟨Vl.zero, by rw [HV.out]; rfl, by rw [HV.out]; simp, ((((Below.refl _ _).alloc (Nat.le_refl _) _).alloc (by simp) _).alloc (by simp; omega) _)⟩
 have b2' : (k' == 2) = false := by simpa using b2
 by_cases a0 : k = 0
 ·subst a0
  have HV := Lib.hid (show sumVl ⟨0, n, s⟩ ⟨k', n', s'⟩ sg = some Vl.zero by simp [sumVl, b2])
  go_enter Tryz.func165, Tryz.ntmps165
  go_wp2
  exact bodyPost_ret (v := .tuple #[.agg #[.int .i64 0, .int .i64 0, .string ⟨#[]⟩], .bool true]) (by simp [results, Tryz.results165, go_sem]) rfl ⟨Vl.zero, by rw [HV.out]; rfl, by rw [HV.out]; simp, ((((Below.refl _ _).alloc (Nat.le_refl _) _).alloc (by simp) _).alloc (by simp; omega) _)⟩
 have a0' : (k == 0) = false := by simpa using a0
 by_cases b0 : k' = 0
 ·subst b0
  have HV := Lib.hid (show sumVl ⟨k, n, s⟩ ⟨0, n', s'⟩ sg = some Vl.zero by simp [sumVl, a2])
  go_enter Tryz.func165, Tryz.ntmps165
  go_wp2
  exact bodyPost_ret (v := .tuple #[.agg #[.int .i64 0, .int .i64 0, .string ⟨#[]⟩], .bool true]) (by simp [results, Tryz.results165, go_sem]) rfl ⟨Vl.zero, by rw [HV.out]; rfl, by rw [HV.out]; simp, ((((Below.refl _ _).alloc (Nat.le_refl _) _).alloc (by simp) _).alloc (by simp; omega) _)⟩
 have b0' : (k' == 0) = false := by simpa using b0
 obtain ⟨s1, s2⟩ := sum_wraps (x := n) (y := n') (sg := sg) (by omega) (by omega) hsg
 have HV := Lib.hid (show sumVl ⟨k, n, s⟩ ⟨k', n', s'⟩ sg = if -1000000000 ≤ n + sg * n' ∧ n + sg * n' ≤ 1000000000 then some ⟨1, n + sg * n', ⟨#[]⟩⟩ else none by simp [sumVl, a2, b2, a0, b0])
 go_enter Tryz.func165, Tryz.ntmps165
 go_wp2_with fail
 generalize n + sg * n' = m at *
 refine (specInt _ _).mono ?_
 rintro e w1 ⟨rfl, o, rfl⟩
 clear s1 s2
 go_wp2_with fail
 have rv := Row.newAt ((((w.alloc (.cells #[.int .i64 k, .int .i64 n, .string s] 53)).alloc (.cells #[.int .i64 k', .int .i64 n', .string s'] 53)).alloc (.cells #[.int .i64 0, .int .i64 0, .string ⟨#[]⟩] 53)).alloc o) 53 #[.int .i64 1, .int .i64 m, .string ⟨#[]⟩] (w.heap.size + 1 + 1 + 1 + 1) (by simp only [size1])
 have rr := ((Row.newAt ((w.alloc (.cells #[.int .i64 k, .int .i64 n, .string s] 53)).alloc (.cells #[.int .i64 k', .int .i64 n', .string s'] 53)) 53 #[.int .i64 0, .int .i64 0, .string ⟨#[]⟩] (w.heap.size + 1 + 1) (by simp only [size1])).alloc o).alloc (.cells #[.int .i64 1, .int .i64 m, .string ⟨#[]⟩] 53)
 have hb0 := ((((((Below.refl w.heap.size w).alloc (Nat.le_refl _) (.cells #[.int .i64 k, .int .i64 n, .string s] 53)).alloc (by simp only [size1]; omega) (.cells #[.int .i64 k', .int .i64 n', .string s'] 53)).alloc (by simp only [size1]; omega) (.cells #[.int .i64 0, .int .i64 0, .string ⟨#[]⟩] 53)).alloc (by simp only [size1]; omega) o).alloc (by simp only [size1]; omega) (.cells #[.int .i64 1, .int .i64 m, .string ⟨#[]⟩] 53))
 generalize ((((w.alloc (.cells #[.int .i64 k, .int .i64 n, .string s] 53)).alloc (.cells #[.int .i64 k', .int .i64 n', .string s'] 53)).alloc (.cells #[.int .i64 0, .int .i64 0, .string ⟨#[]⟩] 53)).alloc o).alloc (.cells #[.int .i64 1, .int .i64 m, .string ⟨#[]⟩] 53) = x at *
 obtain ⟨⟨c0, c1, c2⟩, -⟩ := rv.three
 have RR := Lib.hid rr
 clear rv rr
 go_region_held3 (fun w' => w'.cell? ⟨w.heap.size + 1 + 1 + 1 + 1, 0, none⟩ = some (.int .i64 1) ∧ w'.cell? ⟨w.heap.size + 1 + 1 + 1 + 1, 1, none⟩ = some (.int .i64 m) ∧ w'.cell? ⟨w.heap.size + 1 + 1 + 1 + 1, 2, none⟩ = some (.string ⟨#[]⟩))
  (first | go_keep | exact keep3 (by assumption) hbA)
  (first | (go_at_call 96; refine (specValOk 1 m ⟨#[]⟩ _).mono ?_; rintro e yA ⟨rfl, hbA⟩; obtain ⟨⟨z0, z1, z2⟩, ⟨z3, z4, z5⟩⟩ := (RR.out.drew.below hbA).three))
 go_wp2
 have hv : valOkB 1 m ⟨#[]⟩ = (sumVl ⟨k, n, s⟩ ⟨k', n', s'⟩ sg).isSome := by
  rw [HV.out]
  by_cases hm : -1000000000 ≤ m ∧ m ≤ 1000000000
  ·rw [if_pos hm]; simp [valOkB, hm.1, hm.2]
  ·rw [if_neg hm]; simp [valOkB]; omega
 have hz := hb0.drew.trans (hbA.mono hb0.size)
 refine bodyPost_ret (v := .tuple #[.agg #[.int .i64 1, .int .i64 m, .string ⟨#[]⟩], .bool (valOkB 1 m ⟨#[]⟩)]) (by simp [results, Tryz.results165, go_sem, z0, z1, z2]) rfl ⟨⟨1, m, ⟨#[]⟩⟩, by rw [hv], ?_, ?_⟩
 ·intro v hv'
  rw [HV.out] at hv'
  split at hv'
  ·cases hv'; rfl
  ·cases hv'
 ·repeat (first | with_reducible exact hz | with_reducible refine Below.drew ?_ | with_reducible refine Below.setCell ?_ (by simp; omega) _ | with_reducible refine Below.setCell ?_ (by simp) _)
theorem boxes3 (w : World) (a b : Vl) (T : TypeId) :
  Row (((w.alloc (.cells #[.int .i64 a.k, .int .i64 a.n, .string a.s] T)).alloc (.cells #[.int .i64 b.k, .int .i64 b.n, .string b.s] T)).alloc (.cells #[.int .i64 0, .int .i64 0, .string ⟨#[]⟩] T)) w.heap.size T #[.int .i64 a.k, .int .i64 a.n, .string a.s] ∧
  Row (((w.alloc (.cells #[.int .i64 a.k, .int .i64 a.n, .string a.s] T)).alloc (.cells #[.int .i64 b.k, .int .i64 b.n, .string b.s] T)).alloc (.cells #[.int .i64 0, .int .i64 0, .string ⟨#[]⟩] T)) (w.heap.size + 1) T #[.int .i64 b.k, .int .i64 b.n, .string b.s] ∧
  Row (((w.alloc (.cells #[.int .i64 a.k, .int .i64 a.n, .string a.s] T)).alloc (.cells #[.int .i64 b.k, .int .i64 b.n, .string b.s] T)).alloc (.cells #[.int .i64 0, .int .i64 0, .string ⟨#[]⟩] T)) (w.heap.size + 1 + 1) T #[.int .i64 0, .int .i64 0, .string ⟨#[]⟩] ∧
  Below w.heap.size w (((w.alloc (.cells #[.int .i64 a.k, .int .i64 a.n, .string a.s] T)).alloc (.cells #[.int .i64 b.k, .int .i64 b.n, .string b.s] T)).alloc (.cells #[.int .i64 0, .int .i64 0, .string ⟨#[]⟩] T)) :=
 ⟨((Row.new w T _).alloc _).alloc _, (Row.newAt _ T _ _ (by simp only [size1])).alloc _, Row.newAt _ T _ _ (by simp only [size1]), (((Below.refl w.heap.size w).alloc (Nat.le_refl _) _).alloc (by simp only [size1]; omega) _).alloc (by simp only [size1]; omega) _⟩
theorem yes_ne (b : Bool) : ¬ yes b = -1 := by rcases yes01 b with h | h <;> omega
theorem eq3_ne (k n : Int) (s : ByteArray) (k' n' : Int) (s' : ByteArray) : ¬ eq3 k n s k' n' s' = -1 := by
 unfold eq3; split
 ·exact yes_ne _
 ·omega
theorem less3_ne (k n : Int) (s : ByteArray) (k' n' : Int) (s' : ByteArray) : ¬ less3 k n s k' n' s' = -1 := by
 unfold less3; split
 ·exact yes_ne _
 ·omega
theorem asOpt_some {a : Int} (h : ¬ a = -1) : asOpt a = some (asVl a) := by simp [asOpt, h]
set_option maxHeartbeats 1000000 in
theorem specTwo3 (a b : Vl) (w : World) :
  Calls Tryz.prog 152 #[.int .i64 3, .agg #[.int .i64 a.k, .int .i64 a.n, .string a.s], .agg #[.int .i64 b.k, .int .i64 b.n, .string b.s]] w (OptPost (op2 3 a b) w) := by
 obtain ⟨ra, rb, rr, hb0⟩ := boxes3 w a b 53
 have HV := Lib.hid (show op2 3 a b = some (asVl (eq3 a.k a.n a.s b.k b.n b.s)) by
  have h : ¬ eq3 a.k a.n a.s b.k b.n b.s = -1 := eq3_ne _ _ _ _ _ _
  simp [op2, asOpt_some h])
 go_enter Tryz.func152, Tryz.ntmps152
 go_wp2_with fail
 generalize ((w.alloc (.cells #[.int .i64 a.k, .int .i64 a.n, .string a.s] 53)).alloc (.cells #[.int .i64 b.k, .int .i64 b.n, .string b.s] 53)).alloc (.cells #[.int .i64 0, .int .i64 0, .string ⟨#[]⟩] 53) = x at *
 refine (specEqual3 a.k a.n a.s b.k b.n b.s _).mono ?_
 rintro e w1 ⟨rfl, hb1⟩
 have hz1 := hb0.trans (hb1.mono hb0.size)
 have rr1 := rr.below hb1
 generalize eq3 a.k a.n a.s b.k b.n b.s = q at *
 go_wp2_with fail
 refine (specAs _ _).mono ?_
 rintro e w2 ⟨rfl, hb2⟩
 have hz := hz1.trans (hb2.mono hz1.size)
 obtain ⟨⟨z0, z1, z2⟩, ⟨z3, z4, z5⟩⟩ := (rr1.below hb2).three
 clear rr1 rr ra rb
 go_wp2_with fail
 refine bodyPost_ret (v := .tuple #[.agg #[.int .i64 (asVl q).k, .int .i64 (asVl q).n, .string (asVl q).s], .bool true]) (by simp [results, Tryz.results152, go_sem, z0, z1, z2]) rfl ⟨asVl q, by rw [HV.out]; rfl, by rw [HV.out]; simp, ?_⟩
 repeat (first | with_reducible exact hz | with_reducible refine Below.drew ?_ | with_reducible refine Below.setCell ?_ (by simp; omega) _ | with_reducible refine Below.setCell ?_ (by simp) _)
set_option maxHeartbeats 1000000 in
theorem specTwo4 (a b : Vl) (w : World) :
  Calls Tryz.prog 152 #[.int .i64 4, .agg #[.int .i64 a.k, .int .i64 a.n, .string a.s], .agg #[.int .i64 b.k, .int .i64 b.n, .string b.s]] w (OptPost (op2 4 a b) w) := by
 obtain ⟨ra, rb, rr, hb0⟩ := boxes3 w a b 53
 have HV := Lib.hid (show op2 4 a b = some (asVl (less3 a.k a.n a.s b.k b.n b.s)) by
  have h : ¬ less3 a.k a.n a.s b.k b.n b.s = -1 := less3_ne _ _ _ _ _ _
  simp [op2, asOpt_some h])
 go_enter Tryz.func152, Tryz.ntmps152
 go_wp2_with fail
 generalize ((w.alloc (.cells #[.int .i64 a.k, .int .i64 a.n, .string a.s] 53)).alloc (.cells #[.int .i64 b.k, .int .i64 b.n, .string b.s] 53)).alloc (.cells #[.int .i64 0, .int .i64 0, .string ⟨#[]⟩] 53) = x at *
 refine (specLess3 a.k a.n a.s b.k b.n b.s _).mono ?_
 rintro e w1 ⟨rfl, hb1⟩
 have hz1 := hb0.trans (hb1.mono hb0.size)
 have rr1 := rr.below hb1
 generalize less3 a.k a.n a.s b.k b.n b.s = q at *
 go_wp2_with fail
 refine (specAs _ _).mono ?_
 rintro e w2 ⟨rfl, hb2⟩
 have hz := hz1.trans (hb2.mono hz1.size)
 obtain ⟨⟨z0, z1, z2⟩, ⟨z3, z4, z5⟩⟩ := (rr1.below hb2).three
 clear rr1 rr ra rb
 go_wp2_with fail
 refine bodyPost_ret (v := .tuple #[.agg #[.int .i64 (asVl q).k, .int .i64 (asVl q).n, .string (asVl q).s], .bool true]) (by simp [results, Tryz.results152, go_sem, z0, z1, z2]) rfl ⟨asVl q, by rw [HV.out]; rfl, by rw [HV.out]; simp, ?_⟩
 repeat (first | with_reducible exact hz | with_reducible refine Below.drew ?_ | with_reducible refine Below.setCell ?_ (by simp; omega) _ | with_reducible refine Below.setCell ?_ (by simp) _)
set_option maxHeartbeats 1000000 in
theorem specTwo9 (a b : Vl) (w : World) (ha : a.ok = true) (hb : b.ok = true) :
  Calls Tryz.prog 152 #[.int .i64 9, .agg #[.int .i64 a.k, .int .i64 a.n, .string a.s], .agg #[.int .i64 b.k, .int .i64 b.n, .string b.s]] w (OptPost (op2 9 a b) w) := by
 obtain ⟨ra, rb, rr, hb0⟩ := boxes3 w a b 53
 have HV := Lib.hid (show op2 9 a b = sumVl a b 1 by simp [op2])
 go_enter Tryz.func152, Tryz.ntmps152
 go_wp2_with fail
 generalize ((w.alloc (.cells #[.int .i64 a.k, .int .i64 a.n, .string a.s] 53)).alloc (.cells #[.int .i64 b.k, .int .i64 b.n, .string b.s] 53)).alloc (.cells #[.int .i64 0, .int .i64 0, .string ⟨#[]⟩] 53) = x at *
 refine (specSum a b 1 _ ha hb (by omega)).mono ?_
 rintro e w1 ⟨v, rfl, hv, hb1⟩
 have hz := hb0.trans (hb1.mono hb0.size)
 obtain ⟨⟨z0, z1, z2⟩, ⟨z3, z4, z5⟩⟩ := (rr.below hb1).three
 clear rr ra rb
 have HW := Lib.hid hv
 clear hv
 go_wp2_with fail
 refine bodyPost_ret (v := .tuple #[.agg #[.int .i64 v.k, .int .i64 v.n, .string v.s], .bool (sumVl a b 1).isSome]) (by simp [results, Tryz.results152, go_sem, z0, z1, z2]) rfl ⟨v, by rw [HV.out], by rw [HV.out]; exact HW.out, ?_⟩
 repeat (first | with_reducible exact hz | with_reducible refine Below.drew ?_ | with_reducible refine Below.setCell ?_ (by simp; omega) _ | with_reducible refine Below.setCell ?_ (by simp) _)
set_option maxHeartbeats 1000000 in
theorem specTwo10 (a b : Vl) (w : World) (ha : a.ok = true) (hb : b.ok = true) :
  Calls Tryz.prog 152 #[.int .i64 10, .agg #[.int .i64 a.k, .int .i64 a.n, .string a.s], .agg #[.int .i64 b.k, .int .i64 b.n, .string b.s]] w (OptPost (op2 10 a b) w) := by
 obtain ⟨ra, rb, rr, hb0⟩ := boxes3 w a b 53
 have HV := Lib.hid (show op2 10 a b = sumVl a b (-1) by simp [op2])
 go_enter Tryz.func152, Tryz.ntmps152
 go_wp2_with fail
 generalize ((w.alloc (.cells #[.int .i64 a.k, .int .i64 a.n, .string a.s] 53)).alloc (.cells #[.int .i64 b.k, .int .i64 b.n, .string b.s] 53)).alloc (.cells #[.int .i64 0, .int .i64 0, .string ⟨#[]⟩] 53) = x at *
 refine (specSum a b (-1) _ ha hb (by omega)).mono ?_
 rintro e w1 ⟨v, rfl, hv, hb1⟩
 have hz := hb0.trans (hb1.mono hb0.size)
 obtain ⟨⟨z0, z1, z2⟩, ⟨z3, z4, z5⟩⟩ := (rr.below hb1).three
 clear rr ra rb
 have HW := Lib.hid hv
 clear hv
 go_wp2_with fail
 refine bodyPost_ret (v := .tuple #[.agg #[.int .i64 v.k, .int .i64 v.n, .string v.s], .bool (sumVl a b (-1)).isSome]) (by simp [results, Tryz.results152, go_sem, z0, z1, z2]) rfl ⟨v, by rw [HV.out], by rw [HV.out]; exact HW.out, ?_⟩
 repeat (first | with_reducible exact hz | with_reducible refine Below.drew ?_ | with_reducible refine Below.setCell ?_ (by simp; omega) _ | with_reducible refine Below.setCell ?_ (by simp) _)
theorem truOf_rng (v : Vl) : truOf v = -1 ∨ tru (truOf v) = true := by
 unfold truOf
 split
 ·right; rfl
 ·split
  ·right; rcases yes01 (v.n != 0) with h | h <;> rw [h] <;> rfl
  ·left; rfl
theorem and3_ne {a b : Vl} (ha : ¬ truOf a = -1) (hb : ¬ truOf b = -1) : ¬ and3 (truOf a) (truOf b) = -1 := by
 have h1 := (truOf_rng a).resolve_left ha
 have h2 := (truOf_rng b).resolve_left hb
 unfold and3
 simp only [h1, h2, Bool.not_true, Bool.or_self, Bool.false_eq_true, if_false]
 split
 ·omega
 ·split <;> omega
theorem or3_ne {a b : Vl} (ha : ¬ truOf a = -1) (hb : ¬ truOf b = -1) : ¬ or3 (truOf a) (truOf b) = -1 := by
 have h1 := (truOf_rng a).resolve_left ha
 have h2 := (truOf_rng b).resolve_left hb
 unfold or3
 simp only [h1, h2, Bool.not_true, Bool.or_self, Bool.false_eq_true, if_false]
 split
 ·omega
 ·split <;> omega
set_option maxHeartbeats 1000000 in
theorem specTwo5 (a b : Vl) (w : World) :
  Calls Tryz.prog 152 #[.int .i64 5, .agg #[.int .i64 a.k, .int .i64 a.n, .string a.s], .agg #[.int .i64 b.k, .int .i64 b.n, .string b.s]] w (OptPost (op2 5 a b) w) := by
 obtain ⟨ra, rb, rr, hb0⟩ := boxes3 w a b 53
 have HV := Lib.hid (show op2 5 a b = asOpt (and3 (truOf a) (truOf b)) by simp [op2])
 cases ha : truS a
 ·have HA := Lib.hid ha
  have ha' : truOf a = -1 := by simpa [truS] using ha
  have HN := Lib.hid (show op2 5 a b = none by rw [HV.out, ha', and3_a (by decide)]; rfl)
  clear ha ha'
  go_enter Tryz.func152, Tryz.ntmps152
  go_wp2_with fail
  generalize ((w.alloc (.cells #[.int .i64 a.k, .int .i64 a.n, .string a.s] 53)).alloc (.cells #[.int .i64 b.k, .int .i64 b.n, .string b.s] 53)).alloc (.cells #[.int .i64 0, .int .i64 0, .string ⟨#[]⟩] 53) = x at *
  refine (specOf a _).mono ?_
  rintro e w1 ⟨rfl, hb1⟩
  rw [HA.out]
  have hz1 := hb0.trans (hb1.mono hb0.size)
  have rb1 := rb.below hb1
  have rr1 := rr.below hb1
  obtain ⟨⟨c0, c1, c2⟩, -⟩ := rb1.three
  clear ra rb rr
  have RR := Lib.hid rr1
  clear rr1 rb1
  go_wp2_with fail
  refine (specOf b _).mono ?_
  rintro e w2 ⟨rfl, hb2⟩
  skip
  have hz2 := hz1.trans (hb2.mono hz1.size)
  have rr2 := RR.out.below hb2
  obtain ⟨⟨z0, z1, z2⟩, ⟨z3, z4, z5⟩⟩ := rr2.three
  have RR2 := Lib.hid rr2
  clear rr2 RR c0 c1 c2
  go_wp2_with fail
  refine bodyPost_ret (v := .tuple #[.agg #[.int .i64 0, .int .i64 0, .string ⟨#[]⟩], .bool false]) (by simp [results, Tryz.results152, go_sem, z0, z1, z2]) rfl ⟨Vl.zero, by rw [HN.out]; rfl, by rw [HN.out]; simp, ?_⟩
  have hz := hz2
  repeat (first | with_reducible exact hz | with_reducible refine Below.drew ?_ | with_reducible refine Below.setCell ?_ (by simp; omega) _ | with_reducible refine Below.setCell ?_ (by simp) _)
 have ha' : ¬ truOf a = -1 := by simpa [truS] using ha
 have HA := Lib.hid ha
 clear ha
 cases hb : truS b
 ·have HB := Lib.hid hb
  have hb' : truOf b = -1 := by simpa [truS] using hb
  have HN := Lib.hid (show op2 5 a b = none by rw [HV.out, hb', and3_b (by decide)]; rfl)
  clear hb hb' ha'
  go_enter Tryz.func152, Tryz.ntmps152
  go_wp2_with fail
  generalize ((w.alloc (.cells #[.int .i64 a.k, .int .i64 a.n, .string a.s] 53)).alloc (.cells #[.int .i64 b.k, .int .i64 b.n, .string b.s] 53)).alloc (.cells #[.int .i64 0, .int .i64 0, .string ⟨#[]⟩] 53) = x at *
  refine (specOf a _).mono ?_
  rintro e w1 ⟨rfl, hb1⟩
  rw [HA.out]
  have hz1 := hb0.trans (hb1.mono hb0.size)
  have rb1 := rb.below hb1
  have rr1 := rr.below hb1
  obtain ⟨⟨c0, c1, c2⟩, -⟩ := rb1.three
  clear ra rb rr
  have RR := Lib.hid rr1
  clear rr1 rb1
  go_wp2_with fail
  refine (specOf b _).mono ?_
  rintro e w2 ⟨rfl, hb2⟩
  rw [HB.out]
  have hz2 := hz1.trans (hb2.mono hz1.size)
  have rr2 := RR.out.below hb2
  obtain ⟨⟨z0, z1, z2⟩, ⟨z3, z4, z5⟩⟩ := rr2.three
  have RR2 := Lib.hid rr2
  clear rr2 RR c0 c1 c2
  go_wp2_with fail
  refine bodyPost_ret (v := .tuple #[.agg #[.int .i64 0, .int .i64 0, .string ⟨#[]⟩], .bool false]) (by simp [results, Tryz.results152, go_sem, z0, z1, z2]) rfl ⟨Vl.zero, by rw [HN.out]; rfl, by rw [HN.out]; simp, ?_⟩
  have hz := hz2
  repeat (first | with_reducible exact hz | with_reducible refine Below.drew ?_ | with_reducible refine Below.setCell ?_ (by simp; omega) _ | with_reducible refine Below.setCell ?_ (by simp) _)
 ·have hb' : ¬ truOf b = -1 := by simpa [truS] using hb
  have HB := Lib.hid hb
  have HN := Lib.hid (show op2 5 a b = some (asVl (and3 (truN a) (truN b))) by rw [HV.out, asOpt_some (and3_ne ha' hb')]; simp [truN, ha', hb'])
  clear hb ha' hb'
  go_enter Tryz.func152, Tryz.ntmps152
  go_wp2_with fail
  generalize ((w.alloc (.cells #[.int .i64 a.k, .int .i64 a.n, .string a.s] 53)).alloc (.cells #[.int .i64 b.k, .int .i64 b.n, .string b.s] 53)).alloc (.cells #[.int .i64 0, .int .i64 0, .string ⟨#[]⟩] 53) = x at *
  refine (specOf a _).mono ?_
  rintro e w1 ⟨rfl, hb1⟩
  rw [HA.out]
  have hz1 := hb0.trans (hb1.mono hb0.size)
  have rb1 := rb.below hb1
  have rr1 := rr.below hb1
  obtain ⟨⟨c0, c1, c2⟩, -⟩ := rb1.three
  clear ra rb rr
  have RR := Lib.hid rr1
  clear rr1 rb1
  go_wp2_with fail
  refine (specOf b _).mono ?_
  rintro e w2 ⟨rfl, hb2⟩
  rw [HB.out]
  have hz2 := hz1.trans (hb2.mono hz1.size)
  have rr2 := RR.out.below hb2
  obtain ⟨⟨z0, z1, z2⟩, ⟨z3, z4, z5⟩⟩ := rr2.three
  have RR2 := Lib.hid rr2
  clear rr2 RR c0 c1 c2
  clear z0 z1 z2 z3 z4 z5
  generalize truN a = p at *
  generalize truN b = q at *
  go_wp2_with fail
  refine (specAnd3 _ _ _).mono ?_
  rintro e w3 ⟨rfl, rfl⟩
  generalize and3 p q = u at *
  go_wp2_with fail
  refine (specAs _ _).mono ?_
  rintro e w3 ⟨rfl, hb3⟩
  have hz := hz2.trans (hb3.mono hz2.size)
  obtain ⟨⟨z0, z1, z2⟩, ⟨z3, z4, z5⟩⟩ := (RR2.out.below hb3).three
  go_wp2_with fail
  refine bodyPost_ret (v := .tuple #[.agg #[.int .i64 (asVl u).k, .int .i64 (asVl u).n, .string (asVl u).s], .bool true]) (by simp [results, Tryz.results152, go_sem, z0, z1, z2]) rfl ⟨asVl u, by rw [HN.out]; rfl, by rw [HN.out]; simp, ?_⟩
  repeat (first | with_reducible exact hz | with_reducible refine Below.drew ?_ | with_reducible refine Below.setCell ?_ (by simp; omega) _ | with_reducible refine Below.setCell ?_ (by simp) _)
set_option maxHeartbeats 1000000 in
theorem specTwo6 (a b : Vl) (w : World) :
  Calls Tryz.prog 152 #[.int .i64 6, .agg #[.int .i64 a.k, .int .i64 a.n, .string a.s], .agg #[.int .i64 b.k, .int .i64 b.n, .string b.s]] w (OptPost (op2 6 a b) w) := by
 obtain ⟨ra, rb, rr, hb0⟩ := boxes3 w a b 53
 have HV := Lib.hid (show op2 6 a b = asOpt (or3 (truOf a) (truOf b)) by simp [op2])
 cases ha : truS a
 ·have HA := Lib.hid ha
  have ha' : truOf a = -1 := by simpa [truS] using ha
  have HN := Lib.hid (show op2 6 a b = none by rw [HV.out, ha', or3_a (by decide)]; rfl)
  clear ha ha'
  go_enter Tryz.func152, Tryz.ntmps152
  go_wp2_with fail
  generalize ((w.alloc (.cells #[.int .i64 a.k, .int .i64 a.n, .string a.s] 53)).alloc (.cells #[.int .i64 b.k, .int .i64 b.n, .string b.s] 53)).alloc (.cells #[.int .i64 0, .int .i64 0, .string ⟨#[]⟩] 53) = x at *
  refine (specOf a _).mono ?_
  rintro e w1 ⟨rfl, hb1⟩
  rw [HA.out]
  have hz1 := hb0.trans (hb1.mono hb0.size)
  have rb1 := rb.below hb1
  have rr1 := rr.below hb1
  obtain ⟨⟨c0, c1, c2⟩, -⟩ := rb1.three
  clear ra rb rr
  have RR := Lib.hid rr1
  clear rr1 rb1
  go_wp2_with fail
  refine (specOf b _).mono ?_
  rintro e w2 ⟨rfl, hb2⟩
  skip
  have hz2 := hz1.trans (hb2.mono hz1.size)
  have rr2 := RR.out.below hb2
  obtain ⟨⟨z0, z1, z2⟩, ⟨z3, z4, z5⟩⟩ := rr2.three
  have RR2 := Lib.hid rr2
  clear rr2 RR c0 c1 c2
  go_wp2_with fail
  refine bodyPost_ret (v := .tuple #[.agg #[.int .i64 0, .int .i64 0, .string ⟨#[]⟩], .bool false]) (by simp [results, Tryz.results152, go_sem, z0, z1, z2]) rfl ⟨Vl.zero, by rw [HN.out]; rfl, by rw [HN.out]; simp, ?_⟩
  have hz := hz2
  repeat (first | with_reducible exact hz | with_reducible refine Below.drew ?_ | with_reducible refine Below.setCell ?_ (by simp; omega) _ | with_reducible refine Below.setCell ?_ (by simp) _)
 have ha' : ¬ truOf a = -1 := by simpa [truS] using ha
 have HA := Lib.hid ha
 clear ha
 cases hb : truS b
 ·have HB := Lib.hid hb
  have hb' : truOf b = -1 := by simpa [truS] using hb
  have HN := Lib.hid (show op2 6 a b = none by rw [HV.out, hb', or3_b (by decide)]; rfl)
  clear hb hb' ha'
  go_enter Tryz.func152, Tryz.ntmps152
  go_wp2_with fail
  generalize ((w.alloc (.cells #[.int .i64 a.k, .int .i64 a.n, .string a.s] 53)).alloc (.cells #[.int .i64 b.k, .int .i64 b.n, .string b.s] 53)).alloc (.cells #[.int .i64 0, .int .i64 0, .string ⟨#[]⟩] 53) = x at *
  refine (specOf a _).mono ?_
  rintro e w1 ⟨rfl, hb1⟩
  rw [HA.out]
  have hz1 := hb0.trans (hb1.mono hb0.size)
  have rb1 := rb.below hb1
  have rr1 := rr.below hb1
  obtain ⟨⟨c0, c1, c2⟩, -⟩ := rb1.three
  clear ra rb rr
  have RR := Lib.hid rr1
  clear rr1 rb1
  go_wp2_with fail
  refine (specOf b _).mono ?_
  rintro e w2 ⟨rfl, hb2⟩
  rw [HB.out]
  have hz2 := hz1.trans (hb2.mono hz1.size)
  have rr2 := RR.out.below hb2
  obtain ⟨⟨z0, z1, z2⟩, ⟨z3, z4, z5⟩⟩ := rr2.three
  have RR2 := Lib.hid rr2
  clear rr2 RR c0 c1 c2
  go_wp2_with fail
  refine bodyPost_ret (v := .tuple #[.agg #[.int .i64 0, .int .i64 0, .string ⟨#[]⟩], .bool false]) (by simp [results, Tryz.results152, go_sem, z0, z1, z2]) rfl ⟨Vl.zero, by rw [HN.out]; rfl, by rw [HN.out]; simp, ?_⟩
  have hz := hz2
  repeat (first | with_reducible exact hz | with_reducible refine Below.drew ?_ | with_reducible refine Below.setCell ?_ (by simp; omega) _ | with_reducible refine Below.setCell ?_ (by simp) _)
 ·have hb' : ¬ truOf b = -1 := by simpa [truS] using hb
  have HB := Lib.hid hb
  have HN := Lib.hid (show op2 6 a b = some (asVl (or3 (truN a) (truN b))) by rw [HV.out, asOpt_some (or3_ne ha' hb')]; simp [truN, ha', hb'])
  clear hb ha' hb'
  go_enter Tryz.func152, Tryz.ntmps152
  go_wp2_with fail
  generalize ((w.alloc (.cells #[.int .i64 a.k, .int .i64 a.n, .string a.s] 53)).alloc (.cells #[.int .i64 b.k, .int .i64 b.n, .string b.s] 53)).alloc (.cells #[.int .i64 0, .int .i64 0, .string ⟨#[]⟩] 53) = x at *
  refine (specOf a _).mono ?_
  rintro e w1 ⟨rfl, hb1⟩
  rw [HA.out]
  have hz1 := hb0.trans (hb1.mono hb0.size)
  have rb1 := rb.below hb1
  have rr1 := rr.below hb1
  obtain ⟨⟨c0, c1, c2⟩, -⟩ := rb1.three
  clear ra rb rr
  have RR := Lib.hid rr1
  clear rr1 rb1
  go_wp2_with fail
  refine (specOf b _).mono ?_
  rintro e w2 ⟨rfl, hb2⟩
  rw [HB.out]
  have hz2 := hz1.trans (hb2.mono hz1.size)
  have rr2 := RR.out.below hb2
  obtain ⟨⟨z0, z1, z2⟩, ⟨z3, z4, z5⟩⟩ := rr2.three
  have RR2 := Lib.hid rr2
  clear rr2 RR c0 c1 c2
  clear z0 z1 z2 z3 z4 z5
  generalize truN a = p at *
  generalize truN b = q at *
  go_wp2_with fail
  refine (specOr3 _ _ _).mono ?_
  rintro e w3 ⟨rfl, rfl⟩
  generalize or3 p q = u at *
  go_wp2_with fail
  refine (specAs _ _).mono ?_
  rintro e w3 ⟨rfl, hb3⟩
  have hz := hz2.trans (hb3.mono hz2.size)
  obtain ⟨⟨z0, z1, z2⟩, ⟨z3, z4, z5⟩⟩ := (RR2.out.below hb3).three
  go_wp2_with fail
  refine bodyPost_ret (v := .tuple #[.agg #[.int .i64 (asVl u).k, .int .i64 (asVl u).n, .string (asVl u).s], .bool true]) (by simp [results, Tryz.results152, go_sem, z0, z1, z2]) rfl ⟨asVl u, by rw [HN.out]; rfl, by rw [HN.out]; simp, ?_⟩
  repeat (first | with_reducible exact hz | with_reducible refine Below.drew ?_ | with_reducible refine Below.setCell ?_ (by simp; omega) _ | with_reducible refine Below.setCell ?_ (by simp) _)
end Go.Proofs.YtjhhamlnlalkoaaGreat
