/-
  Several texts in one: what the proof leans on, part 1.
-/
import Derived.Test.YthamekdjfoepmaaGreatRows
import Derived.WalkKit
import Derived.ProofKit
import Derived.OpenShut
import Derived.ShutString
import Derived.ChangeOld
import Derived.Below
import Derived.Lib.SmallJoins
import Derived.Lib.Hide
import Derived.Deep.QuietTactic
import Derived.BigQuiet
import Derived.WalkSpells
import Derived.WalkLawsBesides
import Derived.Deep.Slices
import Derived.Deep.WholeRow
import Derived.Laws.StructEq
import Derived.Deep.RegionHeld3
import Derived.Stop.Asserts
import Derived.Deep.RegionWith
import Derived.Deep.LoopGhost
import Derived.Laws.IdiomStrings
import Derived.Maps.AppendAt
import Derived.Deep.CutRange
import Derived.BigRegion
import Derived.IntWalk
set_option linter.unusedVariables false
set_option linter.unusedSimpArgs false
namespace Go.Proofs.YthamekdjfoepmaaGreat
theorem pz0 {α : Type _} {l : List α} {i : Nat} (h : i < l.toArray.size) : l.toArray[i] = l[i] := rfl
theorem pz1 {α : Type _} (a : α) (l : List α) (h : 0 < (a :: l).length) : (a :: l)[0] = a := rfl
theorem pz2 {α : Type _} (a : α) (l : List α) (i : Nat) (h : i + 1 < (a :: l).length) : (a :: l)[i + 1] = l[i]'(Nat.lt_of_succ_lt_succ h) := rfl
theorem pz3 {α : Type _} (l : List α) (i : Nat) (a : α) : l.toArray.setIfInBounds i a = (l.set i a).toArray := List.setIfInBounds_toArray l i a
theorem pz4 {α : Type _} {x : α} {l : List α} {a : α} : (x :: l).set 0 a = a :: l := rfl
theorem pz5 {α : Type _} {x : α} {l : List α} {i : Nat} {a : α} : (x :: l).set (i + 1) a = x :: l.set i a := rfl
section
variable {P : Program} {ops : Array Oper} {Q : Exit → Act → World → Prop} {md : Region.Mode} {S : World → Prop} {oi : Oper} {v : Value} {fuel : Nat} {listed : Array Bool} {a b : Act} {w : World}
theorem tk (i : Nat) (h : wpAnyH P md ops (NoPanic Q) S fuel (listed.setIfInBounds i true) b w) (hi : ops[i]? = some oi := by rfl) (hs : (Region.noSelect ops && (Region.free md ops listed i && (Region.ready md ops listed).contains i)) = true := by kernel_rfl) (hg : Region.wanted oi (yielded ops a.tmps) = true := by rfl) (hS : S w := by assumption) (hy : ∀ w, S w → (execOp a.eval oi).run P w = .ok (.value v) w := by (intro w' q; go_simp; try with_reducible rfl)) (hb : a.put oi.dst v = b := by simp only [Act.put, List.getElem_toArray, List.getElem_cons_zero, List.getElem_cons_succ, List.setIfInBounds_toArray, List.set_cons_zero, List.set_cons_succ]; rfl) : wpAnyH P md ops (NoPanic Q) S (fuel + 1) listed a w := by
  rw [Bool.and_eq_true, Bool.and_eq_true] at hs
  exact wpAnyH_take hi hs.1 hs.2.1 hs.2.2 (fun _ _ _ h => h) (Or.inl ⟨hg, hy⟩) hS (hb ▸ h)
theorem tu (i : Nat) (h : wpAnyH P md ops (NoPanic Q) S fuel (listed.setIfInBounds i true) b w) (hi : ops[i]? = some oi := by rfl) (hs : (Region.noSelect ops && (Region.free md ops listed i && (Region.ready md ops listed).contains i)) = true := by kernel_rfl) (hg : Region.wanted oi (yielded ops a.tmps) = false := by rfl) (hS : S w := by assumption) (hb : a.put oi.dst undef = b := by simp only [Act.put, List.getElem_toArray, List.getElem_cons_zero, List.getElem_cons_succ, List.setIfInBounds_toArray, List.set_cons_zero, List.set_cons_succ]; rfl) : wpAnyH P md ops (NoPanic Q) S (fuel + 1) listed a w := by
  rw [Bool.and_eq_true, Bool.and_eq_true] at hs
  exact wpAnyH_take hi hs.1 hs.2.1 hs.2.2 (fun _ _ _ h => h) (Or.inr ⟨hg, rfl⟩) hS (hb ▸ h)
end
end Go.Proofs.YthamekdjfoepmaaGreat
namespace Go.Proofs.YthamekdjfoepmaaGreat
open Go.ChangeShapes Go.WideShapes Go.ChangeAt Go.RowKit Go.Joins
theorem own : ownKnob Tryz.prog.godebug = none := by kernel_rfl
theorem laidOut : laidOutB Tryz.prog = true := by kernel_rfl
def IsVal (k n : Int) (s : ByteArray) : Prop := (Lit.int .i64 k).wf = true ∧ (Lit.int .i64 n).wf = true ∧ s.size ≤ maxLen
end Go.Proofs.YthamekdjfoepmaaGreat
namespace Go.Proofs.YthamekdjfoepmaaGreat
open Go.RowKit
structure But (R : Nat) (w w' : World) : Prop where
 os : w'.os = w.os
 tape : w'.tape = w.tape
 output : w'.output = w.output
 size : w.heap.size ≤ w'.heap.size
 block : ∀ k, k < w.heap.size → k ≠ R → w'.heap[k]? = w.heap[k]?
theorem But.refl (R : Nat) (w : World) : But R w w := ⟨rfl, rfl, rfl, Nat.le_refl _, fun _ _ _ => rfl⟩
theorem But.trans {R : Nat} {a b c : World} (h : But R a b) (k : But R b c) : But R a c :=
 ⟨k.os.trans h.os, k.tape.trans h.tape, k.output.trans h.output, Nat.le_trans h.size k.size, fun i hi hr => (k.block i (Nat.lt_of_lt_of_le hi h.size) hr).trans (h.block i hi hr)⟩
theorem But.setCell {R : Nat} {a w : World} (h : But R a w) {p : Addr} (hp : p.block = R) (u : Value) : But R a (w.setCell p u) :=
 h.trans ⟨rfl, rfl, rfl, by simp [World.setCell], fun k _ hr => Below.heap_setCell _ _ _ _ (by omega)⟩
theorem But.setNew {R : Nat} {a w : World} (h : But R a w) {p : Addr} (hp : a.heap.size ≤ p.block) (u : Value) : But R a (w.setCell p u) :=
 ⟨h.os, h.tape, h.output, by simpa [World.setCell] using h.size, fun k hk hr => (Below.heap_setCell _ _ _ _ (by omega)).trans (h.block k hk hr)⟩
theorem But.cell {R : Nat} {w w' : World} (h : But R w w') {p : Addr} (hp : p.block < w.heap.size) (hr : p.block ≠ R) : w'.cell? p = w.cell? p := World.cell?_of_block (w := w) (h.block p.block hp hr)
theorem But.frozen {R : Nat} {w w' : World} (h : But R w w') {p : Addr} (hp : p.block < w.heap.size) (hr : p.block ≠ R) : w'.frozen? p = w.frozen? p := World.frozen?_of_block (w := w) (h.block p.block hp hr)
theorem cell_lt {w : World} {p : Addr} {v : Value} (h : w.cell? p = some v) : p.block < w.heap.size := by
 by_cases hb : p.block < w.heap.size
 ·exact hb
 ·simp [World.cell?, Array.getElem?_eq_none (Nat.le_of_not_lt hb)] at h
theorem retB {a b : Bool} (h : a = b) : Ending.returned (.bool a) = .returned (.bool b) := by rw [h]
theorem retI {k : IntKind} {a b : Int} (h : a = b) : Ending.returned (.int k a) = .returned (.int k b) := by rw [h]
end Go.Proofs.YthamekdjfoepmaaGreat
namespace Go.Proofs.YthamekdjfoepmaaGreat
open Go.ChangeShapes Go.WideShapes Go.ChangeAt Go.RowKit Go.Joins Go.Deep
def Cellz (w : World) (sz : Nat) (A : Option Addr) (n : Nat) (xss : List (List Value)) : Prop :=
 xss.length = n ∧ (∀ c ∈ xss, c.length = sz) ∧
 (0 < n → ∃ b off, A = some ⟨b, off, none⟩ ∧ ∀ (i : Nat) (h : i < xss.length) (j : Nat) (h' : j < (xss[i]).length), w.cell? ⟨b, off + (i * sz + j), none⟩ = some (xss[i])[j])
theorem Cellz.keep {w w' : World} {sz : Nat} {A : Option Addr} {n : Nat} {xss : List (List Value)} (h : Cellz w sz A n xss) (hk : ∀ p v, w.cell? p = some v → w'.cell? p = some v) : Cellz w' sz A n xss :=
 ⟨h.1, h.2.1, fun hn => by
  obtain ⟨b, off, e, hc⟩ := h.2.2 hn
  exact ⟨b, off, e, fun i hi j hj => hk _ _ (hc i hi j hj)⟩⟩
theorem Cellz.below {w w' : World} {sz : Nat} {A : Option Addr} {n : Nat} {xss : List (List Value)} (h : Cellz w sz A n xss) (hb : Below w.heap.size w w') : Cellz w' sz A n xss :=
 h.keep fun _ _ hp => (hb.cell (cell_lt hp)).trans hp
theorem addr_add (b off i : Nat) : (⟨b, off, none⟩ : Addr).add i = ⟨b, off + i, none⟩ := by
 unfold Addr.add; split
 ·subst_vars; rfl
 ·rfl
theorem cellz_of_trod {H : Type} {enc : TypeId × Value → H} {P : Program} {W : World} {fuel : Nat} {t e : TypeId} {sz : Nat} {a : Option Addr} {len cap : Nat} {x : DataW H × List MemPlace}
  (ht : P.underlying t = some (.slice e)) (hC : P.cellsOf e = sz) (h0 : 0 < sz)
  (h : DataW.trod enc P W 0 (fun _ => true) true fuel t [.slice a len cap] = some x) :
  ∃ xss, Cellz W sz a len xss ∧ len ≤ maxLen ∧ ∀ c ∈ xss, ∃ n y, DataW.trod enc P W 0 (fun _ => true) true n e c = some y := by
 rcases open_slice ht h with ⟨hcs, _⟩ | ⟨ad, l, c, m, n, D, Pl, hcs, _, hl, hm, hmm, _, hi⟩
 ·simp at hcs
  obtain ⟨rfl, rfl, rfl⟩ := hcs
  exact ⟨[], ⟨rfl, by simp, fun h => absurd h (by omega)⟩, by omega, by simp⟩
 ·simp at hcs
  obtain ⟨rfl, rfl, rfl⟩ := hcs
  rw [hC] at hi
  simp at hmm
  have hch : ∀ i, ∃ cs', i < len → W.cells? 0 (ad.add (i * sz)) sz = some cs' ∧ ∃ n y, DataW.trod enc P W 0 (fun _ => true) true n e cs' = some y := by
   intro i
   by_cases hlt : i < len
   ·obtain ⟨cs', h1, h2⟩ := hi i (by omega)
    exact ⟨cs', fun _ => ⟨h1, _, _, h2⟩⟩
   ·exact ⟨[], fun h => absurd h hlt⟩
  obtain ⟨f, hf⟩ := Classical.axiomOfChoice hch
  refine ⟨(List.range len).map f, ⟨by simp, ?_, ?_⟩, by omega, ?_⟩
  ·intro c hc
   simp only [List.mem_map, List.mem_range] at hc
   obtain ⟨i, hi, rfl⟩ := hc
   exact (World.cells?_some (hf i hi).1).2.1
  ·intro hn
   obtain ⟨b, off, spot⟩ := ad
   have hspot : spot = none := by
    obtain ⟨_, hcl, hat⟩ := World.cells?_some (hf 0 hn).1
    have h1 := hat 0 h0
    rw [List.getElem?_eq_getElem (by omega)] at h1
    have := World.cell?_spot h1
    simpa [Addr.add] using this
   subst hspot
   refine ⟨b, off, rfl, fun i hi j hj => ?_⟩
   simp only [List.length_map, List.length_range] at hi
   simp only [List.getElem_map, List.getElem_range] at hj ⊢
   obtain ⟨_, hcl, hat⟩ := World.cells?_some (hf i hi).1
   have h1 := hat j (by omega)
   rw [List.getElem?_eq_getElem hj, addr_add, addr_add] at h1
   rw [← h1, Nat.add_assoc]
  ·intro c hc
   simp only [List.mem_map, List.mem_range] at hc
   obtain ⟨i, hi, rfl⟩ := hc
   exact (hf i hi).2
theorem val_of_trod {H : Type} {enc : TypeId × Value → H} {P : Program} {W : World} {fuel : Nat} {t : TypeId} {f0 f1 f2 : Field} {cs : List Value} {x : DataW H × List MemPlace}
  (hs : P.underlying t = some (.struct #[f0, f1, f2])) (hC : P.cellsOf t = 3) (o : f0.offset = 0 ∧ f1.offset = 1 ∧ f2.offset = 2) (hc0 : P.cellsOf f0.type = 1) (hc1 : P.cellsOf f1.type = 1) (hc2 : P.cellsOf f2.type = 1)
  (h0 : P.underlying f0.type = some (.int .i64)) (h1 : P.underlying f1.type = some (.int .i64)) (h2 : P.underlying f2.type = some .string)
  (h : DataW.trod enc P W 0 (fun _ => true) true fuel t cs = some x) :
  ∃ k n s, cs = [.int .i64 k, .int .i64 n, .string s] ∧ IsVal k n s := by
 obtain ⟨xs, n, _, _, hl, hlen, hf⟩ := DataW.trod_struct hs h
 rw [hC] at hl
 match cs, hl, xs, hlen with
 | [c0, c1, c2], _, [y0, y1, y2], _ =>
  have g0 := hf 0 f0 rfl
  have g1 := hf 1 f1 rfl
  have g2 := hf 2 f2 rfl
  rw [o.1, hc0] at g0
  rw [o.2.1, hc1] at g1
  rw [o.2.2, hc2] at g2
  simp at g0 g1 g2
  obtain ⟨k, q0, -, wk⟩ := DataW.trod_int h0 g0
  obtain ⟨n, q1, -, wn⟩ := DataW.trod_int h1 g1
  obtain ⟨s, q2, -, ws⟩ := DataW.trod_string h2 g2
  simp at q0 q1 q2
  subst q0 q1 q2
  exact ⟨k, n, s, rfl, wk, wn, ws⟩
theorem tok_of_trod {H : Type} {enc : TypeId × Value → H} {P : Program} {W : World} {fuel : Nat} {t : TypeId} {g0 g1 g2 f0 f1 f2 : Field} {cs : List Value} {x : DataW H × List MemPlace}
  (ht : P.underlying t = some (.struct #[g0, g1, g2])) (hCt : P.cellsOf t = 5) (ot : g0.offset = 0 ∧ g1.offset = 1 ∧ g2.offset = 2) (hd0 : P.cellsOf g0.type = 1) (hd1 : P.cellsOf g1.type = 1) (hd2 : P.cellsOf g2.type = 3)
  (k0 : P.underlying g0.type = some (.int .i64)) (k1 : P.underlying g1.type = some (.int .i64))
  (hs : P.underlying g2.type = some (.struct #[f0, f1, f2])) (o : f0.offset = 0 ∧ f1.offset = 1 ∧ f2.offset = 2) (hc0 : P.cellsOf f0.type = 1) (hc1 : P.cellsOf f1.type = 1) (hc2 : P.cellsOf f2.type = 1)
  (h0 : P.underlying f0.type = some (.int .i64)) (h1 : P.underlying f1.type = some (.int .i64)) (h2 : P.underlying f2.type = some .string)
  (h : DataW.trod enc P W 0 (fun _ => true) true fuel t cs = some x) :
  ∃ k c vk vn vs, cs = [.int .i64 k, .int .i64 c, .int .i64 vk, .int .i64 vn, .string vs] ∧ (Lit.int .i64 k).wf = true ∧ (Lit.int .i64 c).wf = true ∧ IsVal vk vn vs := by
 obtain ⟨xs, n, _, _, hl, hlen, hf⟩ := DataW.trod_struct ht h
 rw [hCt] at hl
 match cs, hl, xs, hlen with
 | [c0, c1, c2, c3, c4], _, [y0, y1, y2], _ =>
  have e0 := hf 0 g0 rfl
  have e1 := hf 1 g1 rfl
  have e2 := hf 2 g2 rfl
  rw [ot.1, hd0] at e0
  rw [ot.2.1, hd1] at e1
  rw [ot.2.2, hd2] at e2
  simp at e0 e1 e2
  obtain ⟨k, q0, -, wk⟩ := DataW.trod_int k0 e0
  obtain ⟨c, q1, -, wc⟩ := DataW.trod_int k1 e1
  obtain ⟨vk, vn, vs, q2, w2⟩ := val_of_trod hs hd2 o hc0 hc1 hc2 h0 h1 h2 e2
  simp at q0 q1 q2
  obtain ⟨rfl, rfl, rfl⟩ := q2
  subst q0 q1
  exact ⟨k, c, vk, vn, vs, rfl, wk, wc, w2⟩
def Row (w : World) (g : Nat) (T : TypeId) (cs : Array Value) : Prop := w.heap[g]? = some (.cells cs T (0, 0))
theorem Row.set {w : World} {g : Nat} {T : TypeId} {cs : Array Value} (h : Row w g T cs) (i : Nat) (v : Value) : Row (w.setCell ⟨g, i, none⟩ v) g T (cs.setIfInBounds i v) := by
 unfold Row at h ⊢
 simp [World.setCell, Array.getElem?_modify, h]
theorem Row.cell {w : World} {g : Nat} {T : TypeId} {cs : Array Value} (h : Row w g T cs) (i : Nat) : w.cell? ⟨g, i, none⟩ = cs[i]? := cell_of_row w g i cs T (0, 0) h
theorem Row.free {w : World} {g : Nat} {T : TypeId} {cs : Array Value} (h : Row w g T cs) (i : Nat) : w.frozen? ⟨g, i, none⟩ = false := by
 unfold Row at h
 simp [World.frozen?, h]
theorem Row.below {w w' : World} {g : Nat} {T : TypeId} {cs : Array Value} (h : Row w g T cs) (hb : Below w.heap.size w w') : Row w' g T cs := (hb.block g (lt_of_block h)).trans h
theorem Row.new (w : World) (T : TypeId) (cs : Array Value) : Row (w.alloc (.cells cs T)) w.heap.size T cs := Go.heap_alloc_last w _
theorem Row.five {w : World} {g : Nat} {T : TypeId} {a0 a1 a2 a3 a4 : Value} (h : Row w g T #[a0, a1, a2, a3, a4]) :
  (w.cell? ⟨g, 0, none⟩ = some a0 ∧ w.cell? ⟨g, 1, none⟩ = some a1 ∧ w.cell? ⟨g, 2, none⟩ = some a2 ∧ w.cell? ⟨g, 3, none⟩ = some a3 ∧ w.cell? ⟨g, 4, none⟩ = some a4) ∧
  (w.frozen? ⟨g, 0, none⟩ = false ∧ w.frozen? ⟨g, 1, none⟩ = false ∧ w.frozen? ⟨g, 2, none⟩ = false ∧ w.frozen? ⟨g, 3, none⟩ = false ∧ w.frozen? ⟨g, 4, none⟩ = false) :=
 ⟨⟨h.cell 0, h.cell 1, h.cell 2, h.cell 3, h.cell 4⟩, ⟨h.free 0, h.free 1, h.free 2, h.free 3, h.free 4⟩⟩
theorem Row.alloc {w : World} {g : Nat} {T : TypeId} {cs : Array Value} (h : Row w g T cs) (o : Obj) : Row (w.alloc o) g T cs := (Below.heap_alloc w o g (lt_of_block h)).trans h
theorem Row.three {w : World} {g : Nat} {T : TypeId} {a0 a1 a2 : Value} (h : Row w g T #[a0, a1, a2]) :
  (w.cell? ⟨g, 0, none⟩ = some a0 ∧ w.cell? ⟨g, 1, none⟩ = some a1 ∧ w.cell? ⟨g, 2, none⟩ = some a2) ∧ (w.frozen? ⟨g, 0, none⟩ = false ∧ w.frozen? ⟨g, 1, none⟩ = false ∧ w.frozen? ⟨g, 2, none⟩ = false) :=
 ⟨⟨h.cell 0, h.cell 1, h.cell 2⟩, ⟨h.free 0, h.free 1, h.free 2⟩⟩
theorem Row.drew {w : World} {g : Nat} {T : TypeId} {cs : Array Value} (h : Row w g T cs) : Row w.drew g T cs := h
theorem Row.drewN {w : World} {g : Nat} {T : TypeId} {cs : Array Value} (h : Row w g T cs) (n : Nat) : Row (w.drewN n) g T cs := h
theorem Row.far {w : World} {g : Nat} {T : TypeId} {cs : Array Value} (h : Row w g T cs) {p : Addr} (hp : g ≠ p.block) (v : Value) : Row (w.setCell p v) g T cs := (Below.heap_setCell w p v g hp).trans h
theorem Row.newAt (w : World) (T : TypeId) (cs : Array Value) (g : Nat) (hg : w.heap.size = g) : Row (w.alloc (.cells cs T)) g T cs := hg ▸ Row.new w T cs
abbrev Rd (α : Type) := (Nat → Prop) → World → List Value → α → Prop
def Sl {α : Type} (R : Rd α) (sz : Nat) (ok : Nat → Prop) (w : World) (A : Option Addr) (n : Nat) (ds : List α) : Prop :=
 ds.length = n ∧ (0 < n → ∃ b off, A = some ⟨b, off, none⟩ ∧ ok b ∧ ∀ (i : Nat) (h : i < ds.length), ∃ cs : List Value, cs.length = sz ∧ R ok w cs ds[i] ∧ ∀ (j : Nat) (v : Value), cs[j]? = some v → w.cell? ⟨b, off + i * sz + j, none⟩ = some v)
def Stays {α : Type} (R : Rd α) : Prop := ∀ (ok ok' : Nat → Prop) (w w' : World) (cs : List Value) (d : α), R ok w cs d → (∀ b, ok b → ok' b) → (∀ p v, ok p.block → w.cell? p = some v → w'.cell? p = some v) → R ok' w' cs d
theorem Sl.stays {α : Type} {R : Rd α} (hR : Stays R) {sz : Nat} {ok ok' : Nat → Prop} {w w' : World} {A : Option Addr} {n : Nat} {ds : List α} (h : Sl R sz ok w A n ds) (ho : ∀ b, ok b → ok' b) (hk : ∀ p v, ok p.block → w.cell? p = some v → w'.cell? p = some v) : Sl R sz ok' w' A n ds :=
 ⟨h.1, fun hn => by
  obtain ⟨b, off, e, hb, hi⟩ := h.2 hn
  refine ⟨b, off, e, ho b hb, fun i hlt => ?_⟩
  obtain ⟨cs, h1, h2, h3⟩ := hi i hlt
  exact ⟨cs, h1, hR _ _ _ _ _ _ h2 ho hk, fun j v hv => hk _ _ hb (h3 j v hv)⟩⟩
theorem below_keep {w w' : World} (hb : Below w.heap.size w w') : ∀ p v, w.cell? p = some v → w'.cell? p = some v := fun _ _ hp => (hb.cell (cell_lt hp)).trans hp
theorem Sl.below {α : Type} {R : Rd α} (hR : Stays R) {sz : Nat} {ok : Nat → Prop} {w w' : World} {A : Option Addr} {n : Nat} {ds : List α} (h : Sl R sz ok w A n ds) (hb : Below w.heap.size w w') : Sl R sz ok w' A n ds :=
 h.stays hR (fun _ h => h) fun p v _ hp => below_keep hb p v hp
def FlatR {α : Type} (f : α → List Value) : Rd α := fun _ _ cs d => cs = f d
theorem FlatR.stays {α : Type} (f : α → List Value) : Stays (FlatR f) := fun _ _ _ _ _ _ h _ _ => h
theorem Sl.cellz {α : Type} {f : α → List Value} {sz : Nat} {ok : Nat → Prop} {w : World} {A : Option Addr} {n : Nat} {ds : List α} (hf : ∀ d, (f d).length = sz) (h : Sl (FlatR f) sz ok w A n ds) : Cellz w sz A n (ds.map f) := by
 refine ⟨by simpa using h.1, fun c hc => by obtain ⟨d, _, rfl⟩ := List.mem_map.1 hc; exact hf d, fun hn => ?_⟩
 obtain ⟨b, off, e, hb, hi⟩ := h.2 hn
 refine ⟨b, off, e, fun i hlt j hj => ?_⟩
 obtain ⟨cs, h1, h2, h3⟩ := hi i (by simpa using hlt)
 have e2 : (ds.map f)[i] = cs := by rw [List.getElem_map]; exact h2.symm
 rw [← Nat.add_assoc]
 exact h3 j _ (by rw [List.getElem?_eq_some_iff]; exact ⟨by rw [e2] at hj; exact hj, by simp only [e2]⟩)
def LaidR {α : Type} (R : Rd α) (sz : Nat) (ok : Nat → Prop) (w : World) (cs : Array Value) (k : Nat) (ds : List α) : Prop :=
 ∀ (i : Nat) (h : i < ds.length), i < k → ∃ c : List Value, c.length = sz ∧ R ok w c ds[i] ∧ ∀ (j : Nat) (v : Value), c[j]? = some v → cs[i * sz + j]? = some v
theorem LaidR.zero {α : Type} (R : Rd α) (sz : Nat) (ok : Nat → Prop) (w : World) (cs : Array Value) (ds : List α) : LaidR R sz ok w cs 0 ds := fun _ _ h => by omega
theorem LaidR.more {α : Type} {R : Rd α} {sz : Nat} {ok : Nat → Prop} {w : World} {cs cs' : Array Value} {k : Nat} {ds : List α} (h : LaidR R sz ok w cs k ds) (hk : k < ds.length) {c : List Value} (hc : c.length = sz) (hr : R ok w c ds[k])
  (hold : ∀ m, m < k * sz → cs'[m]? = cs[m]?) (hnew : ∀ (j : Nat) (v : Value), c[j]? = some v → cs'[k * sz + j]? = some v) : LaidR R sz ok w cs' (k + 1) ds := fun i hi hlt => by
 by_cases e : i = k
 ·subst e
  exact ⟨c, hc, hr, hnew⟩
 ·obtain ⟨c', h1, h2, h3⟩ := h i hi (by omega)
  refine ⟨c', h1, h2, fun j v hv => ?_⟩
  have hj : j < sz := by obtain ⟨hj, _⟩ := List.getElem?_eq_some_iff.1 hv; omega
  rw [hold _ ?_]
  ·exact h3 j v hv
  ·have : (i + 1) * sz ≤ k * sz := Nat.mul_le_mul_right _ (by omega)
   rw [Nat.add_mul] at this
   omega
theorem sl_of_laid {α : Type} {R : Rd α} {sz : Nat} {ok : Nat → Prop} {w : World} {g : Nat} {T : TypeId} {cs : Array Value} {k : Nat} {ds : List α} (hr : Row w g T cs) (hg : ok g) (h : LaidR R sz ok w cs k ds) (hk : ds.length ≤ k) : Sl R sz ok w (some ⟨g, 0, none⟩) ds.length ds :=
 ⟨rfl, fun _ => ⟨g, 0, rfl, hg, fun i hi => by
  obtain ⟨c, h1, h2, h3⟩ := h i hi (by omega)
  refine ⟨c, h1, h2, fun j v hv => ?_⟩
  rw [Nat.zero_add, hr.cell]
  exact h3 j v hv⟩⟩
theorem list_of_rel {α β : Type} {r : β → α → Prop} {q : α → Prop} : ∀ xss : List β, (∀ c ∈ xss, ∃ d, r c d ∧ q d) → ∃ ds : List α, ds.length = xss.length ∧ (∀ (i : Nat) (h : i < xss.length) (h' : i < ds.length), r xss[i] ds[i]) ∧ ∀ d ∈ ds, q d
 | [], _ => ⟨[], rfl, fun i h => absurd h (by simp), by simp⟩
 | c :: cs, h => by
  obtain ⟨d, hr, hq⟩ := h c (by simp)
  obtain ⟨ds, h1, h2, h3⟩ := list_of_rel cs fun c' hc => h c' (by simp [hc])
  refine ⟨d :: ds, by simp [h1], fun i hi hi' => ?_, by simpa using ⟨hq, h3⟩⟩
  cases i with
  | zero => exact hr
  | succ i => exact h2 i (by simpa using hi) (by simpa using hi')
theorem sl_of_trod {α : Type} {R : Rd α} {q : α → Prop} {H : Type} {enc : TypeId × Value → H} {P : Program} {W : World} {fuel : Nat} {t e : TypeId} {sz : Nat} {a : Option Addr} {len cap : Nat} {x : DataW H × List MemPlace}
  (ht : P.underlying t = some (.slice e)) (hC : P.cellsOf e = sz) (h0 : 0 < sz) (hR : ∀ n c y, DataW.trod enc P W 0 (fun _ => true) true n e c = some y → ∃ d, R (fun _ => True) W c d ∧ q d)
  (h : DataW.trod enc P W 0 (fun _ => true) true fuel t [.slice a len cap] = some x) :
  ∃ ds, Sl R sz (fun _ => True) W a len ds ∧ ds.length ≤ maxLen ∧ ∀ d ∈ ds, q d := by
 obtain ⟨xss, ⟨hl, hz, hc⟩, hm, hr⟩ := cellz_of_trod (sz := sz) ht hC h0 h
 obtain ⟨ds, h1, h2, h3⟩ := list_of_rel (r := fun c d => R (fun _ => True) W c d) (q := q) xss fun c hc => by
  obtain ⟨n, y, hy⟩ := hr c hc
  exact hR _ _ _ hy
 refine ⟨ds, ⟨by omega, fun hn => ?_⟩, by omega, h3⟩
 obtain ⟨b, off, e, hi⟩ := hc hn
 refine ⟨b, off, e, trivial, fun i hlt => ⟨xss[i], hz _ (List.getElem_mem (by omega)), h2 i (by omega) hlt, fun j v hv => ?_⟩⟩
 obtain ⟨hj, hv'⟩ := List.getElem?_eq_some_iff.1 hv
 rw [Nat.add_assoc, hi i (by omega) j hj, hv']
end Go.Proofs.YthamekdjfoepmaaGreat
namespace Go.Proofs.YthamekdjfoepmaaGreat
open Go.RowKit
def valOkB (k n : Int) (s : ByteArray) : Bool :=
 if k = 0 then n == 0 && s.toList.isEmpty else if k = 1 then decide (-1000000000 ≤ n) && decide (n ≤ 1000000000) && s.toList.isEmpty else if k = 2 then n == 0 && decide ((s.size : Int) ≤ 12) else false
theorem specIn (n lo hi : Int) (w : World) :
  Calls Tryz.prog 92 #[.int .i64 n, .int .i64 lo, .int .i64 hi] w fun e w' => e = .returned (.bool (decide (lo ≤ n) && decide (n ≤ hi))) ∧ w = w' := by
 by_cases h : lo ≤ n
 ·go_enter Tryz.func92, Tryz.ntmps92
  go_wp2
  go_ret
  exact ⟨retB (by simp [h]), rfl⟩
 ·have h' : decide (lo ≤ n) = false := by simpa using h
  go_enter Tryz.func92, Tryz.ntmps92
  go_wp2
  go_ret
  exact ⟨retB (by simp), rfl⟩
theorem specValOk (k n : Int) (s : ByteArray) (w : World) :
  Calls Tryz.prog 95 #[.agg #[.int .i64 k, .int .i64 n, .string s]] w fun e w' => e = .returned (.bool (valOkB k n s)) ∧ Below w.heap.size w w' := by
 have hb := fun o => (Below.refl w.heap.size w).alloc (Nat.le_refl _) o
 have HB := Lib.hid hb
 clear hb
 by_cases k0 : k = 0
 ·subst k0
  go_enter Tryz.func95, Tryz.ntmps95
  go_wp2
  all_goals
   go_ret
   exact ⟨retB (by simp [valOkB, *]), HB.out _⟩
 have d0 : (k == 0) = false := by simpa using k0
 by_cases k1 : k = 1
 ·subst k1
  by_cases h : (decide (-1000000000 ≤ n) && decide (n ≤ 1000000000)) = true
  ·go_enter Tryz.func95, Tryz.ntmps95
   go_wp2_with (go_at_call 92; refine (specIn _ _ _ _).mono ?_; rintro e w' ⟨rfl, rfl⟩)
   go_ret
   exact ⟨retB (by simp [valOkB] at h ⊢; simp [h]), HB.out _⟩
  ·have h' : (decide (-1000000000 ≤ n) && decide (n ≤ 1000000000)) = false := by simpa using h
   go_enter Tryz.func95, Tryz.ntmps95
   go_wp2_with (go_at_call 92; refine (specIn _ _ _ _).mono ?_; rintro e w' ⟨rfl, rfl⟩)
   go_ret
   exact ⟨retB (by simp [valOkB, h']), HB.out _⟩
 have d1 : (k == 1) = false := by simpa using k1
 by_cases k2 : k = 2
 ·subst k2
  by_cases h : n = 0
  ·subst h
   go_enter Tryz.func95, Tryz.ntmps95
   go_wp2
   go_ret
   exact ⟨retB (by simp [valOkB]), HB.out _⟩
  ·have h' : (n == 0) = false := by simpa using h
   go_enter Tryz.func95, Tryz.ntmps95
   go_wp2
   go_ret
   exact ⟨retB (by simp [valOkB, h']), HB.out _⟩
 ·have d2 : (k == 2) = false := by simpa using k2
  go_enter Tryz.func95, Tryz.ntmps95
  go_wp2
  go_ret
  exact ⟨retB (by simp [valOkB, k0, k1, k2]), HB.out _⟩
theorem as_num_num (v : Value) (w : World) : (Instr.typeAssert (.iface 197 v) 184 197 true).run Tryz.prog w = .ok (.tuple #[v, .bool true]) w := by kernel_rfl
theorem as_str_num (v : Value) (w : World) : (Instr.typeAssert (.iface 198 v) 184 197 true).run Tryz.prog w = .ok (.tuple #[.int .i64 0, .bool false]) w := by kernel_rfl
theorem as_str_str (v : Value) (w : World) : (Instr.typeAssert (.iface 198 v) 184 198 true).run Tryz.prog w = .ok (.tuple #[v, .bool true]) w := by kernel_rfl
theorem as_not_num (v : Value) (w : World) : (Instr.typeAssert (.iface 196 v) 184 197 true).run Tryz.prog w = .ok (.tuple #[.int .i64 0, .bool false]) w := by kernel_rfl
theorem as_not_str (v : Value) (w : World) : (Instr.typeAssert (.iface 196 v) 184 198 true).run Tryz.prog w = .ok (.tuple #[.string ByteArray.empty, .bool false]) w := by kernel_rfl
theorem implValOfNum (n : Int) (w : World) :
  Calls Tryz.prog 152 #[.iface 197 (.int .i64 n)] w fun e w' => e = .returned (.agg #[.int .i64 1, .int .i64 n, .string ⟨#[]⟩]) ∧ Below w.heap.size w w' := by
 have as1 := as_num_num
 go_enter Tryz.func152, Tryz.ntmps152
 go_wp2
 exact bodyPost_ret (v := .agg #[.int .i64 1, .int .i64 n, .string ⟨#[]⟩]) (by simp [results, Tryz.results152, go_sem]) rfl ⟨rfl, (Below.refl _ _).alloc (Nat.le_refl _) _⟩
theorem implValOfStr (s : ByteArray) (w : World) :
  Calls Tryz.prog 152 #[.iface 198 (.string s)] w fun e w' => e = .returned (.agg #[.int .i64 2, .int .i64 0, .string s]) ∧ Below w.heap.size w w' := by
 have as1 := as_str_num
 have as2 := as_str_str
 go_enter Tryz.func152, Tryz.ntmps152
 go_wp2
 exact bodyPost_ret (v := .agg #[.int .i64 2, .int .i64 0, .string s]) (by simp [results, Tryz.results152, go_sem]) rfl ⟨rfl, (Below.refl _ _).alloc (Nat.le_refl _) _⟩
theorem implValOfNot (w : World) :
  Calls Tryz.prog 152 #[.iface 196 (.agg #[])] w fun e w' => e = .returned (.agg #[.int .i64 0, .int .i64 0, .string ⟨#[]⟩]) ∧ Below w.heap.size w w' := by
 have as1 := as_not_num
 have as2 := as_not_str
 go_enter Tryz.func152, Tryz.ntmps152
 go_wp2
 exact bodyPost_ret (v := .agg #[.int .i64 0, .int .i64 0, .string ⟨#[]⟩]) (by simp [results, Tryz.results152, go_sem]) rfl ⟨rfl, (Below.refl _ _).alloc (Nat.le_refl _) _⟩
theorem rightOfNot (w : World) : (method 323 196 (.agg #[]) "loop.example/g00570/impl.right").run Tryz.prog w = .ok (178, .agg #[]) w := by kernel_rfl
theorem rightOfNum (n : Int) (w : World) : (method 323 197 (.int .i64 n) "loop.example/g00570/impl.right").run Tryz.prog w = .ok (156, .int .i64 n) w := by kernel_rfl
theorem rightOfStr (s : ByteArray) (w : World) : (method 323 198 (.string s) "loop.example/g00570/impl.right").run Tryz.prog w = .ok (181, .string s) w := by kernel_rfl
theorem rightNot (w : World) : Calls Tryz.prog 178 #[.agg #[]] w fun e w' => e = .returned (.bool true) ∧ Below w.heap.size w w' := by
 go_enter Tryz.func178, Tryz.ntmps178
 go_wp2
 go_ret
 first | exact ⟨rfl, Below.refl _ _⟩ | exact ⟨rfl, (Below.refl _ _).alloc (Nat.le_refl _) _⟩
theorem rightNum (n : Int) (w : World) : Calls Tryz.prog 156 #[.int .i64 n] w fun e w' => e = .returned (.bool (decide (-1000000000 ≤ n) && decide (n ≤ 1000000000))) ∧ w = w' := by
 by_cases h : -1000000000 ≤ n
 ·go_enter Tryz.func156, Tryz.ntmps156
  go_wp2
  go_ret
  exact ⟨retB (by simp [h]), rfl⟩
 ·have h' : decide (-1000000000 ≤ n) = false := by simpa using h
  go_enter Tryz.func156, Tryz.ntmps156
  go_wp2
  go_ret
  exact ⟨retB (by simp), rfl⟩
theorem rightStr (s : ByteArray) (w : World) : Calls Tryz.prog 181 #[.string s] w fun e w' => e = .returned (.bool (decide ((s.size : Int) ≤ 12))) ∧ w = w' := by
 go_enter Tryz.func181, Tryz.ntmps181
 go_wp2
 go_ret
 exact ⟨rfl, rfl⟩
def heldV (k n : Int) (s : ByteArray) : Value := if k = 0 then .iface 196 (.agg #[]) else if k = 1 then .iface 197 (.int .i64 n) else .iface 198 (.string s)
theorem chain1 (w : World) (o : Obj) {w1 : World} (hb : Below (w.alloc o).drew.heap.size (w.alloc o).drew w1) : Below w.heap.size w w1 :=
 (((Below.refl _ w).alloc (Nat.le_refl _) o).drew).trans (hb.mono (by simp))
theorem boxed {w w1 : World} {k n : Int} {s : ByteArray} {T : TypeId} (hb : Below (w.alloc (.cells #[.int .i64 k, .int .i64 n, .string s] T)).drew.heap.size (w.alloc (.cells #[.int .i64 k, .int .i64 n, .string s] T)).drew w1) :
  w1.cell? ⟨w.heap.size, 0, none⟩ = some (.int .i64 k) ∧ w1.cell? ⟨w.heap.size, 1, none⟩ = some (.int .i64 n) ∧ w1.cell? ⟨w.heap.size, 2, none⟩ = some (.string s) := by
 refine ⟨?_, ?_, ?_⟩ <;> (rw [hb.cell (by simp)]; simp)
def HeldOk (k n : Int) (s : ByteArray) (w : World) (e : Ending) (w' : World) : Prop := e = .returned (.tuple #[heldV k n s, .bool true]) ∧ Below w.heap.size w w'
def HeldNo (w : World) (e : Ending) (w' : World) : Prop := e = .returned (.tuple #[.nilIface, .bool false]) ∧ Below w.heap.size w w'
set_option maxRecDepth 100000 in
set_option maxHeartbeats 1000000 in
theorem held0yes (s : ByteArray) (w : World) (hs : s.toList = []) :
  Calls Tryz.prog 142 #[.agg #[.int .i64 0, .int .i64 0, .string s]] w (HeldOk 0 0 s w) := by
 have hm := rightOfNot
 go_enter Tryz.func142, Tryz.ntmps142
 go_wp2_with fail
 go_region_held3 (fun w' => w'.cell? ⟨w.heap.size, 0, none⟩ = some (.int .i64 0) ∧ w'.cell? ⟨w.heap.size, 1, none⟩ = some (.int .i64 0) ∧ w'.cell? ⟨w.heap.size, 2, none⟩ = some (.string s)) (first | go_keep | (refine ⟨?_, ?_, ?_⟩ <;> (rw [hb.cell (by simp)]; simp)) | (refine ⟨?_, ?_, ?_⟩ <;> (rw [hb2.cell (by have := hb.size; simp at this; simp; omega), hb.cell (by simp)]; simp)))
  (first | (go_at_call 152; refine (implValOfNot _).mono ?_; rintro e w1 ⟨rfl, hb⟩) | (go_at_call 178; refine (rightNot _).mono ?_; rintro e w2 ⟨rfl, hb2⟩))
 go_wp2
 go_ret2
 exact ⟨rfl, (chain1 w _ hb).trans (hb2.mono (by have := hb.size; simp at this; omega))⟩
set_option maxRecDepth 100000 in
set_option maxHeartbeats 1000000 in
theorem held0n (n : Int) (s : ByteArray) (w : World) (hn : ¬ n = 0) :
  Calls Tryz.prog 142 #[.agg #[.int .i64 0, .int .i64 n, .string s]] w (HeldNo w) := by
 have e1 : (0 == n) = false := by simp; omega
 go_enter Tryz.func142, Tryz.ntmps142
 go_wp2_with fail
 first | (go_region_with ((go_at_call 152; refine (implValOfNot _).mono ?_; rintro e w1 ⟨rfl, hb⟩; obtain ⟨r0, r1, r2⟩ := boxed hb))) | fail
 all_goals
  go_wp2
  go_ret2
  exact ⟨rfl, chain1 w _ hb⟩
set_option maxRecDepth 100000 in
set_option maxHeartbeats 1000000 in
theorem held0s (n : Int) (s : ByteArray) (w : World) (hs : ¬ s.toList = []) :
  Calls Tryz.prog 142 #[.agg #[.int .i64 0, .int .i64 n, .string s]] w (HeldNo w) := by
 by_cases hn : n = 0
 ·subst hn
  have e1 : (([] : List UInt8) == s.toList) = false := by simpa using hs
  go_enter Tryz.func142, Tryz.ntmps142
  go_wp2_with fail
  first | (go_region_with ((go_at_call 152; refine (implValOfNot _).mono ?_; rintro e w1 ⟨rfl, hb⟩; obtain ⟨r0, r1, r2⟩ := boxed hb))) | fail
  all_goals
   go_wp2
   go_ret2
   exact ⟨rfl, chain1 w _ hb⟩
 ·exact held0n n s w hn
set_option maxRecDepth 100000 in
set_option maxHeartbeats 1000000 in
theorem held1yes (n : Int) (s : ByteArray) (w : World) (hs : s.toList = []) (h : (decide (-1000000000 ≤ n) && decide (n ≤ 1000000000)) = true) :
  Calls Tryz.prog 142 #[.agg #[.int .i64 1, .int .i64 n, .string s]] w (HeldOk 1 n s w) := by
 have hm := rightOfNum n
 go_enter Tryz.func142, Tryz.ntmps142
 go_wp2_with fail
 go_region_held3 (fun w' => w'.cell? ⟨w.heap.size, 0, none⟩ = some (.int .i64 1) ∧ w'.cell? ⟨w.heap.size, 1, none⟩ = some (.int .i64 n) ∧ w'.cell? ⟨w.heap.size, 2, none⟩ = some (.string s)) (first | go_keep | (refine ⟨?_, ?_, ?_⟩ <;> (rw [hb.cell (by simp)]; simp)) | (refine ⟨?_, ?_, ?_⟩ <;> (rw [hb2.cell (by have := hb.size; simp at this; simp; omega), hb.cell (by simp)]; simp)))
  (first | (go_at_call 152; refine (implValOfNum _ _).mono ?_; rintro e w1 ⟨rfl, hb⟩) | (go_at_call 156; refine (rightNum _ _).mono ?_; rintro e w2 ⟨rfl, rfl⟩))
 go_wp2
 go_ret2
 exact ⟨rfl, chain1 w _ hb⟩
set_option maxRecDepth 100000 in
set_option maxHeartbeats 1000000 in
theorem held1no (n : Int) (s : ByteArray) (w : World) (hs : s.toList = []) (h : (decide (-1000000000 ≤ n) && decide (n ≤ 1000000000)) = false) :
  Calls Tryz.prog 142 #[.agg #[.int .i64 1, .int .i64 n, .string s]] w (HeldNo w) := by
 have hm := rightOfNum n
 go_enter Tryz.func142, Tryz.ntmps142
 go_wp2_with fail
 go_region_held3 (fun w' => w'.cell? ⟨w.heap.size, 0, none⟩ = some (.int .i64 1) ∧ w'.cell? ⟨w.heap.size, 1, none⟩ = some (.int .i64 n) ∧ w'.cell? ⟨w.heap.size, 2, none⟩ = some (.string s)) (first | go_keep | (refine ⟨?_, ?_, ?_⟩ <;> (rw [hb.cell (by simp)]; simp)) | (refine ⟨?_, ?_, ?_⟩ <;> (rw [hb2.cell (by have := hb.size; simp at this; simp; omega), hb.cell (by simp)]; simp)))
  (first | (go_at_call 152; refine (implValOfNum _ _).mono ?_; rintro e w1 ⟨rfl, hb⟩) | (go_at_call 156; refine (rightNum _ _).mono ?_; rintro e w2 ⟨rfl, rfl⟩))
 go_wp2
 go_ret2
 exact ⟨rfl, chain1 w _ hb⟩
set_option maxRecDepth 100000 in
set_option maxHeartbeats 1000000 in
theorem held1s (n : Int) (s : ByteArray) (w : World) (hs : ¬ s.toList = []) :
  Calls Tryz.prog 142 #[.agg #[.int .i64 1, .int .i64 n, .string s]] w (HeldNo w) := by
 have e1 : (([] : List UInt8) == s.toList) = false := by simpa using hs
 go_enter Tryz.func142, Tryz.ntmps142
 go_wp2_with fail
 first | (go_region_with ((go_at_call 152; refine (implValOfNum _ _).mono ?_; rintro e w1 ⟨rfl, hb⟩; obtain ⟨r0, r1, r2⟩ := boxed hb))) | fail
 all_goals
  go_wp2
  go_ret2
  exact ⟨rfl, chain1 w _ hb⟩
set_option maxRecDepth 100000 in
set_option maxHeartbeats 1000000 in
theorem held2yes (s : ByteArray) (w : World) (h : decide ((s.size : Int) ≤ 12) = true) :
  Calls Tryz.prog 142 #[.agg #[.int .i64 2, .int .i64 0, .string s]] w (HeldOk 2 0 s w) := by
 have hm := rightOfStr s
 go_enter Tryz.func142, Tryz.ntmps142
 go_wp2_with fail
 go_region_held3 (fun w' => w'.cell? ⟨w.heap.size, 0, none⟩ = some (.int .i64 2) ∧ w'.cell? ⟨w.heap.size, 1, none⟩ = some (.int .i64 0) ∧ w'.cell? ⟨w.heap.size, 2, none⟩ = some (.string s)) (first | go_keep | (refine ⟨?_, ?_, ?_⟩ <;> (rw [hb.cell (by simp)]; simp)) | (refine ⟨?_, ?_, ?_⟩ <;> (rw [hb2.cell (by have := hb.size; simp at this; simp; omega), hb.cell (by simp)]; simp)))
  (first | (go_at_call 152; refine (implValOfStr _ _).mono ?_; rintro e w1 ⟨rfl, hb⟩) | (go_at_call 181; refine (rightStr _ _).mono ?_; rintro e w2 ⟨rfl, rfl⟩))
 go_wp2
 go_ret2
 exact ⟨rfl, chain1 w _ hb⟩
set_option maxRecDepth 100000 in
set_option maxHeartbeats 1000000 in
theorem held2no (s : ByteArray) (w : World) (h : decide ((s.size : Int) ≤ 12) = false) :
  Calls Tryz.prog 142 #[.agg #[.int .i64 2, .int .i64 0, .string s]] w (HeldNo w) := by
 have hm := rightOfStr s
 go_enter Tryz.func142, Tryz.ntmps142
 go_wp2_with fail
 go_region_held3 (fun w' => w'.cell? ⟨w.heap.size, 0, none⟩ = some (.int .i64 2) ∧ w'.cell? ⟨w.heap.size, 1, none⟩ = some (.int .i64 0) ∧ w'.cell? ⟨w.heap.size, 2, none⟩ = some (.string s)) (first | go_keep | (refine ⟨?_, ?_, ?_⟩ <;> (rw [hb.cell (by simp)]; simp)) | (refine ⟨?_, ?_, ?_⟩ <;> (rw [hb2.cell (by have := hb.size; simp at this; simp; omega), hb.cell (by simp)]; simp)))
  (first | (go_at_call 152; refine (implValOfStr _ _).mono ?_; rintro e w1 ⟨rfl, hb⟩) | (go_at_call 181; refine (rightStr _ _).mono ?_; rintro e w2 ⟨rfl, rfl⟩))
 go_wp2
 go_ret2
 exact ⟨rfl, chain1 w _ hb⟩
set_option maxRecDepth 100000 in
set_option maxHeartbeats 1000000 in
theorem held2n (n : Int) (s : ByteArray) (w : World) (hn : ¬ n = 0) :
  Calls Tryz.prog 142 #[.agg #[.int .i64 2, .int .i64 n, .string s]] w (HeldNo w) := by
 have e1 : (0 == n) = false := by simp; omega
 go_enter Tryz.func142, Tryz.ntmps142
 go_wp2_with fail
 first | (go_region_with ((go_at_call 152; refine (implValOfStr _ _).mono ?_; rintro e w1 ⟨rfl, hb⟩; obtain ⟨r0, r1, r2⟩ := boxed hb))) | fail
 all_goals
  go_wp2
  go_ret2
  exact ⟨rfl, chain1 w _ hb⟩
theorem heldElse (k n : Int) (s : ByteArray) (w : World) (k0 : (k == 0) = false) (k1 : (k == 1) = false) (k2 : (k == 2) = false) :
  Calls Tryz.prog 142 #[.agg #[.int .i64 k, .int .i64 n, .string s]] w (HeldNo w) := by
 go_enter Tryz.func142, Tryz.ntmps142
 go_wp2
 go_ret2
 exact ⟨rfl, (Below.refl _ _).alloc (Nat.le_refl _) _⟩
theorem heldYes (k n : Int) (s : ByteArray) (w : World) (h : valOkB k n s = true) :
  Calls Tryz.prog 142 #[.agg #[.int .i64 k, .int .i64 n, .string s]] w (HeldOk k n s w) := by
 unfold valOkB at h
 by_cases k0 : k = 0
 ·subst k0
  simp at h
  obtain ⟨rfl, hs⟩ := h
  exact held0yes s w hs
 by_cases k1 : k = 1
 ·subst k1
  simp at h
  exact held1yes n s w h.2 (by simpa using h.1)
 by_cases k2 : k = 2
 ·subst k2
  simp at h
  obtain ⟨rfl, hs⟩ := h
  exact held2yes s w (by simpa using hs)
 ·simp [k0, k1, k2] at h
theorem heldNo (k n : Int) (s : ByteArray) (w : World) (h : valOkB k n s = false) :
  Calls Tryz.prog 142 #[.agg #[.int .i64 k, .int .i64 n, .string s]] w (HeldNo w) := by
 unfold valOkB at h
 by_cases k0 : k = 0
 ·subst k0
  by_cases hs : s.toList = []
  ·by_cases hn : n = 0
   ·simp [hs, hn] at h
   ·exact held0n n s w hn
  ·exact held0s n s w hs
 by_cases k1 : k = 1
 ·subst k1
  by_cases hs : s.toList = []
  ·refine held1no n s w hs ?_
   simpa [hs] using h
  ·exact held1s n s w hs
 by_cases k2 : k = 2
 ·subst k2
  by_cases hn : n = 0
  ·subst hn
   refine held2no s w ?_
   simpa using h
  ·exact held2n n s w hn
 ·exact heldElse k n s w (by simpa using k0) (by simpa using k1) (by simpa using k2)
theorem implValOk (k n : Int) (s : ByteArray) (w : World) :
  Calls Tryz.prog 132 #[.agg #[.int .i64 k, .int .i64 n, .string s]] w fun e w' => e = .returned (.bool (valOkB k n s)) ∧ Below w.heap.size w w' := by
 have hb0 := (Below.refl w.heap.size w).alloc (Nat.le_refl _) (.cells #[.int .i64 k, .int .i64 n, .string s] 100)
 cases h : valOkB k n s
 ·have H := Lib.hid h; clear h
  go_enter Tryz.func132, Tryz.ntmps132
  go_wp2_with fail
  refine (heldNo k n s _ H.out).mono ?_
  rintro e w1 ⟨rfl, hb⟩
  go_wp2
  go_ret
  exact ⟨rfl, hb0.trans (hb.mono (by simp))⟩
 ·have H := Lib.hid h; clear h
  go_enter Tryz.func132, Tryz.ntmps132
  go_wp2_with fail
  refine (heldYes k n s _ H.out).mono ?_
  rintro e w1 ⟨rfl, hb⟩
  go_wp2
  go_ret
  exact ⟨rfl, hb0.trans (hb.mono (by simp))⟩
def szN (left : Int) (s : ByteArray) : Int := if left - s.size < 0 then -1 else left - s.size
theorem lawsSzVal (k n : Int) (s : ByteArray) (left : Int) (w : World) (h0 : 0 ≤ left) (h1 : left ≤ 1048576) (hs : s.size ≤ maxLen) :
  Calls Tryz.prog 89 #[.agg #[.int .i64 k, .int .i64 n, .string s], .int .i64 left] w fun e w' => e = .returned (.int .i64 (szN left s)) ∧ Below w.heap.size w w' := by
 unfold maxLen at hs
 unfold szN
 by_cases h : left - s.size < 0
 ·rw [if_pos h]
  go_enter Tryz.func89, Tryz.ntmps89
  go_wp2
  go_ret
  exact ⟨rfl, (Below.refl _ _).alloc (Nat.le_refl _) _⟩
 ·rw [if_neg h]
  have h' : decide (left - (s.size : Int) < 0) = false := by simpa using h
  go_enter Tryz.func89, Tryz.ntmps89
  go_wp2
  go_ret
  exact ⟨rfl, (Below.refl _ _).alloc (Nat.le_refl _) _⟩
set_option maxHeartbeats 400000 in
theorem lawsToVal (k n : Int) (s : ByteArray) (w : World) :
  Calls Tryz.prog 97 #[.agg #[.int .i64 k, .int .i64 n, .string s]] w fun e w' => e = .returned (.agg #[.int .i64 k, .int .i64 n, .string s]) ∧ Below w.heap.size w w' := by
 go_enter Tryz.func97, Tryz.ntmps97
 go_wp2
 exact bodyPost_ret (v := .agg #[.int .i64 k, .int .i64 n, .string s]) (by simp [results, Tryz.results97, go_sem]) rfl
  ⟨rfl, (((Below.refl _ _).alloc (Nat.le_refl _) _).alloc (by simp) _).alloc (by simp; omega) _⟩
structure Vl where
 k : Int
 n : Int
 s : ByteArray
structure Tk where
 k : Int
 c : Int
 vk : Int
 vn : Int
 vs : ByteArray
def zeroB (k n : Int) (s : ByteArray) : Bool := k == 0 && (n == 0 && s.toList.isEmpty)
def isOpB (k : Int) : Bool := decide (3 ≤ k) && decide (k ≤ 10)
def tokB (t : Tk) (cols : Int) : Bool :=
 if t.k = 1 then decide (0 ≤ t.c) && (decide (t.c < cols) && zeroB t.vk t.vn t.vs)
 else if t.k = 2 then t.c == 0 && valOkB t.vk t.vn t.vs
 else if isOpB t.k then t.c == 0 && zeroB t.vk t.vn t.vs else false
def takes (k : Int) : Nat := if k = 7 ∨ k = 8 then 1 else if k = 3 ∨ k = 4 ∨ k = 5 ∨ k = 6 ∨ k = 9 ∨ k = 10 then 2 else 0
def exprGo (cols : Int) : List Tk → Nat → Option Nat
 | [], left => some left
 | t :: ts, left => if tokB t cols = true ∧ takes t.k ≤ left then exprGo cols ts (left - takes t.k + 1) else none
def exprB (ts : List Tk) (cols : Int) : Bool := decide (0 ≤ cols) && (decide (cols ≤ 16) && (decide (ts.length ≤ 24) && exprGo cols ts 0 == some 1))
theorem exprGo_append (cols : Int) : ∀ (a b : List Tk) (n : Nat), exprGo cols (a ++ b) n = (exprGo cols a n).bind (exprGo cols b)
 | [], b, n => rfl
 | t :: ts, b, n => by
  simp only [List.cons_append, exprGo]
  split
  ·exact exprGo_append cols ts b _
  ·rfl
theorem takes_le (k : Int) : takes k ≤ 2 := by unfold takes; split <;> (try split) <;> omega
theorem exprGo_snoc (cols : Int) (ts : List Tk) (i : Nat) (hi : i < ts.length) (n m : Nat) (h : exprGo cols (ts.take i) n = some m) :
  exprGo cols (ts.take (i + 1)) n = if tokB ts[i] cols = true ∧ takes ts[i].k ≤ m then some (m - takes ts[i].k + 1) else none := by
 rw [List.take_succ_eq_append_getElem hi, exprGo_append, h]
 simp [exprGo]
theorem exprGo_dead (cols : Int) (ts : List Tk) (i : Nat) (n : Nat) (h : exprGo cols (ts.take i) n = none) : exprGo cols ts n = none := by
 have e : ts = ts.take i ++ ts.drop i := (List.take_append_drop i ts).symm
 rw [e, exprGo_append, h]
 rfl
def Tk.cells (t : Tk) : List Value := [.int .i64 t.k, .int .i64 t.c, .int .i64 t.vk, .int .i64 t.vn, .string t.vs]
def Toks (w : World) (A : Option Addr) (n : Nat) (ts : List Tk) : Prop := Cellz w 5 A n (ts.map Tk.cells)
theorem Toks.len {w : World} {A : Option Addr} {n : Nat} {ts : List Tk} (h : Toks w A n ts) : ts.length = n := by simpa using h.1
theorem Toks.below {w w' : World} {A : Option Addr} {n : Nat} {ts : List Tk} (h : Toks w A n ts) (hb : Below w.heap.size w w') : Toks w' A n ts := Cellz.below h hb
theorem Toks.at_ {w : World} {A : Option Addr} {n : Nat} {ts : List Tk} (h : Toks w A n ts) {i : Nat} (hi : i < ts.length) :
  ∃ b off, A = some ⟨b, off, none⟩ ∧ w.cell? ⟨b, off + i * 5, none⟩ = some (.int .i64 ts[i].k) ∧ w.cell? ⟨b, off + i * 5 + 1, none⟩ = some (.int .i64 ts[i].c) ∧
   w.cell? ⟨b, off + i * 5 + 2, none⟩ = some (.int .i64 ts[i].vk) ∧ w.cell? ⟨b, off + i * 5 + 3, none⟩ = some (.int .i64 ts[i].vn) ∧ w.cell? ⟨b, off + i * 5 + 4, none⟩ = some (.string ts[i].vs) := by
 have hl := h.len
 obtain ⟨b, off, rfl, hc⟩ := h.2.2 (by omega)
 have hi' : i < (ts.map Tk.cells).length := by simpa using hi
 have g : ∀ j v, ts[i].cells[j]? = some v → w.cell? ⟨b, off + i * 5 + j, none⟩ = some v := by
  intro j v hv
  have e : (ts.map Tk.cells)[i] = ts[i].cells := by simp
  obtain ⟨hj, hv'⟩ := List.getElem?_eq_some_iff.1 hv
  have := hc i hi' j (by rw [e]; exact hj)
  rw [Nat.add_assoc, this]
  simp only [e, hv']
 exact ⟨b, off, rfl, g 0 _ rfl, g 1 _ rfl, g 2 _ rfl, g 3 _ rfl, g 4 _ rfl⟩
theorem implIsOp (k : Int) (w : World) : Calls Tryz.prog 141 #[.int .i64 k] w fun e w' => e = .returned (.bool (isOpB k)) ∧ w = w' := by
 unfold isOpB
 by_cases h : 3 ≤ k
 ·go_enter Tryz.func141, Tryz.ntmps141
  go_wp2
  go_ret
  exact ⟨retB (by simp [h]), rfl⟩
 ·have h' : decide (3 ≤ k) = false := by simpa using h
  go_enter Tryz.func141, Tryz.ntmps141
  go_wp2
  go_ret
  exact ⟨retB (by simp), rfl⟩
set_option maxRecDepth 100000 in
set_option maxHeartbeats 1000000 in
theorem implTokOk (t : Tk) (cols : Int) (w : World) :
  Calls Tryz.prog 131 #[.agg #[.int .i64 t.k, .int .i64 t.c, .int .i64 t.vk, .int .i64 t.vn, .string t.vs], .int .i64 cols] w fun e w' => e = .returned (.bool (tokB t cols)) ∧ Below w.heap.size w w' := by
 obtain ⟨k, c, vk, vn, vs⟩ := t
 have hb := (Below.refl w.heap.size w).alloc (Nat.le_refl _) (.cells #[.int .i64 k, .int .i64 c, .int .i64 vk, .int .i64 vn, .string vs] 139)
 have HB := Lib.hid hb
 clear hb
 by_cases h1 : k = 1
 ·subst h1
  go_enter Tryz.func131, Tryz.ntmps131
  go_wp2
  all_goals
   go_ret
   exact ⟨retB (by first | (simp [tokB, zeroB, *]; done) | (simp [tokB, zeroB]; omega)), (Below.refl _ _).alloc (Nat.le_refl _) _⟩
 have e1 : (k == 1) = false := by simpa using h1
 by_cases h2 : k = 2
 ·subst h2
  by_cases hc : c = 0
  ·subst hc
   go_enter Tryz.func131, Tryz.ntmps131
   go_wp2_with fail
   refine (implValOk _ _ _ _).mono ?_
   rintro e w1 ⟨rfl, hb1⟩
   go_wp2
   go_ret
   exact ⟨retB (by simp [tokB]), HB.out.trans (hb1.mono (by simp))⟩
  ·have ec : (c == 0) = false := by simpa using hc
   go_enter Tryz.func131, Tryz.ntmps131
   go_wp2
   go_ret
   exact ⟨retB (by simp [tokB, hc]), (Below.refl _ _).alloc (Nat.le_refl _) _⟩
 have e2 : (k == 2) = false := by simpa using h2
 cases ho : isOpB k
 ·have HO := Lib.hid ho
  go_enter Tryz.func131, Tryz.ntmps131
  go_wp2_with fail
  refine (implIsOp _ _).mono ?_
  rintro e w1 ⟨rfl, rfl⟩
  go_wp2
  go_ret
  exact ⟨retB (by simp [tokB, h1, h2, HO.out]), (Below.refl _ _).alloc (Nat.le_refl _) _⟩
 ·have HO := Lib.hid ho
  go_enter Tryz.func131, Tryz.ntmps131
  go_wp2_with fail
  refine (implIsOp _ _).mono ?_
  rintro e w1 ⟨rfl, rfl⟩
  go_wp2
  all_goals
   go_ret
   exact ⟨retB (by simp [tokB, zeroB, HO.out, *]), (Below.refl _ _).alloc (Nat.le_refl _) _⟩
def opsCells : Array Value := #[.string ⟨#[]⟩, .int .i64 0, .nilFunc, .string ⟨#[]⟩, .int .i64 0, .nilFunc, .string ⟨#[]⟩, .int .i64 0, .nilFunc, .string ⟨#[61]⟩, .int .i64 2, .func (.func 133) #[] #[], .string ⟨#[60]⟩, .int .i64 2, .func (.func 134) #[] #[], .string ⟨#[97, 110, 100]⟩, .int .i64 2, .func (.func 135) #[] #[], .string ⟨#[111, 114]⟩, .int .i64 2, .func (.func 136) #[] #[], .string ⟨#[110, 111, 116]⟩, .int .i64 1, .func (.func 137) #[] #[], .string ⟨#[105, 115, 110, 117, 108, 108]⟩, .int .i64 1, .func (.func 138) #[] #[], .string ⟨#[43]⟩, .int .i64 2, .func (.func 139) #[] #[], .string ⟨#[45]⟩, .int .i64 2, .func (.func 140) #[] #[]]
def opsZero : Array Value := #[.string ⟨#[]⟩, .int .i64 0, .nilFunc, .string ⟨#[]⟩, .int .i64 0, .nilFunc, .string ⟨#[]⟩, .int .i64 0, .nilFunc, .string ⟨#[]⟩, .int .i64 0, .nilFunc, .string ⟨#[]⟩, .int .i64 0, .nilFunc, .string ⟨#[]⟩, .int .i64 0, .nilFunc, .string ⟨#[]⟩, .int .i64 0, .nilFunc, .string ⟨#[]⟩, .int .i64 0, .nilFunc, .string ⟨#[]⟩, .int .i64 0, .nilFunc, .string ⟨#[]⟩, .int .i64 0, .nilFunc, .string ⟨#[]⟩, .int .i64 0, .nilFunc]
set_option maxRecDepth 100000 in
set_option maxHeartbeats 1000000 in
theorem implOpTable (w : World) :
  Calls Tryz.prog 130 #[] w fun e w' => e = .returned (.agg opsCells) ∧ Below w.heap.size w w' := by
 have hsz : (Tryz.prog.info? 180).map (·.size) = some opsCells.size := by kernel_rfl
 have hg := Go.heap_alloc_last w (.cells opsCells 180)
 have h1 : opsCells.all (·.oneCell') = true := by simp [opsCells, Value.oneCell']
 have HS := Lib.hid hsz
 have H1 := Lib.hid h1
 have HG := Lib.hid hg
 clear hsz hg h1
 go_enter Tryz.func130, Tryz.ntmps130
 go_wp2_with (refine wpList_store_row rfl 180 (.tmp 0) (.tmp 9) rfl w.heap.size opsCells rfl rfl 180 opsZero (Go.heap_alloc_last w (.cells opsZero 180)) HS.out rfl H1.out ?_)
 rw [World.setRow_alloc_new]
 exact bodyPost_ret (results_cell_row (p := 0) (ty := 180) rfl _ _ w.heap.size 180 opsCells (0, 0) _ rfl HG.out Tryz.underlying180 rfl HS.out) rfl ⟨rfl, (Below.refl _ _).alloc (Nat.le_refl _) _⟩
def takesOr (t : Tk) (cols : Int) : Int := if tokB t cols = true then takes t.k else -1
set_option maxRecDepth 100000 in
set_option maxHeartbeats 4000000 in
theorem specTakes (t : Tk) (cols : Int) (w : World) (h0 : 0 ≤ cols) (h16 : cols ≤ 16) :
  Calls Tryz.prog 119 #[.agg #[.int .i64 t.k, .int .i64 t.c, .int .i64 t.vk, .int .i64 t.vn, .string t.vs], .int .i64 cols] w fun e w' => e = .returned (.int .i64 (takesOr t cols)) ∧ Below w.heap.size w w' := by
 obtain ⟨k, c, vk, vn, vs⟩ := t
 by_cases h1 : k = 1
 ·subst h1
  go_enter Tryz.func119, Tryz.ntmps119
  go_wp2_with (go_at_call 92; refine (specIn _ _ _ _).mono ?_; rintro e w1 ⟨rfl, rfl⟩)
  all_goals
   go_ret
   exact ⟨retI (by first | (simp [takesOr, tokB, zeroB, takes, *]; done) | (simp [takesOr, tokB, zeroB, takes, *]; omega)), (Below.refl _ _).alloc (Nat.le_refl _) _⟩
 have e1 : (k == 1) = false := by simpa using h1
 have d1 : (k != 1) = true := by simpa using h1
 by_cases h2 : k = 2
 ·subst h2
  by_cases hc : c = 0
  ·subst hc
   go_enter Tryz.func119, Tryz.ntmps119
   go_wp2_with fail
   refine (specValOk _ _ _ _).mono ?_
   rintro e w1 ⟨rfl, hb1⟩
   have HB := Lib.hid (((Below.refl w.heap.size w).alloc (Nat.le_refl _) _).trans (hb1.mono (by simp)))
   clear hb1
   go_wp2
   all_goals
    go_ret
    exact ⟨retI (by simp [takesOr, tokB, takes, *]), HB.out⟩
  ·have ec : (c != 0) = true := by simpa using hc
   go_enter Tryz.func119, Tryz.ntmps119
   go_wp2
   go_ret
   exact ⟨retI (by simp [takesOr, tokB, hc]), (Below.refl _ _).alloc (Nat.le_refl _) _⟩
 have e2 : (k == 2) = false := by simpa using h2
 have d2 : (k != 2) = true := by simpa using h2
 by_cases h7 : k = 7
 ·subst h7
  by_cases hc : c = 0
  ·subst hc
   go_enter Tryz.func119, Tryz.ntmps119
   go_wp2
   all_goals
    go_ret
    exact ⟨retI (by simp [takesOr, tokB, zeroB, isOpB, takes, *]), (Below.refl _ _).alloc (Nat.le_refl _) _⟩
  ·have ec : (c != 0) = true := by simpa using hc
   go_enter Tryz.func119, Tryz.ntmps119
   go_wp2
   go_ret
   exact ⟨retI (by simp [takesOr, tokB, isOpB, hc]), (Below.refl _ _).alloc (Nat.le_refl _) _⟩
 have e7 : (k == 7) = false := by simpa using h7
 by_cases h8 : k = 8
 ·subst h8
  by_cases hc : c = 0
  ·subst hc
   go_enter Tryz.func119, Tryz.ntmps119
   go_wp2
   all_goals
    go_ret
    exact ⟨retI (by simp [takesOr, tokB, zeroB, isOpB, takes, *]), (Below.refl _ _).alloc (Nat.le_refl _) _⟩
  ·have ec : (c != 0) = true := by simpa using hc
   go_enter Tryz.func119, Tryz.ntmps119
   go_wp2
   go_ret
   exact ⟨retI (by simp [takesOr, tokB, isOpB, hc]), (Below.refl _ _).alloc (Nat.le_refl _) _⟩
 have e8 : (k == 8) = false := by simpa using h8
 by_cases h3 : k = 3
 ·subst h3
  by_cases hc : c = 0
  ·subst hc
   go_enter Tryz.func119, Tryz.ntmps119
   go_wp2
   all_goals
    go_ret
    exact ⟨retI (by simp [takesOr, tokB, zeroB, isOpB, takes, *]), (Below.refl _ _).alloc (Nat.le_refl _) _⟩
  ·have ec : (c != 0) = true := by simpa using hc
   go_enter Tryz.func119, Tryz.ntmps119
   go_wp2
   go_ret
   exact ⟨retI (by simp [takesOr, tokB, isOpB, hc]), (Below.refl _ _).alloc (Nat.le_refl _) _⟩
 have e3 : (k == 3) = false := by simpa using h3
 by_cases h4 : k = 4
 ·subst h4
  by_cases hc : c = 0
  ·subst hc
   go_enter Tryz.func119, Tryz.ntmps119
   go_wp2
   all_goals
    go_ret
    exact ⟨retI (by simp [takesOr, tokB, zeroB, isOpB, takes, *]), (Below.refl _ _).alloc (Nat.le_refl _) _⟩
  ·have ec : (c != 0) = true := by simpa using hc
   go_enter Tryz.func119, Tryz.ntmps119
   go_wp2
   go_ret
   exact ⟨retI (by simp [takesOr, tokB, isOpB, hc]), (Below.refl _ _).alloc (Nat.le_refl _) _⟩
 have e4 : (k == 4) = false := by simpa using h4
 by_cases h5 : k = 5
 ·subst h5
  by_cases hc : c = 0
  ·subst hc
   go_enter Tryz.func119, Tryz.ntmps119
   go_wp2
   all_goals
    go_ret
    exact ⟨retI (by simp [takesOr, tokB, zeroB, isOpB, takes, *]), (Below.refl _ _).alloc (Nat.le_refl _) _⟩
  ·have ec : (c != 0) = true := by simpa using hc
   go_enter Tryz.func119, Tryz.ntmps119
   go_wp2
   go_ret
   exact ⟨retI (by simp [takesOr, tokB, isOpB, hc]), (Below.refl _ _).alloc (Nat.le_refl _) _⟩
 have e5 : (k == 5) = false := by simpa using h5
 by_cases h6 : k = 6
 ·subst h6
  by_cases hc : c = 0
  ·subst hc
   go_enter Tryz.func119, Tryz.ntmps119
   go_wp2
   all_goals
    go_ret
    exact ⟨retI (by simp [takesOr, tokB, zeroB, isOpB, takes, *]), (Below.refl _ _).alloc (Nat.le_refl _) _⟩
  ·have ec : (c != 0) = true := by simpa using hc
   go_enter Tryz.func119, Tryz.ntmps119
   go_wp2
   go_ret
   exact ⟨retI (by simp [takesOr, tokB, isOpB, hc]), (Below.refl _ _).alloc (Nat.le_refl _) _⟩
 have e6 : (k == 6) = false := by simpa using h6
 by_cases h9 : k = 9
 ·subst h9
  by_cases hc : c = 0
  ·subst hc
   go_enter Tryz.func119, Tryz.ntmps119
   go_wp2
   all_goals
    go_ret
    exact ⟨retI (by simp [takesOr, tokB, zeroB, isOpB, takes, *]), (Below.refl _ _).alloc (Nat.le_refl _) _⟩
  ·have ec : (c != 0) = true := by simpa using hc
   go_enter Tryz.func119, Tryz.ntmps119
   go_wp2
   go_ret
   exact ⟨retI (by simp [takesOr, tokB, isOpB, hc]), (Below.refl _ _).alloc (Nat.le_refl _) _⟩
 have e9 : (k == 9) = false := by simpa using h9
 by_cases h10 : k = 10
 ·subst h10
  by_cases hc : c = 0
  ·subst hc
   go_enter Tryz.func119, Tryz.ntmps119
   go_wp2
   all_goals
    go_ret
    exact ⟨retI (by simp [takesOr, tokB, zeroB, isOpB, takes, *]), (Below.refl _ _).alloc (Nat.le_refl _) _⟩
  ·have ec : (c != 0) = true := by simpa using hc
   go_enter Tryz.func119, Tryz.ntmps119
   go_wp2
   go_ret
   exact ⟨retI (by simp [takesOr, tokB, isOpB, hc]), (Below.refl _ _).alloc (Nat.le_refl _) _⟩
 have e10 : (k == 10) = false := by simpa using h10
 have ho : isOpB k = false := by unfold isOpB; simp; omega
 have HO := Lib.hid ho
 clear ho
 by_cases hc : c = 0
 ·subst hc
  go_enter Tryz.func119, Tryz.ntmps119
  go_wp2
  all_goals
   go_ret
   exact ⟨retI (by simp [takesOr, tokB, h1, h2, HO.out]), (Below.refl _ _).alloc (Nat.le_refl _) _⟩
 ·have ec : (c != 0) = true := by simpa using hc
  go_enter Tryz.func119, Tryz.ntmps119
  go_wp2
  all_goals
   go_ret
   exact ⟨retI (by simp [takesOr, tokB, h1, h2, HO.out]), (Below.refl _ _).alloc (Nat.le_refl _) _⟩
def l2B (ts : List Tk) (cols : Int) : Bool := exprGo cols ts 0 == some 1 && decide (ts.length ≤ 24)
set_option maxRecDepth 100000 in
set_option maxHeartbeats 1000000 in
theorem specL2Expr (A : Option Addr) (n cap : Nat) (ts : List Tk) (cols : Int) (w : World) (h : Toks w A n ts) (hn : n ≤ maxLen) (h0 : 0 ≤ cols) (h16 : cols ≤ 16) :
  Calls Tryz.prog 96 #[.slice A n cap, .int .i64 cols] w fun e w' => e = .returned (.bool (l2B ts cols)) ∧ Below w.heap.size w w' := by
 unfold maxLen at hn
 obtain rfl : n = ts.length := h.len.symm
 go_enter Tryz.func96, Tryz.ntmps96
 go_wp2
 go_loopw [5, 6] (fun m i wr => ∃ k l : Nat, k ≤ ts.length ∧ i = .int .i64 k ∧ m = .int .i64 l ∧ l ≤ k ∧ Hid (exprGo cols (ts.take k) 0 = some l) ∧ Below w.heap.size w wr) (fun _ i _ => ts.length - (intOf i).toNat)
 case atStart => exact ⟨0, 0, by omega, rfl, rfl, by omega, Lib.hid (by simp [exprGo]), Below.refl _ _⟩
 case round =>
  obtain ⟨k, l, hk, rfl, rfl, hlk, hgo, hb⟩ := hrel
  by_cases hlt : k < ts.length
  ·obtain ⟨b, off, rfl, c0, c1, c2, c3, c4⟩ := (h.below hb).at_ hlt
   have hsn := Lib.hid (exprGo_snoc cols ts k hlt 0 l hgo.out)
   by_cases ht : tokB ts[k] cols = true ∧ takes ts[k].k ≤ l
   ·have HT := Lib.hid ht
    have hq : takesOr ts[k] cols = takes ts[k].k := by simp [takesOr, ht.1]
    have HQ := Lib.hid hq
    have hq2 := takes_le ts[k].k
    have hq3 := ht.2
    clear hq ht
    go_wp2_with fail
    refine (specTakes ts[k] cols _ h0 h16).mono ?_
    rintro e w1 ⟨rfl, hb1⟩
    rw [HQ.out]
    generalize takes ts[k].k = q at *
    go_wp2_with fail
    go_roundw
    case rel => exact ⟨k + 1, l - q + 1, by omega, by go_num, by go_num, by omega, Lib.hid (by rw [hsn.out, if_pos HT.out]), hb.trans (hb1.mono hb.size)⟩
    case measure => simp [intOf]; omega
   ·have HT := Lib.hid ht
    have hd : exprGo cols ts 0 = none := exprGo_dead cols ts (k + 1) 0 (by rw [hsn.out, if_neg ht])
    have HD := Lib.hid (show l2B ts cols = false by simp [l2B, hd])
    by_cases ht1 : tokB ts[k] cols = true
    ·have hq : takesOr ts[k] cols = takes ts[k].k := by simp [takesOr, ht1]
     have HQ := Lib.hid hq
     have hq2 := takes_le ts[k].k
     have hq3 : l < takes ts[k].k := Nat.lt_of_not_le fun x => ht ⟨ht1, x⟩
     clear hq ht hd ht1
     go_wp2_with fail
     refine (specTakes ts[k] cols _ h0 h16).mono ?_
     rintro e w1 ⟨rfl, hb1⟩
     rw [HQ.out]
     generalize takes ts[k].k = q at *
     go_wp2_with fail
     go_ret
     exact ⟨retB (by rw [HD.out]), hb.trans (hb1.mono hb.size)⟩
    ·have hq : takesOr ts[k] cols = -1 := by simp [takesOr, ht1]
     have HQ := Lib.hid hq
     clear hq ht hd ht1
     go_wp2_with fail
     refine (specTakes ts[k] cols _ h0 h16).mono ?_
     rintro e w1 ⟨rfl, hb1⟩
     rw [HQ.out]
     go_wp2_with fail
     go_ret
     exact ⟨retB (by rw [HD.out]), hb.trans (hb1.mono hb.size)⟩
  ·have e : ts.take k = ts := List.take_of_length_le (by omega)
   have hg2 := hgo.out
   rw [e] at hg2
   have HF := Lib.hid (show l2B ts cols = (l == 1 && decide (ts.length ≤ 24)) by simp [l2B, hg2])
   clear hgo e hg2
   by_cases hl1 : l = 1
   ·subst hl1
    go_wp2
    go_ret
    exact ⟨retB (by rw [HF.out]; simp; omega), hb⟩
   ·have el : ((l : Int) == 1) = false := by simp; omega
    go_wp2
    go_ret
    exact ⟨retB (by rw [HF.out]; simp [hl1]), hb⟩
theorem ops_takes (k : Nat) (h : k < 11) : opsCells[k * 3 + 1]? = some (.int .i64 (takes k)) := by
 have : k = 0 ∨ k = 1 ∨ k = 2 ∨ k = 3 ∨ k = 4 ∨ k = 5 ∨ k = 6 ∨ k = 7 ∨ k = 8 ∨ k = 9 ∨ k = 10 := by omega
 rcases this with rfl | rfl | rfl | rfl | rfl | rfl | rfl | rfl | rfl | rfl | rfl <;> rfl
theorem tokB_kind {t : Tk} {cols : Int} (h : tokB t cols = true) : 1 ≤ t.k ∧ t.k ≤ 10 := by
 unfold tokB isOpB at h
 split at h
 ·omega
 ·split at h
  ·omega
  ·split at h
   ·rename_i h'; simp at h'; omega
   ·cases h
theorem new_at {w w' : World} {xs : Array Value} {T : TypeId} (hb : Below (w.alloc (.cells xs T)).heap.size (w.alloc (.cells xs T)) w') (j : Nat) (v : Value) (hv : xs[j]? = some v) : w'.cell? ⟨w.heap.size, j, none⟩ = some v := by
 rw [hb.cell (by simp), World.cell?_alloc_new]
 exact hv
set_option maxRecDepth 100000 in
set_option maxHeartbeats 1000000 in
theorem implExprOk (A : Option Addr) (n cap : Nat) (ts : List Tk) (cols : Int) (w : World) (h : Toks w A n ts) (hn : n ≤ maxLen) :
  Calls Tryz.prog 124 #[.slice A n cap, .int .i64 cols] w fun e w' => e = .returned (.bool (exprB ts cols)) ∧ Below w.heap.size w w' := by
 unfold maxLen at hn
 obtain rfl : n = ts.length := h.len.symm
 by_cases h0 : cols < 0
 ·go_enter Tryz.func124, Tryz.ntmps124
  go_wp2
  go_ret
  exact ⟨retB (by simp [exprB]; omega), Below.refl _ _⟩
 have e0 : decide (cols < 0) = false := by simpa using h0
 by_cases h16 : 16 < cols
 ·go_enter Tryz.func124, Tryz.ntmps124
  go_wp2
  go_ret
  exact ⟨retB (by simp [exprB]; omega), Below.refl _ _⟩
 have e16 : decide (16 < cols) = false := by simpa using h16
 by_cases h24 : (24 : Int) < ts.length
 ·go_enter Tryz.func124, Tryz.ntmps124
  go_wp2
  go_ret
  exact ⟨retB (by simp [exprB]; omega), Below.refl _ _⟩
 have e24 : decide ((24 : Int) < ts.length) = false := by simpa using h24
 go_enter Tryz.func124, Tryz.ntmps124
 go_wp2_with fail
 refine (implOpTable _).mono ?_
 rintro e w1 ⟨rfl, hb1⟩
 have hs1 : (Tryz.prog.info? 180).map (·.size) = some opsCells.size := by kernel_rfl
 have hs2 : opsCells.all (·.oneCell') = true := by simp [opsCells, Value.oneCell']
 have S1 := Lib.hid hs1
 have S2 := Lib.hid hs2
 clear hs1 hs2
 go_wp2_with (refine wpList_store_row rfl 180 (.tmp 5) (.tmp 20) rfl w1.heap.size opsCells rfl rfl 180 opsZero (Go.heap_alloc_last w1 (.cells opsZero 180)) S1.out rfl S2.out ?_)
 rw [World.setRow_alloc_new]
 have hg := Go.heap_alloc_last w1 (.cells opsCells 180)
 have hb2 := hb1.trans (((Below.refl w1.heap.size w1).alloc (Nat.le_refl _) (.cells opsCells 180)).mono hb1.size)
 have hg0 : w.heap.size ≤ w1.heap.size := hb1.size
 generalize w1.alloc (.cells opsCells 180) = w2 at *
 generalize w1.heap.size = g at *
 have HG := Lib.hid hg
 clear hg hb1 S1 S2
 go_loopw [6, 23] (fun m i wr => ∃ k l : Nat, k ≤ ts.length ∧ i = .int .i64 k ∧ m = .int .i64 l ∧ l ≤ k ∧ Hid (exprGo cols (ts.take k) 0 = some l) ∧ Below w2.heap.size w2 wr) (fun _ i _ => ts.length - (intOf i).toNat)
 case atStart => exact ⟨0, 0, by omega, rfl, rfl, by omega, Lib.hid (by simp [exprGo]), Below.refl _ _⟩
 case round =>
  obtain ⟨k, l, hk, rfl, rfl, hlk, hgo, hb⟩ := hrel
  by_cases hlt : k < ts.length
  ·obtain ⟨b, off, rfl, c0, c1, c2, c3, c4⟩ := (h.below (hb2.trans (hb.mono hb2.size))).at_ hlt
   have hsn := Lib.hid (exprGo_snoc cols ts k hlt 0 l hgo.out)
   cases ht : tokB ts[k] cols
   ·have HD := Lib.hid (show exprB ts cols = false by
     have hd := exprGo_dead cols ts (k + 1) 0 (by rw [hsn.out, if_neg (by simp [ht])])
     simp [exprB, hd])
    have HT := Lib.hid ht
    clear ht hsn
    go_wp2_with fail
    refine (implTokOk ts[k] cols _).mono ?_
    rintro e w3 ⟨rfl, hb3⟩
    rw [HT.out]
    go_wp2_with fail
    go_ret
    exact ⟨retB (by rw [HD.out]), hb2.trans ((hb.trans ((((Below.refl wr.heap.size wr).alloc (Nat.le_refl _) _).trans (hb3.mono (by simp))).mono hb.size)).mono hb2.size)⟩
   ·have HT := Lib.hid ht
    obtain ⟨k1, k10⟩ := tokB_kind ht
    obtain ⟨kk, hkk⟩ := Int.eq_ofNat_of_zero_le (show 0 ≤ ts[k].k by omega)
    have hk11 : kk < 11 := by omega
    have hops := ops_takes kk hk11
    have htk : takes ts[k].k = takes kk := by rw [hkk]
    have HOPS := Lib.hid hops
    have HTK := Lib.hid htk
    have HKK := Lib.hid hkk
    have hq2 := takes_le kk
    clear ht hops htk hkk k1 k10
    go_wp2_with fail
    refine (implTokOk ts[k] cols _).mono ?_
    rintro e w3 ⟨rfl, hb3⟩
    rw [HT.out]
    have hbt := hb.trans ((((Below.refl wr.heap.size wr).alloc (Nat.le_refl _) _).trans (hb3.mono (by simp))).mono hb.size)
    have t0 : w3.cell? ⟨wr.heap.size, 0, none⟩ = some (.int .i64 kk) := new_at hb3 0 _ (by rw [← HKK.out]; rfl)
    have g0 : w3.cell? ⟨g, kk * 3 + 1, none⟩ = some (.int .i64 (takes kk)) := by
     rw [hbt.cell (lt_of_block HG.out), cell_of_row _ _ _ _ _ _ HG.out]
     exact HOPS.out
    by_cases hle : takes kk ≤ l
    ·have hle' : decide ((l : Int) < takes kk) = false := by simp; omega
     go_wp2_with fail
     go_roundw
     case rel => exact ⟨k + 1, l - takes kk + 1, by omega, by go_num, by go_num, by omega, Lib.hid (by rw [hsn.out, if_pos ⟨HT.out, by rw [HTK.out]; exact hle⟩, HTK.out]), hbt⟩
     case measure => simp [intOf]; omega
    ·have hle' : decide ((l : Int) < takes kk) = true := by simp; omega
     have HD := Lib.hid (show exprB ts cols = false by
      have hd := exprGo_dead cols ts (k + 1) 0 (by rw [hsn.out, if_neg (by rw [HTK.out]; exact fun x => hle x.2)])
      simp [exprB, hd])
     go_wp2_with fail
     go_ret
     exact ⟨retB (by rw [HD.out]), hb2.trans (hbt.mono hb2.size)⟩
  ·have e : ts.take k = ts := List.take_of_length_le (by omega)
   have hg2 := hgo.out
   rw [e] at hg2
   have HF := Lib.hid (show exprB ts cols = (l == 1) by
    have h24' : ts.length ≤ 24 := by omega
    simp [exprB, hg2, h0, h16, h24'])
   clear hgo e hg2
   go_wp2
   go_ret
   exact ⟨retB (by rw [HF.out, Bool.eq_iff_iff]; simp; omega), hb2.trans (hb.mono hb2.size)⟩
theorem lawsSzTok (t : Tk) (left : Int) (w : World) (h0 : 0 ≤ left) (h1 : left ≤ 1048576) (hs : t.vs.size ≤ maxLen) :
  Calls Tryz.prog 117 #[.agg #[.int .i64 t.k, .int .i64 t.c, .int .i64 t.vk, .int .i64 t.vn, .string t.vs], .int .i64 left] w fun e w' => e = .returned (.int .i64 (szN left t.vs)) ∧ Below w.heap.size w w' := by
 have HB := Lib.hid ((Below.refl w.heap.size w).alloc (Nat.le_refl _) (.cells #[.int .i64 t.k, .int .i64 t.c, .int .i64 t.vk, .int .i64 t.vn, .string t.vs] 165))
 by_cases hn : szN left t.vs < 0
 ·have HN := Lib.hid (show szN left t.vs = -1 by unfold szN at hn ⊢; split at hn <;> simp_all)
  clear hn
  go_enter Tryz.func117, Tryz.ntmps117
  go_wp2_with fail
  refine (lawsSzVal _ _ _ _ _ h0 h1 hs).mono ?_
  rintro e w1 ⟨rfl, hb1⟩
  rw [HN.out]
  go_wp2
  go_ret
  exact ⟨retI (by rw [HN.out]), HB.out.trans (hb1.mono HB.out.size)⟩
 ·have hn' : decide (szN left t.vs < 0) = false := by simpa using hn
  go_enter Tryz.func117, Tryz.ntmps117
  go_wp2_with fail
  refine (lawsSzVal _ _ _ _ _ h0 h1 hs).mono ?_
  rintro e w1 ⟨rfl, hb1⟩
  go_wp2
  go_ret
  exact ⟨rfl, HB.out.trans (hb1.mono HB.out.size)⟩
set_option maxHeartbeats 400000 in
theorem lawsToTok (t : Tk) (w : World) :
  Calls Tryz.prog 120 #[.agg #[.int .i64 t.k, .int .i64 t.c, .int .i64 t.vk, .int .i64 t.vn, .string t.vs]] w fun e w' => e = .returned (.agg #[.int .i64 t.k, .int .i64 t.c, .int .i64 t.vk, .int .i64 t.vn, .string t.vs]) ∧ Below w.heap.size w w' := by
 go_enter Tryz.func120, Tryz.ntmps120
 go_wp2_with fail
 have r2 := Row.new ((w.alloc (.cells #[.int .i64 t.k, .int .i64 t.c, .int .i64 t.vk, .int .i64 t.vn, .string t.vs] 165)).alloc (.cells #[.int .i64 0, .int .i64 0, .int .i64 0, .int .i64 0, .string ⟨#[]⟩] 139)) 139 #[.int .i64 t.k, .int .i64 t.c, .int .i64 0, .int .i64 0, .string ⟨#[]⟩]
 have r1 := (Row.new (w.alloc (.cells #[.int .i64 t.k, .int .i64 t.c, .int .i64 t.vk, .int .i64 t.vn, .string t.vs] 165)) 139 #[.int .i64 0, .int .i64 0, .int .i64 0, .int .i64 0, .string ⟨#[]⟩]).alloc (.cells #[.int .i64 t.k, .int .i64 t.c, .int .i64 0, .int .i64 0, .string ⟨#[]⟩] 139)
 have hb0 := (((Below.refl w.heap.size w).alloc (Nat.le_refl _) (.cells #[.int .i64 t.k, .int .i64 t.c, .int .i64 t.vk, .int .i64 t.vn, .string t.vs] 165)).alloc (by simp) (.cells #[.int .i64 0, .int .i64 0, .int .i64 0, .int .i64 0, .string ⟨#[]⟩] 139)).alloc (by simp; omega) (.cells #[.int .i64 t.k, .int .i64 t.c, .int .i64 0, .int .i64 0, .string ⟨#[]⟩] 139)
 rw [show ((w.alloc (.cells #[.int .i64 t.k, .int .i64 t.c, .int .i64 t.vk, .int .i64 t.vn, .string t.vs] 165)).alloc (.cells #[.int .i64 0, .int .i64 0, .int .i64 0, .int .i64 0, .string ⟨#[]⟩] 139)).heap.size = w.heap.size + 1 + 1 by simp] at r2
 rw [show (w.alloc (.cells #[.int .i64 t.k, .int .i64 t.c, .int .i64 t.vk, .int .i64 t.vn, .string t.vs] 165)).heap.size = w.heap.size + 1 by simp] at r1
 generalize ((w.alloc (.cells #[.int .i64 t.k, .int .i64 t.c, .int .i64 t.vk, .int .i64 t.vn, .string t.vs] 165)).alloc (.cells #[.int .i64 0, .int .i64 0, .int .i64 0, .int .i64 0, .string ⟨#[]⟩] 139)).alloc (.cells #[.int .i64 t.k, .int .i64 t.c, .int .i64 0, .int .i64 0, .string ⟨#[]⟩] 139) = x at *
 refine (lawsToVal _ _ _ _).mono ?_
 rintro e w1 ⟨rfl, hb1⟩
 obtain ⟨⟨c0, c1, c2, c3, c4⟩, ⟨f0, f1, f2, f3, f4⟩⟩ := (r1.below hb1).five
 obtain ⟨⟨d0, d1, d2, d3, d4⟩, ⟨g0, g1, g2, g3, g4⟩⟩ := (r2.below hb1).five
 have hz := hb0.trans (hb1.mono hb0.size)
 clear r1 r2 hb1 hb0
 go_wp2_with fail
 refine bodyPost_ret (v := .agg #[.int .i64 t.k, .int .i64 t.c, .int .i64 t.vk, .int .i64 t.vn, .string t.vs]) (by simp [results, Tryz.results120, go_sem, c0, c1, c2, c3, c4]) rfl ⟨rfl, ?_⟩
 repeat (first | with_reducible exact hz | with_reducible refine Below.drew ?_ | with_reducible refine Below.setCell ?_ (by simp; omega) _ | with_reducible refine Below.setCell ?_ (by simp) _)
theorem mk_rows {P : Program} {t e : TypeId} {sz bs : Nat} {z : Value} (ht : P.underlying t = some (.slice e)) (hi : (P.info? e).map (fun i => (i.zero, i.size, i.bytes)) = some (some z, sz, bs)) (hbs : bs ≤ 100000) (n : Nat) (hn : n ≤ 1048576) (w : World) :
  (Instr.makeSlice t (.int .i64 (n : Int)) (.int .i64 (n : Int))).run P w = .ok (.slice (some ⟨w.heap.size, 0, none⟩) n n) (w.alloc (.cells (madeCells z.cells (n * sz)) e)) := by
 obtain ⟨i, h1, h2, h3, h4⟩ := info_parts hi
 have hb : (i.bytes : Int) * n ≤ 281474976710656 := by
  rw [h4]
  have h5 : bs * n ≤ 100000 * 1048576 := Nat.mul_le_mul hbs hn
  have h6 : ((bs * n : Nat) : Int) ≤ 104857600000 := by omega
  rw [Int.natCast_mul] at h6
  omega
 have hr := run_make (P := P) w t e i z ht h1 h2 .i64 .i64 n n (by omega) (by omega) hb (by omega)
 simp only [Int.toNat_natCast, h3] at hr
 exact hr
theorem lawsEqVal (k n : Int) (s : ByteArray) (w : World) :
  Calls Tryz.prog 115 #[.agg #[.int .i64 k, .int .i64 n, .string s], .agg #[.int .i64 k, .int .i64 n, .string s]] w fun e w' => e = .returned (.bool true) ∧ Below w.heap.size w w' := by
 go_enter Tryz.func115, Tryz.ntmps115
 go_wp2
 go_ret
 exact ⟨rfl, ((Below.refl _ _).alloc (Nat.le_refl _) _).alloc (by simp) _⟩
theorem lawsEqTok (t : Tk) (w : World) :
  Calls Tryz.prog 127 #[.agg #[.int .i64 t.k, .int .i64 t.c, .int .i64 t.vk, .int .i64 t.vn, .string t.vs], .agg #[.int .i64 t.k, .int .i64 t.c, .int .i64 t.vk, .int .i64 t.vn, .string t.vs]] w fun e w' => e = .returned (.bool true) ∧ Below w.heap.size w w' := by
 have hb0 := ((Below.refl w.heap.size w).alloc (Nat.le_refl _) (.cells #[.int .i64 t.k, .int .i64 t.c, .int .i64 t.vk, .int .i64 t.vn, .string t.vs] 139)).alloc (by simp) (.cells #[.int .i64 t.k, .int .i64 t.c, .int .i64 t.vk, .int .i64 t.vn, .string t.vs] 139)
 have HB := Lib.hid hb0
 clear hb0
 go_enter Tryz.func127, Tryz.ntmps127
 go_wp2_with fail
 first | (refine (lawsEqVal _ _ _ _).mono ?_; rintro e w1 ⟨rfl, hb1⟩) | skip
 go_wp2
 go_ret
 exact ⟨rfl, HB.out.trans (hb1.mono HB.out.size)⟩
def szR (left : Int) (n : Nat) : Int := if left < n then -1 else left - n
theorem szR_cases (l : Int) (k : Nat) (_h0 : 0 ≤ l) : (l < k ∧ Hid (szR l k = -1)) ∨ (∃ l' : Int, Hid (szR l k = l') ∧ Hid (l' = l - k) ∧ 0 ≤ l' ∧ l' ≤ l ∧ (k : Int) ≤ l) := by
 by_cases h : l < k
 ·exact .inl ⟨h, Lib.hid (if_pos h)⟩
 ·exact .inr ⟨l - k, Lib.hid (if_neg h), Lib.hid rfl, by omega, by omega, by omega⟩
theorem szR_no {l : Int} {k : Nat} (h : l < k) : (-1 : Int) = szR l k := by unfold szR; rw [if_pos h]
theorem szR_yes {l m : Int} {k : Nat} (h0 : 0 ≤ m) (h : m = l - k) : m = szR l k := by unfold szR; rw [if_neg (by omega)]; exact h
def szL {α : Type} (f : α → Nat) (l : List α) : Nat := l.length + (l.map f).sum
theorem sum_take {α : Type} (f : α → Nat) (l : List α) (k : Nat) (h : k < l.length) : ((l.take (k + 1)).map f).sum = ((l.take k).map f).sum + f l[k] := by
 rw [List.take_succ_eq_append_getElem h, List.map_append, List.sum_append]; simp
theorem sum_take_le {α : Type} (f : α → Nat) (l : List α) (k : Nat) : ((l.take k).map f).sum ≤ (l.map f).sum := by
 have e : (l.map f).sum = ((l.take k).map f).sum + ((l.drop k).map f).sum := by rw [← List.sum_append, ← List.map_append, List.take_append_drop]
 omega
theorem sum_mem_le {α : Type} (f : α → Nat) (l : List α) (k : Nat) (h : k < l.length) : f l[k] ≤ (l.map f).sum := by
 have := sum_take f l k h
 have := sum_take_le f l (k + 1)
 omega
def Vl.cells (v : Vl) : List Value := [.int .i64 v.k, .int .i64 v.n, .string v.s]
end Go.Proofs.YthamekdjfoepmaaGreat
namespace Go.Proofs.YthamekdjfoepmaaGreat
open Go.RowKit
def IntR : Rd Int := FlatR fun n => [.int .i64 n]
def TkR : Rd Tk := FlatR Tk.cells
def VlR : Rd Vl := FlatR Vl.cells
theorem IntR.stays : Stays IntR := FlatR.stays _
theorem TkR.stays : Stays TkR := FlatR.stays _
theorem VlR.stays : Stays VlR := FlatR.stays _
structure Cl where
 name : ByteArray
 kind : Int
 nn : Bool
 d : Vl
def Cl.cells (x : Cl) : List Value := [.string x.name, .int .i64 x.kind, .bool x.nn, .int .i64 x.d.k, .int .i64 x.d.n, .string x.d.s]
def ClR : Rd Cl := FlatR Cl.cells
theorem ClR.stays : Stays ClR := FlatR.stays _
def Cl.sz (x : Cl) : Nat := x.name.size + x.d.s.size
def Cl.wf (x : Cl) : Prop := x.name.size ≤ maxLen ∧ x.d.s.size ≤ maxLen
structure Uq where
 cols : List Int
def UqR : Rd Uq := fun ok w cs x => ∃ (A0 : Option Addr) (n0 c0 : Nat), cs = [.slice A0 n0 c0] ∧ Sl IntR 1 ok w A0 n0 x.cols ∧ (n0 ≤ c0)
theorem UqR.stays : Stays UqR := fun _ _ _ _ _ _ ⟨A0, n0, c0, e, h0, hcp⟩ ho hk => ⟨A0, n0, c0, e, h0.stays IntR.stays ho hk, hcp⟩
def Uq.sz (x : Uq) : Nat := x.cols.length
def Uq.wf (x : Uq) : Prop := x.cols.length ≤ maxLen
structure Ck where
 expr : List Tk
def CkR : Rd Ck := fun ok w cs x => ∃ (A0 : Option Addr) (n0 c0 : Nat), cs = [.slice A0 n0 c0] ∧ Sl TkR 5 ok w A0 n0 x.expr ∧ (n0 ≤ c0)
theorem CkR.stays : Stays CkR := fun _ _ _ _ _ _ ⟨A0, n0, c0, e, h0, hcp⟩ ho hk => ⟨A0, n0, c0, e, h0.stays TkR.stays ho hk, hcp⟩
def Ck.sz (x : Ck) : Nat := szL (fun t : Tk => t.vs.size) x.expr
def Ck.wf (x : Ck) : Prop := (x.expr.length ≤ maxLen ∧ ∀ t ∈ x.expr, t.vs.size ≤ maxLen)
structure Fk where
 cols : List Int
 table : ByteArray
 del : Int
 upd : Int
 dfr : Bool
def FkR : Rd Fk := fun ok w cs x => ∃ (A0 : Option Addr) (n0 c0 : Nat), cs = [.slice A0 n0 c0, .string x.table, .int .i64 x.del, .int .i64 x.upd, .bool x.dfr] ∧ Sl IntR 1 ok w A0 n0 x.cols ∧ (n0 ≤ c0)
theorem FkR.stays : Stays FkR := fun _ _ _ _ _ _ ⟨A0, n0, c0, e, h0, hcp⟩ ho hk => ⟨A0, n0, c0, e, h0.stays IntR.stays ho hk, hcp⟩
def Fk.sz (x : Fk) : Nat := x.cols.length + x.table.size
def Fk.wf (x : Fk) : Prop := x.cols.length ≤ maxLen ∧ x.table.size ≤ maxLen
structure Tb where
 name : ByteArray
 cols : List Cl
 key : List Int
 uniqs : List Uq
 checks : List Ck
 fks : List Fk
def TbR : Rd Tb := fun ok w cs x => ∃ (A1 : Option Addr) (n1 c1 : Nat) (A2 : Option Addr) (n2 c2 : Nat) (A3 : Option Addr) (n3 c3 : Nat) (A4 : Option Addr) (n4 c4 : Nat) (A5 : Option Addr) (n5 c5 : Nat), cs = [.string x.name, .slice A1 n1 c1, .slice A2 n2 c2, .slice A3 n3 c3, .slice A4 n4 c4, .slice A5 n5 c5] ∧ Sl ClR 6 ok w A1 n1 x.cols ∧ Sl IntR 1 ok w A2 n2 x.key ∧ Sl UqR 1 ok w A3 n3 x.uniqs ∧ Sl CkR 1 ok w A4 n4 x.checks ∧ Sl FkR 5 ok w A5 n5 x.fks ∧ (n1 ≤ c1 ∧ n2 ≤ c2 ∧ n3 ≤ c3 ∧ n4 ≤ c4 ∧ n5 ≤ c5)
theorem TbR.stays : Stays TbR := fun _ _ _ _ _ _ ⟨A1, n1, c1, A2, n2, c2, A3, n3, c3, A4, n4, c4, A5, n5, c5, e, h1, h2, h3, h4, h5, hcp⟩ ho hk => ⟨A1, n1, c1, A2, n2, c2, A3, n3, c3, A4, n4, c4, A5, n5, c5, e, h1.stays ClR.stays ho hk, h2.stays IntR.stays ho hk, h3.stays UqR.stays ho hk, h4.stays CkR.stays ho hk, h5.stays FkR.stays ho hk, hcp⟩
def Tb.sz (x : Tb) : Nat := x.name.size + szL Cl.sz x.cols + x.key.length + szL Uq.sz x.uniqs + szL Ck.sz x.checks + szL Fk.sz x.fks
def Tb.wf (x : Tb) : Prop := x.name.size ≤ maxLen ∧ (x.cols.length ≤ maxLen ∧ ∀ y ∈ x.cols, y.wf) ∧ x.key.length ≤ maxLen ∧ (x.uniqs.length ≤ maxLen ∧ ∀ y ∈ x.uniqs, y.wf) ∧ (x.checks.length ≤ maxLen ∧ ∀ y ∈ x.checks, y.wf) ∧ (x.fks.length ≤ maxLen ∧ ∀ y ∈ x.fks, y.wf)
structure Rw where
 id : Int
 vals : List Vl
def RwR : Rd Rw := fun ok w cs x => ∃ (A1 : Option Addr) (n1 c1 : Nat), cs = [.int .i64 x.id, .slice A1 n1 c1] ∧ Sl VlR 3 ok w A1 n1 x.vals ∧ (n1 ≤ c1)
theorem RwR.stays : Stays RwR := fun _ _ _ _ _ _ ⟨A1, n1, c1, e, h1, hcp⟩ ho hk => ⟨A1, n1, c1, e, h1.stays VlR.stays ho hk, hcp⟩
def Rw.sz (x : Rw) : Nat := szL (fun v : Vl => v.s.size) x.vals
structure Dt where
 rows : List Rw
def DtR : Rd Dt := fun ok w cs x => ∃ (A0 : Option Addr) (n0 c0 : Nat), cs = [.slice A0 n0 c0] ∧ Sl RwR 2 ok w A0 n0 x.rows ∧ (n0 ≤ c0)
theorem DtR.stays : Stays DtR := fun _ _ _ _ _ _ ⟨A0, n0, c0, e, h0, hcp⟩ ho hk => ⟨A0, n0, c0, e, h0.stays RwR.stays ho hk, hcp⟩
def Dt.sz (x : Dt) : Nat := szL Rw.sz x.rows
structure Sv where
 name : ByteArray
 db : List Dt
def SvR : Rd Sv := fun ok w cs x => ∃ (A1 : Option Addr) (n1 c1 : Nat), cs = [.string x.name, .slice A1 n1 c1] ∧ Sl DtR 1 ok w A1 n1 x.db ∧ (n1 ≤ c1)
theorem SvR.stays : Stays SvR := fun _ _ _ _ _ _ ⟨A1, n1, c1, e, h1, hcp⟩ ho hk => ⟨A1, n1, c1, e, h1.stays DtR.stays ho hk, hcp⟩
def Sv.sz (x : Sv) : Nat := x.name.size + szL Dt.sz x.db
structure Ss where
 schema : List Tb
 db : List Dt
 isOpen : Bool
 start : List Dt
 saves : List Sv
theorem Row.all1 {w : World} {g : Nat} {T : TypeId} {a0 : Value} (h : Row w g T #[a0]) :
  (w.cell? ⟨g, 0, none⟩ = some a0) ∧ (w.frozen? ⟨g, 0, none⟩ = false) :=
 ⟨h.cell 0, h.free 0⟩
theorem Row.all2 {w : World} {g : Nat} {T : TypeId} {a0 a1 : Value} (h : Row w g T #[a0, a1]) :
  (w.cell? ⟨g, 0, none⟩ = some a0 ∧ w.cell? ⟨g, 1, none⟩ = some a1) ∧ (w.frozen? ⟨g, 0, none⟩ = false ∧ w.frozen? ⟨g, 1, none⟩ = false) :=
 ⟨⟨h.cell 0, h.cell 1⟩, ⟨h.free 0, h.free 1⟩⟩
theorem Row.all6 {w : World} {g : Nat} {T : TypeId} {a0 a1 a2 a3 a4 a5 : Value} (h : Row w g T #[a0, a1, a2, a3, a4, a5]) :
  (w.cell? ⟨g, 0, none⟩ = some a0 ∧ w.cell? ⟨g, 1, none⟩ = some a1 ∧ w.cell? ⟨g, 2, none⟩ = some a2 ∧ w.cell? ⟨g, 3, none⟩ = some a3 ∧ w.cell? ⟨g, 4, none⟩ = some a4 ∧ w.cell? ⟨g, 5, none⟩ = some a5) ∧ (w.frozen? ⟨g, 0, none⟩ = false ∧ w.frozen? ⟨g, 1, none⟩ = false ∧ w.frozen? ⟨g, 2, none⟩ = false ∧ w.frozen? ⟨g, 3, none⟩ = false ∧ w.frozen? ⟨g, 4, none⟩ = false ∧ w.frozen? ⟨g, 5, none⟩ = false) :=
 ⟨⟨h.cell 0, h.cell 1, h.cell 2, h.cell 3, h.cell 4, h.cell 5⟩, ⟨h.free 0, h.free 1, h.free 2, h.free 3, h.free 4, h.free 5⟩⟩
theorem TkR.at_ {ok : Nat → Prop} {w : World} {A : Option Addr} {n : Nat} {ds : List Tk} (h : Sl TkR 5 ok w A n ds) {i : Nat} (hi : i < ds.length) :
  ∃ (b off : Nat), ok b ∧ A = some ⟨b, off, none⟩ ∧ w.cell? ⟨b, off + i * 5, none⟩ = some (.int .i64 ds[i].k) ∧ w.cell? ⟨b, off + i * 5 + 1, none⟩ = some (.int .i64 ds[i].c) ∧ w.cell? ⟨b, off + i * 5 + 2, none⟩ = some (.int .i64 ds[i].vk) ∧ w.cell? ⟨b, off + i * 5 + 3, none⟩ = some (.int .i64 ds[i].vn) ∧ w.cell? ⟨b, off + i * 5 + 4, none⟩ = some (.string ds[i].vs) := by
 have hl := h.1
 obtain ⟨b, off, rfl, hb, hc⟩ := h.2 (by omega)
 obtain ⟨cs, -, hR, g⟩ := hc i hi
 have e : cs = _ := hR
 subst e
 exact ⟨b, off, hb, rfl, g 0 _ rfl, g 1 _ rfl, g 2 _ rfl, g 3 _ rfl, g 4 _ rfl⟩
theorem VlR.at_ {ok : Nat → Prop} {w : World} {A : Option Addr} {n : Nat} {ds : List Vl} (h : Sl VlR 3 ok w A n ds) {i : Nat} (hi : i < ds.length) :
  ∃ (b off : Nat), ok b ∧ A = some ⟨b, off, none⟩ ∧ w.cell? ⟨b, off + i * 3, none⟩ = some (.int .i64 ds[i].k) ∧ w.cell? ⟨b, off + i * 3 + 1, none⟩ = some (.int .i64 ds[i].n) ∧ w.cell? ⟨b, off + i * 3 + 2, none⟩ = some (.string ds[i].s) := by
 have hl := h.1
 obtain ⟨b, off, rfl, hb, hc⟩ := h.2 (by omega)
 obtain ⟨cs, -, hR, g⟩ := hc i hi
 have e : cs = _ := hR
 subst e
 exact ⟨b, off, hb, rfl, g 0 _ rfl, g 1 _ rfl, g 2 _ rfl⟩
theorem IntR.at_ {ok : Nat → Prop} {w : World} {A : Option Addr} {n : Nat} {ds : List Int} (h : Sl IntR 1 ok w A n ds) {i : Nat} (hi : i < ds.length) :
  ∃ (b off : Nat) , ok b ∧ A = some ⟨b, off, none⟩ ∧ w.cell? ⟨b, off + i, none⟩ = some (.int .i64 ds[i]) := by
 have hl := h.1
 obtain ⟨b, off, rfl, hb, hc⟩ := h.2 (by omega)
 obtain ⟨cs, -, hR, g⟩ := hc i hi
 have e : cs = _ := hR
 subst e
 exact ⟨b, off, hb, rfl, by have := g 0 _ rfl; rwa [Nat.mul_one] at this⟩
theorem ClR.at_ {ok : Nat → Prop} {w : World} {A : Option Addr} {n : Nat} {ds : List Cl} (h : Sl ClR 6 ok w A n ds) {i : Nat} (hi : i < ds.length) :
  ∃ (b off : Nat) , ok b ∧ A = some ⟨b, off, none⟩ ∧ w.cell? ⟨b, off + i * 6, none⟩ = some (.string ds[i].name) ∧ w.cell? ⟨b, off + i * 6 + 1, none⟩ = some (.int .i64 ds[i].kind) ∧ w.cell? ⟨b, off + i * 6 + 2, none⟩ = some (.bool ds[i].nn) ∧ w.cell? ⟨b, off + i * 6 + 3, none⟩ = some (.int .i64 ds[i].d.k) ∧ w.cell? ⟨b, off + i * 6 + 4, none⟩ = some (.int .i64 ds[i].d.n) ∧ w.cell? ⟨b, off + i * 6 + 5, none⟩ = some (.string ds[i].d.s) := by
 have hl := h.1
 obtain ⟨b, off, rfl, hb, hc⟩ := h.2 (by omega)
 obtain ⟨cs, -, hR, g⟩ := hc i hi
 have e : cs = _ := hR
 subst e
 exact ⟨b, off, hb, rfl, g 0 _ rfl, g 1 _ rfl, g 2 _ rfl, g 3 _ rfl, g 4 _ rfl, g 5 _ rfl⟩
theorem UqR.at_ {ok : Nat → Prop} {w : World} {A : Option Addr} {n : Nat} {ds : List Uq} (h : Sl UqR 1 ok w A n ds) {i : Nat} (hi : i < ds.length) :
  ∃ (b off : Nat) (A0 : Option Addr) (n0 c0 : Nat), ok b ∧ A = some ⟨b, off, none⟩ ∧ w.cell? ⟨b, off + i, none⟩ = some (.slice A0 n0 c0) ∧ Sl IntR 1 ok w A0 n0 ds[i].cols ∧ (n0 ≤ c0) := by
 have hl := h.1
 obtain ⟨b, off, rfl, hb, hc⟩ := h.2 (by omega)
 obtain ⟨cs, -, hR, g⟩ := hc i hi
 obtain ⟨A0, n0, c0, rfl, h0, hcp⟩ := hR
 exact ⟨b, off, A0, n0, c0, hb, rfl, by have := g 0 _ rfl; rwa [Nat.mul_one] at this, h0, hcp⟩
theorem CkR.at_ {ok : Nat → Prop} {w : World} {A : Option Addr} {n : Nat} {ds : List Ck} (h : Sl CkR 1 ok w A n ds) {i : Nat} (hi : i < ds.length) :
  ∃ (b off : Nat) (A0 : Option Addr) (n0 c0 : Nat), ok b ∧ A = some ⟨b, off, none⟩ ∧ w.cell? ⟨b, off + i, none⟩ = some (.slice A0 n0 c0) ∧ Sl TkR 5 ok w A0 n0 ds[i].expr ∧ (n0 ≤ c0) := by
 have hl := h.1
 obtain ⟨b, off, rfl, hb, hc⟩ := h.2 (by omega)
 obtain ⟨cs, -, hR, g⟩ := hc i hi
 obtain ⟨A0, n0, c0, rfl, h0, hcp⟩ := hR
 exact ⟨b, off, A0, n0, c0, hb, rfl, by have := g 0 _ rfl; rwa [Nat.mul_one] at this, h0, hcp⟩
theorem FkR.at_ {ok : Nat → Prop} {w : World} {A : Option Addr} {n : Nat} {ds : List Fk} (h : Sl FkR 5 ok w A n ds) {i : Nat} (hi : i < ds.length) :
  ∃ (b off : Nat) (A0 : Option Addr) (n0 c0 : Nat), ok b ∧ A = some ⟨b, off, none⟩ ∧ w.cell? ⟨b, off + i * 5, none⟩ = some (.slice A0 n0 c0) ∧ w.cell? ⟨b, off + i * 5 + 1, none⟩ = some (.string ds[i].table) ∧ w.cell? ⟨b, off + i * 5 + 2, none⟩ = some (.int .i64 ds[i].del) ∧ w.cell? ⟨b, off + i * 5 + 3, none⟩ = some (.int .i64 ds[i].upd) ∧ w.cell? ⟨b, off + i * 5 + 4, none⟩ = some (.bool ds[i].dfr) ∧ Sl IntR 1 ok w A0 n0 ds[i].cols ∧ (n0 ≤ c0) := by
 have hl := h.1
 obtain ⟨b, off, rfl, hb, hc⟩ := h.2 (by omega)
 obtain ⟨cs, -, hR, g⟩ := hc i hi
 obtain ⟨A0, n0, c0, rfl, h0, hcp⟩ := hR
 exact ⟨b, off, A0, n0, c0, hb, rfl, g 0 _ rfl, g 1 _ rfl, g 2 _ rfl, g 3 _ rfl, g 4 _ rfl, h0, hcp⟩
theorem TbR.at_ {ok : Nat → Prop} {w : World} {A : Option Addr} {n : Nat} {ds : List Tb} (h : Sl TbR 6 ok w A n ds) {i : Nat} (hi : i < ds.length) :
  ∃ (b off : Nat) (A1 : Option Addr) (n1 c1 : Nat) (A2 : Option Addr) (n2 c2 : Nat) (A3 : Option Addr) (n3 c3 : Nat) (A4 : Option Addr) (n4 c4 : Nat) (A5 : Option Addr) (n5 c5 : Nat), ok b ∧ A = some ⟨b, off, none⟩ ∧ w.cell? ⟨b, off + i * 6, none⟩ = some (.string ds[i].name) ∧ w.cell? ⟨b, off + i * 6 + 1, none⟩ = some (.slice A1 n1 c1) ∧ w.cell? ⟨b, off + i * 6 + 2, none⟩ = some (.slice A2 n2 c2) ∧ w.cell? ⟨b, off + i * 6 + 3, none⟩ = some (.slice A3 n3 c3) ∧ w.cell? ⟨b, off + i * 6 + 4, none⟩ = some (.slice A4 n4 c4) ∧ w.cell? ⟨b, off + i * 6 + 5, none⟩ = some (.slice A5 n5 c5) ∧ Sl ClR 6 ok w A1 n1 ds[i].cols ∧ Sl IntR 1 ok w A2 n2 ds[i].key ∧ Sl UqR 1 ok w A3 n3 ds[i].uniqs ∧ Sl CkR 1 ok w A4 n4 ds[i].checks ∧ Sl FkR 5 ok w A5 n5 ds[i].fks ∧ (n1 ≤ c1 ∧ n2 ≤ c2 ∧ n3 ≤ c3 ∧ n4 ≤ c4 ∧ n5 ≤ c5) := by
 have hl := h.1
 obtain ⟨b, off, rfl, hb, hc⟩ := h.2 (by omega)
 obtain ⟨cs, -, hR, g⟩ := hc i hi
 obtain ⟨A1, n1, c1, A2, n2, c2, A3, n3, c3, A4, n4, c4, A5, n5, c5, rfl, h1, h2, h3, h4, h5, hcp⟩ := hR
 exact ⟨b, off, A1, n1, c1, A2, n2, c2, A3, n3, c3, A4, n4, c4, A5, n5, c5, hb, rfl, g 0 _ rfl, g 1 _ rfl, g 2 _ rfl, g 3 _ rfl, g 4 _ rfl, g 5 _ rfl, h1, h2, h3, h4, h5, hcp⟩
theorem RwR.at_ {ok : Nat → Prop} {w : World} {A : Option Addr} {n : Nat} {ds : List Rw} (h : Sl RwR 2 ok w A n ds) {i : Nat} (hi : i < ds.length) :
  ∃ (b off : Nat) (A1 : Option Addr) (n1 c1 : Nat), ok b ∧ A = some ⟨b, off, none⟩ ∧ w.cell? ⟨b, off + i * 2, none⟩ = some (.int .i64 ds[i].id) ∧ w.cell? ⟨b, off + i * 2 + 1, none⟩ = some (.slice A1 n1 c1) ∧ Sl VlR 3 ok w A1 n1 ds[i].vals ∧ (n1 ≤ c1) := by
 have hl := h.1
 obtain ⟨b, off, rfl, hb, hc⟩ := h.2 (by omega)
 obtain ⟨cs, -, hR, g⟩ := hc i hi
 obtain ⟨A1, n1, c1, rfl, h1, hcp⟩ := hR
 exact ⟨b, off, A1, n1, c1, hb, rfl, g 0 _ rfl, g 1 _ rfl, h1, hcp⟩
theorem DtR.at_ {ok : Nat → Prop} {w : World} {A : Option Addr} {n : Nat} {ds : List Dt} (h : Sl DtR 1 ok w A n ds) {i : Nat} (hi : i < ds.length) :
  ∃ (b off : Nat) (A0 : Option Addr) (n0 c0 : Nat), ok b ∧ A = some ⟨b, off, none⟩ ∧ w.cell? ⟨b, off + i, none⟩ = some (.slice A0 n0 c0) ∧ Sl RwR 2 ok w A0 n0 ds[i].rows ∧ (n0 ≤ c0) := by
 have hl := h.1
 obtain ⟨b, off, rfl, hb, hc⟩ := h.2 (by omega)
 obtain ⟨cs, -, hR, g⟩ := hc i hi
 obtain ⟨A0, n0, c0, rfl, h0, hcp⟩ := hR
 exact ⟨b, off, A0, n0, c0, hb, rfl, by have := g 0 _ rfl; rwa [Nat.mul_one] at this, h0, hcp⟩
theorem SvR.at_ {ok : Nat → Prop} {w : World} {A : Option Addr} {n : Nat} {ds : List Sv} (h : Sl SvR 2 ok w A n ds) {i : Nat} (hi : i < ds.length) :
  ∃ (b off : Nat) (A1 : Option Addr) (n1 c1 : Nat), ok b ∧ A = some ⟨b, off, none⟩ ∧ w.cell? ⟨b, off + i * 2, none⟩ = some (.string ds[i].name) ∧ w.cell? ⟨b, off + i * 2 + 1, none⟩ = some (.slice A1 n1 c1) ∧ Sl DtR 1 ok w A1 n1 ds[i].db ∧ (n1 ≤ c1) := by
 have hl := h.1
 obtain ⟨b, off, rfl, hb, hc⟩ := h.2 (by omega)
 obtain ⟨cs, -, hR, g⟩ := hc i hi
 obtain ⟨A1, n1, c1, rfl, h1, hcp⟩ := hR
 exact ⟨b, off, A1, n1, c1, hb, rfl, g 0 _ rfl, g 1 _ rfl, h1, hcp⟩
def okF (G : Nat) (w : World) : Nat → Prop := fun b => G ≤ b ∧ b < w.heap.size ∧ ∀ off, w.frozen? ⟨b, off, none⟩ = false
theorem frozen_setCell (w : World) (p : Addr) (v : Value) (a : Addr) : (w.setCell p v).frozen? a = w.frozen? a := by
 unfold World.frozen? World.setCell
 by_cases e : p.block = a.block
 ·simp only [Array.getElem?_modify, if_pos e]
  cases h : w.heap[a.block]? with
  | none => rfl
  | some o => cases o <;> rfl
 ·simp only [Array.getElem?_modify, if_neg e]
theorem okF.mono {G G' : Nat} {w : World} {b : Nat} (h : okF G w b) (hG : G' ≤ G) : okF G' w b := ⟨Nat.le_trans hG h.1, h.2⟩
theorem okF.below {G : Nat} {w w' : World} (hb : Below w.heap.size w w') {b : Nat} (h : okF G w b) : okF G w' b :=
 ⟨h.1, Nat.lt_of_lt_of_le h.2.1 hb.size, fun off => (World.frozen?_of_block (w := w) (hb.block b h.2.1)).trans (h.2.2 off)⟩
theorem okF.set {G : Nat} {w : World} {b : Nat} (h : okF G w b) (p : Addr) (v : Value) : okF G (w.setCell p v) b :=
 ⟨h.1, by simpa [World.setCell] using h.2.1, fun off => (frozen_setCell w p v _).trans (h.2.2 off)⟩
theorem Sl.belowF {α : Type} {R : Rd α} (hR : Stays R) {sz G : Nat} {w w' : World} {A : Option Addr} {n : Nat} {ds : List α} (h : Sl R sz (okF G w) w A n ds) (hb : Below w.heap.size w w') : Sl R sz (okF G w') w' A n ds :=
 h.stays hR (fun _ h => h.below hb) fun p v _ hp => below_keep hb p v hp
theorem Sl.setF {α : Type} {R : Rd α} (hR : Stays R) {sz G : Nat} {w : World} {A : Option Addr} {n : Nat} {ds : List α} (h : Sl R sz (okF G w) w A n ds) {p : Addr} (hp : p.block < G) (v : Value) : Sl R sz (okF G (w.setCell p v)) (w.setCell p v) A n ds :=
 h.stays hR (fun _ h => h.set p v) fun q u hq hu => (World.cell?_of_block (w := w) (a := q) (Below.heap_setCell w p v q.block (by have := hq.1; omega))).trans hu
theorem LaidR.belowF {α : Type} {R : Rd α} (hR : Stays R) {sz G : Nat} {w w' : World} {cs : Array Value} {k : Nat} {ds : List α} (h : LaidR R sz (okF G w) w cs k ds) (hb : Below w.heap.size w w') : LaidR R sz (okF G w') w' cs k ds := fun i hi hlt => by
 obtain ⟨c, h1, h2, h3⟩ := h i hi hlt
 exact ⟨c, h1, hR _ _ _ _ _ _ h2 (fun _ h => h.below hb) (fun p v _ hp => below_keep hb p v hp), h3⟩
theorem LaidR.setF {α : Type} {R : Rd α} (hR : Stays R) {sz G : Nat} {w : World} {cs : Array Value} {k : Nat} {ds : List α} (h : LaidR R sz (okF G w) w cs k ds) {p : Addr} (hp : p.block < G) (v : Value) : LaidR R sz (okF G (w.setCell p v)) (w.setCell p v) cs k ds := fun i hi hlt => by
 obtain ⟨c, h1, h2, h3⟩ := h i hi hlt
 exact ⟨c, h1, hR _ _ _ _ _ _ h2 (fun _ h => h.set p v) (fun q u hq hu => (World.cell?_of_block (w := w) (a := q) (Below.heap_setCell w p v q.block (by have := hq.1; omega))).trans hu), h3⟩
def MadeSl {α : Type} (R : Rd α) (sz n : Nat) (ds : List α) (w : World) (e : Ending) (w' : World) : Prop := ∃ A c, e = .returned (.slice A n c) ∧ n ≤ c ∧ Sl R sz (okF w.heap.size w') w' A n ds ∧ Below w.heap.size w w'
def MadeR {α : Type} (R : Rd α) (d : α) (w : World) (e : Ending) (w' : World) : Prop := ∃ cs : List Value, e = .returned (.agg cs.toArray) ∧ R (okF w.heap.size w') w' cs d ∧ Below w.heap.size w w'
theorem hold1 (cs : Array Value) (k : Nat) (v0 : Value) : ∀ m, m < k * 1 → (cs.setIfInBounds (k) v0)[m]? = cs[m]? := by
 intro m hm
 simp only [Array.getElem?_setIfInBounds]
 rw [if_neg (by omega)]
theorem fresh1 (cs : Array Value) (k : Nat) (v0 : Value) (hs : k * 1 + 1 ≤ cs.size) : ∀ (j : Nat) (v : Value), [v0][j]? = some v → (cs.setIfInBounds (k) v0)[k * 1 + j]? = some v := by
 intro j v hj
 have hlt : j < 1 := by obtain ⟨h, _⟩ := List.getElem?_eq_some_iff.1 hj; simpa using h
 have : j = 0 := by omega
 rcases this with rfl <;> simp at hj <;> subst hj <;> simp [Array.getElem?_setIfInBounds] <;> omega
theorem hold5 (cs : Array Value) (k : Nat) (v0 v1 v2 v3 v4 : Value) : ∀ m, m < k * 5 → (((((cs.setIfInBounds (k * 5) v0).setIfInBounds (k * 5 + 1) v1).setIfInBounds (k * 5 + 2) v2).setIfInBounds (k * 5 + 3) v3).setIfInBounds (k * 5 + 4) v4)[m]? = cs[m]? := by
 intro m hm
 simp only [Array.getElem?_setIfInBounds, Array.size_setIfInBounds]
 rw [if_neg (by omega)]; rw [if_neg (by omega)]; rw [if_neg (by omega)]; rw [if_neg (by omega)]; rw [if_neg (by omega)]
theorem fresh5 (cs : Array Value) (k : Nat) (v0 v1 v2 v3 v4 : Value) (hs : k * 5 + 5 ≤ cs.size) : ∀ (j : Nat) (v : Value), [v0, v1, v2, v3, v4][j]? = some v → (((((cs.setIfInBounds (k * 5) v0).setIfInBounds (k * 5 + 1) v1).setIfInBounds (k * 5 + 2) v2).setIfInBounds (k * 5 + 3) v3).setIfInBounds (k * 5 + 4) v4)[k * 5 + j]? = some v := by
 intro j v hj
 have hlt : j < 5 := by obtain ⟨h, _⟩ := List.getElem?_eq_some_iff.1 hj; simpa using h
 have : j = 0 ∨ j = 1 ∨ j = 2 ∨ j = 3 ∨ j = 4 := by omega
 rcases this with rfl | rfl | rfl | rfl | rfl <;> simp at hj <;> subst hj <;> simp [Array.getElem?_setIfInBounds] <;> omega
theorem hold6 (cs : Array Value) (k : Nat) (v0 v1 v2 v3 v4 v5 : Value) : ∀ m, m < k * 6 → ((((((cs.setIfInBounds (k * 6) v0).setIfInBounds (k * 6 + 1) v1).setIfInBounds (k * 6 + 2) v2).setIfInBounds (k * 6 + 3) v3).setIfInBounds (k * 6 + 4) v4).setIfInBounds (k * 6 + 5) v5)[m]? = cs[m]? := by
 intro m hm
 simp only [Array.getElem?_setIfInBounds, Array.size_setIfInBounds]
 rw [if_neg (by omega)]; rw [if_neg (by omega)]; rw [if_neg (by omega)]; rw [if_neg (by omega)]; rw [if_neg (by omega)]; rw [if_neg (by omega)]
theorem fresh6 (cs : Array Value) (k : Nat) (v0 v1 v2 v3 v4 v5 : Value) (hs : k * 6 + 6 ≤ cs.size) : ∀ (j : Nat) (v : Value), [v0, v1, v2, v3, v4, v5][j]? = some v → ((((((cs.setIfInBounds (k * 6) v0).setIfInBounds (k * 6 + 1) v1).setIfInBounds (k * 6 + 2) v2).setIfInBounds (k * 6 + 3) v3).setIfInBounds (k * 6 + 4) v4).setIfInBounds (k * 6 + 5) v5)[k * 6 + j]? = some v := by
 intro j v hj
 have hlt : j < 6 := by obtain ⟨h, _⟩ := List.getElem?_eq_some_iff.1 hj; simpa using h
 have : j = 0 ∨ j = 1 ∨ j = 2 ∨ j = 3 ∨ j = 4 ∨ j = 5 := by omega
 rcases this with rfl | rfl | rfl | rfl | rfl | rfl <;> simp at hj <;> subst hj <;> simp [Array.getElem?_setIfInBounds] <;> omega
theorem infoIntT : (Tryz.prog.info? 2).map (fun i => (i.zero, i.size, i.bytes)) = some (some (.int .i64 0), 1, 8) := by kernel_rfl
set_option maxRecDepth 100000 in
set_option maxHeartbeats 1000000 in
theorem lawsToIntL (A : Option Addr) (n c : Nat) (l : List Int) (ok : Nat → Prop) (w : World) (h : Sl IntR 1 ok w A n l) (hs : l.length ≤ 1048576) :
  Calls Tryz.prog 42 #[.slice A n c] w (MadeSl IntR 1 n l w) := by
 obtain rfl : l.length = n := h.1
 have hn : l.length ≤ 1048576 := by exact hs
 have HS := Lib.hid hs
 clear hs
 have hmk := fun w => mk_rows (P := Tryz.prog) Tryz.underlying39 infoIntT (by omega) l.length hn w
 simp only [Nat.mul_one] at hmk
 simp only [Value.cells] at hmk
 go_enter Tryz.func42, Tryz.ntmps42
 go_wp2
 have row := Row.new w 2 (madeCells #[.int .i64 0] (l.length))
 have hb0 := (Below.refl w.heap.size w).alloc (Nat.le_refl _) (.cells (madeCells #[.int .i64 0] (l.length)) 2)
 have hsz := size_madeCells #[.int .i64 0] (l.length)
 have hx0 : (w.alloc (.cells (madeCells #[.int .i64 0] (l.length)) 2)).heap.size = w.heap.size + 1 := by simp
 generalize w.alloc (.cells (madeCells #[.int .i64 0] (l.length)) 2) = x at *
 generalize madeCells #[.int .i64 0] (l.length) = cs0 at *
 have HZ := Lib.hid hsz
 have HX0 := Lib.hid hx0
 clear hmk hsz hx0
 go_loopw [4] (fun i wr => ∃ (k : Nat) (cs : Array Value), k ≤ l.length ∧ i = .int .i64 k ∧ Row wr w.heap.size 2 cs ∧ Hid (cs.size = l.length * 1) ∧ Hid (LaidR IntR 1 (okF (w.heap.size + 1) wr) wr cs k l) ∧ Hid (w.heap.size + 1 ≤ wr.heap.size) ∧ Below w.heap.size w wr) (fun i _ => l.length - (intOf i).toNat)
 case atStart => exact ⟨0, cs0, by omega, rfl, row, Lib.hid (by rw [HZ.out]; exact (Nat.mul_one _).symm), Lib.hid (LaidR.zero _ _ _ _ _ _), Lib.hid (by rw [HX0.out]; exact Nat.le_refl _), hb0⟩
 case round =>
  obtain ⟨k, cs, hk, rfl, hrow, hcs, hlaid, hgw, hb⟩ := hrel
  by_cases hlt : k < l.length
  ·obtain ⟨b, off, -, rfl, q0⟩ := IntR.at_ (h.below IntR.stays hb) hlt
   have hsz1 : k * 1 + 1 ≤ cs.size := by rw [hcs.out]; omega
   have q1 : wr.cell? ⟨w.heap.size, k, none⟩ = some (cs[k]?.getD undef) := by rw [hrow.cell, Array.getElem?_eq_getElem (by omega)]; rfl
   have f0 := hrow.free k
   have HR := Lib.hid hrow
   clear hrow
   go_wp2_with fail
   go_roundw
   case rel => exact ⟨k + 1, _, by omega, by go_num, HR.out.set _ _, Lib.hid (by simp [hcs.out]), Lib.hid (((hlaid.out.setF IntR.stays (by simp) _).more hlt rfl rfl (hold1 cs k _) (fresh1 cs k _ hsz1))), Lib.hid (by simpa using hgw.out), hb.setCell (by simp) _⟩
   case measure => simp [intOf]; omega
  ·obtain rfl : k = l.length := by omega
   go_wp2
   go_ret
   exact ⟨_, _, rfl, Nat.le_refl _, (sl_of_laid (ok := okF w.heap.size _) hrow ⟨Nat.le_refl _, hgw.out, fun off => hrow.free off⟩ (fun i hi hlt' => by
    obtain ⟨c', h1, h2, h3⟩ := hlaid.out i hi hlt'
    exact ⟨c', h1, IntR.stays _ _ _ _ _ _ h2 (fun b hb' => hb'.mono (Nat.le_succ _)) (fun p v _ hp => hp), h3⟩) (Nat.le_refl _)), hb⟩
theorem infoTokT : (Tryz.prog.info? 139).map (fun i => (i.zero, i.size, i.bytes)) = some (some (.agg #[.int .i64 0, .int .i64 0, .int .i64 0, .int .i64 0, .string ⟨#[]⟩]), 5, 48) := by kernel_rfl
set_option maxRecDepth 100000 in
set_option maxHeartbeats 1000000 in
theorem lawsToTokL (A : Option Addr) (n c : Nat) (l : List Tk) (ok : Nat → Prop) (w : World) (h : Sl TkR 5 ok w A n l) (hs : szL (fun t : Tk => t.vs.size) l ≤ 1048576) :
  Calls Tryz.prog 98 #[.slice A n c] w (MadeSl TkR 5 n l w) := by
 obtain rfl : l.length = n := h.1
 have hn : l.length ≤ 1048576 := by unfold szL at hs; omega
 have HS := Lib.hid hs
 clear hs
 have hmk := fun w => mk_rows (P := Tryz.prog) Tryz.underlying75 infoTokT (by omega) l.length hn w
 go_enter Tryz.func98, Tryz.ntmps98
 go_wp2
 have row := Row.new w 139 (madeCells #[.int .i64 0, .int .i64 0, .int .i64 0, .int .i64 0, .string ⟨#[]⟩] (l.length * 5))
 have hb0 := (Below.refl w.heap.size w).alloc (Nat.le_refl _) (.cells (madeCells #[.int .i64 0, .int .i64 0, .int .i64 0, .int .i64 0, .string ⟨#[]⟩] (l.length * 5)) 139)
 have hsz := size_madeCells #[.int .i64 0, .int .i64 0, .int .i64 0, .int .i64 0, .string ⟨#[]⟩] (l.length * 5)
 have hx0 : (w.alloc (.cells (madeCells #[.int .i64 0, .int .i64 0, .int .i64 0, .int .i64 0, .string ⟨#[]⟩] (l.length * 5)) 139)).heap.size = w.heap.size + 1 := by simp
 generalize w.alloc (.cells (madeCells #[.int .i64 0, .int .i64 0, .int .i64 0, .int .i64 0, .string ⟨#[]⟩] (l.length * 5)) 139) = x at *
 generalize madeCells #[.int .i64 0, .int .i64 0, .int .i64 0, .int .i64 0, .string ⟨#[]⟩] (l.length * 5) = cs0 at *
 have HZ := Lib.hid hsz
 have HX0 := Lib.hid hx0
 clear hmk hsz hx0
 go_loopw [4] (fun i wr => ∃ (k : Nat) (cs : Array Value), k ≤ l.length ∧ i = .int .i64 k ∧ Row wr w.heap.size 139 cs ∧ Hid (cs.size = l.length * 5) ∧ Hid (LaidR TkR 5 (okF (w.heap.size + 1) wr) wr cs k l) ∧ Hid (w.heap.size + 1 ≤ wr.heap.size) ∧ Below w.heap.size w wr) (fun i _ => l.length - (intOf i).toNat)
 case atStart => exact ⟨0, cs0, by omega, rfl, row, Lib.hid (by rw [HZ.out]), Lib.hid (LaidR.zero _ _ _ _ _ _), Lib.hid (by rw [HX0.out]; exact Nat.le_refl _), hb0⟩
 case round =>
  obtain ⟨k, cs, hk, rfl, hrow, hcs, hlaid, hgw, hb⟩ := hrel
  by_cases hlt : k < l.length
  ·obtain ⟨b, off, -, rfl, q0, q1, q2, q3, q4⟩ := TkR.at_ (h.below TkR.stays hb) hlt
   have hsz1 : k * 5 + 5 ≤ cs.size := by rw [hcs.out]; omega
   have hszk : l[k].vs.size ≤ 1048576 := by have := HS.out; have := sum_mem_le (fun t : Tk => t.vs.size) l k hlt; unfold szL at *; (try simp only at *); omega
   have HSK := Lib.hid hszk
   clear hszk
   go_wp2_with fail
   refine (lawsToTok l[k] _).mono ?_
   rintro e w1 ⟨rfl, hb1⟩
   have hrow1 := hrow.below hb1
   have hgw1 : w.heap.size + 1 ≤ w1.heap.size := Nat.le_trans hgw.out hb1.size
   have HGW := Lib.hid hgw1
   clear hgw1
   have hl1 := Lib.hid (hlaid.out.belowF TkR.stays hb1)
   have q : ∀ j, j < 5 → w1.cell? ⟨w.heap.size, k * 5 + j, none⟩ = some (cs[k * 5 + j]?.getD undef) := fun j hj => by
    rw [hrow1.cell, Array.getElem?_eq_getElem (by omega)]; rfl
   have z0 : w1.cell? ⟨w.heap.size, k * 5, none⟩ = some (cs[k * 5]?.getD undef) := q 0 (by omega)
   have z1 := q 1 (by omega)
   have z2 := q 2 (by omega)
   have z3 := q 3 (by omega)
   have z4 := q 4 (by omega)
   have f0 := hrow1.free (k * 5)
   have f1 := hrow1.free (k * 5 + 1)
   have f2 := hrow1.free (k * 5 + 2)
   have f3 := hrow1.free (k * 5 + 3)
   have f4 := hrow1.free (k * 5 + 4)
   clear q
   have HR := Lib.hid hrow1
   clear hrow1 hrow q0 q1 q2 q3 q4
   go_wp2_with fail
   go_roundw
   case rel =>
    exact ⟨k + 1, _, by omega, by go_num, (((((HR.out).set _ _).set _ _).set _ _).set _ _).set _ _, Lib.hid (by simp [hcs.out]), Lib.hid (((((((hl1.out).setF TkR.stays (by simp) _).setF TkR.stays (by simp) _).setF TkR.stays (by simp) _).setF TkR.stays (by simp) _).setF TkR.stays (by simp) _).more hlt (c := [.int .i64 l[k].k, .int .i64 l[k].c, .int .i64 l[k].vk, .int .i64 l[k].vn, .string l[k].vs]) rfl rfl (hold5 cs k _ _ _ _ _) (fresh5 cs k _ _ _ _ _ hsz1)), Lib.hid (by simpa using HGW.out), (((((hb.trans (hb1.mono hb.size)).setCell (by simp) _).setCell (by simp) _).setCell (by simp) _).setCell (by simp) _).setCell (by simp) _⟩
   case measure => simp [intOf]; omega
  ·obtain rfl : k = l.length := by omega
   go_wp2
   go_ret
   exact ⟨_, _, rfl, Nat.le_refl _, (sl_of_laid (ok := okF w.heap.size _) hrow ⟨Nat.le_refl _, hgw.out, fun off => hrow.free off⟩ (fun i hi hlt' => by
    obtain ⟨c', h1, h2, h3⟩ := hlaid.out i hi hlt'
    exact ⟨c', h1, TkR.stays _ _ _ _ _ _ h2 (fun b hb' => hb'.mono (Nat.le_succ _)) (fun p v _ hp => hp), h3⟩) (Nat.le_refl _)), hb⟩
set_option maxRecDepth 100000 in
set_option maxHeartbeats 1000000 in
theorem lawsToCol (x : Cl)  (ok : Nat → Prop) (w : World)  (hs : x.sz ≤ 1048576) :
  Calls Tryz.prog 70 #[.agg #[.string x.name, .int .i64 x.kind, .bool x.nn, .int .i64 x.d.k, .int .i64 x.d.n, .string x.d.s]] w fun e w' => e = .returned (.agg #[.string x.name, .int .i64 x.kind, .bool x.nn, .int .i64 x.d.k, .int .i64 x.d.n, .string x.d.s]) ∧ Below w.heap.size w w' := by
 clear hs
 have ra := ((Row.new w 108 #[.string x.name, .int .i64 x.kind, .bool x.nn, .int .i64 x.d.k, .int .i64 x.d.n, .string x.d.s]).alloc (.cells #[.string ⟨#[]⟩, .int .i64 0, .bool false, .int .i64 0, .int .i64 0, .string ⟨#[]⟩] 102)).alloc (.cells #[.string x.name, .int .i64 x.kind, .bool x.nn, .int .i64 0, .int .i64 0, .string ⟨#[]⟩] 102)
 have r1 := (Row.newAt (w.alloc (.cells #[.string x.name, .int .i64 x.kind, .bool x.nn, .int .i64 x.d.k, .int .i64 x.d.n, .string x.d.s] 108)) 102 #[.string ⟨#[]⟩, .int .i64 0, .bool false, .int .i64 0, .int .i64 0, .string ⟨#[]⟩] (w.heap.size + 1) (by simp)).alloc (.cells #[.string x.name, .int .i64 x.kind, .bool x.nn, .int .i64 0, .int .i64 0, .string ⟨#[]⟩] 102)
 have r2 := Row.newAt ((w.alloc (.cells #[.string x.name, .int .i64 x.kind, .bool x.nn, .int .i64 x.d.k, .int .i64 x.d.n, .string x.d.s] 108)).alloc (.cells #[.string ⟨#[]⟩, .int .i64 0, .bool false, .int .i64 0, .int .i64 0, .string ⟨#[]⟩] 102)) 102 #[.string x.name, .int .i64 x.kind, .bool x.nn, .int .i64 0, .int .i64 0, .string ⟨#[]⟩] (w.heap.size + 1 + 1) (by simp)
 have hb0 := ((((Below.refl w.heap.size w).alloc (Nat.le_refl _) (.cells #[.string x.name, .int .i64 x.kind, .bool x.nn, .int .i64 x.d.k, .int .i64 x.d.n, .string x.d.s] 108)).alloc (by simp) (.cells #[.string ⟨#[]⟩, .int .i64 0, .bool false, .int .i64 0, .int .i64 0, .string ⟨#[]⟩] 102)).alloc (by simp; omega) (.cells #[.string x.name, .int .i64 x.kind, .bool x.nn, .int .i64 0, .int .i64 0, .string ⟨#[]⟩] 102))
 have hz0 : w.heap.size + 3 ≤ (((w.alloc (.cells #[.string x.name, .int .i64 x.kind, .bool x.nn, .int .i64 x.d.k, .int .i64 x.d.n, .string x.d.s] 108)).alloc (.cells #[.string ⟨#[]⟩, .int .i64 0, .bool false, .int .i64 0, .int .i64 0, .string ⟨#[]⟩] 102)).alloc (.cells #[.string x.name, .int .i64 x.kind, .bool x.nn, .int .i64 0, .int .i64 0, .string ⟨#[]⟩] 102)).heap.size := by simp
 go_enter Tryz.func70, Tryz.ntmps70
 go_wp2_with fail
 generalize ((w.alloc (.cells #[.string x.name, .int .i64 x.kind, .bool x.nn, .int .i64 x.d.k, .int .i64 x.d.n, .string x.d.s] 108)).alloc (.cells #[.string ⟨#[]⟩, .int .i64 0, .bool false, .int .i64 0, .int .i64 0, .string ⟨#[]⟩] 102)).alloc (.cells #[.string x.name, .int .i64 x.kind, .bool x.nn, .int .i64 0, .int .i64 0, .string ⟨#[]⟩] 102) = x0 at *
 refine (lawsToVal _ _ _ _).mono ?_
 rintro e w1 ⟨rfl, hc0⟩
 have ra := ra.below hc0
 have r1 := r1.below hc0
 have r2 := r2.below hc0
 have hbx0 := hb0.trans (hc0.mono hb0.size)
 have hz1 : w.heap.size + 3 ≤ w1.heap.size := Nat.le_trans hz0 hc0.size
 obtain ⟨⟨a_0_0, a_0_1, a_0_2, a_0_3, a_0_4, a_0_5⟩, -⟩ := ra.all6
 obtain ⟨⟨b_0_0, b_0_1, b_0_2, b_0_3, b_0_4, b_0_5⟩, ⟨f_0_0, f_0_1, f_0_2, f_0_3, f_0_4, f_0_5⟩⟩ := r2.all6
 obtain ⟨⟨g_0_0, g_0_1, g_0_2, g_0_3, g_0_4, g_0_5⟩, ⟨k_0_0, k_0_1, k_0_2, k_0_3, k_0_4, k_0_5⟩⟩ := r1.all6
 have rz : Row ((((((((((w1).setCell ⟨w.heap.size + 1 + 1, 3, none⟩ (.int .i64 x.d.k)).setCell ⟨w.heap.size + 1 + 1, 4, none⟩ (.int .i64 x.d.n)).setCell ⟨w.heap.size + 1 + 1, 5, none⟩ (.string x.d.s)).setCell ⟨w.heap.size + 1, 0, none⟩ (.string x.name)).setCell ⟨w.heap.size + 1, 1, none⟩ (.int .i64 x.kind)).setCell ⟨w.heap.size + 1, 2, none⟩ (.bool x.nn)).setCell ⟨w.heap.size + 1, 3, none⟩ (.int .i64 x.d.k)).setCell ⟨w.heap.size + 1, 4, none⟩ (.int .i64 x.d.n)).setCell ⟨w.heap.size + 1, 5, none⟩ (.string x.d.s)) (w.heap.size + 1) 102 #[.string x.name, .int .i64 x.kind, .bool x.nn, .int .i64 x.d.k, .int .i64 x.d.n, .string x.d.s] := (((((((((r1).far (by simp) _).far (by simp) _).far (by simp) _).set 0 _).set 1 _).set 2 _).set 3 _).set 4 _).set 5 _
 obtain ⟨⟨z0, z1, z2, z3, z4, z5⟩, -⟩ := rz.all6
 have hbz : Below w.heap.size w ((((((((((w1).setCell ⟨w.heap.size + 1 + 1, 3, none⟩ (.int .i64 x.d.k)).setCell ⟨w.heap.size + 1 + 1, 4, none⟩ (.int .i64 x.d.n)).setCell ⟨w.heap.size + 1 + 1, 5, none⟩ (.string x.d.s)).setCell ⟨w.heap.size + 1, 0, none⟩ (.string x.name)).setCell ⟨w.heap.size + 1, 1, none⟩ (.int .i64 x.kind)).setCell ⟨w.heap.size + 1, 2, none⟩ (.bool x.nn)).setCell ⟨w.heap.size + 1, 3, none⟩ (.int .i64 x.d.k)).setCell ⟨w.heap.size + 1, 4, none⟩ (.int .i64 x.d.n)).setCell ⟨w.heap.size + 1, 5, none⟩ (.string x.d.s)) := (((((((((hbx0).setCell (by simp; try omega) _).setCell (by simp; try omega) _).setCell (by simp; try omega) _).setCell (by simp; try omega) _).setCell (by simp; try omega) _).setCell (by simp; try omega) _).setCell (by simp; try omega) _).setCell (by simp; try omega) _).setCell (by simp; try omega) _
 clear ra r1 r2 rz
 go_wp2_with fail
 exact bodyPost_ret (v := .agg #[.string x.name, .int .i64 x.kind, .bool x.nn, .int .i64 x.d.k, .int .i64 x.d.n, .string x.d.s]) (by simp [results, Tryz.results70, go_sem, z0, z1, z2, z3, z4, z5]) rfl ⟨rfl, hbz⟩
theorem infoColT : (Tryz.prog.info? 102).map (fun i => (i.zero, i.size, i.bytes)) = some (some (.agg #[.string ⟨#[]⟩, .int .i64 0, .bool false, .int .i64 0, .int .i64 0, .string ⟨#[]⟩]), 6, 64) := by kernel_rfl
set_option maxRecDepth 100000 in
set_option maxHeartbeats 1000000 in
theorem lawsToColL (A : Option Addr) (n c : Nat) (l : List Cl) (ok : Nat → Prop) (w : World) (h : Sl ClR 6 ok w A n l) (hs : szL Cl.sz l ≤ 1048576) :
  Calls Tryz.prog 41 #[.slice A n c] w (MadeSl ClR 6 n l w) := by
 obtain rfl : l.length = n := h.1
 have hn : l.length ≤ 1048576 := by unfold szL at hs; omega
 have HS := Lib.hid hs
 clear hs
 have hmk := fun w => mk_rows (P := Tryz.prog) Tryz.underlying48 infoColT (by omega) l.length hn w
 go_enter Tryz.func41, Tryz.ntmps41
 go_wp2
 have row := Row.new w 102 (madeCells #[.string ⟨#[]⟩, .int .i64 0, .bool false, .int .i64 0, .int .i64 0, .string ⟨#[]⟩] (l.length * 6))
 have hb0 := (Below.refl w.heap.size w).alloc (Nat.le_refl _) (.cells (madeCells #[.string ⟨#[]⟩, .int .i64 0, .bool false, .int .i64 0, .int .i64 0, .string ⟨#[]⟩] (l.length * 6)) 102)
 have hsz := size_madeCells #[.string ⟨#[]⟩, .int .i64 0, .bool false, .int .i64 0, .int .i64 0, .string ⟨#[]⟩] (l.length * 6)
 have hx0 : (w.alloc (.cells (madeCells #[.string ⟨#[]⟩, .int .i64 0, .bool false, .int .i64 0, .int .i64 0, .string ⟨#[]⟩] (l.length * 6)) 102)).heap.size = w.heap.size + 1 := by simp
 generalize w.alloc (.cells (madeCells #[.string ⟨#[]⟩, .int .i64 0, .bool false, .int .i64 0, .int .i64 0, .string ⟨#[]⟩] (l.length * 6)) 102) = x at *
 generalize madeCells #[.string ⟨#[]⟩, .int .i64 0, .bool false, .int .i64 0, .int .i64 0, .string ⟨#[]⟩] (l.length * 6) = cs0 at *
 have HZ := Lib.hid hsz
 have HX0 := Lib.hid hx0
 clear hmk hsz hx0
 go_loopw [4] (fun i wr => ∃ (k : Nat) (cs : Array Value), k ≤ l.length ∧ i = .int .i64 k ∧ Row wr w.heap.size 102 cs ∧ Hid (cs.size = l.length * 6) ∧ Hid (LaidR ClR 6 (okF (w.heap.size + 1) wr) wr cs k l) ∧ Hid (w.heap.size + 1 ≤ wr.heap.size) ∧ Below w.heap.size w wr) (fun i _ => l.length - (intOf i).toNat)
 case atStart => exact ⟨0, cs0, by omega, rfl, row, Lib.hid (by rw [HZ.out]), Lib.hid (LaidR.zero _ _ _ _ _ _), Lib.hid (by rw [HX0.out]; exact Nat.le_refl _), hb0⟩
 case round =>
  obtain ⟨k, cs, hk, rfl, hrow, hcs, hlaid, hgw, hb⟩ := hrel
  by_cases hlt : k < l.length
  ·obtain ⟨b, off, -, rfl, q0, q1, q2, q3, q4, q5⟩ := ClR.at_ (h.below ClR.stays hb) hlt
   have hsz1 : k * 6 + 6 ≤ cs.size := by rw [hcs.out]; omega
   have hszk : l[k].sz ≤ 1048576 := by have := HS.out; have := sum_mem_le (Cl.sz) l k hlt; unfold szL at *; (try simp only at *); omega
   have HSK := Lib.hid hszk
   clear hszk
   go_wp2_with fail
   refine (lawsToCol l[k]  ok _  HSK.out).mono ?_
   rintro e w1 ⟨rfl, hb1⟩
   have hrow1 := hrow.below hb1
   have hgw1 : w.heap.size + 1 ≤ w1.heap.size := Nat.le_trans hgw.out hb1.size
   have HGW := Lib.hid hgw1
   clear hgw1
   have hl1 := Lib.hid (hlaid.out.belowF ClR.stays hb1)
   have q : ∀ j, j < 6 → w1.cell? ⟨w.heap.size, k * 6 + j, none⟩ = some (cs[k * 6 + j]?.getD undef) := fun j hj => by
    rw [hrow1.cell, Array.getElem?_eq_getElem (by omega)]; rfl
   have z0 : w1.cell? ⟨w.heap.size, k * 6, none⟩ = some (cs[k * 6]?.getD undef) := q 0 (by omega)
   have z1 := q 1 (by omega)
   have z2 := q 2 (by omega)
   have z3 := q 3 (by omega)
   have z4 := q 4 (by omega)
   have z5 := q 5 (by omega)
   have f0 := hrow1.free (k * 6)
   have f1 := hrow1.free (k * 6 + 1)
   have f2 := hrow1.free (k * 6 + 2)
   have f3 := hrow1.free (k * 6 + 3)
   have f4 := hrow1.free (k * 6 + 4)
   have f5 := hrow1.free (k * 6 + 5)
   clear q
   have HR := Lib.hid hrow1
   clear hrow1 hrow q0 q1 q2 q3 q4 q5
   go_wp2_with fail
   go_roundw
   case rel =>
    exact ⟨k + 1, _, by omega, by go_num, ((((((HR.out).set _ _).set _ _).set _ _).set _ _).set _ _).set _ _, Lib.hid (by simp [hcs.out]), Lib.hid ((((((((hl1.out).setF ClR.stays (by simp) _).setF ClR.stays (by simp) _).setF ClR.stays (by simp) _).setF ClR.stays (by simp) _).setF ClR.stays (by simp) _).setF ClR.stays (by simp) _).more hlt (c := [.string l[k].name, .int .i64 l[k].kind, .bool l[k].nn, .int .i64 l[k].d.k, .int .i64 l[k].d.n, .string l[k].d.s]) rfl rfl (hold6 cs k _ _ _ _ _ _) (fresh6 cs k _ _ _ _ _ _ hsz1)), Lib.hid (by simpa using HGW.out), ((((((hb.trans (hb1.mono hb.size)).setCell (by simp) _).setCell (by simp) _).setCell (by simp) _).setCell (by simp) _).setCell (by simp) _).setCell (by simp) _⟩
   case measure => simp [intOf]; omega
  ·obtain rfl : k = l.length := by omega
   go_wp2
   go_ret
   exact ⟨_, _, rfl, Nat.le_refl _, (sl_of_laid (ok := okF w.heap.size _) hrow ⟨Nat.le_refl _, hgw.out, fun off => hrow.free off⟩ (fun i hi hlt' => by
    obtain ⟨c', h1, h2, h3⟩ := hlaid.out i hi hlt'
    exact ⟨c', h1, ClR.stays _ _ _ _ _ _ h2 (fun b hb' => hb'.mono (Nat.le_succ _)) (fun p v _ hp => hp), h3⟩) (Nat.le_refl _)), hb⟩
set_option maxRecDepth 100000 in
set_option maxHeartbeats 1000000 in
theorem lawsToUnique (x : Uq) (A0 : Option Addr) (n0 c0 : Nat) (ok : Nat → Prop) (w : World) (h0 : Sl IntR 1 ok w A0 n0 x.cols) (hs : x.sz ≤ 1048576) :
  Calls Tryz.prog 71 #[.agg #[.slice A0 n0 c0]] w (MadeR UqR x w) := by
 have hs0 : x.cols.length ≤ 1048576 := by have := hs; unfold Uq.sz at this; omega
 have HS0 := Lib.hid hs0
 clear hs0
 clear hs
 have ra := ((Row.new w 110 #[.slice A0 n0 c0]).alloc (.cells #[.slice none 0 0] 74)).alloc (.cells #[.slice none 0 0] 74)
 have r1 := (Row.newAt (w.alloc (.cells #[.slice A0 n0 c0] 110)) 74 #[.slice none 0 0] (w.heap.size + 1) (by simp)).alloc (.cells #[.slice none 0 0] 74)
 have r2 := Row.newAt ((w.alloc (.cells #[.slice A0 n0 c0] 110)).alloc (.cells #[.slice none 0 0] 74)) 74 #[.slice none 0 0] (w.heap.size + 1 + 1) (by simp)
 have hb0 := ((((Below.refl w.heap.size w).alloc (Nat.le_refl _) (.cells #[.slice A0 n0 c0] 110)).alloc (by simp) (.cells #[.slice none 0 0] 74)).alloc (by simp; omega) (.cells #[.slice none 0 0] 74))
 have hz0 : w.heap.size + 3 ≤ (((w.alloc (.cells #[.slice A0 n0 c0] 110)).alloc (.cells #[.slice none 0 0] 74)).alloc (.cells #[.slice none 0 0] 74)).heap.size := by simp
 go_enter Tryz.func71, Tryz.ntmps71
 go_wp2_with fail
 generalize ((w.alloc (.cells #[.slice A0 n0 c0] 110)).alloc (.cells #[.slice none 0 0] 74)).alloc (.cells #[.slice none 0 0] 74) = x0 at *
 refine (lawsToIntL A0 n0 c0 x.cols ok _ (h0.below IntR.stays hb0) HS0.out).mono ?_
 rintro e w1 ⟨B0, d0, rfl, hcp0, t0, hc0⟩
 have u0 := t0.stays IntR.stays (ok' := okF (w.heap.size + 3) w1) (fun b hb' => hb'.mono (by omega)) (fun p v _ hp => hp)
 clear t0
 have ra := ra.below hc0
 have r1 := r1.below hc0
 have r2 := r2.below hc0
 have hbx0 := hb0.trans (hc0.mono hb0.size)
 have hz1 : w.heap.size + 3 ≤ w1.heap.size := Nat.le_trans hz0 hc0.size
 obtain ⟨a_0_0, -⟩ := ra.all1
 obtain ⟨b_0_0, f_0_0⟩ := r2.all1
 obtain ⟨g_0_0, k_0_0⟩ := r1.all1
 have rz : Row (((w1).setCell ⟨w.heap.size + 1 + 1, 0, none⟩ (.slice B0 n0 d0)).setCell ⟨w.heap.size + 1, 0, none⟩ (.slice B0 n0 d0)) (w.heap.size + 1) 74 #[.slice B0 n0 d0] := ((r1).far (by simp) _).set 0 _
 obtain ⟨z0, -⟩ := rz.all1
 have y0 : Sl IntR 1 (okF (w.heap.size + 3) (((w1).setCell ⟨w.heap.size + 1 + 1, 0, none⟩ (.slice B0 n0 d0)).setCell ⟨w.heap.size + 1, 0, none⟩ (.slice B0 n0 d0))) (((w1).setCell ⟨w.heap.size + 1 + 1, 0, none⟩ (.slice B0 n0 d0)).setCell ⟨w.heap.size + 1, 0, none⟩ (.slice B0 n0 d0)) B0 n0 x.cols := ((u0).setF IntR.stays (by simp) _).setF IntR.stays (by simp) _
 have hbz : Below w.heap.size w (((w1).setCell ⟨w.heap.size + 1 + 1, 0, none⟩ (.slice B0 n0 d0)).setCell ⟨w.heap.size + 1, 0, none⟩ (.slice B0 n0 d0)) := ((hbx0).setCell (by simp; try omega) _).setCell (by simp; try omega) _
 clear ra r1 r2 rz
 go_wp2_with fail
 exact bodyPost_ret (v := .agg #[.slice B0 n0 d0]) (by simp [results, Tryz.results71, go_sem, z0]) rfl ⟨[.slice B0 n0 d0], rfl, ⟨_, _, _, rfl, y0.stays IntR.stays (fun b hb' => hb'.mono (by omega)) (fun p v _ hp => hp), hcp0⟩, hbz⟩
theorem infoUniqueT : (Tryz.prog.info? 74).map (fun i => (i.zero, i.size, i.bytes)) = some (some (.agg #[.slice none 0 0]), 1, 24) := by kernel_rfl
set_option maxRecDepth 100000 in
set_option maxHeartbeats 1000000 in
theorem lawsToUniqueL (A : Option Addr) (n c : Nat) (l : List Uq) (ok : Nat → Prop) (w : World) (h : Sl UqR 1 ok w A n l) (hs : szL Uq.sz l ≤ 1048576) :
  Calls Tryz.prog 43 #[.slice A n c] w (MadeSl UqR 1 n l w) := by
 obtain rfl : l.length = n := h.1
 have hn : l.length ≤ 1048576 := by unfold szL at hs; omega
 have HS := Lib.hid hs
 clear hs
 have hmk := fun w => mk_rows (P := Tryz.prog) Tryz.underlying49 infoUniqueT (by omega) l.length hn w
 simp only [Nat.mul_one] at hmk
 go_enter Tryz.func43, Tryz.ntmps43
 go_wp2
 have row := Row.new w 74 (madeCells #[.slice none 0 0] (l.length))
 have hb0 := (Below.refl w.heap.size w).alloc (Nat.le_refl _) (.cells (madeCells #[.slice none 0 0] (l.length)) 74)
 have hsz := size_madeCells #[.slice none 0 0] (l.length)
 have hx0 : (w.alloc (.cells (madeCells #[.slice none 0 0] (l.length)) 74)).heap.size = w.heap.size + 1 := by simp
 generalize w.alloc (.cells (madeCells #[.slice none 0 0] (l.length)) 74) = x at *
 generalize madeCells #[.slice none 0 0] (l.length) = cs0 at *
 have HZ := Lib.hid hsz
 have HX0 := Lib.hid hx0
 clear hmk hsz hx0
 go_loopw [4] (fun i wr => ∃ (k : Nat) (cs : Array Value), k ≤ l.length ∧ i = .int .i64 k ∧ Row wr w.heap.size 74 cs ∧ Hid (cs.size = l.length * 1) ∧ Hid (LaidR UqR 1 (okF (w.heap.size + 1) wr) wr cs k l) ∧ Hid (w.heap.size + 1 ≤ wr.heap.size) ∧ Below w.heap.size w wr) (fun i _ => l.length - (intOf i).toNat)
 case atStart => exact ⟨0, cs0, by omega, rfl, row, Lib.hid (by rw [HZ.out]; exact (Nat.mul_one _).symm), Lib.hid (LaidR.zero _ _ _ _ _ _), Lib.hid (by rw [HX0.out]; exact Nat.le_refl _), hb0⟩
 case round =>
  obtain ⟨k, cs, hk, rfl, hrow, hcs, hlaid, hgw, hb⟩ := hrel
  by_cases hlt : k < l.length
  ·obtain ⟨b, off, A0, n0, c0, -, rfl, q0, s0, -⟩ := UqR.at_ (h.below UqR.stays hb) hlt
   have hsz1 : k * 1 + 1 ≤ cs.size := by rw [hcs.out]; omega
   have hszk : l[k].sz ≤ 1048576 := by have := HS.out; have := sum_mem_le (Uq.sz) l k hlt; unfold szL at *; (try simp only at *); omega
   have HSK := Lib.hid hszk
   clear hszk
   go_wp2_with fail
   refine (lawsToUnique l[k] A0 n0 c0 ok _ s0 HSK.out).mono ?_
   rintro e w1 ⟨cs', rfl, hR1, hb1⟩
   obtain ⟨B0, m0, d0, rfl, t0, hcp⟩ := hR1
   have hrow1 := hrow.below hb1
   have hgw1 : w.heap.size + 1 ≤ w1.heap.size := Nat.le_trans hgw.out hb1.size
   have HGW := Lib.hid hgw1
   clear hgw1
   have hl1 := Lib.hid (hlaid.out.belowF UqR.stays hb1)
   have q : ∀ j, j < 1 → w1.cell? ⟨w.heap.size, k + j, none⟩ = some (cs[k + j]?.getD undef) := fun j hj => by
    rw [hrow1.cell, Array.getElem?_eq_getElem (by omega)]; rfl
   have z0 : w1.cell? ⟨w.heap.size, k, none⟩ = some (cs[k]?.getD undef) := q 0 (by omega)
   have f0 := hrow1.free (k)
   clear q
   have HR := Lib.hid hrow1
   clear hrow1 hrow q0
   go_wp2_with fail
   go_roundw
   case rel =>
    have y0 := ((t0.stays IntR.stays (ok' := okF (w.heap.size + 1) w1) (fun b hb' => hb'.mono hgw.out) (fun p v _ hp => hp))).setF IntR.stays (p := ⟨w.heap.size, k, none⟩) (by simp) (.slice B0 m0 d0)
    exact ⟨k + 1, _, by omega, by go_num, (HR.out).set _ _, Lib.hid (by simp [hcs.out]), Lib.hid (((hl1.out).setF UqR.stays (by simp) _).more hlt (c := [.slice B0 m0 d0]) rfl ⟨_, _, _, rfl, y0, hcp⟩ (hold1 cs k _) (fresh1 cs k _ hsz1)), Lib.hid (by simpa using HGW.out), (hb.trans (hb1.mono hb.size)).setCell (by simp) _⟩
   case measure => simp [intOf]; omega
  ·obtain rfl : k = l.length := by omega
   go_wp2
   go_ret
   exact ⟨_, _, rfl, Nat.le_refl _, (sl_of_laid (ok := okF w.heap.size _) hrow ⟨Nat.le_refl _, hgw.out, fun off => hrow.free off⟩ (fun i hi hlt' => by
    obtain ⟨c', h1, h2, h3⟩ := hlaid.out i hi hlt'
    exact ⟨c', h1, UqR.stays _ _ _ _ _ _ h2 (fun b hb' => hb'.mono (Nat.le_succ _)) (fun p v _ hp => hp), h3⟩) (Nat.le_refl _)), hb⟩
set_option maxRecDepth 100000 in
set_option maxHeartbeats 1000000 in
theorem lawsToCheck (x : Ck) (A0 : Option Addr) (n0 c0 : Nat) (ok : Nat → Prop) (w : World) (h0 : Sl TkR 5 ok w A0 n0 x.expr) (hs : x.sz ≤ 1048576) :
  Calls Tryz.prog 72 #[.agg #[.slice A0 n0 c0]] w (MadeR CkR x w) := by
 have hs0 : szL (fun t : Tk => t.vs.size) x.expr ≤ 1048576 := by have := hs; unfold Ck.sz at this; omega
 have HS0 := Lib.hid hs0
 clear hs0
 clear hs
 have ra := ((Row.new w 114 #[.slice A0 n0 c0]).alloc (.cells #[.slice none 0 0] 78)).alloc (.cells #[.slice none 0 0] 78)
 have r1 := (Row.newAt (w.alloc (.cells #[.slice A0 n0 c0] 114)) 78 #[.slice none 0 0] (w.heap.size + 1) (by simp)).alloc (.cells #[.slice none 0 0] 78)
 have r2 := Row.newAt ((w.alloc (.cells #[.slice A0 n0 c0] 114)).alloc (.cells #[.slice none 0 0] 78)) 78 #[.slice none 0 0] (w.heap.size + 1 + 1) (by simp)
 have hb0 := ((((Below.refl w.heap.size w).alloc (Nat.le_refl _) (.cells #[.slice A0 n0 c0] 114)).alloc (by simp) (.cells #[.slice none 0 0] 78)).alloc (by simp; omega) (.cells #[.slice none 0 0] 78))
 have hz0 : w.heap.size + 3 ≤ (((w.alloc (.cells #[.slice A0 n0 c0] 114)).alloc (.cells #[.slice none 0 0] 78)).alloc (.cells #[.slice none 0 0] 78)).heap.size := by simp
 go_enter Tryz.func72, Tryz.ntmps72
 go_wp2_with fail
 generalize ((w.alloc (.cells #[.slice A0 n0 c0] 114)).alloc (.cells #[.slice none 0 0] 78)).alloc (.cells #[.slice none 0 0] 78) = x0 at *
 refine (lawsToTokL A0 n0 c0 x.expr ok _ (h0.below TkR.stays hb0) HS0.out).mono ?_
 rintro e w1 ⟨B0, d0, rfl, hcp0, t0, hc0⟩
 have u0 := t0.stays TkR.stays (ok' := okF (w.heap.size + 3) w1) (fun b hb' => hb'.mono (by omega)) (fun p v _ hp => hp)
 clear t0
 have ra := ra.below hc0
 have r1 := r1.below hc0
 have r2 := r2.below hc0
 have hbx0 := hb0.trans (hc0.mono hb0.size)
 have hz1 : w.heap.size + 3 ≤ w1.heap.size := Nat.le_trans hz0 hc0.size
 obtain ⟨a_0_0, -⟩ := ra.all1
 obtain ⟨b_0_0, f_0_0⟩ := r2.all1
 obtain ⟨g_0_0, k_0_0⟩ := r1.all1
 have rz : Row (((w1).setCell ⟨w.heap.size + 1 + 1, 0, none⟩ (.slice B0 n0 d0)).setCell ⟨w.heap.size + 1, 0, none⟩ (.slice B0 n0 d0)) (w.heap.size + 1) 78 #[.slice B0 n0 d0] := ((r1).far (by simp) _).set 0 _
 obtain ⟨z0, -⟩ := rz.all1
 have y0 : Sl TkR 5 (okF (w.heap.size + 3) (((w1).setCell ⟨w.heap.size + 1 + 1, 0, none⟩ (.slice B0 n0 d0)).setCell ⟨w.heap.size + 1, 0, none⟩ (.slice B0 n0 d0))) (((w1).setCell ⟨w.heap.size + 1 + 1, 0, none⟩ (.slice B0 n0 d0)).setCell ⟨w.heap.size + 1, 0, none⟩ (.slice B0 n0 d0)) B0 n0 x.expr := ((u0).setF TkR.stays (by simp) _).setF TkR.stays (by simp) _
 have hbz : Below w.heap.size w (((w1).setCell ⟨w.heap.size + 1 + 1, 0, none⟩ (.slice B0 n0 d0)).setCell ⟨w.heap.size + 1, 0, none⟩ (.slice B0 n0 d0)) := ((hbx0).setCell (by simp; try omega) _).setCell (by simp; try omega) _
 clear ra r1 r2 rz
 go_wp2_with fail
 exact bodyPost_ret (v := .agg #[.slice B0 n0 d0]) (by simp [results, Tryz.results72, go_sem, z0]) rfl ⟨[.slice B0 n0 d0], rfl, ⟨_, _, _, rfl, y0.stays TkR.stays (fun b hb' => hb'.mono (by omega)) (fun p v _ hp => hp), hcp0⟩, hbz⟩
theorem infoCheckT : (Tryz.prog.info? 78).map (fun i => (i.zero, i.size, i.bytes)) = some (some (.agg #[.slice none 0 0]), 1, 24) := by kernel_rfl
set_option maxRecDepth 100000 in
set_option maxHeartbeats 1000000 in
theorem lawsToCheckL (A : Option Addr) (n c : Nat) (l : List Ck) (ok : Nat → Prop) (w : World) (h : Sl CkR 1 ok w A n l) (hs : szL Ck.sz l ≤ 1048576) :
  Calls Tryz.prog 44 #[.slice A n c] w (MadeSl CkR 1 n l w) := by
 obtain rfl : l.length = n := h.1
 have hn : l.length ≤ 1048576 := by unfold szL at hs; omega
 have HS := Lib.hid hs
 clear hs
 have hmk := fun w => mk_rows (P := Tryz.prog) Tryz.underlying50 infoCheckT (by omega) l.length hn w
 simp only [Nat.mul_one] at hmk
 go_enter Tryz.func44, Tryz.ntmps44
 go_wp2
 have row := Row.new w 78 (madeCells #[.slice none 0 0] (l.length))
 have hb0 := (Below.refl w.heap.size w).alloc (Nat.le_refl _) (.cells (madeCells #[.slice none 0 0] (l.length)) 78)
 have hsz := size_madeCells #[.slice none 0 0] (l.length)
 have hx0 : (w.alloc (.cells (madeCells #[.slice none 0 0] (l.length)) 78)).heap.size = w.heap.size + 1 := by simp
 generalize w.alloc (.cells (madeCells #[.slice none 0 0] (l.length)) 78) = x at *
 generalize madeCells #[.slice none 0 0] (l.length) = cs0 at *
 have HZ := Lib.hid hsz
 have HX0 := Lib.hid hx0
 clear hmk hsz hx0
 go_loopw [4] (fun i wr => ∃ (k : Nat) (cs : Array Value), k ≤ l.length ∧ i = .int .i64 k ∧ Row wr w.heap.size 78 cs ∧ Hid (cs.size = l.length * 1) ∧ Hid (LaidR CkR 1 (okF (w.heap.size + 1) wr) wr cs k l) ∧ Hid (w.heap.size + 1 ≤ wr.heap.size) ∧ Below w.heap.size w wr) (fun i _ => l.length - (intOf i).toNat)
 case atStart => exact ⟨0, cs0, by omega, rfl, row, Lib.hid (by rw [HZ.out]; exact (Nat.mul_one _).symm), Lib.hid (LaidR.zero _ _ _ _ _ _), Lib.hid (by rw [HX0.out]; exact Nat.le_refl _), hb0⟩
 case round =>
  obtain ⟨k, cs, hk, rfl, hrow, hcs, hlaid, hgw, hb⟩ := hrel
  by_cases hlt : k < l.length
  ·obtain ⟨b, off, A0, n0, c0, -, rfl, q0, s0, -⟩ := CkR.at_ (h.below CkR.stays hb) hlt
   have hsz1 : k * 1 + 1 ≤ cs.size := by rw [hcs.out]; omega
   have hszk : l[k].sz ≤ 1048576 := by have := HS.out; have := sum_mem_le (Ck.sz) l k hlt; unfold szL at *; (try simp only at *); omega
   have HSK := Lib.hid hszk
   clear hszk
   go_wp2_with fail
   refine (lawsToCheck l[k] A0 n0 c0 ok _ s0 HSK.out).mono ?_
   rintro e w1 ⟨cs', rfl, hR1, hb1⟩
   obtain ⟨B0, m0, d0, rfl, t0, hcp⟩ := hR1
   have hrow1 := hrow.below hb1
   have hgw1 : w.heap.size + 1 ≤ w1.heap.size := Nat.le_trans hgw.out hb1.size
   have HGW := Lib.hid hgw1
   clear hgw1
   have hl1 := Lib.hid (hlaid.out.belowF CkR.stays hb1)
   have q : ∀ j, j < 1 → w1.cell? ⟨w.heap.size, k + j, none⟩ = some (cs[k + j]?.getD undef) := fun j hj => by
    rw [hrow1.cell, Array.getElem?_eq_getElem (by omega)]; rfl
   have z0 : w1.cell? ⟨w.heap.size, k, none⟩ = some (cs[k]?.getD undef) := q 0 (by omega)
   have f0 := hrow1.free (k)
   clear q
   have HR := Lib.hid hrow1
   clear hrow1 hrow q0
   go_wp2_with fail
   go_roundw
   case rel =>
    have y0 := ((t0.stays TkR.stays (ok' := okF (w.heap.size + 1) w1) (fun b hb' => hb'.mono hgw.out) (fun p v _ hp => hp))).setF TkR.stays (p := ⟨w.heap.size, k, none⟩) (by simp) (.slice B0 m0 d0)
    exact ⟨k + 1, _, by omega, by go_num, (HR.out).set _ _, Lib.hid (by simp [hcs.out]), Lib.hid (((hl1.out).setF CkR.stays (by simp) _).more hlt (c := [.slice B0 m0 d0]) rfl ⟨_, _, _, rfl, y0, hcp⟩ (hold1 cs k _) (fresh1 cs k _ hsz1)), Lib.hid (by simpa using HGW.out), (hb.trans (hb1.mono hb.size)).setCell (by simp) _⟩
   case measure => simp [intOf]; omega
  ·obtain rfl : k = l.length := by omega
   go_wp2
   go_ret
   exact ⟨_, _, rfl, Nat.le_refl _, (sl_of_laid (ok := okF w.heap.size _) hrow ⟨Nat.le_refl _, hgw.out, fun off => hrow.free off⟩ (fun i hi hlt' => by
    obtain ⟨c', h1, h2, h3⟩ := hlaid.out i hi hlt'
    exact ⟨c', h1, CkR.stays _ _ _ _ _ _ h2 (fun b hb' => hb'.mono (Nat.le_succ _)) (fun p v _ hp => hp), h3⟩) (Nat.le_refl _)), hb⟩
set_option maxRecDepth 100000 in
set_option maxHeartbeats 1000000 in
theorem lawsToFk (x : Fk) (A0 : Option Addr) (n0 c0 : Nat) (ok : Nat → Prop) (w : World) (h0 : Sl IntR 1 ok w A0 n0 x.cols) (hs : x.sz ≤ 1048576) :
  Calls Tryz.prog 73 #[.agg #[.slice A0 n0 c0, .string x.table, .int .i64 x.del, .int .i64 x.upd, .bool x.dfr]] w (MadeR FkR x w) := by
 have hs0 : x.cols.length ≤ 1048576 := by have := hs; unfold Fk.sz at this; omega
 have HS0 := Lib.hid hs0
 clear hs0
 clear hs
 have ra := ((Row.new w 116 #[.slice A0 n0 c0, .string x.table, .int .i64 x.del, .int .i64 x.upd, .bool x.dfr]).alloc (.cells #[.slice none 0 0, .string ⟨#[]⟩, .int .i64 0, .int .i64 0, .bool false] 80)).alloc (.cells #[.slice none 0 0, .string ⟨#[]⟩, .int .i64 0, .int .i64 0, .bool false] 80)
 have r1 := (Row.newAt (w.alloc (.cells #[.slice A0 n0 c0, .string x.table, .int .i64 x.del, .int .i64 x.upd, .bool x.dfr] 116)) 80 #[.slice none 0 0, .string ⟨#[]⟩, .int .i64 0, .int .i64 0, .bool false] (w.heap.size + 1) (by simp)).alloc (.cells #[.slice none 0 0, .string ⟨#[]⟩, .int .i64 0, .int .i64 0, .bool false] 80)
 have r2 := Row.newAt ((w.alloc (.cells #[.slice A0 n0 c0, .string x.table, .int .i64 x.del, .int .i64 x.upd, .bool x.dfr] 116)).alloc (.cells #[.slice none 0 0, .string ⟨#[]⟩, .int .i64 0, .int .i64 0, .bool false] 80)) 80 #[.slice none 0 0, .string ⟨#[]⟩, .int .i64 0, .int .i64 0, .bool false] (w.heap.size + 1 + 1) (by simp)
 have hb0 := ((((Below.refl w.heap.size w).alloc (Nat.le_refl _) (.cells #[.slice A0 n0 c0, .string x.table, .int .i64 x.del, .int .i64 x.upd, .bool x.dfr] 116)).alloc (by simp) (.cells #[.slice none 0 0, .string ⟨#[]⟩, .int .i64 0, .int .i64 0, .bool false] 80)).alloc (by simp; omega) (.cells #[.slice none 0 0, .string ⟨#[]⟩, .int .i64 0, .int .i64 0, .bool false] 80))
 have hz0 : w.heap.size + 3 ≤ (((w.alloc (.cells #[.slice A0 n0 c0, .string x.table, .int .i64 x.del, .int .i64 x.upd, .bool x.dfr] 116)).alloc (.cells #[.slice none 0 0, .string ⟨#[]⟩, .int .i64 0, .int .i64 0, .bool false] 80)).alloc (.cells #[.slice none 0 0, .string ⟨#[]⟩, .int .i64 0, .int .i64 0, .bool false] 80)).heap.size := by simp
 go_enter Tryz.func73, Tryz.ntmps73
 go_wp2_with fail
 generalize ((w.alloc (.cells #[.slice A0 n0 c0, .string x.table, .int .i64 x.del, .int .i64 x.upd, .bool x.dfr] 116)).alloc (.cells #[.slice none 0 0, .string ⟨#[]⟩, .int .i64 0, .int .i64 0, .bool false] 80)).alloc (.cells #[.slice none 0 0, .string ⟨#[]⟩, .int .i64 0, .int .i64 0, .bool false] 80) = x0 at *
 refine (lawsToIntL A0 n0 c0 x.cols ok _ (h0.below IntR.stays hb0) HS0.out).mono ?_
 rintro e w1 ⟨B0, d0, rfl, hcp0, t0, hc0⟩
 have u0 := t0.stays IntR.stays (ok' := okF (w.heap.size + 3) w1) (fun b hb' => hb'.mono (by omega)) (fun p v _ hp => hp)
 clear t0
 have ra := ra.below hc0
 have r1 := r1.below hc0
 have r2 := r2.below hc0
 have hbx0 := hb0.trans (hc0.mono hb0.size)
 have hz1 : w.heap.size + 3 ≤ w1.heap.size := Nat.le_trans hz0 hc0.size
 obtain ⟨⟨a_0_0, a_0_1, a_0_2, a_0_3, a_0_4⟩, -⟩ := ra.five
 obtain ⟨⟨b_0_0, b_0_1, b_0_2, b_0_3, b_0_4⟩, ⟨f_0_0, f_0_1, f_0_2, f_0_3, f_0_4⟩⟩ := r2.five
 obtain ⟨⟨g_0_0, g_0_1, g_0_2, g_0_3, g_0_4⟩, ⟨k_0_0, k_0_1, k_0_2, k_0_3, k_0_4⟩⟩ := r1.five
 have rz : Row (((((((((((w1).setCell ⟨w.heap.size + 1 + 1, 0, none⟩ (.slice B0 n0 d0)).setCell ⟨w.heap.size + 1 + 1, 1, none⟩ (.string x.table)).setCell ⟨w.heap.size + 1 + 1, 2, none⟩ (.int .i64 x.del)).setCell ⟨w.heap.size + 1 + 1, 3, none⟩ (.int .i64 x.upd)).setCell ⟨w.heap.size + 1 + 1, 4, none⟩ (.bool x.dfr)).setCell ⟨w.heap.size + 1, 0, none⟩ (.slice B0 n0 d0)).setCell ⟨w.heap.size + 1, 1, none⟩ (.string x.table)).setCell ⟨w.heap.size + 1, 2, none⟩ (.int .i64 x.del)).setCell ⟨w.heap.size + 1, 3, none⟩ (.int .i64 x.upd)).setCell ⟨w.heap.size + 1, 4, none⟩ (.bool x.dfr)) (w.heap.size + 1) 80 #[.slice B0 n0 d0, .string x.table, .int .i64 x.del, .int .i64 x.upd, .bool x.dfr] := ((((((((((r1).far (by simp) _).far (by simp) _).far (by simp) _).far (by simp) _).far (by simp) _).set 0 _).set 1 _).set 2 _).set 3 _).set 4 _
 obtain ⟨⟨z0, z1, z2, z3, z4⟩, -⟩ := rz.five
 have y0 : Sl IntR 1 (okF (w.heap.size + 3) (((((((((((w1).setCell ⟨w.heap.size + 1 + 1, 0, none⟩ (.slice B0 n0 d0)).setCell ⟨w.heap.size + 1 + 1, 1, none⟩ (.string x.table)).setCell ⟨w.heap.size + 1 + 1, 2, none⟩ (.int .i64 x.del)).setCell ⟨w.heap.size + 1 + 1, 3, none⟩ (.int .i64 x.upd)).setCell ⟨w.heap.size + 1 + 1, 4, none⟩ (.bool x.dfr)).setCell ⟨w.heap.size + 1, 0, none⟩ (.slice B0 n0 d0)).setCell ⟨w.heap.size + 1, 1, none⟩ (.string x.table)).setCell ⟨w.heap.size + 1, 2, none⟩ (.int .i64 x.del)).setCell ⟨w.heap.size + 1, 3, none⟩ (.int .i64 x.upd)).setCell ⟨w.heap.size + 1, 4, none⟩ (.bool x.dfr))) (((((((((((w1).setCell ⟨w.heap.size + 1 + 1, 0, none⟩ (.slice B0 n0 d0)).setCell ⟨w.heap.size + 1 + 1, 1, none⟩ (.string x.table)).setCell ⟨w.heap.size + 1 + 1, 2, none⟩ (.int .i64 x.del)).setCell ⟨w.heap.size + 1 + 1, 3, none⟩ (.int .i64 x.upd)).setCell ⟨w.heap.size + 1 + 1, 4, none⟩ (.bool x.dfr)).setCell ⟨w.heap.size + 1, 0, none⟩ (.slice B0 n0 d0)).setCell ⟨w.heap.size + 1, 1, none⟩ (.string x.table)).setCell ⟨w.heap.size + 1, 2, none⟩ (.int .i64 x.del)).setCell ⟨w.heap.size + 1, 3, none⟩ (.int .i64 x.upd)).setCell ⟨w.heap.size + 1, 4, none⟩ (.bool x.dfr)) B0 n0 x.cols := ((((((((((u0).setF IntR.stays (by simp) _).setF IntR.stays (by simp) _).setF IntR.stays (by simp) _).setF IntR.stays (by simp) _).setF IntR.stays (by simp) _).setF IntR.stays (by simp) _).setF IntR.stays (by simp) _).setF IntR.stays (by simp) _).setF IntR.stays (by simp) _).setF IntR.stays (by simp) _
 have hbz : Below w.heap.size w (((((((((((w1).setCell ⟨w.heap.size + 1 + 1, 0, none⟩ (.slice B0 n0 d0)).setCell ⟨w.heap.size + 1 + 1, 1, none⟩ (.string x.table)).setCell ⟨w.heap.size + 1 + 1, 2, none⟩ (.int .i64 x.del)).setCell ⟨w.heap.size + 1 + 1, 3, none⟩ (.int .i64 x.upd)).setCell ⟨w.heap.size + 1 + 1, 4, none⟩ (.bool x.dfr)).setCell ⟨w.heap.size + 1, 0, none⟩ (.slice B0 n0 d0)).setCell ⟨w.heap.size + 1, 1, none⟩ (.string x.table)).setCell ⟨w.heap.size + 1, 2, none⟩ (.int .i64 x.del)).setCell ⟨w.heap.size + 1, 3, none⟩ (.int .i64 x.upd)).setCell ⟨w.heap.size + 1, 4, none⟩ (.bool x.dfr)) := ((((((((((hbx0).setCell (by simp; try omega) _).setCell (by simp; try omega) _).setCell (by simp; try omega) _).setCell (by simp; try omega) _).setCell (by simp; try omega) _).setCell (by simp; try omega) _).setCell (by simp; try omega) _).setCell (by simp; try omega) _).setCell (by simp; try omega) _).setCell (by simp; try omega) _
 clear ra r1 r2 rz
 go_wp2_with fail
 exact bodyPost_ret (v := .agg #[.slice B0 n0 d0, .string x.table, .int .i64 x.del, .int .i64 x.upd, .bool x.dfr]) (by simp [results, Tryz.results73, go_sem, z0, z1, z2, z3, z4]) rfl ⟨[.slice B0 n0 d0, .string x.table, .int .i64 x.del, .int .i64 x.upd, .bool x.dfr], rfl, ⟨_, _, _, rfl, y0.stays IntR.stays (fun b hb' => hb'.mono (by omega)) (fun p v _ hp => hp), hcp0⟩, hbz⟩
theorem infoFkT : (Tryz.prog.info? 80).map (fun i => (i.zero, i.size, i.bytes)) = some (some (.agg #[.slice none 0 0, .string ⟨#[]⟩, .int .i64 0, .int .i64 0, .bool false]), 5, 64) := by kernel_rfl
set_option maxRecDepth 100000 in
set_option maxHeartbeats 1000000 in
theorem lawsToFkL (A : Option Addr) (n c : Nat) (l : List Fk) (ok : Nat → Prop) (w : World) (h : Sl FkR 5 ok w A n l) (hs : szL Fk.sz l ≤ 1048576) :
  Calls Tryz.prog 45 #[.slice A n c] w (MadeSl FkR 5 n l w) := by
 obtain rfl : l.length = n := h.1
 have hn : l.length ≤ 1048576 := by unfold szL at hs; omega
 have HS := Lib.hid hs
 clear hs
 have hmk := fun w => mk_rows (P := Tryz.prog) Tryz.underlying51 infoFkT (by omega) l.length hn w
 go_enter Tryz.func45, Tryz.ntmps45
 go_wp2
 have row := Row.new w 80 (madeCells #[.slice none 0 0, .string ⟨#[]⟩, .int .i64 0, .int .i64 0, .bool false] (l.length * 5))
 have hb0 := (Below.refl w.heap.size w).alloc (Nat.le_refl _) (.cells (madeCells #[.slice none 0 0, .string ⟨#[]⟩, .int .i64 0, .int .i64 0, .bool false] (l.length * 5)) 80)
 have hsz := size_madeCells #[.slice none 0 0, .string ⟨#[]⟩, .int .i64 0, .int .i64 0, .bool false] (l.length * 5)
 have hx0 : (w.alloc (.cells (madeCells #[.slice none 0 0, .string ⟨#[]⟩, .int .i64 0, .int .i64 0, .bool false] (l.length * 5)) 80)).heap.size = w.heap.size + 1 := by simp
 generalize w.alloc (.cells (madeCells #[.slice none 0 0, .string ⟨#[]⟩, .int .i64 0, .int .i64 0, .bool false] (l.length * 5)) 80) = x at *
 generalize madeCells #[.slice none 0 0, .string ⟨#[]⟩, .int .i64 0, .int .i64 0, .bool false] (l.length * 5) = cs0 at *
 have HZ := Lib.hid hsz
 have HX0 := Lib.hid hx0
 clear hmk hsz hx0
 go_loopw [4] (fun i wr => ∃ (k : Nat) (cs : Array Value), k ≤ l.length ∧ i = .int .i64 k ∧ Row wr w.heap.size 80 cs ∧ Hid (cs.size = l.length * 5) ∧ Hid (LaidR FkR 5 (okF (w.heap.size + 1) wr) wr cs k l) ∧ Hid (w.heap.size + 1 ≤ wr.heap.size) ∧ Below w.heap.size w wr) (fun i _ => l.length - (intOf i).toNat)
 case atStart => exact ⟨0, cs0, by omega, rfl, row, Lib.hid (by rw [HZ.out]), Lib.hid (LaidR.zero _ _ _ _ _ _), Lib.hid (by rw [HX0.out]; exact Nat.le_refl _), hb0⟩
 case round =>
  obtain ⟨k, cs, hk, rfl, hrow, hcs, hlaid, hgw, hb⟩ := hrel
  by_cases hlt : k < l.length
  ·obtain ⟨b, off, A0, n0, c0, -, rfl, q0, q1, q2, q3, q4, s0, -⟩ := FkR.at_ (h.below FkR.stays hb) hlt
   have hsz1 : k * 5 + 5 ≤ cs.size := by rw [hcs.out]; omega
   have hszk : l[k].sz ≤ 1048576 := by have := HS.out; have := sum_mem_le (Fk.sz) l k hlt; unfold szL at *; (try simp only at *); omega
   have HSK := Lib.hid hszk
   clear hszk
   go_wp2_with fail
   refine (lawsToFk l[k] A0 n0 c0 ok _ s0 HSK.out).mono ?_
   rintro e w1 ⟨cs', rfl, hR1, hb1⟩
   obtain ⟨B0, m0, d0, rfl, t0, hcp⟩ := hR1
   have hrow1 := hrow.below hb1
   have hgw1 : w.heap.size + 1 ≤ w1.heap.size := Nat.le_trans hgw.out hb1.size
   have HGW := Lib.hid hgw1
   clear hgw1
   have hl1 := Lib.hid (hlaid.out.belowF FkR.stays hb1)
   have q : ∀ j, j < 5 → w1.cell? ⟨w.heap.size, k * 5 + j, none⟩ = some (cs[k * 5 + j]?.getD undef) := fun j hj => by
    rw [hrow1.cell, Array.getElem?_eq_getElem (by omega)]; rfl
   have z0 : w1.cell? ⟨w.heap.size, k * 5, none⟩ = some (cs[k * 5]?.getD undef) := q 0 (by omega)
   have z1 := q 1 (by omega)
   have z2 := q 2 (by omega)
   have z3 := q 3 (by omega)
   have z4 := q 4 (by omega)
   have f0 := hrow1.free (k * 5)
   have f1 := hrow1.free (k * 5 + 1)
   have f2 := hrow1.free (k * 5 + 2)
   have f3 := hrow1.free (k * 5 + 3)
   have f4 := hrow1.free (k * 5 + 4)
   clear q
   have HR := Lib.hid hrow1
   clear hrow1 hrow q0 q1 q2 q3 q4
   go_wp2_with fail
   go_roundw
   case rel =>
    have y0 := ((((((t0.stays IntR.stays (ok' := okF (w.heap.size + 1) w1) (fun b hb' => hb'.mono hgw.out) (fun p v _ hp => hp))).setF IntR.stays (p := ⟨w.heap.size, k * 5, none⟩) (by simp) (.slice B0 m0 d0)).setF IntR.stays (p := ⟨w.heap.size, k * 5 + 1, none⟩) (by simp) (.string l[k].table)).setF IntR.stays (p := ⟨w.heap.size, k * 5 + 2, none⟩) (by simp) (.int .i64 l[k].del)).setF IntR.stays (p := ⟨w.heap.size, k * 5 + 3, none⟩) (by simp) (.int .i64 l[k].upd)).setF IntR.stays (p := ⟨w.heap.size, k * 5 + 4, none⟩) (by simp) (.bool l[k].dfr)
    exact ⟨k + 1, _, by omega, by go_num, (((((HR.out).set _ _).set _ _).set _ _).set _ _).set _ _, Lib.hid (by simp [hcs.out]), Lib.hid (((((((hl1.out).setF FkR.stays (by simp) _).setF FkR.stays (by simp) _).setF FkR.stays (by simp) _).setF FkR.stays (by simp) _).setF FkR.stays (by simp) _).more hlt (c := [.slice B0 m0 d0, .string l[k].table, .int .i64 l[k].del, .int .i64 l[k].upd, .bool l[k].dfr]) rfl ⟨_, _, _, rfl, y0, hcp⟩ (hold5 cs k _ _ _ _ _) (fresh5 cs k _ _ _ _ _ hsz1)), Lib.hid (by simpa using HGW.out), (((((hb.trans (hb1.mono hb.size)).setCell (by simp) _).setCell (by simp) _).setCell (by simp) _).setCell (by simp) _).setCell (by simp) _⟩
   case measure => simp [intOf]; omega
  ·obtain rfl : k = l.length := by omega
   go_wp2
   go_ret
   exact ⟨_, _, rfl, Nat.le_refl _, (sl_of_laid (ok := okF w.heap.size _) hrow ⟨Nat.le_refl _, hgw.out, fun off => hrow.free off⟩ (fun i hi hlt' => by
    obtain ⟨c', h1, h2, h3⟩ := hlaid.out i hi hlt'
    exact ⟨c', h1, FkR.stays _ _ _ _ _ _ h2 (fun b hb' => hb'.mono (Nat.le_succ _)) (fun p v _ hp => hp), h3⟩) (Nat.le_refl _)), hb⟩
set_option maxRecDepth 100000 in
set_option maxHeartbeats 1000000 in
theorem lawsToTable (x : Tb) (A1 : Option Addr) (n1 c1 : Nat) (A2 : Option Addr) (n2 c2 : Nat) (A3 : Option Addr) (n3 c3 : Nat) (A4 : Option Addr) (n4 c4 : Nat) (A5 : Option Addr) (n5 c5 : Nat) (ok : Nat → Prop) (w : World) (h1 : Sl ClR 6 ok w A1 n1 x.cols) (h2 : Sl IntR 1 ok w A2 n2 x.key) (h3 : Sl UqR 1 ok w A3 n3 x.uniqs) (h4 : Sl CkR 1 ok w A4 n4 x.checks) (h5 : Sl FkR 5 ok w A5 n5 x.fks) (hs : x.sz ≤ 1048576) :
  Calls Tryz.prog 16 #[.agg #[.string x.name, .slice A1 n1 c1, .slice A2 n2 c2, .slice A3 n3 c3, .slice A4 n4 c4, .slice A5 n5 c5]] w (MadeR TbR x w) := by
 have hs1 : szL Cl.sz x.cols ≤ 1048576 := by have := hs; unfold Tb.sz at this; omega
 have HS1 := Lib.hid hs1
 clear hs1
 have hs2 : x.key.length ≤ 1048576 := by have := hs; unfold Tb.sz at this; omega
 have HS2 := Lib.hid hs2
 clear hs2
 have hs3 : szL Uq.sz x.uniqs ≤ 1048576 := by have := hs; unfold Tb.sz at this; omega
 have HS3 := Lib.hid hs3
 clear hs3
 have hs4 : szL Ck.sz x.checks ≤ 1048576 := by have := hs; unfold Tb.sz at this; omega
 have HS4 := Lib.hid hs4
 clear hs4
 have hs5 : szL Fk.sz x.fks ≤ 1048576 := by have := hs; unfold Tb.sz at this; omega
 have HS5 := Lib.hid hs5
 clear hs5
 clear hs
 have ra := ((Row.new w 44 #[.string x.name, .slice A1 n1 c1, .slice A2 n2 c2, .slice A3 n3 c3, .slice A4 n4 c4, .slice A5 n5 c5]).alloc (.cells #[.string ⟨#[]⟩, .slice none 0 0, .slice none 0 0, .slice none 0 0, .slice none 0 0, .slice none 0 0] 53)).alloc (.cells #[.string x.name, .slice none 0 0, .slice none 0 0, .slice none 0 0, .slice none 0 0, .slice none 0 0] 53)
 have r1 := (Row.newAt (w.alloc (.cells #[.string x.name, .slice A1 n1 c1, .slice A2 n2 c2, .slice A3 n3 c3, .slice A4 n4 c4, .slice A5 n5 c5] 44)) 53 #[.string ⟨#[]⟩, .slice none 0 0, .slice none 0 0, .slice none 0 0, .slice none 0 0, .slice none 0 0] (w.heap.size + 1) (by simp)).alloc (.cells #[.string x.name, .slice none 0 0, .slice none 0 0, .slice none 0 0, .slice none 0 0, .slice none 0 0] 53)
 have r2 := Row.newAt ((w.alloc (.cells #[.string x.name, .slice A1 n1 c1, .slice A2 n2 c2, .slice A3 n3 c3, .slice A4 n4 c4, .slice A5 n5 c5] 44)).alloc (.cells #[.string ⟨#[]⟩, .slice none 0 0, .slice none 0 0, .slice none 0 0, .slice none 0 0, .slice none 0 0] 53)) 53 #[.string x.name, .slice none 0 0, .slice none 0 0, .slice none 0 0, .slice none 0 0, .slice none 0 0] (w.heap.size + 1 + 1) (by simp)
 have hb0 := ((((Below.refl w.heap.size w).alloc (Nat.le_refl _) (.cells #[.string x.name, .slice A1 n1 c1, .slice A2 n2 c2, .slice A3 n3 c3, .slice A4 n4 c4, .slice A5 n5 c5] 44)).alloc (by simp) (.cells #[.string ⟨#[]⟩, .slice none 0 0, .slice none 0 0, .slice none 0 0, .slice none 0 0, .slice none 0 0] 53)).alloc (by simp; omega) (.cells #[.string x.name, .slice none 0 0, .slice none 0 0, .slice none 0 0, .slice none 0 0, .slice none 0 0] 53))
 have hz0 : w.heap.size + 3 ≤ (((w.alloc (.cells #[.string x.name, .slice A1 n1 c1, .slice A2 n2 c2, .slice A3 n3 c3, .slice A4 n4 c4, .slice A5 n5 c5] 44)).alloc (.cells #[.string ⟨#[]⟩, .slice none 0 0, .slice none 0 0, .slice none 0 0, .slice none 0 0, .slice none 0 0] 53)).alloc (.cells #[.string x.name, .slice none 0 0, .slice none 0 0, .slice none 0 0, .slice none 0 0, .slice none 0 0] 53)).heap.size := by simp
 go_enter Tryz.func16, Tryz.ntmps16
 go_wp2_with fail
 generalize ((w.alloc (.cells #[.string x.name, .slice A1 n1 c1, .slice A2 n2 c2, .slice A3 n3 c3, .slice A4 n4 c4, .slice A5 n5 c5] 44)).alloc (.cells #[.string ⟨#[]⟩, .slice none 0 0, .slice none 0 0, .slice none 0 0, .slice none 0 0, .slice none 0 0] 53)).alloc (.cells #[.string x.name, .slice none 0 0, .slice none 0 0, .slice none 0 0, .slice none 0 0, .slice none 0 0] 53) = x0 at *
 refine (lawsToColL A1 n1 c1 x.cols ok _ (h1.below ClR.stays hb0) HS1.out).mono ?_
 rintro e w1 ⟨B1, d1, rfl, hcp1, t1, hc0⟩
 have u1 := t1.stays ClR.stays (ok' := okF (w.heap.size + 3) w1) (fun b hb' => hb'.mono (by omega)) (fun p v _ hp => hp)
 clear t1
 have ra := ra.below hc0
 have r1 := r1.below hc0
 have r2 := r2.below hc0
 have hbx0 := hb0.trans (hc0.mono hb0.size)
 have hz1 : w.heap.size + 3 ≤ w1.heap.size := Nat.le_trans hz0 hc0.size
 obtain ⟨⟨a_0_0, a_0_1, a_0_2, a_0_3, a_0_4, a_0_5⟩, -⟩ := ra.all6
 obtain ⟨⟨b_0_0, b_0_1, b_0_2, b_0_3, b_0_4, b_0_5⟩, ⟨f_0_0, f_0_1, f_0_2, f_0_3, f_0_4, f_0_5⟩⟩ := r2.all6
 go_wp2_with fail
 have ra' : Row ((w1).setCell ⟨w.heap.size + 1 + 1, 1, none⟩ (.slice B1 n1 d1)) w.heap.size 44 #[.string x.name, .slice A1 n1 c1, .slice A2 n2 c2, .slice A3 n3 c3, .slice A4 n4 c4, .slice A5 n5 c5] := (ra).far (by simp; try omega) _
 have r1' : Row ((w1).setCell ⟨w.heap.size + 1 + 1, 1, none⟩ (.slice B1 n1 d1)) (w.heap.size + 1) 53 #[.string ⟨#[]⟩, .slice none 0 0, .slice none 0 0, .slice none 0 0, .slice none 0 0, .slice none 0 0] := (r1).far (by simp) _
 have r2' : Row ((w1).setCell ⟨w.heap.size + 1 + 1, 1, none⟩ (.slice B1 n1 d1)) (w.heap.size + 1 + 1) 53 #[.string x.name, .slice B1 n1 d1, .slice none 0 0, .slice none 0 0, .slice none 0 0, .slice none 0 0] := (r2).set 1 _
 have hb1 : Below w.heap.size w ((w1).setCell ⟨w.heap.size + 1 + 1, 1, none⟩ (.slice B1 n1 d1)) := (hbx0).setCell (by simp; try omega) _
 have hz1' : w.heap.size + 3 ≤ ((w1).setCell ⟨w.heap.size + 1 + 1, 1, none⟩ (.slice B1 n1 d1)).heap.size := by simpa using hz1
 have u1' : Sl ClR 6 (okF (w.heap.size + 3) ((w1).setCell ⟨w.heap.size + 1 + 1, 1, none⟩ (.slice B1 n1 d1))) ((w1).setCell ⟨w.heap.size + 1 + 1, 1, none⟩ (.slice B1 n1 d1)) B1 n1 x.cols := (u1).setF ClR.stays (by simp) _
 clear ra r1 r2 hz1 u1 a_0_0 a_0_1 a_0_2 a_0_3 a_0_4 a_0_5 b_0_0 b_0_1 b_0_2 b_0_3 b_0_4 b_0_5 f_0_0 f_0_1 f_0_2 f_0_3 f_0_4 f_0_5
 generalize (w1).setCell ⟨w.heap.size + 1 + 1, 1, none⟩ (.slice B1 n1 d1) = x1 at *
 have ra := ra'
 have r1 := r1'
 have r2 := r2'
 have hz1 := hz1'
 have u1 := u1'
 clear ra' r1' r2' hz1' u1'
 refine (lawsToIntL A2 n2 c2 x.key ok _ (h2.below IntR.stays hb1) HS2.out).mono ?_
 rintro e w2 ⟨B2, d2, rfl, hcp2, t2, hc1⟩
 have u2 := t2.stays IntR.stays (ok' := okF (w.heap.size + 3) w2) (fun b hb' => hb'.mono (by omega)) (fun p v _ hp => hp)
 clear t2
 have ra := ra.below hc1
 have r1 := r1.below hc1
 have r2 := r2.below hc1
 have hbx1 := hb1.trans (hc1.mono hb1.size)
 have hz2 : w.heap.size + 3 ≤ w2.heap.size := Nat.le_trans hz1 hc1.size
 have u1 := u1.belowF ClR.stays hc1
 obtain ⟨⟨a_1_0, a_1_1, a_1_2, a_1_3, a_1_4, a_1_5⟩, -⟩ := ra.all6
 obtain ⟨⟨b_1_0, b_1_1, b_1_2, b_1_3, b_1_4, b_1_5⟩, ⟨f_1_0, f_1_1, f_1_2, f_1_3, f_1_4, f_1_5⟩⟩ := r2.all6
 go_wp2_with fail
 have ra' : Row ((w2).setCell ⟨w.heap.size + 1 + 1, 2, none⟩ (.slice B2 n2 d2)) w.heap.size 44 #[.string x.name, .slice A1 n1 c1, .slice A2 n2 c2, .slice A3 n3 c3, .slice A4 n4 c4, .slice A5 n5 c5] := (ra).far (by simp; try omega) _
 have r1' : Row ((w2).setCell ⟨w.heap.size + 1 + 1, 2, none⟩ (.slice B2 n2 d2)) (w.heap.size + 1) 53 #[.string ⟨#[]⟩, .slice none 0 0, .slice none 0 0, .slice none 0 0, .slice none 0 0, .slice none 0 0] := (r1).far (by simp) _
 have r2' : Row ((w2).setCell ⟨w.heap.size + 1 + 1, 2, none⟩ (.slice B2 n2 d2)) (w.heap.size + 1 + 1) 53 #[.string x.name, .slice B1 n1 d1, .slice B2 n2 d2, .slice none 0 0, .slice none 0 0, .slice none 0 0] := (r2).set 2 _
 have hb2 : Below w.heap.size w ((w2).setCell ⟨w.heap.size + 1 + 1, 2, none⟩ (.slice B2 n2 d2)) := (hbx1).setCell (by simp; try omega) _
 have hz2' : w.heap.size + 3 ≤ ((w2).setCell ⟨w.heap.size + 1 + 1, 2, none⟩ (.slice B2 n2 d2)).heap.size := by simpa using hz2
 have u1' : Sl ClR 6 (okF (w.heap.size + 3) ((w2).setCell ⟨w.heap.size + 1 + 1, 2, none⟩ (.slice B2 n2 d2))) ((w2).setCell ⟨w.heap.size + 1 + 1, 2, none⟩ (.slice B2 n2 d2)) B1 n1 x.cols := (u1).setF ClR.stays (by simp) _
 have u2' : Sl IntR 1 (okF (w.heap.size + 3) ((w2).setCell ⟨w.heap.size + 1 + 1, 2, none⟩ (.slice B2 n2 d2))) ((w2).setCell ⟨w.heap.size + 1 + 1, 2, none⟩ (.slice B2 n2 d2)) B2 n2 x.key := (u2).setF IntR.stays (by simp) _
 clear ra r1 r2 hz2 u1 u2 a_1_0 a_1_1 a_1_2 a_1_3 a_1_4 a_1_5 b_1_0 b_1_1 b_1_2 b_1_3 b_1_4 b_1_5 f_1_0 f_1_1 f_1_2 f_1_3 f_1_4 f_1_5
 generalize (w2).setCell ⟨w.heap.size + 1 + 1, 2, none⟩ (.slice B2 n2 d2) = x2 at *
 have ra := ra'
 have r1 := r1'
 have r2 := r2'
 have hz2 := hz2'
 have u1 := u1'
 have u2 := u2'
 clear ra' r1' r2' hz2' u1' u2'
 refine (lawsToUniqueL A3 n3 c3 x.uniqs ok _ (h3.below UqR.stays hb2) HS3.out).mono ?_
 rintro e w3 ⟨B3, d3, rfl, hcp3, t3, hc2⟩
 have u3 := t3.stays UqR.stays (ok' := okF (w.heap.size + 3) w3) (fun b hb' => hb'.mono (by omega)) (fun p v _ hp => hp)
 clear t3
 have ra := ra.below hc2
 have r1 := r1.below hc2
 have r2 := r2.below hc2
 have hbx2 := hb2.trans (hc2.mono hb2.size)
 have hz3 : w.heap.size + 3 ≤ w3.heap.size := Nat.le_trans hz2 hc2.size
 have u1 := u1.belowF ClR.stays hc2
 have u2 := u2.belowF IntR.stays hc2
 obtain ⟨⟨a_2_0, a_2_1, a_2_2, a_2_3, a_2_4, a_2_5⟩, -⟩ := ra.all6
 obtain ⟨⟨b_2_0, b_2_1, b_2_2, b_2_3, b_2_4, b_2_5⟩, ⟨f_2_0, f_2_1, f_2_2, f_2_3, f_2_4, f_2_5⟩⟩ := r2.all6
 go_wp2_with fail
 have ra' : Row ((w3).setCell ⟨w.heap.size + 1 + 1, 3, none⟩ (.slice B3 n3 d3)) w.heap.size 44 #[.string x.name, .slice A1 n1 c1, .slice A2 n2 c2, .slice A3 n3 c3, .slice A4 n4 c4, .slice A5 n5 c5] := (ra).far (by simp; try omega) _
 have r1' : Row ((w3).setCell ⟨w.heap.size + 1 + 1, 3, none⟩ (.slice B3 n3 d3)) (w.heap.size + 1) 53 #[.string ⟨#[]⟩, .slice none 0 0, .slice none 0 0, .slice none 0 0, .slice none 0 0, .slice none 0 0] := (r1).far (by simp) _
 have r2' : Row ((w3).setCell ⟨w.heap.size + 1 + 1, 3, none⟩ (.slice B3 n3 d3)) (w.heap.size + 1 + 1) 53 #[.string x.name, .slice B1 n1 d1, .slice B2 n2 d2, .slice B3 n3 d3, .slice none 0 0, .slice none 0 0] := (r2).set 3 _
 have hb3 : Below w.heap.size w ((w3).setCell ⟨w.heap.size + 1 + 1, 3, none⟩ (.slice B3 n3 d3)) := (hbx2).setCell (by simp; try omega) _
 have hz3' : w.heap.size + 3 ≤ ((w3).setCell ⟨w.heap.size + 1 + 1, 3, none⟩ (.slice B3 n3 d3)).heap.size := by simpa using hz3
 have u1' : Sl ClR 6 (okF (w.heap.size + 3) ((w3).setCell ⟨w.heap.size + 1 + 1, 3, none⟩ (.slice B3 n3 d3))) ((w3).setCell ⟨w.heap.size + 1 + 1, 3, none⟩ (.slice B3 n3 d3)) B1 n1 x.cols := (u1).setF ClR.stays (by simp) _
 have u2' : Sl IntR 1 (okF (w.heap.size + 3) ((w3).setCell ⟨w.heap.size + 1 + 1, 3, none⟩ (.slice B3 n3 d3))) ((w3).setCell ⟨w.heap.size + 1 + 1, 3, none⟩ (.slice B3 n3 d3)) B2 n2 x.key := (u2).setF IntR.stays (by simp) _
 have u3' : Sl UqR 1 (okF (w.heap.size + 3) ((w3).setCell ⟨w.heap.size + 1 + 1, 3, none⟩ (.slice B3 n3 d3))) ((w3).setCell ⟨w.heap.size + 1 + 1, 3, none⟩ (.slice B3 n3 d3)) B3 n3 x.uniqs := (u3).setF UqR.stays (by simp) _
 clear ra r1 r2 hz3 u1 u2 u3 a_2_0 a_2_1 a_2_2 a_2_3 a_2_4 a_2_5 b_2_0 b_2_1 b_2_2 b_2_3 b_2_4 b_2_5 f_2_0 f_2_1 f_2_2 f_2_3 f_2_4 f_2_5
 generalize (w3).setCell ⟨w.heap.size + 1 + 1, 3, none⟩ (.slice B3 n3 d3) = x3 at *
 have ra := ra'
 have r1 := r1'
 have r2 := r2'
 have hz3 := hz3'
 have u1 := u1'
 have u2 := u2'
 have u3 := u3'
 clear ra' r1' r2' hz3' u1' u2' u3'
 refine (lawsToCheckL A4 n4 c4 x.checks ok _ (h4.below CkR.stays hb3) HS4.out).mono ?_
 rintro e w4 ⟨B4, d4, rfl, hcp4, t4, hc3⟩
 have u4 := t4.stays CkR.stays (ok' := okF (w.heap.size + 3) w4) (fun b hb' => hb'.mono (by omega)) (fun p v _ hp => hp)
 clear t4
 have ra := ra.below hc3
 have r1 := r1.below hc3
 have r2 := r2.below hc3
 have hbx3 := hb3.trans (hc3.mono hb3.size)
 have hz4 : w.heap.size + 3 ≤ w4.heap.size := Nat.le_trans hz3 hc3.size
 have u1 := u1.belowF ClR.stays hc3
 have u2 := u2.belowF IntR.stays hc3
 have u3 := u3.belowF UqR.stays hc3
 obtain ⟨⟨a_3_0, a_3_1, a_3_2, a_3_3, a_3_4, a_3_5⟩, -⟩ := ra.all6
 obtain ⟨⟨b_3_0, b_3_1, b_3_2, b_3_3, b_3_4, b_3_5⟩, ⟨f_3_0, f_3_1, f_3_2, f_3_3, f_3_4, f_3_5⟩⟩ := r2.all6
 go_wp2_with fail
 have ra' : Row ((w4).setCell ⟨w.heap.size + 1 + 1, 4, none⟩ (.slice B4 n4 d4)) w.heap.size 44 #[.string x.name, .slice A1 n1 c1, .slice A2 n2 c2, .slice A3 n3 c3, .slice A4 n4 c4, .slice A5 n5 c5] := (ra).far (by simp; try omega) _
 have r1' : Row ((w4).setCell ⟨w.heap.size + 1 + 1, 4, none⟩ (.slice B4 n4 d4)) (w.heap.size + 1) 53 #[.string ⟨#[]⟩, .slice none 0 0, .slice none 0 0, .slice none 0 0, .slice none 0 0, .slice none 0 0] := (r1).far (by simp) _
 have r2' : Row ((w4).setCell ⟨w.heap.size + 1 + 1, 4, none⟩ (.slice B4 n4 d4)) (w.heap.size + 1 + 1) 53 #[.string x.name, .slice B1 n1 d1, .slice B2 n2 d2, .slice B3 n3 d3, .slice B4 n4 d4, .slice none 0 0] := (r2).set 4 _
 have hb4 : Below w.heap.size w ((w4).setCell ⟨w.heap.size + 1 + 1, 4, none⟩ (.slice B4 n4 d4)) := (hbx3).setCell (by simp; try omega) _
 have hz4' : w.heap.size + 3 ≤ ((w4).setCell ⟨w.heap.size + 1 + 1, 4, none⟩ (.slice B4 n4 d4)).heap.size := by simpa using hz4
 have u1' : Sl ClR 6 (okF (w.heap.size + 3) ((w4).setCell ⟨w.heap.size + 1 + 1, 4, none⟩ (.slice B4 n4 d4))) ((w4).setCell ⟨w.heap.size + 1 + 1, 4, none⟩ (.slice B4 n4 d4)) B1 n1 x.cols := (u1).setF ClR.stays (by simp) _
 have u2' : Sl IntR 1 (okF (w.heap.size + 3) ((w4).setCell ⟨w.heap.size + 1 + 1, 4, none⟩ (.slice B4 n4 d4))) ((w4).setCell ⟨w.heap.size + 1 + 1, 4, none⟩ (.slice B4 n4 d4)) B2 n2 x.key := (u2).setF IntR.stays (by simp) _
 have u3' : Sl UqR 1 (okF (w.heap.size + 3) ((w4).setCell ⟨w.heap.size + 1 + 1, 4, none⟩ (.slice B4 n4 d4))) ((w4).setCell ⟨w.heap.size + 1 + 1, 4, none⟩ (.slice B4 n4 d4)) B3 n3 x.uniqs := (u3).setF UqR.stays (by simp) _
 have u4' : Sl CkR 1 (okF (w.heap.size + 3) ((w4).setCell ⟨w.heap.size + 1 + 1, 4, none⟩ (.slice B4 n4 d4))) ((w4).setCell ⟨w.heap.size + 1 + 1, 4, none⟩ (.slice B4 n4 d4)) B4 n4 x.checks := (u4).setF CkR.stays (by simp) _
 clear ra r1 r2 hz4 u1 u2 u3 u4 a_3_0 a_3_1 a_3_2 a_3_3 a_3_4 a_3_5 b_3_0 b_3_1 b_3_2 b_3_3 b_3_4 b_3_5 f_3_0 f_3_1 f_3_2 f_3_3 f_3_4 f_3_5
 generalize (w4).setCell ⟨w.heap.size + 1 + 1, 4, none⟩ (.slice B4 n4 d4) = x4 at *
 have ra := ra'
 have r1 := r1'
 have r2 := r2'
 have hz4 := hz4'
 have u1 := u1'
 have u2 := u2'
 have u3 := u3'
 have u4 := u4'
 clear ra' r1' r2' hz4' u1' u2' u3' u4'
 refine (lawsToFkL A5 n5 c5 x.fks ok _ (h5.below FkR.stays hb4) HS5.out).mono ?_
 rintro e w5 ⟨B5, d5, rfl, hcp5, t5, hc4⟩
 have u5 := t5.stays FkR.stays (ok' := okF (w.heap.size + 3) w5) (fun b hb' => hb'.mono (by omega)) (fun p v _ hp => hp)
 clear t5
 have ra := ra.below hc4
 have r1 := r1.below hc4
 have r2 := r2.below hc4
 have hbx4 := hb4.trans (hc4.mono hb4.size)
 have hz5 : w.heap.size + 3 ≤ w5.heap.size := Nat.le_trans hz4 hc4.size
 have u1 := u1.belowF ClR.stays hc4
 have u2 := u2.belowF IntR.stays hc4
 have u3 := u3.belowF UqR.stays hc4
 have u4 := u4.belowF CkR.stays hc4
 obtain ⟨⟨a_4_0, a_4_1, a_4_2, a_4_3, a_4_4, a_4_5⟩, -⟩ := ra.all6
 obtain ⟨⟨b_4_0, b_4_1, b_4_2, b_4_3, b_4_4, b_4_5⟩, ⟨f_4_0, f_4_1, f_4_2, f_4_3, f_4_4, f_4_5⟩⟩ := r2.all6
 obtain ⟨⟨g_4_0, g_4_1, g_4_2, g_4_3, g_4_4, g_4_5⟩, ⟨k_4_0, k_4_1, k_4_2, k_4_3, k_4_4, k_4_5⟩⟩ := r1.all6
 have rz : Row ((((((((w5).setCell ⟨w.heap.size + 1 + 1, 5, none⟩ (.slice B5 n5 d5)).setCell ⟨w.heap.size + 1, 0, none⟩ (.string x.name)).setCell ⟨w.heap.size + 1, 1, none⟩ (.slice B1 n1 d1)).setCell ⟨w.heap.size + 1, 2, none⟩ (.slice B2 n2 d2)).setCell ⟨w.heap.size + 1, 3, none⟩ (.slice B3 n3 d3)).setCell ⟨w.heap.size + 1, 4, none⟩ (.slice B4 n4 d4)).setCell ⟨w.heap.size + 1, 5, none⟩ (.slice B5 n5 d5)) (w.heap.size + 1) 53 #[.string x.name, .slice B1 n1 d1, .slice B2 n2 d2, .slice B3 n3 d3, .slice B4 n4 d4, .slice B5 n5 d5] := (((((((r1).far (by simp) _).set 0 _).set 1 _).set 2 _).set 3 _).set 4 _).set 5 _
 obtain ⟨⟨z0, z1, z2, z3, z4, z5⟩, -⟩ := rz.all6
 have y1 : Sl ClR 6 (okF (w.heap.size + 3) ((((((((w5).setCell ⟨w.heap.size + 1 + 1, 5, none⟩ (.slice B5 n5 d5)).setCell ⟨w.heap.size + 1, 0, none⟩ (.string x.name)).setCell ⟨w.heap.size + 1, 1, none⟩ (.slice B1 n1 d1)).setCell ⟨w.heap.size + 1, 2, none⟩ (.slice B2 n2 d2)).setCell ⟨w.heap.size + 1, 3, none⟩ (.slice B3 n3 d3)).setCell ⟨w.heap.size + 1, 4, none⟩ (.slice B4 n4 d4)).setCell ⟨w.heap.size + 1, 5, none⟩ (.slice B5 n5 d5))) ((((((((w5).setCell ⟨w.heap.size + 1 + 1, 5, none⟩ (.slice B5 n5 d5)).setCell ⟨w.heap.size + 1, 0, none⟩ (.string x.name)).setCell ⟨w.heap.size + 1, 1, none⟩ (.slice B1 n1 d1)).setCell ⟨w.heap.size + 1, 2, none⟩ (.slice B2 n2 d2)).setCell ⟨w.heap.size + 1, 3, none⟩ (.slice B3 n3 d3)).setCell ⟨w.heap.size + 1, 4, none⟩ (.slice B4 n4 d4)).setCell ⟨w.heap.size + 1, 5, none⟩ (.slice B5 n5 d5)) B1 n1 x.cols := (((((((u1).setF ClR.stays (by simp) _).setF ClR.stays (by simp) _).setF ClR.stays (by simp) _).setF ClR.stays (by simp) _).setF ClR.stays (by simp) _).setF ClR.stays (by simp) _).setF ClR.stays (by simp) _
 have y2 : Sl IntR 1 (okF (w.heap.size + 3) ((((((((w5).setCell ⟨w.heap.size + 1 + 1, 5, none⟩ (.slice B5 n5 d5)).setCell ⟨w.heap.size + 1, 0, none⟩ (.string x.name)).setCell ⟨w.heap.size + 1, 1, none⟩ (.slice B1 n1 d1)).setCell ⟨w.heap.size + 1, 2, none⟩ (.slice B2 n2 d2)).setCell ⟨w.heap.size + 1, 3, none⟩ (.slice B3 n3 d3)).setCell ⟨w.heap.size + 1, 4, none⟩ (.slice B4 n4 d4)).setCell ⟨w.heap.size + 1, 5, none⟩ (.slice B5 n5 d5))) ((((((((w5).setCell ⟨w.heap.size + 1 + 1, 5, none⟩ (.slice B5 n5 d5)).setCell ⟨w.heap.size + 1, 0, none⟩ (.string x.name)).setCell ⟨w.heap.size + 1, 1, none⟩ (.slice B1 n1 d1)).setCell ⟨w.heap.size + 1, 2, none⟩ (.slice B2 n2 d2)).setCell ⟨w.heap.size + 1, 3, none⟩ (.slice B3 n3 d3)).setCell ⟨w.heap.size + 1, 4, none⟩ (.slice B4 n4 d4)).setCell ⟨w.heap.size + 1, 5, none⟩ (.slice B5 n5 d5)) B2 n2 x.key := (((((((u2).setF IntR.stays (by simp) _).setF IntR.stays (by simp) _).setF IntR.stays (by simp) _).setF IntR.stays (by simp) _).setF IntR.stays (by simp) _).setF IntR.stays (by simp) _).setF IntR.stays (by simp) _
 have y3 : Sl UqR 1 (okF (w.heap.size + 3) ((((((((w5).setCell ⟨w.heap.size + 1 + 1, 5, none⟩ (.slice B5 n5 d5)).setCell ⟨w.heap.size + 1, 0, none⟩ (.string x.name)).setCell ⟨w.heap.size + 1, 1, none⟩ (.slice B1 n1 d1)).setCell ⟨w.heap.size + 1, 2, none⟩ (.slice B2 n2 d2)).setCell ⟨w.heap.size + 1, 3, none⟩ (.slice B3 n3 d3)).setCell ⟨w.heap.size + 1, 4, none⟩ (.slice B4 n4 d4)).setCell ⟨w.heap.size + 1, 5, none⟩ (.slice B5 n5 d5))) ((((((((w5).setCell ⟨w.heap.size + 1 + 1, 5, none⟩ (.slice B5 n5 d5)).setCell ⟨w.heap.size + 1, 0, none⟩ (.string x.name)).setCell ⟨w.heap.size + 1, 1, none⟩ (.slice B1 n1 d1)).setCell ⟨w.heap.size + 1, 2, none⟩ (.slice B2 n2 d2)).setCell ⟨w.heap.size + 1, 3, none⟩ (.slice B3 n3 d3)).setCell ⟨w.heap.size + 1, 4, none⟩ (.slice B4 n4 d4)).setCell ⟨w.heap.size + 1, 5, none⟩ (.slice B5 n5 d5)) B3 n3 x.uniqs := (((((((u3).setF UqR.stays (by simp) _).setF UqR.stays (by simp) _).setF UqR.stays (by simp) _).setF UqR.stays (by simp) _).setF UqR.stays (by simp) _).setF UqR.stays (by simp) _).setF UqR.stays (by simp) _
 have y4 : Sl CkR 1 (okF (w.heap.size + 3) ((((((((w5).setCell ⟨w.heap.size + 1 + 1, 5, none⟩ (.slice B5 n5 d5)).setCell ⟨w.heap.size + 1, 0, none⟩ (.string x.name)).setCell ⟨w.heap.size + 1, 1, none⟩ (.slice B1 n1 d1)).setCell ⟨w.heap.size + 1, 2, none⟩ (.slice B2 n2 d2)).setCell ⟨w.heap.size + 1, 3, none⟩ (.slice B3 n3 d3)).setCell ⟨w.heap.size + 1, 4, none⟩ (.slice B4 n4 d4)).setCell ⟨w.heap.size + 1, 5, none⟩ (.slice B5 n5 d5))) ((((((((w5).setCell ⟨w.heap.size + 1 + 1, 5, none⟩ (.slice B5 n5 d5)).setCell ⟨w.heap.size + 1, 0, none⟩ (.string x.name)).setCell ⟨w.heap.size + 1, 1, none⟩ (.slice B1 n1 d1)).setCell ⟨w.heap.size + 1, 2, none⟩ (.slice B2 n2 d2)).setCell ⟨w.heap.size + 1, 3, none⟩ (.slice B3 n3 d3)).setCell ⟨w.heap.size + 1, 4, none⟩ (.slice B4 n4 d4)).setCell ⟨w.heap.size + 1, 5, none⟩ (.slice B5 n5 d5)) B4 n4 x.checks := (((((((u4).setF CkR.stays (by simp) _).setF CkR.stays (by simp) _).setF CkR.stays (by simp) _).setF CkR.stays (by simp) _).setF CkR.stays (by simp) _).setF CkR.stays (by simp) _).setF CkR.stays (by simp) _
 have y5 : Sl FkR 5 (okF (w.heap.size + 3) ((((((((w5).setCell ⟨w.heap.size + 1 + 1, 5, none⟩ (.slice B5 n5 d5)).setCell ⟨w.heap.size + 1, 0, none⟩ (.string x.name)).setCell ⟨w.heap.size + 1, 1, none⟩ (.slice B1 n1 d1)).setCell ⟨w.heap.size + 1, 2, none⟩ (.slice B2 n2 d2)).setCell ⟨w.heap.size + 1, 3, none⟩ (.slice B3 n3 d3)).setCell ⟨w.heap.size + 1, 4, none⟩ (.slice B4 n4 d4)).setCell ⟨w.heap.size + 1, 5, none⟩ (.slice B5 n5 d5))) ((((((((w5).setCell ⟨w.heap.size + 1 + 1, 5, none⟩ (.slice B5 n5 d5)).setCell ⟨w.heap.size + 1, 0, none⟩ (.string x.name)).setCell ⟨w.heap.size + 1, 1, none⟩ (.slice B1 n1 d1)).setCell ⟨w.heap.size + 1, 2, none⟩ (.slice B2 n2 d2)).setCell ⟨w.heap.size + 1, 3, none⟩ (.slice B3 n3 d3)).setCell ⟨w.heap.size + 1, 4, none⟩ (.slice B4 n4 d4)).setCell ⟨w.heap.size + 1, 5, none⟩ (.slice B5 n5 d5)) B5 n5 x.fks := (((((((u5).setF FkR.stays (by simp) _).setF FkR.stays (by simp) _).setF FkR.stays (by simp) _).setF FkR.stays (by simp) _).setF FkR.stays (by simp) _).setF FkR.stays (by simp) _).setF FkR.stays (by simp) _
 have hbz : Below w.heap.size w ((((((((w5).setCell ⟨w.heap.size + 1 + 1, 5, none⟩ (.slice B5 n5 d5)).setCell ⟨w.heap.size + 1, 0, none⟩ (.string x.name)).setCell ⟨w.heap.size + 1, 1, none⟩ (.slice B1 n1 d1)).setCell ⟨w.heap.size + 1, 2, none⟩ (.slice B2 n2 d2)).setCell ⟨w.heap.size + 1, 3, none⟩ (.slice B3 n3 d3)).setCell ⟨w.heap.size + 1, 4, none⟩ (.slice B4 n4 d4)).setCell ⟨w.heap.size + 1, 5, none⟩ (.slice B5 n5 d5)) := (((((((hbx4).setCell (by simp; try omega) _).setCell (by simp; try omega) _).setCell (by simp; try omega) _).setCell (by simp; try omega) _).setCell (by simp; try omega) _).setCell (by simp; try omega) _).setCell (by simp; try omega) _
 clear ra r1 r2 rz
 go_wp2_with fail
 exact bodyPost_ret (v := .agg #[.string x.name, .slice B1 n1 d1, .slice B2 n2 d2, .slice B3 n3 d3, .slice B4 n4 d4, .slice B5 n5 d5]) (by simp [results, Tryz.results16, go_sem, z0, z1, z2, z3, z4, z5]) rfl ⟨[.string x.name, .slice B1 n1 d1, .slice B2 n2 d2, .slice B3 n3 d3, .slice B4 n4 d4, .slice B5 n5 d5], rfl, ⟨_, _, _, _, _, _, _, _, _, _, _, _, _, _, _, rfl, y1.stays ClR.stays (fun b hb' => hb'.mono (by omega)) (fun p v _ hp => hp), y2.stays IntR.stays (fun b hb' => hb'.mono (by omega)) (fun p v _ hp => hp), y3.stays UqR.stays (fun b hb' => hb'.mono (by omega)) (fun p v _ hp => hp), y4.stays CkR.stays (fun b hb' => hb'.mono (by omega)) (fun p v _ hp => hp), y5.stays FkR.stays (fun b hb' => hb'.mono (by omega)) (fun p v _ hp => hp), ⟨hcp1, hcp2, hcp3, hcp4, hcp5⟩⟩, hbz⟩
theorem infoTableT : (Tryz.prog.info? 53).map (fun i => (i.zero, i.size, i.bytes)) = some (some (.agg #[.string ⟨#[]⟩, .slice none 0 0, .slice none 0 0, .slice none 0 0, .slice none 0 0, .slice none 0 0]), 6, 136) := by kernel_rfl
set_option maxRecDepth 100000 in
set_option maxHeartbeats 1000000 in
theorem lawsToTableL (A : Option Addr) (n c : Nat) (l : List Tb) (ok : Nat → Prop) (w : World) (h : Sl TbR 6 ok w A n l) (hs : szL Tb.sz l ≤ 1048576) :
  Calls Tryz.prog 6 #[.slice A n c] w (MadeSl TbR 6 n l w) := by
 obtain rfl : l.length = n := h.1
 have hn : l.length ≤ 1048576 := by unfold szL at hs; omega
 have HS := Lib.hid hs
 clear hs
 have hmk := fun w => mk_rows (P := Tryz.prog) Tryz.underlying24 infoTableT (by omega) l.length hn w
 go_enter Tryz.func6, Tryz.ntmps6
 go_wp2
 have row := Row.new w 53 (madeCells #[.string ⟨#[]⟩, .slice none 0 0, .slice none 0 0, .slice none 0 0, .slice none 0 0, .slice none 0 0] (l.length * 6))
 have hb0 := (Below.refl w.heap.size w).alloc (Nat.le_refl _) (.cells (madeCells #[.string ⟨#[]⟩, .slice none 0 0, .slice none 0 0, .slice none 0 0, .slice none 0 0, .slice none 0 0] (l.length * 6)) 53)
 have hsz := size_madeCells #[.string ⟨#[]⟩, .slice none 0 0, .slice none 0 0, .slice none 0 0, .slice none 0 0, .slice none 0 0] (l.length * 6)
 have hx0 : (w.alloc (.cells (madeCells #[.string ⟨#[]⟩, .slice none 0 0, .slice none 0 0, .slice none 0 0, .slice none 0 0, .slice none 0 0] (l.length * 6)) 53)).heap.size = w.heap.size + 1 := by simp
 generalize w.alloc (.cells (madeCells #[.string ⟨#[]⟩, .slice none 0 0, .slice none 0 0, .slice none 0 0, .slice none 0 0, .slice none 0 0] (l.length * 6)) 53) = x at *
 generalize madeCells #[.string ⟨#[]⟩, .slice none 0 0, .slice none 0 0, .slice none 0 0, .slice none 0 0, .slice none 0 0] (l.length * 6) = cs0 at *
 have HZ := Lib.hid hsz
 have HX0 := Lib.hid hx0
 clear hmk hsz hx0
 go_loopw [4] (fun i wr => ∃ (k : Nat) (cs : Array Value), k ≤ l.length ∧ i = .int .i64 k ∧ Row wr w.heap.size 53 cs ∧ Hid (cs.size = l.length * 6) ∧ Hid (LaidR TbR 6 (okF (w.heap.size + 1) wr) wr cs k l) ∧ Hid (w.heap.size + 1 ≤ wr.heap.size) ∧ Below w.heap.size w wr) (fun i _ => l.length - (intOf i).toNat)
 case atStart => exact ⟨0, cs0, by omega, rfl, row, Lib.hid (by rw [HZ.out]), Lib.hid (LaidR.zero _ _ _ _ _ _), Lib.hid (by rw [HX0.out]; exact Nat.le_refl _), hb0⟩
 case round =>
  obtain ⟨k, cs, hk, rfl, hrow, hcs, hlaid, hgw, hb⟩ := hrel
  by_cases hlt : k < l.length
  ·obtain ⟨b, off, A1, n1, c1, A2, n2, c2, A3, n3, c3, A4, n4, c4, A5, n5, c5, -, rfl, q0, q1, q2, q3, q4, q5, s1, s2, s3, s4, s5, -⟩ := TbR.at_ (h.below TbR.stays hb) hlt
   have hsz1 : k * 6 + 6 ≤ cs.size := by rw [hcs.out]; omega
   have hszk : l[k].sz ≤ 1048576 := by have := HS.out; have := sum_mem_le (Tb.sz) l k hlt; unfold szL at *; (try simp only at *); omega
   have HSK := Lib.hid hszk
   clear hszk
   go_wp2_with fail
   refine (lawsToTable l[k] A1 n1 c1 A2 n2 c2 A3 n3 c3 A4 n4 c4 A5 n5 c5 ok _ s1 s2 s3 s4 s5 HSK.out).mono ?_
   rintro e w1 ⟨cs', rfl, hR1, hb1⟩
   obtain ⟨B1, m1, d1, B2, m2, d2, B3, m3, d3, B4, m4, d4, B5, m5, d5, rfl, t1, t2, t3, t4, t5, hcp⟩ := hR1
   have hrow1 := hrow.below hb1
   have hgw1 : w.heap.size + 1 ≤ w1.heap.size := Nat.le_trans hgw.out hb1.size
   have HGW := Lib.hid hgw1
   clear hgw1
   have hl1 := Lib.hid (hlaid.out.belowF TbR.stays hb1)
   have q : ∀ j, j < 6 → w1.cell? ⟨w.heap.size, k * 6 + j, none⟩ = some (cs[k * 6 + j]?.getD undef) := fun j hj => by
    rw [hrow1.cell, Array.getElem?_eq_getElem (by omega)]; rfl
   have z0 : w1.cell? ⟨w.heap.size, k * 6, none⟩ = some (cs[k * 6]?.getD undef) := q 0 (by omega)
   have z1 := q 1 (by omega)
   have z2 := q 2 (by omega)
   have z3 := q 3 (by omega)
   have z4 := q 4 (by omega)
   have z5 := q 5 (by omega)
   have f0 := hrow1.free (k * 6)
   have f1 := hrow1.free (k * 6 + 1)
   have f2 := hrow1.free (k * 6 + 2)
   have f3 := hrow1.free (k * 6 + 3)
   have f4 := hrow1.free (k * 6 + 4)
   have f5 := hrow1.free (k * 6 + 5)
   clear q
   have HR := Lib.hid hrow1
   clear hrow1 hrow q0 q1 q2 q3 q4 q5
   go_wp2_with fail
   go_roundw
   case rel =>
    have y1 := (((((((t1.stays ClR.stays (ok' := okF (w.heap.size + 1) w1) (fun b hb' => hb'.mono hgw.out) (fun p v _ hp => hp))).setF ClR.stays (p := ⟨w.heap.size, k * 6, none⟩) (by simp) (.string l[k].name)).setF ClR.stays (p := ⟨w.heap.size, k * 6 + 1, none⟩) (by simp) (.slice B1 m1 d1)).setF ClR.stays (p := ⟨w.heap.size, k * 6 + 2, none⟩) (by simp) (.slice B2 m2 d2)).setF ClR.stays (p := ⟨w.heap.size, k * 6 + 3, none⟩) (by simp) (.slice B3 m3 d3)).setF ClR.stays (p := ⟨w.heap.size, k * 6 + 4, none⟩) (by simp) (.slice B4 m4 d4)).setF ClR.stays (p := ⟨w.heap.size, k * 6 + 5, none⟩) (by simp) (.slice B5 m5 d5)
    have y2 := (((((((t2.stays IntR.stays (ok' := okF (w.heap.size + 1) w1) (fun b hb' => hb'.mono hgw.out) (fun p v _ hp => hp))).setF IntR.stays (p := ⟨w.heap.size, k * 6, none⟩) (by simp) (.string l[k].name)).setF IntR.stays (p := ⟨w.heap.size, k * 6 + 1, none⟩) (by simp) (.slice B1 m1 d1)).setF IntR.stays (p := ⟨w.heap.size, k * 6 + 2, none⟩) (by simp) (.slice B2 m2 d2)).setF IntR.stays (p := ⟨w.heap.size, k * 6 + 3, none⟩) (by simp) (.slice B3 m3 d3)).setF IntR.stays (p := ⟨w.heap.size, k * 6 + 4, none⟩) (by simp) (.slice B4 m4 d4)).setF IntR.stays (p := ⟨w.heap.size, k * 6 + 5, none⟩) (by simp) (.slice B5 m5 d5)
    have y3 := (((((((t3.stays UqR.stays (ok' := okF (w.heap.size + 1) w1) (fun b hb' => hb'.mono hgw.out) (fun p v _ hp => hp))).setF UqR.stays (p := ⟨w.heap.size, k * 6, none⟩) (by simp) (.string l[k].name)).setF UqR.stays (p := ⟨w.heap.size, k * 6 + 1, none⟩) (by simp) (.slice B1 m1 d1)).setF UqR.stays (p := ⟨w.heap.size, k * 6 + 2, none⟩) (by simp) (.slice B2 m2 d2)).setF UqR.stays (p := ⟨w.heap.size, k * 6 + 3, none⟩) (by simp) (.slice B3 m3 d3)).setF UqR.stays (p := ⟨w.heap.size, k * 6 + 4, none⟩) (by simp) (.slice B4 m4 d4)).setF UqR.stays (p := ⟨w.heap.size, k * 6 + 5, none⟩) (by simp) (.slice B5 m5 d5)
    have y4 := (((((((t4.stays CkR.stays (ok' := okF (w.heap.size + 1) w1) (fun b hb' => hb'.mono hgw.out) (fun p v _ hp => hp))).setF CkR.stays (p := ⟨w.heap.size, k * 6, none⟩) (by simp) (.string l[k].name)).setF CkR.stays (p := ⟨w.heap.size, k * 6 + 1, none⟩) (by simp) (.slice B1 m1 d1)).setF CkR.stays (p := ⟨w.heap.size, k * 6 + 2, none⟩) (by simp) (.slice B2 m2 d2)).setF CkR.stays (p := ⟨w.heap.size, k * 6 + 3, none⟩) (by simp) (.slice B3 m3 d3)).setF CkR.stays (p := ⟨w.heap.size, k * 6 + 4, none⟩) (by simp) (.slice B4 m4 d4)).setF CkR.stays (p := ⟨w.heap.size, k * 6 + 5, none⟩) (by simp) (.slice B5 m5 d5)
    have y5 := (((((((t5.stays FkR.stays (ok' := okF (w.heap.size + 1) w1) (fun b hb' => hb'.mono hgw.out) (fun p v _ hp => hp))).setF FkR.stays (p := ⟨w.heap.size, k * 6, none⟩) (by simp) (.string l[k].name)).setF FkR.stays (p := ⟨w.heap.size, k * 6 + 1, none⟩) (by simp) (.slice B1 m1 d1)).setF FkR.stays (p := ⟨w.heap.size, k * 6 + 2, none⟩) (by simp) (.slice B2 m2 d2)).setF FkR.stays (p := ⟨w.heap.size, k * 6 + 3, none⟩) (by simp) (.slice B3 m3 d3)).setF FkR.stays (p := ⟨w.heap.size, k * 6 + 4, none⟩) (by simp) (.slice B4 m4 d4)).setF FkR.stays (p := ⟨w.heap.size, k * 6 + 5, none⟩) (by simp) (.slice B5 m5 d5)
    exact ⟨k + 1, _, by omega, by go_num, ((((((HR.out).set _ _).set _ _).set _ _).set _ _).set _ _).set _ _, Lib.hid (by simp [hcs.out]), Lib.hid ((((((((hl1.out).setF TbR.stays (by simp) _).setF TbR.stays (by simp) _).setF TbR.stays (by simp) _).setF TbR.stays (by simp) _).setF TbR.stays (by simp) _).setF TbR.stays (by simp) _).more hlt (c := [.string l[k].name, .slice B1 m1 d1, .slice B2 m2 d2, .slice B3 m3 d3, .slice B4 m4 d4, .slice B5 m5 d5]) rfl ⟨_, _, _, _, _, _, _, _, _, _, _, _, _, _, _, rfl, y1, y2, y3, y4, y5, hcp⟩ (hold6 cs k _ _ _ _ _ _) (fresh6 cs k _ _ _ _ _ _ hsz1)), Lib.hid (by simpa using HGW.out), ((((((hb.trans (hb1.mono hb.size)).setCell (by simp) _).setCell (by simp) _).setCell (by simp) _).setCell (by simp) _).setCell (by simp) _).setCell (by simp) _⟩
   case measure => simp [intOf]; omega
  ·obtain rfl : k = l.length := by omega
   go_wp2
   go_ret
   exact ⟨_, _, rfl, Nat.le_refl _, (sl_of_laid (ok := okF w.heap.size _) hrow ⟨Nat.le_refl _, hgw.out, fun off => hrow.free off⟩ (fun i hi hlt' => by
    obtain ⟨c', h1, h2, h3⟩ := hlaid.out i hi hlt'
    exact ⟨c', h1, TbR.stays _ _ _ _ _ _ h2 (fun b hb' => hb'.mono (Nat.le_succ _)) (fun p v _ hp => hp), h3⟩) (Nat.le_refl _)), hb⟩
def isSl : Value → Bool
 | .slice .. => true
 | _ => false
structure Kept (B E : Nat) (w w' : World) : Prop where
 os : w'.os = w.os
 tape : w'.tape = w.tape
 output : w'.output = w.output
 size : w.heap.size ≤ w'.heap.size
 block : ∀ k, k < w.heap.size → (k < B ∨ E ≤ k) → w'.heap[k]? = w.heap[k]?
 cell : ∀ p v, w.cell? p = some v → ∃ v', w'.cell? p = some v' ∧ (isSl v = true → v' = v) ∧ isSl v' = isSl v
 frozen : ∀ p : Addr, p.block < w.heap.size → w'.frozen? p = w.frozen? p
theorem Kept.refl (B E : Nat) (w : World) : Kept B E w w := ⟨rfl, rfl, rfl, Nat.le_refl _, fun _ _ _ => rfl, fun _ v h => ⟨v, h, fun _ => rfl, rfl⟩, fun _ _ => rfl⟩
theorem Kept.trans {B E : Nat} {a b c : World} (h : Kept B E a b) (k : Kept B E b c) : Kept B E a c :=
 ⟨k.os.trans h.os, k.tape.trans h.tape, k.output.trans h.output, Nat.le_trans h.size k.size, fun i hi ho => (k.block i (Nat.lt_of_lt_of_le hi h.size) ho).trans (h.block i hi ho),
  fun p v hp => by
   obtain ⟨v1, h1, h2, h3⟩ := h.cell p v hp
   obtain ⟨v2, k1, k2, k3⟩ := k.cell p v1 h1
   exact ⟨v2, k1, fun hv => by rw [k2 (by rw [h3]; exact hv), h2 hv], k3.trans h3⟩,
  fun p hp => (k.frozen p (Nat.lt_of_lt_of_le hp h.size)).trans (h.frozen p hp)⟩
theorem Kept.below {B E : Nat} {w w' : World} (h : Below w.heap.size w w') : Kept B E w w' :=
 ⟨h.os, h.tape, h.output, h.size, fun k hk _ => h.block k hk, fun p v hp => ⟨v, below_keep h p v hp, fun _ => rfl, rfl⟩, fun p hp => World.frozen?_of_block (w := w) (h.block p.block hp)⟩
theorem Kept.set {B E : Nat} {a w : World} (h : Kept B E a w) {p : Addr} {v : Value} (hc : a.cell? p = some v) (hn : isSl v = false) (hB : B ≤ p.block) (hE : p.block < E) {u : Value} (hu : isSl u = false) : Kept B E a (w.setCell p u) := by
 refine ⟨h.os, h.tape, h.output, by simpa [World.setCell] using h.size, fun k hk ho => ?_, fun q x hq => ?_, fun q hq => (frozen_setCell w p u q).trans (h.frozen q hq)⟩
 ·rw [Below.heap_setCell _ _ _ _ (by omega)]
  exact h.block k hk ho
 ·by_cases e : q = p
  ·subst e
   rw [hc] at hq
   cases hq
   obtain ⟨v', h1, h2, h3⟩ := h.cell _ _ hc
   exact ⟨u, World.cell?_setCell_same _ _ _ h1, fun hv => absurd (hn.symm.trans hv) (by simp), by rw [hu, hn]⟩
  ·obtain ⟨v', h1, h2, h3⟩ := h.cell q x hq
   exact ⟨v', (World.cell?_setCell_other _ _ _ _ (fun hh => e hh.symm)).trans h1, h2, h3⟩
theorem Kept.toBelow {B E G : Nat} {a w w' : World} (h : Below G a w) (k : Kept B E w w') (hG : G ≤ B) (ha : G ≤ w.heap.size) : Below G a w' :=
 ⟨k.os.trans h.os, k.tape.trans h.tape, k.output.trans h.output, Nat.le_trans h.size k.size, fun i hi => (k.block i (by omega) (Or.inl (by omega))).trans (h.block i hi)⟩
theorem Kept.after {B E : Nat} {a b c : World} (k : Kept B E b c) (h : Kept B E a b) : Kept B E a c := h.trans k
theorem Kept.slice {B E : Nat} {w w' : World} (k : Kept B E w w') {p : Addr} {v : Value} (h : w.cell? p = some v) (hs : isSl v = true) : w'.cell? p = some v := by
 obtain ⟨v', h1, h2, -⟩ := k.cell p v h
 rw [h1, h2 hs]
theorem Kept.far {B E : Nat} {w w' : World} (k : Kept B E w w') {p : Addr} {v : Value} (hp : p.block < B ∨ E ≤ p.block) (h : w.cell? p = some v) : w'.cell? p = some v :=
 (World.cell?_of_block (w := w) (k.block p.block (cell_lt h) hp)).trans h
theorem Sl.kept {α : Type} {R : Rd α} (hR : Stays R) {sz : Nat} {ok : Nat → Prop} {B E : Nat} {w w' : World} {A : Option Addr} {n : Nat} {ds : List α} (h : Sl R sz ok w A n ds) (hk : Kept B E w w') (ho : ∀ b, ok b → b < B ∨ E ≤ b) : Sl R sz ok w' A n ds :=
 h.stays hR (fun _ h => h) fun p v hb hp => hk.far (ho _ hb) hp
def KStays {α : Type} (R : Rd α) : Prop := ∀ (ok : Nat → Prop) (B E : Nat) (w w' : World) (cs cs' : List Value) (d : α), R ok w cs d → Kept B E w w' → cs'.length = cs.length → (∀ (j : Nat) (v : Value), cs[j]? = some v → ∃ v', cs'[j]? = some v' ∧ (isSl v = true → v' = v) ∧ isSl v' = isSl v) → R ok w' cs' d
theorem Sl.shape {α : Type} {R : Rd α} (hR : KStays R) {sz : Nat} {ok : Nat → Prop} {B E : Nat} {w w' : World} {A : Option Addr} {n : Nat} {ds : List α} (h : Sl R sz ok w A n ds) (hk : Kept B E w w') : Sl R sz ok w' A n ds :=
 ⟨h.1, fun hn => by
  obtain ⟨b, off, e, hb, hi⟩ := h.2 hn
  refine ⟨b, off, e, hb, fun i hlt => ?_⟩
  obtain ⟨cs, h1, h2, h3⟩ := hi i hlt
  have hc : ∀ (j : Nat) (v : Value), cs[j]? = some v → ((List.range sz).map fun j => (w'.cell? ⟨b, off + i * sz + j, none⟩).getD undef)[j]? = some ((w'.cell? ⟨b, off + i * sz + j, none⟩).getD undef) := fun j v hv => by
   have hj : j < sz := by obtain ⟨hj, _⟩ := List.getElem?_eq_some_iff.1 hv; omega
   simp [hj]
  refine ⟨(List.range sz).map fun j => (w'.cell? ⟨b, off + i * sz + j, none⟩).getD undef, by simp, hR _ B E _ _ _ _ _ h2 hk (by simp [h1]) fun j v hv => ?_, fun j v hv => ?_⟩
  ·obtain ⟨v', k1, k2, k3⟩ := hk.cell _ _ (h3 j v hv)
   exact ⟨v', by rw [hc j v hv, k1]; rfl, k2, k3⟩
  ·have hj : j < sz := by obtain ⟨hj, _⟩ := List.getElem?_eq_some_iff.1 hv; simpa using hj
   obtain ⟨v0, hv0⟩ : ∃ v0, cs[j]? = some v0 := ⟨cs[j]'(by omega), List.getElem?_eq_getElem (by omega)⟩
   obtain ⟨v', k1, -⟩ := hk.cell _ _ (h3 j v0 hv0)
   rw [hc j v0 hv0, k1] at hv
   cases hv
   exact k1⟩
def ShF (m : Nat) : Rd Nat := fun _ _ cs d => cs.length = m ∧ (∀ (j : Nat) (v : Value), cs[j]? = some v → isSl v = false) ∧ d = m
theorem ShF.keeps (m : Nat) : KStays (ShF m) := fun _ _ _ _ _ _ cs' _ ⟨h1, h2, h3⟩ _ hl hc => ⟨hl.trans h1, fun j v hv => by
 have hj : j < cs'.length := (List.getElem?_eq_some_iff.1 hv).1
 obtain ⟨v', k1, _, k3⟩ := hc j _ (List.getElem?_eq_getElem (by omega))
 rw [hv] at k1
 cases k1
 rw [k3]
 exact h2 j _ (List.getElem?_eq_getElem (by omega)), h3⟩
theorem Sl.toSh {α β : Type} {R : Rd α} {R' : Rd β} {f : α → β} {sz : Nat} {ok : Nat → Prop} {w : World} {A : Option Addr} {n : Nat} {ds : List α} (h : Sl R sz ok w A n ds) {p : α → Prop} (hR : ∀ ok w cs d, p d → R ok w cs d → R' ok w cs (f d)) (hp : ∀ d ∈ ds, p d) : Sl R' sz ok w A n (ds.map f) :=
 ⟨by simpa using h.1, fun hn => by
  obtain ⟨b, off, e, hb, hi⟩ := h.2 hn
  refine ⟨b, off, e, hb, fun i hlt => ?_⟩
  obtain ⟨cs, h1, h2, h3⟩ := hi i (by simpa using hlt)
  exact ⟨cs, h1, by simpa using hR _ _ _ _ (hp _ (List.getElem_mem (by simpa using hlt))) h2, h3⟩⟩
theorem szL_mem {α : Type} (f : α → Nat) (l : List α) (y : α) (h : y ∈ l) : f y ≤ szL f l := by
 obtain ⟨i, hi, rfl⟩ := List.mem_iff_getElem.1 h
 have := sum_mem_le f l i hi
 unfold szL
 omega
theorem sum_le_of {α : Type} {f g : α → Nat} (c : Nat) (h : ∀ x, f x ≤ c * (g x + 1)) : ∀ l : List α, (l.map f).sum ≤ c * szL g l
 | [] => by simp [szL]
 | x :: l => by
  have h1 := sum_le_of c h l
  have h2 := h x
  simp only [szL, List.map_cons, List.sum_cons, List.length_cons] at *
  have e : c * (l.length + 1 + (g x + (l.map g).sum)) = c * (l.length + (l.map g).sum) + c * (g x + 1) := by rw [← Nat.mul_add]; congr 1; omega
  omega
theorem sum_ones {α : Type} (l : List α) : (l.map fun _ => 1).sum = l.length := by
 induction l with
 | nil => rfl
 | cons x l ih => rw [List.map_cons, List.sum_cons, ih, List.length_cons]; omega
theorem sum_take_n (l : List Nat) (k : Nat) (h : k < l.length) : (l.take (k + 1)).sum = (l.take k).sum + l[k] := by
 rw [List.take_succ_eq_append_getElem h, List.sum_append]; simp
theorem sum_take_n_le (l : List Nat) (k : Nat) : (l.take k).sum ≤ l.sum := by
 have e : l.sum = (l.take k).sum + (l.drop k).sum := by rw [← List.sum_append, List.take_append_drop]
 omega
def mayMark (B E : Nat) (w : World) (ok : Nat → Prop) : Prop := ∀ b, ok b → B ≤ b ∧ b < E ∧ b < w.heap.size ∧ ∀ off, w.frozen? ⟨b, off, none⟩ = false
theorem mayMark.kept {B E B' E' : Nat} {w w' : World} {ok : Nat → Prop} (h : mayMark B E w ok) (hk : Kept B' E' w w') : mayMark B E w' ok := fun b hb => by
 obtain ⟨h1, h2, h3, h4⟩ := h b hb
 exact ⟨h1, h2, Nat.lt_of_lt_of_le h3 hk.size, fun off => (hk.frozen ⟨b, off, none⟩ h3).trans (h4 off)⟩
theorem mayMark.below {B E : Nat} {w w' : World} {ok : Nat → Prop} (h : mayMark B E w ok) (hk : Below w.heap.size w w') : mayMark B E w' ok := h.kept (Kept.below (B := 0) (E := 0) hk)
def digB (k : Nat) : ByteArray := ⟨#[UInt8.ofNat (48 + k % 10)]⟩
def mtFin : Nat → Nat → ByteArray → ByteArray
 | 0, _, out => ⟨#[109]⟩ ++ out
 | f + 1, k, out => if k = 0 then ⟨#[109]⟩ ++ out else mtFin f (k / 10) (digB k ++ out)
def mtx (k : Nat) : ByteArray := if k = 0 then ⟨#[109, 48]⟩ else mtFin k k ⟨#[]⟩
theorem mtFin_zero (f : Nat) (out : ByteArray) : mtFin f 0 out = ⟨#[109]⟩ ++ out := by cases f <;> simp [mtFin]
theorem mtFin_step (f k : Nat) (out : ByteArray) (h : 0 < k) : mtFin (f + 1) k out = mtFin f (k / 10) (digB k ++ out) := by
 rw [mtFin, if_neg (by omega)]
theorem digB_run (j : Nat) (w : World) :
  (convert 98 9 (.slice (some ⟨w.heap.size, 0, none⟩) 1 1)).run Tryz.prog (w.alloc (.cells #[.int .u8 (48 + (j : Int) % 10)] 5)) = .ok (.string (digB j)) (w.alloc (.cells #[.int .u8 (48 + (j : Int) % 10)] 5)) := by
 refine run_convert_bytes_back _ _ _ 5 ⟨w.heap.size, 0, none⟩ 1 [UInt8.ofNat (48 + j % 10)] Tryz.underlying98 Tryz.underlying5 Tryz.underlying9 fun i hi => ?_
 have e : i = 0 := by simpa using hi
 subst e
 have e2 : (UInt8.ofNat (48 + j % 10)).toNat = 48 + j % 10 := by rw [UInt8.toNat_ofNat']; omega
 simp [Addr.add, World.cell?_alloc_mark]
 omega
def MtRel (k : Nat) (w : World) (m o : Value) (wr : World) : Prop := ∃ (f j : Nat) (out : ByteArray), m = .int .i64 j ∧ o = .string out ∧ j ≤ f ∧ out.size + f ≤ k ∧ Hid (mtFin k k ⟨#[]⟩ = mtFin f j out) ∧ Below w.heap.size w wr
theorem digB_size (j : Nat) : (digB j).size = 1 := rfl
set_option maxRecDepth 100000 in
set_option maxHeartbeats 1000000 in
theorem lawsMarkText (k : Nat) (w : World) (hk : k ≤ 1073741824) {x : Int} (hx : x = k) :
  Calls Tryz.prog 22 #[.int .i64 x] w fun e w' => e = .returned (.string (mtx k)) ∧ Below w.heap.size w w' := by
 subst hx
 by_cases h0 : k = 0
 ·subst h0
  go_enter Tryz.func22, Tryz.ntmps22
  go_wp2_with fail
  go_ret
  exact ⟨rfl, Below.refl _ _⟩
 have hpos : ¬ ((k : Int) ≤ 0) := by omega
 go_enter Tryz.func22, Tryz.ntmps22
 go_wp2_with fail
 go_loopw [0, 3] (MtRel k w) (fun m _ _ => (intOf m).toNat)
 case atStart => exact ⟨k, k, ⟨#[]⟩, rfl, rfl, Nat.le_refl _, by simp [ByteArray.size], Lib.hid rfl, Below.refl _ _⟩
 case round =>
  obtain ⟨f, j, out, rfl, rfl, hj, ho, hm, hb⟩ := hrel
  by_cases hlt : 0 < j
  ·obtain ⟨f, rfl⟩ : ∃ g, f = g + 1 := ⟨f - 1, by omega⟩
   have hm2 := hm.out
   rw [mtFin_step _ _ _ hlt] at hm2
   have HM := Lib.hid hm2
   clear hm hm2
   have d0 : (0 : Int) < j := by omega
   have hcv := digB_run j wr
   have hc1 : (digB j).size + out.size ≤ 9223372036854775807 := by rw [digB_size]; omega
   have hc2 : ¬ 9223372036854775807 < (digB j).size + out.size := by omega
   have hba := hb.alloc hb.size (.cells #[.int .u8 (48 + (j : Int) % 10)] 5)
   go_wp2_with fail
   go_roundw
   case rel => exact ⟨f, j / 10, digB j ++ out, by go_num, rfl, by omega, by rw [ByteArray.size_append, digB_size]; omega, HM, hba⟩
   case measure => simp [intOf]; omega
  ·have e : j = 0 := by omega
   have hm2 := hm.out
   rw [e, mtFin_zero] at hm2
   have HM := Lib.hid (show mtx k = ⟨#[109]⟩ ++ out by rw [mtx, if_neg h0]; exact hm2)
   have d0 : ¬ ((0 : Int) < j) := by omega
   have hc1 : (⟨#[109]⟩ : ByteArray).size + out.size ≤ 9223372036854775807 := by show 1 + out.size ≤ _; omega
   have hc2 : 1 + out.size ≤ 9223372036854775807 := by omega
   clear hm hm2 e
   go_wp2_with fail
   go_ret
   exact ⟨by rw [HM.out]; rfl, hb⟩
theorem Int.toSh : ∀ (ok : Nat → Prop) (w : World) (cs : List Value) (x : Int), True → IntR ok w cs x → ShF 1 ok w cs ((fun _ : Int => 1) x) := fun _ _ cs x _ h => by
 have e : cs = _ := h
 subst e
 refine ⟨rfl, fun j v hv => ?_, rfl⟩
 have hj : j < 1 := (List.getElem?_eq_some_iff.1 hv).1
 have : j = 0 := by omega
 rcases this with rfl <;> (obtain rfl := Option.some.inj hv; rfl)
theorem Tk.toSh : ∀ (ok : Nat → Prop) (w : World) (cs : List Value) (x : Tk), True → TkR ok w cs x → ShF 5 ok w cs ((fun _ : Tk => 5) x) := fun _ _ cs x _ h => by
 have e : cs = _ := h
 subst e
 refine ⟨rfl, fun j v hv => ?_, rfl⟩
 have hj : j < 5 := (List.getElem?_eq_some_iff.1 hv).1
 have : j = 0 ∨ j = 1 ∨ j = 2 ∨ j = 3 ∨ j = 4 := by omega
 rcases this with rfl | rfl | rfl | rfl | rfl <;> (obtain rfl := Option.some.inj hv; rfl)
theorem Cl.toSh : ∀ (ok : Nat → Prop) (w : World) (cs : List Value) (x : Cl), True → ClR ok w cs x → ShF 6 ok w cs ((fun _ : Cl => 6) x) := fun _ _ cs x _ h => by
 have e : cs = _ := h
 subst e
 refine ⟨rfl, fun j v hv => ?_, rfl⟩
 have hj : j < 6 := (List.getElem?_eq_some_iff.1 hv).1
 have : j = 0 ∨ j = 1 ∨ j = 2 ∨ j = 3 ∨ j = 4 ∨ j = 5 := by omega
 rcases this with rfl | rfl | rfl | rfl | rfl | rfl <;> (obtain rfl := Option.some.inj hv; rfl)
def UqSh : Rd Nat := fun ok w cs d => ∃ (A0 : Option Addr) (n0 c0 : Nat) (m0 : List Nat), cs = [.slice A0 n0 c0] ∧ (True) ∧ Sl (ShF 1) 1 ok w A0 n0 m0 ∧ (n0 ≤ 1048576) ∧ d = m0.sum
theorem UqSh.keeps : KStays UqSh := by
 intro ok B E w w' cs cs' d hR hk hl hc
 obtain ⟨A0, n0, c0, m0, rfl, -, h0, hcp, hd⟩ := hR
 match cs', hl with
 | [x0], _ =>
  obtain ⟨y0, e0, s0, t0⟩ := hc 0 _ rfl
  obtain rfl : x0 = y0 := Option.some.inj e0
  obtain rfl := s0 rfl
  exact ⟨A0, n0, c0, m0, rfl, trivial, h0.shape (ShF.keeps 1) hk, hcp, hd⟩
def Uq.cnt (x : Uq) : Nat := (x.cols.map (fun _ : Int => 1)).sum
theorem Uq.toSh : ∀ (ok : Nat → Prop) (w : World) (cs : List Value) (x : Uq), x.sz ≤ 1048576 → UqR ok w cs x → UqSh ok w cs x.cnt := fun _ _ _ x hs ⟨A0, n0, c0, e, h0, _⟩ =>
 ⟨A0, n0, c0, _, e, trivial, h0.toSh Int.toSh (fun _ _ => trivial), (by have h1 := h0.1; unfold Uq.sz at hs; (try simp only [szL] at hs); omega), rfl⟩
theorem Uq.cnt_le (x : Uq) : x.cnt ≤ 6 * (x.sz + 1) := by
 unfold Uq.cnt Uq.sz
 have z0 : (x.cols.map (fun _ : Int => 1)).sum = x.cols.length := sum_ones _
 omega
def CkSh : Rd Nat := fun ok w cs d => ∃ (A0 : Option Addr) (n0 c0 : Nat) (m0 : List Nat), cs = [.slice A0 n0 c0] ∧ (True) ∧ Sl (ShF 5) 5 ok w A0 n0 m0 ∧ (n0 ≤ 1048576) ∧ d = m0.sum
theorem CkSh.keeps : KStays CkSh := by
 intro ok B E w w' cs cs' d hR hk hl hc
 obtain ⟨A0, n0, c0, m0, rfl, -, h0, hcp, hd⟩ := hR
 match cs', hl with
 | [x0], _ =>
  obtain ⟨y0, e0, s0, t0⟩ := hc 0 _ rfl
  obtain rfl : x0 = y0 := Option.some.inj e0
  obtain rfl := s0 rfl
  exact ⟨A0, n0, c0, m0, rfl, trivial, h0.shape (ShF.keeps 5) hk, hcp, hd⟩
def Ck.cnt (x : Ck) : Nat := (x.expr.map (fun _ : Tk => 5)).sum
theorem Ck.toSh : ∀ (ok : Nat → Prop) (w : World) (cs : List Value) (x : Ck), x.sz ≤ 1048576 → CkR ok w cs x → CkSh ok w cs x.cnt := fun _ _ _ x hs ⟨A0, n0, c0, e, h0, _⟩ =>
 ⟨A0, n0, c0, _, e, trivial, h0.toSh Tk.toSh (fun _ _ => trivial), (by have h1 := h0.1; unfold Ck.sz at hs; (try simp only [szL] at hs); omega), rfl⟩
theorem Ck.cnt_le (x : Ck) : x.cnt ≤ 6 * (x.sz + 1) := by
 unfold Ck.cnt Ck.sz
 have z0 := sum_le_of (f := (fun _ : Tk => 5)) (g := fun t : Tk => t.vs.size) 6 (fun _ => by omega) x.expr
 omega
def FkSh : Rd Nat := fun ok w cs d => ∃ (A0 : Option Addr) (n0 c0 : Nat) (m0 : List Nat) (u1 u2 u3 u4 : Value), cs = [.slice A0 n0 c0, u1, u2, u3, u4] ∧ (isSl u1 = false ∧ isSl u2 = false ∧ isSl u3 = false ∧ isSl u4 = false) ∧ Sl (ShF 1) 1 ok w A0 n0 m0 ∧ (n0 ≤ 1048576) ∧ d = 4 + m0.sum
theorem FkSh.keeps : KStays FkSh := by
 intro ok B E w w' cs cs' d hR hk hl hc
 obtain ⟨A0, n0, c0, m0, u1, u2, u3, u4, rfl, ⟨g1, g2, g3, g4⟩, h0, hcp, hd⟩ := hR
 match cs', hl with
 | [x0, x1, x2, x3, x4], _ =>
  obtain ⟨y0, e0, s0, t0⟩ := hc 0 _ rfl
  obtain rfl : x0 = y0 := Option.some.inj e0
  obtain ⟨y1, e1, s1, t1⟩ := hc 1 _ rfl
  obtain rfl : x1 = y1 := Option.some.inj e1
  obtain ⟨y2, e2, s2, t2⟩ := hc 2 _ rfl
  obtain rfl : x2 = y2 := Option.some.inj e2
  obtain ⟨y3, e3, s3, t3⟩ := hc 3 _ rfl
  obtain rfl : x3 = y3 := Option.some.inj e3
  obtain ⟨y4, e4, s4, t4⟩ := hc 4 _ rfl
  obtain rfl : x4 = y4 := Option.some.inj e4
  obtain rfl := s0 rfl
  exact ⟨A0, n0, c0, m0, x1, x2, x3, x4, rfl, ⟨t1.trans g1, t2.trans g2, t3.trans g3, t4.trans g4⟩, h0.shape (ShF.keeps 1) hk, hcp, hd⟩
def Fk.cnt (x : Fk) : Nat := 4 + (x.cols.map (fun _ : Int => 1)).sum
theorem Fk.toSh : ∀ (ok : Nat → Prop) (w : World) (cs : List Value) (x : Fk), x.sz ≤ 1048576 → FkR ok w cs x → FkSh ok w cs x.cnt := fun _ _ _ x hs ⟨A0, n0, c0, e, h0, _⟩ =>
 ⟨A0, n0, c0, _, _, _, _, _, e, ⟨rfl, rfl, rfl, rfl⟩, h0.toSh Int.toSh (fun _ _ => trivial), (by have h1 := h0.1; unfold Fk.sz at hs; (try simp only [szL] at hs); omega), rfl⟩
theorem Fk.cnt_le (x : Fk) : x.cnt ≤ 6 * (x.sz + 1) := by
 unfold Fk.cnt Fk.sz
 have z0 : (x.cols.map (fun _ : Int => 1)).sum = x.cols.length := sum_ones _
 omega
def TbSh : Rd Nat := fun ok w cs d => ∃ (A1 : Option Addr) (n1 c1 : Nat) (m1 : List Nat) (A2 : Option Addr) (n2 c2 : Nat) (m2 : List Nat) (A3 : Option Addr) (n3 c3 : Nat) (m3 : List Nat) (A4 : Option Addr) (n4 c4 : Nat) (m4 : List Nat) (A5 : Option Addr) (n5 c5 : Nat) (m5 : List Nat) (u0 : Value), cs = [u0, .slice A1 n1 c1, .slice A2 n2 c2, .slice A3 n3 c3, .slice A4 n4 c4, .slice A5 n5 c5] ∧ (isSl u0 = false) ∧ Sl (ShF 6) 6 ok w A1 n1 m1 ∧ Sl (ShF 1) 1 ok w A2 n2 m2 ∧ Sl UqSh 1 ok w A3 n3 m3 ∧ Sl CkSh 1 ok w A4 n4 m4 ∧ Sl FkSh 5 ok w A5 n5 m5 ∧ (n1 ≤ 1048576 ∧ n2 ≤ 1048576 ∧ n3 ≤ 1048576 ∧ n4 ≤ 1048576 ∧ n5 ≤ 1048576) ∧ d = 1 + m1.sum + m2.sum + m3.sum + m4.sum + m5.sum
theorem TbSh.keeps : KStays TbSh := by
 intro ok B E w w' cs cs' d hR hk hl hc
 obtain ⟨A1, n1, c1, m1, A2, n2, c2, m2, A3, n3, c3, m3, A4, n4, c4, m4, A5, n5, c5, m5, u0, rfl, g0, h1, h2, h3, h4, h5, hcp, hd⟩ := hR
 match cs', hl with
 | [x0, x1, x2, x3, x4, x5], _ =>
  obtain ⟨y0, e0, s0, t0⟩ := hc 0 _ rfl
  obtain rfl : x0 = y0 := Option.some.inj e0
  obtain ⟨y1, e1, s1, t1⟩ := hc 1 _ rfl
  obtain rfl : x1 = y1 := Option.some.inj e1
  obtain ⟨y2, e2, s2, t2⟩ := hc 2 _ rfl
  obtain rfl : x2 = y2 := Option.some.inj e2
  obtain ⟨y3, e3, s3, t3⟩ := hc 3 _ rfl
  obtain rfl : x3 = y3 := Option.some.inj e3
  obtain ⟨y4, e4, s4, t4⟩ := hc 4 _ rfl
  obtain rfl : x4 = y4 := Option.some.inj e4
  obtain ⟨y5, e5, s5, t5⟩ := hc 5 _ rfl
  obtain rfl : x5 = y5 := Option.some.inj e5
  obtain rfl := s1 rfl
  obtain rfl := s2 rfl
  obtain rfl := s3 rfl
  obtain rfl := s4 rfl
  obtain rfl := s5 rfl
  exact ⟨A1, n1, c1, m1, A2, n2, c2, m2, A3, n3, c3, m3, A4, n4, c4, m4, A5, n5, c5, m5, x0, rfl, t0.trans g0, h1.shape (ShF.keeps 6) hk, h2.shape (ShF.keeps 1) hk, h3.shape UqSh.keeps hk, h4.shape CkSh.keeps hk, h5.shape FkSh.keeps hk, hcp, hd⟩
def Tb.cnt (x : Tb) : Nat := 1 + (x.cols.map (fun _ : Cl => 6)).sum + (x.key.map (fun _ : Int => 1)).sum + (x.uniqs.map Uq.cnt).sum + (x.checks.map Ck.cnt).sum + (x.fks.map Fk.cnt).sum
theorem Tb.toSh : ∀ (ok : Nat → Prop) (w : World) (cs : List Value) (x : Tb), x.sz ≤ 1048576 → TbR ok w cs x → TbSh ok w cs x.cnt := fun _ _ _ x hs ⟨A1, n1, c1, A2, n2, c2, A3, n3, c3, A4, n4, c4, A5, n5, c5, e, h1, h2, h3, h4, h5, _⟩ =>
 ⟨A1, n1, c1, _, A2, n2, c2, _, A3, n3, c3, _, A4, n4, c4, _, A5, n5, c5, _, _, e, rfl, h1.toSh Cl.toSh (fun _ _ => trivial), h2.toSh Int.toSh (fun _ _ => trivial), h3.toSh Uq.toSh (fun y hy => by have h1 := szL_mem Uq.sz x.uniqs y hy; unfold Tb.sz at hs; omega), h4.toSh Ck.toSh (fun y hy => by have h1 := szL_mem Ck.sz x.checks y hy; unfold Tb.sz at hs; omega), h5.toSh Fk.toSh (fun y hy => by have h1 := szL_mem Fk.sz x.fks y hy; unfold Tb.sz at hs; omega), ⟨(by have h1 := h1.1; unfold Tb.sz at hs; (try simp only [szL] at hs); omega), (by have h1 := h2.1; unfold Tb.sz at hs; (try simp only [szL] at hs); omega), (by have h1 := h3.1; unfold Tb.sz at hs; (try simp only [szL] at hs); omega), (by have h1 := h4.1; unfold Tb.sz at hs; (try simp only [szL] at hs); omega), (by have h1 := h5.1; unfold Tb.sz at hs; (try simp only [szL] at hs); omega)⟩, rfl⟩
theorem Tb.cnt_le (x : Tb) : x.cnt ≤ 6 * (x.sz + 1) := by
 unfold Tb.cnt Tb.sz
 have z1 := sum_le_of (f := (fun _ : Cl => 6)) (g := Cl.sz) 6 (fun _ => by omega) x.cols
 have z2 : (x.key.map (fun _ : Int => 1)).sum = x.key.length := sum_ones _
 have z3 := sum_le_of (f := Uq.cnt) (g := Uq.sz) 6 Uq.cnt_le x.uniqs
 have z4 := sum_le_of (f := Ck.cnt) (g := Ck.sz) 6 Ck.cnt_le x.checks
 have z5 := sum_le_of (f := Fk.cnt) (g := Fk.sz) 6 Fk.cnt_le x.fks
 omega
def Rw.cnt (x : Rw) : Nat := 1 + (x.vals.map (fun _ : Vl => 3)).sum
theorem Rw.cnt_le (x : Rw) : x.cnt ≤ 6 * (x.sz + 1) := by
 unfold Rw.cnt Rw.sz
 have z1 := sum_le_of (f := (fun _ : Vl => 3)) (g := fun v : Vl => v.s.size) 6 (fun _ => by omega) x.vals
 omega
def Dt.cnt (x : Dt) : Nat := (x.rows.map Rw.cnt).sum
theorem Dt.cnt_le (x : Dt) : x.cnt ≤ 6 * (x.sz + 1) := by
 unfold Dt.cnt Dt.sz
 have z0 := sum_le_of (f := Rw.cnt) (g := Rw.sz) 6 Rw.cnt_le x.rows
 omega
def Sv.cnt (x : Sv) : Nat := 1 + (x.db.map Dt.cnt).sum
set_option maxRecDepth 100000 in
set_option maxHeartbeats 1000000 in
theorem marksIntL (A : Option Addr) (n c : Nat) (ms : List Nat) (ok : Nat → Prop) (B E k : Nat) (w : World) (h : Sl (ShF 1) 1 ok w A n ms) (hm : mayMark B E w ok) (hk : k + ms.sum ≤ 1073741824) (hn : n ≤ 1048576) {x : Int} (hx : x = k) :
  Calls Tryz.prog 24 #[.slice A n c, .int .i64 x] w fun e w' => e = .returned (.int .i64 ((k + ms.sum : Nat) : Int)) ∧ Kept B E w w' := by
 obtain rfl : ms.length = n := h.1
 subst hx
 go_enter Tryz.func24, Tryz.ntmps24
 go_wp2_with fail
 go_loopw [1, 5] (fun m i wr => ∃ (j t : Nat), j ≤ ms.length ∧ i = .int .i64 j ∧ m = .int .i64 ((k + t : Nat) : Int) ∧ Hid ((ms.take j).sum = t) ∧ Kept B E w wr) (fun _ i _ => ms.length - (intOf i).toNat)
 case atStart => exact ⟨0, 0, by omega, rfl, by simp, Lib.hid (by simp), Kept.refl _ _ _⟩
 case round =>
  obtain ⟨i, t, hi, rfl, rfl, ht, hK⟩ := hrel
  by_cases hlt : i < ms.length
  ·have hsh := h.shape (ShF.keeps 1) hK
   have hmm := hm.kept hK
   obtain ⟨b, off, rfl, hob, hcs⟩ := hsh.2 (by omega)
   obtain ⟨cs, hcl, hR, hg⟩ := hcs i hlt
   have hst := sum_take_n ms i hlt
   have hsl := sum_take_n_le ms (i + 1)
   rw [ht.out] at hst
   obtain ⟨hB, hE, -, hfr⟩ := hmm b hob
   obtain ⟨u0, rfl⟩ : ∃ u0, cs = [u0] := by
    have h0 := hR.1
    match cs, h0 with
    | [x0], _ => exact ⟨x0, rfl⟩
   have g0 : isSl u0 = false := hR.2.1 0 _ rfl
   have hd : ms[i] = 1 := hR.2.2
   have q0 : wr.cell? ⟨b, off + i, none⟩ = some (u0) := by have := hg 0 _ rfl; rwa [Nat.mul_one] at this
   have hle : k + t + (1) ≤ 1073741824 := by omega
   have HD := Lib.hid hd
   have HST := Lib.hid hst
   clear hd hst hsl
   have f0 := hfr (off + i)
   have Q0 := Lib.hid q0
   have G0 := Lib.hid g0
   have HB := Lib.hid hB
   have HE := Lib.hid hE
   have HR := Lib.hid hfr
   have HO := Lib.hid hob
   clear hsh hcs hg hR hB hE hfr g0
   have HMM := Lib.hid hmm
   clear hmm
   go_wp2_with fail
   go_roundw
   case rel => exact ⟨i + 1, t + ms[i], by omega, by go_num, by rw [HD.out]; go_num, Lib.hid HST.out, hK.trans (by refine Kept.set ?_ Q0.out G0.out HB.out HE.out rfl; exact Kept.refl B E wr)⟩
   case measure => simp [intOf]; omega
  ·obtain rfl : i = ms.length := by omega
   have e := ht.out
   rw [List.take_of_length_le (Nat.le_refl _)] at e
   have HT := Lib.hid e
   clear e ht
   go_wp2_with fail
   go_ret
   exact ⟨retI (by rw [HT.out]), hK⟩
set_option maxRecDepth 100000 in
set_option maxHeartbeats 1000000 in
theorem marksTokL (A : Option Addr) (n c : Nat) (ms : List Nat) (ok : Nat → Prop) (B E k : Nat) (w : World) (h : Sl (ShF 5) 5 ok w A n ms) (hm : mayMark B E w ok) (hk : k + ms.sum ≤ 1073741824) (hn : n ≤ 1048576) {x : Int} (hx : x = k) :
  Calls Tryz.prog 56 #[.slice A n c, .int .i64 x] w fun e w' => e = .returned (.int .i64 ((k + ms.sum : Nat) : Int)) ∧ Kept B E w w' := by
 obtain rfl : ms.length = n := h.1
 subst hx
 go_enter Tryz.func56, Tryz.ntmps56
 go_wp2_with fail
 go_loopw [1, 5] (fun m i wr => ∃ (j t : Nat), j ≤ ms.length ∧ i = .int .i64 j ∧ m = .int .i64 ((k + t : Nat) : Int) ∧ Hid ((ms.take j).sum = t) ∧ Kept B E w wr) (fun _ i _ => ms.length - (intOf i).toNat)
 case atStart => exact ⟨0, 0, by omega, rfl, by simp, Lib.hid (by simp), Kept.refl _ _ _⟩
 case round =>
  obtain ⟨i, t, hi, rfl, rfl, ht, hK⟩ := hrel
  by_cases hlt : i < ms.length
  ·have hsh := h.shape (ShF.keeps 5) hK
   have hmm := hm.kept hK
   obtain ⟨b, off, rfl, hob, hcs⟩ := hsh.2 (by omega)
   obtain ⟨cs, hcl, hR, hg⟩ := hcs i hlt
   have hst := sum_take_n ms i hlt
   have hsl := sum_take_n_le ms (i + 1)
   rw [ht.out] at hst
   obtain ⟨hB, hE, -, hfr⟩ := hmm b hob
   obtain ⟨u0, u1, u2, u3, u4, rfl⟩ : ∃ u0 u1 u2 u3 u4, cs = [u0, u1, u2, u3, u4] := by
    have h0 := hR.1
    match cs, h0 with
    | [x0, x1, x2, x3, x4], _ => exact ⟨x0, x1, x2, x3, x4, rfl⟩
   have g0 : isSl u0 = false := hR.2.1 0 _ rfl
   have g1 : isSl u1 = false := hR.2.1 1 _ rfl
   have g2 : isSl u2 = false := hR.2.1 2 _ rfl
   have g3 : isSl u3 = false := hR.2.1 3 _ rfl
   have g4 : isSl u4 = false := hR.2.1 4 _ rfl
   have hd : ms[i] = 5 := hR.2.2
   have q0 : wr.cell? ⟨b, off + i * 5, none⟩ = some (u0) := hg 0 _ rfl
   have q1 : wr.cell? ⟨b, off + i * 5 + 1, none⟩ = some (u1) := hg 1 _ rfl
   have q2 : wr.cell? ⟨b, off + i * 5 + 2, none⟩ = some (u2) := hg 2 _ rfl
   have q3 : wr.cell? ⟨b, off + i * 5 + 3, none⟩ = some (u3) := hg 3 _ rfl
   have q4 : wr.cell? ⟨b, off + i * 5 + 4, none⟩ = some (u4) := hg 4 _ rfl
   have hle : k + t + (5) ≤ 1073741824 := by omega
   have HD := Lib.hid hd
   have HST := Lib.hid hst
   clear hd hst hsl
   have f0 := hfr (off + i * 5)
   have f1 := hfr (off + i * 5 + 1)
   have f2 := hfr (off + i * 5 + 2)
   have f3 := hfr (off + i * 5 + 3)
   have f4 := hfr (off + i * 5 + 4)
   have Q0 := Lib.hid q0
   have Q1 := Lib.hid q1
   have Q2 := Lib.hid q2
   have Q3 := Lib.hid q3
   have Q4 := Lib.hid q4
   have G0 := Lib.hid g0
   have G1 := Lib.hid g1
   have G2 := Lib.hid g2
   have G3 := Lib.hid g3
   have G4 := Lib.hid g4
   have HB := Lib.hid hB
   have HE := Lib.hid hE
   have HR := Lib.hid hfr
   have HO := Lib.hid hob
   clear hsh hcs hg hR hB hE hfr g0 g1 g2 g3 g4
   have HMM := Lib.hid hmm
   clear hmm
   go_wp2_with fail
   refine (lawsMarkText (k + t + 4) _ (by omega) (by omega)).mono ?_
   rintro e w1 ⟨rfl, hb1⟩
   have hk1 : Kept B E wr w1 := by refine (Kept.below hb1).after ?_; refine Kept.set ?_ Q3.out G3.out HB.out HE.out rfl; refine Kept.set ?_ Q2.out G2.out HB.out HE.out rfl; refine Kept.set ?_ Q1.out G1.out HB.out HE.out rfl; refine Kept.set ?_ Q0.out G0.out HB.out HE.out rfl; exact Kept.refl B E wr
   obtain ⟨v1_0, z1_0, -, -⟩ := hk1.cell _ _ Q0.out
   have k1_0 := (HMM.out.kept hk1 b HO.out).2.2.2 (off + i * 5)
   obtain ⟨v1_1, z1_1, -, -⟩ := hk1.cell _ _ Q1.out
   have k1_1 := (HMM.out.kept hk1 b HO.out).2.2.2 (off + i * 5 + 1)
   obtain ⟨v1_2, z1_2, -, -⟩ := hk1.cell _ _ Q2.out
   have k1_2 := (HMM.out.kept hk1 b HO.out).2.2.2 (off + i * 5 + 2)
   obtain ⟨v1_3, z1_3, -, -⟩ := hk1.cell _ _ Q3.out
   have k1_3 := (HMM.out.kept hk1 b HO.out).2.2.2 (off + i * 5 + 3)
   obtain ⟨v1_4, z1_4, -, -⟩ := hk1.cell _ _ Q4.out
   have k1_4 := (HMM.out.kept hk1 b HO.out).2.2.2 (off + i * 5 + 4)
   clear q0 q1 q2 q3 q4 f0 f1 f2 f3 f4
   go_wp2_with fail
   go_roundw
   case rel => exact ⟨i + 1, t + ms[i], by omega, by go_num, by rw [HD.out]; go_num, Lib.hid HST.out, hK.trans (by refine Kept.set ?_ Q4.out G4.out HB.out HE.out rfl; exact hk1)⟩
   case measure => simp [intOf]; omega
  ·obtain rfl : i = ms.length := by omega
   have e := ht.out
   rw [List.take_of_length_le (Nat.le_refl _)] at e
   have HT := Lib.hid e
   clear e ht
   go_wp2_with fail
   go_ret
   exact ⟨retI (by rw [HT.out]), hK⟩
set_option maxRecDepth 100000 in
set_option maxHeartbeats 1000000 in
theorem marksColL (A : Option Addr) (n c : Nat) (ms : List Nat) (ok : Nat → Prop) (B E k : Nat) (w : World) (h : Sl (ShF 6) 6 ok w A n ms) (hm : mayMark B E w ok) (hk : k + ms.sum ≤ 1073741824) (hn : n ≤ 1048576) {x : Int} (hx : x = k) :
  Calls Tryz.prog 23 #[.slice A n c, .int .i64 x] w fun e w' => e = .returned (.int .i64 ((k + ms.sum : Nat) : Int)) ∧ Kept B E w w' := by
 obtain rfl : ms.length = n := h.1
 subst hx
 go_enter Tryz.func23, Tryz.ntmps23
 go_wp2_with fail
 go_loopw [1, 5] (fun m i wr => ∃ (j t : Nat), j ≤ ms.length ∧ i = .int .i64 j ∧ m = .int .i64 ((k + t : Nat) : Int) ∧ Hid ((ms.take j).sum = t) ∧ Kept B E w wr) (fun _ i _ => ms.length - (intOf i).toNat)
 case atStart => exact ⟨0, 0, by omega, rfl, by simp, Lib.hid (by simp), Kept.refl _ _ _⟩
 case round =>
  obtain ⟨i, t, hi, rfl, rfl, ht, hK⟩ := hrel
  by_cases hlt : i < ms.length
  ·have hsh := h.shape (ShF.keeps 6) hK
   have hmm := hm.kept hK
   obtain ⟨b, off, rfl, hob, hcs⟩ := hsh.2 (by omega)
   obtain ⟨cs, hcl, hR, hg⟩ := hcs i hlt
   have hst := sum_take_n ms i hlt
   have hsl := sum_take_n_le ms (i + 1)
   rw [ht.out] at hst
   obtain ⟨hB, hE, -, hfr⟩ := hmm b hob
   obtain ⟨u0, u1, u2, u3, u4, u5, rfl⟩ : ∃ u0 u1 u2 u3 u4 u5, cs = [u0, u1, u2, u3, u4, u5] := by
    have h0 := hR.1
    match cs, h0 with
    | [x0, x1, x2, x3, x4, x5], _ => exact ⟨x0, x1, x2, x3, x4, x5, rfl⟩
   have g0 : isSl u0 = false := hR.2.1 0 _ rfl
   have g1 : isSl u1 = false := hR.2.1 1 _ rfl
   have g2 : isSl u2 = false := hR.2.1 2 _ rfl
   have g3 : isSl u3 = false := hR.2.1 3 _ rfl
   have g4 : isSl u4 = false := hR.2.1 4 _ rfl
   have g5 : isSl u5 = false := hR.2.1 5 _ rfl
   have hd : ms[i] = 6 := hR.2.2
   have q0 : wr.cell? ⟨b, off + i * 6, none⟩ = some (u0) := hg 0 _ rfl
   have q1 : wr.cell? ⟨b, off + i * 6 + 1, none⟩ = some (u1) := hg 1 _ rfl
   have q2 : wr.cell? ⟨b, off + i * 6 + 2, none⟩ = some (u2) := hg 2 _ rfl
   have q3 : wr.cell? ⟨b, off + i * 6 + 3, none⟩ = some (u3) := hg 3 _ rfl
   have q4 : wr.cell? ⟨b, off + i * 6 + 4, none⟩ = some (u4) := hg 4 _ rfl
   have q5 : wr.cell? ⟨b, off + i * 6 + 5, none⟩ = some (u5) := hg 5 _ rfl
   have hle : k + t + (6) ≤ 1073741824 := by omega
   have HD := Lib.hid hd
   have HST := Lib.hid hst
   clear hd hst hsl
   have f0 := hfr (off + i * 6)
   have f1 := hfr (off + i * 6 + 1)
   have f2 := hfr (off + i * 6 + 2)
   have f3 := hfr (off + i * 6 + 3)
   have f4 := hfr (off + i * 6 + 4)
   have f5 := hfr (off + i * 6 + 5)
   have Q0 := Lib.hid q0
   have Q1 := Lib.hid q1
   have Q2 := Lib.hid q2
   have Q3 := Lib.hid q3
   have Q4 := Lib.hid q4
   have Q5 := Lib.hid q5
   have G0 := Lib.hid g0
   have G1 := Lib.hid g1
   have G2 := Lib.hid g2
   have G3 := Lib.hid g3
   have G4 := Lib.hid g4
   have G5 := Lib.hid g5
   have HB := Lib.hid hB
   have HE := Lib.hid hE
   have HR := Lib.hid hfr
   have HO := Lib.hid hob
   clear hsh hcs hg hR hB hE hfr g0 g1 g2 g3 g4 g5
   have HMM := Lib.hid hmm
   clear hmm
   go_wp2_with fail
   refine (lawsMarkText (k + t) _ (by omega) (by omega)).mono ?_
   rintro e w1 ⟨rfl, hb1⟩
   have hk1 : Kept B E wr w1 := by refine (Kept.below hb1).after ?_; exact Kept.refl B E wr
   obtain ⟨v1_0, z1_0, -, -⟩ := hk1.cell _ _ Q0.out
   have k1_0 := (HMM.out.kept hk1 b HO.out).2.2.2 (off + i * 6)
   obtain ⟨v1_1, z1_1, -, -⟩ := hk1.cell _ _ Q1.out
   have k1_1 := (HMM.out.kept hk1 b HO.out).2.2.2 (off + i * 6 + 1)
   obtain ⟨v1_2, z1_2, -, -⟩ := hk1.cell _ _ Q2.out
   have k1_2 := (HMM.out.kept hk1 b HO.out).2.2.2 (off + i * 6 + 2)
   obtain ⟨v1_3, z1_3, -, -⟩ := hk1.cell _ _ Q3.out
   have k1_3 := (HMM.out.kept hk1 b HO.out).2.2.2 (off + i * 6 + 3)
   obtain ⟨v1_4, z1_4, -, -⟩ := hk1.cell _ _ Q4.out
   have k1_4 := (HMM.out.kept hk1 b HO.out).2.2.2 (off + i * 6 + 4)
   obtain ⟨v1_5, z1_5, -, -⟩ := hk1.cell _ _ Q5.out
   have k1_5 := (HMM.out.kept hk1 b HO.out).2.2.2 (off + i * 6 + 5)
   clear q0 q1 q2 q3 q4 q5 f0 f1 f2 f3 f4 f5
   go_wp2_with fail
   refine (lawsMarkText (k + t + 5) _ (by omega) (by omega)).mono ?_
   rintro e w2 ⟨rfl, hb2⟩
   have hk2 : Kept B E wr w2 := by refine (Kept.below hb2).after ?_; refine Kept.set ?_ Q4.out G4.out HB.out HE.out rfl; refine Kept.set ?_ Q3.out G3.out HB.out HE.out rfl; refine Kept.set ?_ Q2.out G2.out HB.out HE.out rfl; refine Kept.set ?_ Q1.out G1.out HB.out HE.out rfl; refine Kept.set ?_ Q0.out G0.out HB.out HE.out rfl; exact hk1
   obtain ⟨v2_0, z2_0, -, -⟩ := hk2.cell _ _ Q0.out
   have k2_0 := (HMM.out.kept hk2 b HO.out).2.2.2 (off + i * 6)
   obtain ⟨v2_1, z2_1, -, -⟩ := hk2.cell _ _ Q1.out
   have k2_1 := (HMM.out.kept hk2 b HO.out).2.2.2 (off + i * 6 + 1)
   obtain ⟨v2_2, z2_2, -, -⟩ := hk2.cell _ _ Q2.out
   have k2_2 := (HMM.out.kept hk2 b HO.out).2.2.2 (off + i * 6 + 2)
   obtain ⟨v2_3, z2_3, -, -⟩ := hk2.cell _ _ Q3.out
   have k2_3 := (HMM.out.kept hk2 b HO.out).2.2.2 (off + i * 6 + 3)
   obtain ⟨v2_4, z2_4, -, -⟩ := hk2.cell _ _ Q4.out
   have k2_4 := (HMM.out.kept hk2 b HO.out).2.2.2 (off + i * 6 + 4)
   obtain ⟨v2_5, z2_5, -, -⟩ := hk2.cell _ _ Q5.out
   have k2_5 := (HMM.out.kept hk2 b HO.out).2.2.2 (off + i * 6 + 5)
   clear z1_0 z1_1 z1_2 z1_3 z1_4 z1_5 k1_0 k1_1 k1_2 k1_3 k1_4 k1_5
   go_wp2_with fail
   go_roundw
   case rel => exact ⟨i + 1, t + ms[i], by omega, by go_num, by rw [HD.out]; go_num, Lib.hid HST.out, hK.trans (by refine Kept.set ?_ Q5.out G5.out HB.out HE.out rfl; exact hk2)⟩
   case measure => simp [intOf]; omega
  ·obtain rfl : i = ms.length := by omega
   have e := ht.out
   rw [List.take_of_length_le (Nat.le_refl _)] at e
   have HT := Lib.hid e
   clear e ht
   go_wp2_with fail
   go_ret
   exact ⟨retI (by rw [HT.out]), hK⟩
set_option maxRecDepth 100000 in
set_option maxHeartbeats 1000000 in
theorem marksUniqueL (A : Option Addr) (n c : Nat) (ms : List Nat) (ok : Nat → Prop) (B E k : Nat) (w : World) (h : Sl UqSh 1 ok w A n ms) (hm : mayMark B E w ok) (hk : k + ms.sum ≤ 1073741824) (hn : n ≤ 1048576) {x : Int} (hx : x = k) :
  Calls Tryz.prog 25 #[.slice A n c, .int .i64 x] w fun e w' => e = .returned (.int .i64 ((k + ms.sum : Nat) : Int)) ∧ Kept B E w w' := by
 obtain rfl : ms.length = n := h.1
 subst hx
 go_enter Tryz.func25, Tryz.ntmps25
 go_wp2_with fail
 go_loopw [1, 5] (fun m i wr => ∃ (j t : Nat), j ≤ ms.length ∧ i = .int .i64 j ∧ m = .int .i64 ((k + t : Nat) : Int) ∧ Hid ((ms.take j).sum = t) ∧ Kept B E w wr) (fun _ i _ => ms.length - (intOf i).toNat)
 case atStart => exact ⟨0, 0, by omega, rfl, by simp, Lib.hid (by simp), Kept.refl _ _ _⟩
 case round =>
  obtain ⟨i, t, hi, rfl, rfl, ht, hK⟩ := hrel
  by_cases hlt : i < ms.length
  ·have hsh := h.shape UqSh.keeps hK
   have hmm := hm.kept hK
   obtain ⟨b, off, rfl, hob, hcs⟩ := hsh.2 (by omega)
   obtain ⟨cs, hcl, hR, hg⟩ := hcs i hlt
   have hst := sum_take_n ms i hlt
   have hsl := sum_take_n_le ms (i + 1)
   rw [ht.out] at hst
   obtain ⟨hB, hE, -, hfr⟩ := hmm b hob
   obtain ⟨A0, n0, c0, m0, rfl, -, h0, hcp, hd⟩ := hR
   have q0 : wr.cell? ⟨b, off + i, none⟩ = some (.slice A0 n0 c0) := by have := hg 0 _ rfl; rwa [Nat.mul_one] at this
   have hle : k + t + (m0.sum) ≤ 1073741824 := by omega
   have HD := Lib.hid hd
   have HST := Lib.hid hst
   clear hd hst hsl
   have Q0 := Lib.hid q0
   have HB := Lib.hid hB
   have HE := Lib.hid hE
   have HR := Lib.hid hfr
   have HO := Lib.hid hob
   have HN0 := Lib.hid (hcp)
   clear hcp
   clear hsh hcs hg hB hE hfr
   have HMM := Lib.hid hmm
   clear hmm
   go_wp2_with fail
   refine (marksIntL A0 n0 c0 m0 ok B E (k + t) _ (h0.shape (ShF.keeps 1) (by exact Kept.refl B E wr)) (HMM.out.kept (by exact Kept.refl B E wr)) (by omega) HN0.out (by omega)).mono ?_
   rintro e w1 ⟨rfl, hb1⟩
   have hk1 : Kept B E wr w1 := by refine hb1.after ?_; exact Kept.refl B E wr
   have z1_0 := hk1.slice Q0.out rfl
   clear q0
   go_wp2_with fail
   go_roundw
   case rel => exact ⟨i + 1, t + ms[i], by omega, by go_num, by rw [HD.out]; go_num, Lib.hid HST.out, hK.trans (by exact hk1)⟩
   case measure => simp [intOf]; omega
  ·obtain rfl : i = ms.length := by omega
   have e := ht.out
   rw [List.take_of_length_le (Nat.le_refl _)] at e
   have HT := Lib.hid e
   clear e ht
   go_wp2_with fail
   go_ret
   exact ⟨retI (by rw [HT.out]), hK⟩
set_option maxRecDepth 100000 in
set_option maxHeartbeats 1000000 in
theorem marksCheckL (A : Option Addr) (n c : Nat) (ms : List Nat) (ok : Nat → Prop) (B E k : Nat) (w : World) (h : Sl CkSh 1 ok w A n ms) (hm : mayMark B E w ok) (hk : k + ms.sum ≤ 1073741824) (hn : n ≤ 1048576) {x : Int} (hx : x = k) :
  Calls Tryz.prog 26 #[.slice A n c, .int .i64 x] w fun e w' => e = .returned (.int .i64 ((k + ms.sum : Nat) : Int)) ∧ Kept B E w w' := by
 obtain rfl : ms.length = n := h.1
 subst hx
 go_enter Tryz.func26, Tryz.ntmps26
 go_wp2_with fail
 go_loopw [1, 5] (fun m i wr => ∃ (j t : Nat), j ≤ ms.length ∧ i = .int .i64 j ∧ m = .int .i64 ((k + t : Nat) : Int) ∧ Hid ((ms.take j).sum = t) ∧ Kept B E w wr) (fun _ i _ => ms.length - (intOf i).toNat)
 case atStart => exact ⟨0, 0, by omega, rfl, by simp, Lib.hid (by simp), Kept.refl _ _ _⟩
 case round =>
  obtain ⟨i, t, hi, rfl, rfl, ht, hK⟩ := hrel
  by_cases hlt : i < ms.length
  ·have hsh := h.shape CkSh.keeps hK
   have hmm := hm.kept hK
   obtain ⟨b, off, rfl, hob, hcs⟩ := hsh.2 (by omega)
   obtain ⟨cs, hcl, hR, hg⟩ := hcs i hlt
   have hst := sum_take_n ms i hlt
   have hsl := sum_take_n_le ms (i + 1)
   rw [ht.out] at hst
   obtain ⟨hB, hE, -, hfr⟩ := hmm b hob
   obtain ⟨A0, n0, c0, m0, rfl, -, h0, hcp, hd⟩ := hR
   have q0 : wr.cell? ⟨b, off + i, none⟩ = some (.slice A0 n0 c0) := by have := hg 0 _ rfl; rwa [Nat.mul_one] at this
   have hle : k + t + (m0.sum) ≤ 1073741824 := by omega
   have HD := Lib.hid hd
   have HST := Lib.hid hst
   clear hd hst hsl
   have Q0 := Lib.hid q0
   have HB := Lib.hid hB
   have HE := Lib.hid hE
   have HR := Lib.hid hfr
   have HO := Lib.hid hob
   have HN0 := Lib.hid (hcp)
   clear hcp
   clear hsh hcs hg hB hE hfr
   have HMM := Lib.hid hmm
   clear hmm
   go_wp2_with fail
   refine (marksTokL A0 n0 c0 m0 ok B E (k + t) _ (h0.shape (ShF.keeps 5) (by exact Kept.refl B E wr)) (HMM.out.kept (by exact Kept.refl B E wr)) (by omega) HN0.out (by omega)).mono ?_
   rintro e w1 ⟨rfl, hb1⟩
   have hk1 : Kept B E wr w1 := by refine hb1.after ?_; exact Kept.refl B E wr
   have z1_0 := hk1.slice Q0.out rfl
   clear q0
   go_wp2_with fail
   go_roundw
   case rel => exact ⟨i + 1, t + ms[i], by omega, by go_num, by rw [HD.out]; go_num, Lib.hid HST.out, hK.trans (by exact hk1)⟩
   case measure => simp [intOf]; omega
  ·obtain rfl : i = ms.length := by omega
   have e := ht.out
   rw [List.take_of_length_le (Nat.le_refl _)] at e
   have HT := Lib.hid e
   clear e ht
   go_wp2_with fail
   go_ret
   exact ⟨retI (by rw [HT.out]), hK⟩
set_option maxRecDepth 100000 in
set_option maxHeartbeats 1000000 in
theorem marksFkL (A : Option Addr) (n c : Nat) (ms : List Nat) (ok : Nat → Prop) (B E k : Nat) (w : World) (h : Sl FkSh 5 ok w A n ms) (hm : mayMark B E w ok) (hk : k + ms.sum ≤ 1073741824) (hn : n ≤ 1048576) {x : Int} (hx : x = k) :
  Calls Tryz.prog 27 #[.slice A n c, .int .i64 x] w fun e w' => e = .returned (.int .i64 ((k + ms.sum : Nat) : Int)) ∧ Kept B E w w' := by
 obtain rfl : ms.length = n := h.1
 subst hx
 go_enter Tryz.func27, Tryz.ntmps27
 go_wp2_with fail
 go_loopw [1, 5] (fun m i wr => ∃ (j t : Nat), j ≤ ms.length ∧ i = .int .i64 j ∧ m = .int .i64 ((k + t : Nat) : Int) ∧ Hid ((ms.take j).sum = t) ∧ Kept B E w wr) (fun _ i _ => ms.length - (intOf i).toNat)
 case atStart => exact ⟨0, 0, by omega, rfl, by simp, Lib.hid (by simp), Kept.refl _ _ _⟩
 case round =>
  obtain ⟨i, t, hi, rfl, rfl, ht, hK⟩ := hrel
  by_cases hlt : i < ms.length
  ·have hsh := h.shape FkSh.keeps hK
   have hmm := hm.kept hK
   obtain ⟨b, off, rfl, hob, hcs⟩ := hsh.2 (by omega)
   obtain ⟨cs, hcl, hR, hg⟩ := hcs i hlt
   have hst := sum_take_n ms i hlt
   have hsl := sum_take_n_le ms (i + 1)
   rw [ht.out] at hst
   obtain ⟨hB, hE, -, hfr⟩ := hmm b hob
   obtain ⟨A0, n0, c0, m0, u1, u2, u3, u4, rfl, ⟨g1, g2, g3, g4⟩, h0, hcp, hd⟩ := hR
   have q0 : wr.cell? ⟨b, off + i * 5, none⟩ = some (.slice A0 n0 c0) := hg 0 _ rfl
   have q1 : wr.cell? ⟨b, off + i * 5 + 1, none⟩ = some (u1) := hg 1 _ rfl
   have q2 : wr.cell? ⟨b, off + i * 5 + 2, none⟩ = some (u2) := hg 2 _ rfl
   have q3 : wr.cell? ⟨b, off + i * 5 + 3, none⟩ = some (u3) := hg 3 _ rfl
   have q4 : wr.cell? ⟨b, off + i * 5 + 4, none⟩ = some (u4) := hg 4 _ rfl
   have hle : k + t + (4 + m0.sum) ≤ 1073741824 := by omega
   have HD := Lib.hid hd
   have HST := Lib.hid hst
   clear hd hst hsl
   have f1 := hfr (off + i * 5 + 1)
   have f2 := hfr (off + i * 5 + 2)
   have f3 := hfr (off + i * 5 + 3)
   have f4 := hfr (off + i * 5 + 4)
   have Q0 := Lib.hid q0
   have Q1 := Lib.hid q1
   have Q2 := Lib.hid q2
   have Q3 := Lib.hid q3
   have Q4 := Lib.hid q4
   have G1 := Lib.hid g1
   have G2 := Lib.hid g2
   have G3 := Lib.hid g3
   have G4 := Lib.hid g4
   have HB := Lib.hid hB
   have HE := Lib.hid hE
   have HR := Lib.hid hfr
   have HO := Lib.hid hob
   have HN0 := Lib.hid (hcp)
   clear hcp
   clear hsh hcs hg hB hE hfr g1 g2 g3 g4
   have HMM := Lib.hid hmm
   clear hmm
   go_wp2_with fail
   refine (marksIntL A0 n0 c0 m0 ok B E (k + t) _ (h0.shape (ShF.keeps 1) (by exact Kept.refl B E wr)) (HMM.out.kept (by exact Kept.refl B E wr)) (by omega) HN0.out (by omega)).mono ?_
   rintro e w1 ⟨rfl, hb1⟩
   have hk1 : Kept B E wr w1 := by refine hb1.after ?_; exact Kept.refl B E wr
   have z1_0 := hk1.slice Q0.out rfl
   obtain ⟨v1_1, z1_1, -, -⟩ := hk1.cell _ _ Q1.out
   have k1_1 := (HMM.out.kept hk1 b HO.out).2.2.2 (off + i * 5 + 1)
   obtain ⟨v1_2, z1_2, -, -⟩ := hk1.cell _ _ Q2.out
   have k1_2 := (HMM.out.kept hk1 b HO.out).2.2.2 (off + i * 5 + 2)
   obtain ⟨v1_3, z1_3, -, -⟩ := hk1.cell _ _ Q3.out
   have k1_3 := (HMM.out.kept hk1 b HO.out).2.2.2 (off + i * 5 + 3)
   obtain ⟨v1_4, z1_4, -, -⟩ := hk1.cell _ _ Q4.out
   have k1_4 := (HMM.out.kept hk1 b HO.out).2.2.2 (off + i * 5 + 4)
   clear q0 q1 q2 q3 q4 f1 f2 f3 f4
   go_wp2_with fail
   refine (lawsMarkText (k + t + m0.sum) _ (by omega) (by omega)).mono ?_
   rintro e w2 ⟨rfl, hb2⟩
   have hk2 : Kept B E wr w2 := by refine (Kept.below hb2).after ?_; exact hk1
   have z2_0 := hk2.slice Q0.out rfl
   obtain ⟨v2_1, z2_1, -, -⟩ := hk2.cell _ _ Q1.out
   have k2_1 := (HMM.out.kept hk2 b HO.out).2.2.2 (off + i * 5 + 1)
   obtain ⟨v2_2, z2_2, -, -⟩ := hk2.cell _ _ Q2.out
   have k2_2 := (HMM.out.kept hk2 b HO.out).2.2.2 (off + i * 5 + 2)
   obtain ⟨v2_3, z2_3, -, -⟩ := hk2.cell _ _ Q3.out
   have k2_3 := (HMM.out.kept hk2 b HO.out).2.2.2 (off + i * 5 + 3)
   obtain ⟨v2_4, z2_4, -, -⟩ := hk2.cell _ _ Q4.out
   have k2_4 := (HMM.out.kept hk2 b HO.out).2.2.2 (off + i * 5 + 4)
   clear z1_0 z1_1 z1_2 z1_3 z1_4 k1_1 k1_2 k1_3 k1_4
   go_wp2_with fail
   go_roundw
   case rel => exact ⟨i + 1, t + ms[i], by omega, by go_num, by rw [HD.out]; go_num, Lib.hid HST.out, hK.trans (by refine Kept.set ?_ Q4.out G4.out HB.out HE.out rfl; refine Kept.set ?_ Q3.out G3.out HB.out HE.out rfl; refine Kept.set ?_ Q2.out G2.out HB.out HE.out rfl; refine Kept.set ?_ Q1.out G1.out HB.out HE.out rfl; exact hk2)⟩
   case measure => simp [intOf]; omega
  ·obtain rfl : i = ms.length := by omega
   have e := ht.out
   rw [List.take_of_length_le (Nat.le_refl _)] at e
   have HT := Lib.hid e
   clear e ht
   go_wp2_with fail
   go_ret
   exact ⟨retI (by rw [HT.out]), hK⟩
set_option maxRecDepth 100000 in
set_option maxHeartbeats 1000000 in
theorem marksTableL (A : Option Addr) (n c : Nat) (ms : List Nat) (ok : Nat → Prop) (B E k : Nat) (w : World) (h : Sl TbSh 6 ok w A n ms) (hm : mayMark B E w ok) (hk : k + ms.sum ≤ 1073741824) (hn : n ≤ 1048576) {x : Int} (hx : x = k) :
  Calls Tryz.prog 10 #[.slice A n c, .int .i64 x] w fun e w' => e = .returned (.int .i64 ((k + ms.sum : Nat) : Int)) ∧ Kept B E w w' := by
 obtain rfl : ms.length = n := h.1
 subst hx
 go_enter Tryz.func10, Tryz.ntmps10
 go_wp2_with fail
 go_loopw [1, 5] (fun m i wr => ∃ (j t : Nat), j ≤ ms.length ∧ i = .int .i64 j ∧ m = .int .i64 ((k + t : Nat) : Int) ∧ Hid ((ms.take j).sum = t) ∧ Kept B E w wr) (fun _ i _ => ms.length - (intOf i).toNat)
 case atStart => exact ⟨0, 0, by omega, rfl, by simp, Lib.hid (by simp), Kept.refl _ _ _⟩
 case round =>
  obtain ⟨i, t, hi, rfl, rfl, ht, hK⟩ := hrel
  by_cases hlt : i < ms.length
  ·have hsh := h.shape TbSh.keeps hK
   have hmm := hm.kept hK
   obtain ⟨b, off, rfl, hob, hcs⟩ := hsh.2 (by omega)
   obtain ⟨cs, hcl, hR, hg⟩ := hcs i hlt
   have hst := sum_take_n ms i hlt
   have hsl := sum_take_n_le ms (i + 1)
   rw [ht.out] at hst
   obtain ⟨hB, hE, -, hfr⟩ := hmm b hob
   obtain ⟨A1, n1, c1, m1, A2, n2, c2, m2, A3, n3, c3, m3, A4, n4, c4, m4, A5, n5, c5, m5, u0, rfl, g0, h1, h2, h3, h4, h5, hcp, hd⟩ := hR
   have q0 : wr.cell? ⟨b, off + i * 6, none⟩ = some (u0) := hg 0 _ rfl
   have q1 : wr.cell? ⟨b, off + i * 6 + 1, none⟩ = some (.slice A1 n1 c1) := hg 1 _ rfl
   have q2 : wr.cell? ⟨b, off + i * 6 + 2, none⟩ = some (.slice A2 n2 c2) := hg 2 _ rfl
   have q3 : wr.cell? ⟨b, off + i * 6 + 3, none⟩ = some (.slice A3 n3 c3) := hg 3 _ rfl
   have q4 : wr.cell? ⟨b, off + i * 6 + 4, none⟩ = some (.slice A4 n4 c4) := hg 4 _ rfl
   have q5 : wr.cell? ⟨b, off + i * 6 + 5, none⟩ = some (.slice A5 n5 c5) := hg 5 _ rfl
   have hle : k + t + (1 + m1.sum + m2.sum + m3.sum + m4.sum + m5.sum) ≤ 1073741824 := by omega
   have HD := Lib.hid hd
   have HST := Lib.hid hst
   clear hd hst hsl
   have f0 := hfr (off + i * 6)
   have Q0 := Lib.hid q0
   have Q1 := Lib.hid q1
   have Q2 := Lib.hid q2
   have Q3 := Lib.hid q3
   have Q4 := Lib.hid q4
   have Q5 := Lib.hid q5
   have G0 := Lib.hid g0
   have HB := Lib.hid hB
   have HE := Lib.hid hE
   have HR := Lib.hid hfr
   have HO := Lib.hid hob
   have HN1 := Lib.hid (hcp.1)
   have HN2 := Lib.hid (hcp.2.1)
   have HN3 := Lib.hid (hcp.2.2.1)
   have HN4 := Lib.hid (hcp.2.2.2.1)
   have HN5 := Lib.hid (hcp.2.2.2.2)
   clear hcp
   clear hsh hcs hg hB hE hfr g0
   have HMM := Lib.hid hmm
   clear hmm
   go_wp2_with fail
   refine (lawsMarkText (k + t) _ (by omega) (by omega)).mono ?_
   rintro e w1 ⟨rfl, hb1⟩
   have hk1 : Kept B E wr w1 := by refine (Kept.below hb1).after ?_; exact Kept.refl B E wr
   obtain ⟨v1_0, z1_0, -, -⟩ := hk1.cell _ _ Q0.out
   have k1_0 := (HMM.out.kept hk1 b HO.out).2.2.2 (off + i * 6)
   have z1_1 := hk1.slice Q1.out rfl
   have z1_2 := hk1.slice Q2.out rfl
   have z1_3 := hk1.slice Q3.out rfl
   have z1_4 := hk1.slice Q4.out rfl
   have z1_5 := hk1.slice Q5.out rfl
   clear q0 q1 q2 q3 q4 q5 f0
   go_wp2_with fail
   refine (marksColL A1 n1 c1 m1 ok B E (k + t + 1) _ (h1.shape (ShF.keeps 6) (by refine Kept.set ?_ Q0.out G0.out HB.out HE.out rfl; exact hk1)) (HMM.out.kept (by refine Kept.set ?_ Q0.out G0.out HB.out HE.out rfl; exact hk1)) (by omega) HN1.out (by omega)).mono ?_
   rintro e w2 ⟨rfl, hb2⟩
   have hk2 : Kept B E wr w2 := by refine hb2.after ?_; refine Kept.set ?_ Q0.out G0.out HB.out HE.out rfl; exact hk1
   obtain ⟨v2_0, z2_0, -, -⟩ := hk2.cell _ _ Q0.out
   have k2_0 := (HMM.out.kept hk2 b HO.out).2.2.2 (off + i * 6)
   have z2_1 := hk2.slice Q1.out rfl
   have z2_2 := hk2.slice Q2.out rfl
   have z2_3 := hk2.slice Q3.out rfl
   have z2_4 := hk2.slice Q4.out rfl
   have z2_5 := hk2.slice Q5.out rfl
   clear z1_0 z1_1 z1_2 z1_3 z1_4 z1_5 k1_0
   go_wp2_with fail
   refine (marksIntL A2 n2 c2 m2 ok B E (k + t + m1.sum + 1) _ (h2.shape (ShF.keeps 1) (by exact hk2)) (HMM.out.kept (by exact hk2)) (by omega) HN2.out (by omega)).mono ?_
   rintro e w3 ⟨rfl, hb3⟩
   have hk3 : Kept B E wr w3 := by refine hb3.after ?_; exact hk2
   obtain ⟨v3_0, z3_0, -, -⟩ := hk3.cell _ _ Q0.out
   have k3_0 := (HMM.out.kept hk3 b HO.out).2.2.2 (off + i * 6)
   have z3_1 := hk3.slice Q1.out rfl
   have z3_2 := hk3.slice Q2.out rfl
   have z3_3 := hk3.slice Q3.out rfl
   have z3_4 := hk3.slice Q4.out rfl
   have z3_5 := hk3.slice Q5.out rfl
   clear z2_0 z2_1 z2_2 z2_3 z2_4 z2_5 k2_0
   go_wp2_with fail
   refine (marksUniqueL A3 n3 c3 m3 ok B E (k + t + m1.sum + m2.sum + 1) _ (h3.shape UqSh.keeps (by exact hk3)) (HMM.out.kept (by exact hk3)) (by omega) HN3.out (by omega)).mono ?_
   rintro e w4 ⟨rfl, hb4⟩
   have hk4 : Kept B E wr w4 := by refine hb4.after ?_; exact hk3
   obtain ⟨v4_0, z4_0, -, -⟩ := hk4.cell _ _ Q0.out
   have k4_0 := (HMM.out.kept hk4 b HO.out).2.2.2 (off + i * 6)
   have z4_1 := hk4.slice Q1.out rfl
   have z4_2 := hk4.slice Q2.out rfl
   have z4_3 := hk4.slice Q3.out rfl
   have z4_4 := hk4.slice Q4.out rfl
   have z4_5 := hk4.slice Q5.out rfl
   clear z3_0 z3_1 z3_2 z3_3 z3_4 z3_5 k3_0
   go_wp2_with fail
   refine (marksCheckL A4 n4 c4 m4 ok B E (k + t + m1.sum + m2.sum + m3.sum + 1) _ (h4.shape CkSh.keeps (by exact hk4)) (HMM.out.kept (by exact hk4)) (by omega) HN4.out (by omega)).mono ?_
   rintro e w5 ⟨rfl, hb5⟩
   have hk5 : Kept B E wr w5 := by refine hb5.after ?_; exact hk4
   obtain ⟨v5_0, z5_0, -, -⟩ := hk5.cell _ _ Q0.out
   have k5_0 := (HMM.out.kept hk5 b HO.out).2.2.2 (off + i * 6)
   have z5_1 := hk5.slice Q1.out rfl
   have z5_2 := hk5.slice Q2.out rfl
   have z5_3 := hk5.slice Q3.out rfl
   have z5_4 := hk5.slice Q4.out rfl
   have z5_5 := hk5.slice Q5.out rfl
   clear z4_0 z4_1 z4_2 z4_3 z4_4 z4_5 k4_0
   go_wp2_with fail
   refine (marksFkL A5 n5 c5 m5 ok B E (k + t + m1.sum + m2.sum + m3.sum + m4.sum + 1) _ (h5.shape FkSh.keeps (by exact hk5)) (HMM.out.kept (by exact hk5)) (by omega) HN5.out (by omega)).mono ?_
   rintro e w6 ⟨rfl, hb6⟩
   have hk6 : Kept B E wr w6 := by refine hb6.after ?_; exact hk5
   obtain ⟨v6_0, z6_0, -, -⟩ := hk6.cell _ _ Q0.out
   have k6_0 := (HMM.out.kept hk6 b HO.out).2.2.2 (off + i * 6)
   have z6_1 := hk6.slice Q1.out rfl
   have z6_2 := hk6.slice Q2.out rfl
   have z6_3 := hk6.slice Q3.out rfl
   have z6_4 := hk6.slice Q4.out rfl
   have z6_5 := hk6.slice Q5.out rfl
   clear z5_0 z5_1 z5_2 z5_3 z5_4 z5_5 k5_0
   go_wp2_with fail
   go_roundw
   case rel => exact ⟨i + 1, t + ms[i], by omega, by go_num, by rw [HD.out]; go_num, Lib.hid HST.out, hK.trans (by exact hk6)⟩
   case measure => simp [intOf]; omega
  ·obtain rfl : i = ms.length := by omega
   have e := ht.out
   rw [List.take_of_length_le (Nat.le_refl _)] at e
   have HT := Lib.hid e
   clear e ht
   go_wp2_with fail
   go_ret
   exact ⟨retI (by rw [HT.out]), hK⟩
end Go.Proofs.YthamekdjfoepmaaGreat
namespace Go.Proofs.YthamekdjfoepmaaGreat
open Go.RowKit
structure KeptL (bs : List Nat) (w w' : World) : Prop where
 os : w'.os = w.os
 tape : w'.tape = w.tape
 output : w'.output = w.output
 size : w.heap.size ≤ w'.heap.size
 block : ∀ k, k < w.heap.size → k ∉ bs → w'.heap[k]? = w.heap[k]?
 frozen : ∀ p : Addr, p.block < w.heap.size → w'.frozen? p = w.frozen? p
theorem KeptL.refl (bs : List Nat) (w : World) : KeptL bs w w := ⟨rfl, rfl, rfl, Nat.le_refl _, fun _ _ _ => rfl, fun _ _ => rfl⟩
theorem KeptL.trans {bs : List Nat} {a b c : World} (h : KeptL bs a b) (k : KeptL bs b c) : KeptL bs a c :=
 ⟨k.os.trans h.os, k.tape.trans h.tape, k.output.trans h.output, Nat.le_trans h.size k.size, fun i hi ho => (k.block i (Nat.lt_of_lt_of_le hi h.size) ho).trans (h.block i hi ho),
  fun p hp => (k.frozen p (Nat.lt_of_lt_of_le hp h.size)).trans (h.frozen p hp)⟩
theorem KeptL.mono {bs cs : List Nat} {a b : World} (h : KeptL bs a b) (hc : ∀ x ∈ bs, x ∈ cs) : KeptL cs a b :=
 ⟨h.os, h.tape, h.output, h.size, fun k hk ho => h.block k hk fun hh => ho (hc _ hh), h.frozen⟩
theorem KeptL.below {bs : List Nat} {w w' : World} (h : Below w.heap.size w w') : KeptL bs w w' :=
 ⟨h.os, h.tape, h.output, h.size, fun k hk _ => h.block k hk, fun p hp => World.frozen?_of_block (w := w) (h.block p.block hp)⟩
theorem KeptL.far {bs : List Nat} {w w' : World} (h : KeptL bs w w') {p : Addr} {v : Value} (hp : p.block ∉ bs) (hc : w.cell? p = some v) : w'.cell? p = some v :=
 (World.cell?_of_block (w := w) (h.block p.block (cell_lt hc) hp)).trans hc
theorem KeptL.set {bs : List Nat} {a w : World} (h : KeptL bs a w) {p : Addr} {u : Value} (hp : p.block ∈ bs) : KeptL bs a (w.setCell p u) :=
 ⟨h.os, h.tape, h.output, by simpa [World.setCell] using h.size, fun k hk ho => by
  rw [Below.heap_setCell _ _ _ _ (fun hh => ho (by rw [hh]; exact hp))]
  exact h.block k hk ho, fun q hq => (frozen_setCell w p u q).trans (h.frozen q hq)⟩
theorem KeptL.toBelow {bs : List Nat} {G : Nat} {a w w' : World} (h : Below G a w) (k : KeptL bs w w') (hG : ∀ b ∈ bs, G ≤ b) (ha : G ≤ w.heap.size) : Below G a w' :=
 ⟨k.os.trans h.os, k.tape.trans h.tape, k.output.trans h.output, Nat.le_trans h.size k.size, fun i hi => (k.block i (by omega) (fun hh => by have := hG i hh; omega)).trans (h.block i hi)⟩
def cellsAt (w : World) (b o : Nat) (cs : List Value) : Prop := ∀ (t : Nat) (v : Value), cs[t]? = some v → w.cell? ⟨b, o + t, none⟩ = some v
abbrev ElS := World → List Value → Nat → List Nat → Prop
abbrev ElH := World → Nat → List Value → Nat → List Nat → Prop
def StayS (S : ElS) : Prop := ∀ (w w' : World) (cs : List Value) (cnt : Nat) (bs bs' : List Nat), S w cs cnt bs → KeptL bs' w w' → (∀ x ∈ bs, x ∉ bs') → S w' cs cnt bs
def StayH (H : ElH) : Prop := ∀ (w w' : World) (k : Nat) (cs : List Value) (cnt : Nat) (bs bs' : List Nat), H w k cs cnt bs → KeptL bs' w w' → (∀ x ∈ bs, x ∉ bs') → H w' k cs cnt bs
structure NS (S : ElS) (sz : Nat) (w : World) (b off n : Nat) (cnts : List Nat) (bss : List (List Nat)) : Prop where
 l1 : cnts.length = n
 l2 : bss.length = n
 nodup : (b :: bss.flatten).Nodup
 lt : b < w.heap.size
 fr : ∀ o, w.frozen? ⟨b, o, none⟩ = false
 el : ∀ i, i < n → ∃ cs, cs.length = sz ∧ S w cs (cnts.getD i 0) (bss.getD i []) ∧ cellsAt w b (off + i * sz) cs
def ShL (S : ElS) (sz : Nat) (w : World) (A : Option Addr) (n : Nat) (cnts : List Nat) (bs : List Nat) : Prop :=
 n ≤ 1048576 ∧ (n = 0 ∧ cnts = [] ∧ bs = [] ∨ ∃ b off bss, A = some ⟨b, off, none⟩ ∧ bs = b :: bss.flatten ∧ NS S sz w b off n cnts bss)
structure NH (H : ElH) (sz : Nat) (w : World) (k b off n : Nat) (cnts : List Nat) (bss : List (List Nat)) : Prop where
 l1 : cnts.length = n
 l2 : bss.length = n
 el : ∀ i, i < n → ∃ cs, cs.length = sz ∧ H w (k + (cnts.take i).sum) cs (cnts.getD i 0) (bss.getD i []) ∧ cellsAt w b (off + i * sz) cs
def HdL (H : ElH) (sz : Nat) (w : World) (k : Nat) (A : Option Addr) (n : Nat) (cnts : List Nat) (bs : List Nat) : Prop :=
 n ≤ 1048576 ∧ (n = 0 ∧ cnts = [] ∧ bs = [] ∨ ∃ b off bss, A = some ⟨b, off, none⟩ ∧ bs = b :: bss.flatten ∧ NH H sz w k b off n cnts bss)
theorem mem_flatten_getD {bss : List (List Nat)} {i x : Nat} (h : x ∈ bss.getD i []) : x ∈ bss.flatten := by
 by_cases hi : i < bss.length
 ·rw [List.getD_eq_getElem?_getD, List.getElem?_eq_getElem hi] at h
  exact List.mem_flatten.2 ⟨bss[i], List.getElem_mem hi, h⟩
 ·rw [List.getD_eq_getElem?_getD, List.getElem?_eq_none (by omega)] at h
  simp at h
theorem apart {b : Nat} {bss : List (List Nat)} (h : (b :: bss.flatten).Nodup) {i j x : Nat} (hx : x ∈ bss.getD i []) (hj : x ∈ bss.getD j []) : i = j := by
 have hi : i < bss.length := by
  rcases Nat.lt_or_ge i bss.length with h1 | h1
  ·exact h1
  ·rw [List.getD_eq_getElem?_getD, List.getElem?_eq_none h1] at hx; simp at hx
 have hjl : j < bss.length := by
  rcases Nat.lt_or_ge j bss.length with h1 | h1
  ·exact h1
  ·rw [List.getD_eq_getElem?_getD, List.getElem?_eq_none h1] at hj; simp at hj
 rw [List.getD_eq_getElem?_getD, List.getElem?_eq_getElem hi] at hx
 rw [List.getD_eq_getElem?_getD, List.getElem?_eq_getElem hjl] at hj
 have hp := (List.pairwise_iff_getElem.1 (List.pairwise_flatten.1 (List.nodup_cons.1 h).2).2)
 rcases Nat.lt_trichotomy i j with h1 | h1 | h1
 ·exact absurd rfl (hp i j hi hjl h1 x hx x hj)
 ·exact h1
 ·exact absurd rfl (hp j i hjl hi h1 x hj x hx)
theorem apart0 {b : Nat} {bss : List (List Nat)} (h : (b :: bss.flatten).Nodup) {i x : Nat} (hx : x ∈ bss.getD i []) : x ≠ b := fun e => (List.nodup_cons.1 h).1 (e ▸ mem_flatten_getD hx)
theorem mem_take_flatten {bss : List (List Nat)} {i x : Nat} (h : x ∈ (bss.take i).flatten) : ∃ j, j < i ∧ x ∈ bss.getD j [] := by
 obtain ⟨l, hl, hx⟩ := List.mem_flatten.1 h
 obtain ⟨j, hj, rfl⟩ := List.mem_iff_getElem.1 hl
 simp only [List.length_take] at hj
 refine ⟨j, by omega, ?_⟩
 rw [List.getElem_take] at hx
 rw [List.getD_eq_getElem?_getD, List.getElem?_eq_getElem (by omega)]
 exact hx
theorem sum_take_getD (l : List Nat) (k : Nat) (h : k < l.length) : (l.take (k + 1)).sum = (l.take k).sum + l.getD k 0 := by
 rw [sum_take_n l k h, List.getD_eq_getElem?_getD, List.getElem?_eq_getElem h]; rfl
theorem take_le_sum (l : List Nat) (k : Nat) : (l.take k).sum ≤ l.sum := sum_take_n_le l k
structure NI (H : ElH) (sz : Nat) (w : World) (b off k n : Nat) (cnts : List Nat) (bss : List (List Nat)) (i : Nat) (wr : World) : Prop where
 kept : KeptL (b :: (bss.take i).flatten) w wr
 same : ∀ o, off + i * sz ≤ o → wr.cell? ⟨b, o, none⟩ = w.cell? ⟨b, o, none⟩
 done : ∀ j, j < i → ∃ cs, cs.length = sz ∧ H wr (k + (cnts.take j).sum) cs (cnts.getD j 0) (bss.getD j []) ∧ cellsAt wr b (off + j * sz) cs
theorem NI.start (H : ElH) (sz : Nat) (w : World) (b off k n : Nat) (cnts : List Nat) (bss : List (List Nat)) : NI H sz w b off k n cnts bss 0 w := ⟨KeptL.refl _ _, fun _ _ => rfl, fun j hj => by omega⟩
theorem NI.elem {S : ElS} {H : ElH} (hS : StayS S) {sz : Nat} {w : World} {b off k n : Nat} {cnts : List Nat} {bss : List (List Nat)} (hs : NS S sz w b off n cnts bss) {i : Nat} {wr : World} (h : NI H sz w b off k n cnts bss i wr) (hi : i < n) :
  b < wr.heap.size ∧ (∀ o, wr.frozen? ⟨b, o, none⟩ = false) ∧ ∃ cs, cs.length = sz ∧ S wr cs (cnts.getD i 0) (bss.getD i []) ∧ cellsAt wr b (off + i * sz) cs := by
 refine ⟨Nat.lt_of_lt_of_le hs.lt h.kept.size, fun o => (h.kept.frozen ⟨b, o, none⟩ hs.lt).trans (hs.fr o), ?_⟩
 obtain ⟨cs, h1, h2, h3⟩ := hs.el i hi
 refine ⟨cs, h1, hS _ _ _ _ _ _ h2 h.kept fun x hx hh => ?_, fun t v hv => (h.same _ (by omega)).trans (h3 t v hv)⟩
 rcases List.mem_cons.1 hh with e | e
 ·exact apart0 hs.nodup hx e
 ·obtain ⟨j, hj, hxj⟩ := mem_take_flatten e
  have := apart hs.nodup hx hxj
  omega
theorem NI.step {H : ElH} (hH : StayH H) {sz : Nat} {w : World} {b off k n : Nat} {cnts : List Nat} {bss : List (List Nat)} (hl : bss.length = n) (hn : (b :: bss.flatten).Nodup) {i : Nat} {wr W : World} (h : NI H sz w b off k n cnts bss i wr) (hi : i < n)
  (hk : KeptL (b :: bss.getD i []) wr W) (hs : ∀ o, (o < off + i * sz ∨ off + (i + 1) * sz ≤ o) → ∀ v, wr.cell? ⟨b, o, none⟩ = v → W.cell? ⟨b, o, none⟩ = v) (cs : List Value) (hc : cs.length = sz) (hM : H W (k + (cnts.take i).sum) cs (cnts.getD i 0) (bss.getD i [])) (hcs : cellsAt W b (off + i * sz) cs) :
  NI H sz w b off k n cnts bss (i + 1) W := by
 have hsub : ∀ x ∈ bss.getD i [], x ∈ (bss.take (i + 1)).flatten := fun x hx => by
  have hi' : i < bss.length := by omega
  rw [List.getD_eq_getElem?_getD, List.getElem?_eq_getElem hi'] at hx
  exact List.mem_flatten.2 ⟨bss[i], List.mem_iff_getElem.2 ⟨i, by simp; omega, by simp⟩, hx⟩
 have hsub2 : ∀ x ∈ (bss.take i).flatten, x ∈ (bss.take (i + 1)).flatten := fun x hx => by
  rw [List.take_succ_eq_append_getElem (by omega), List.flatten_append]
  exact List.mem_append_left _ hx
 refine ⟨(h.kept.mono fun x hx => ?_).trans (hk.mono fun x hx => ?_), fun o ho => ?_, fun j hj => ?_⟩
 ·rcases List.mem_cons.1 hx with e | e
  ·exact e ▸ List.mem_cons_self ..
  ·exact List.mem_cons_of_mem _ (hsub2 x e)
 ·rcases List.mem_cons.1 hx with e | e
  ·exact e ▸ List.mem_cons_self ..
  ·exact List.mem_cons_of_mem _ (hsub x e)
 ·have e : (i + 1) * sz = i * sz + sz := Nat.succ_mul i sz
  exact (hs o (Or.inr ho) _ rfl).trans (h.same o (by omega))
 ·by_cases e : j = i
  ·subst e
   exact ⟨cs, hc, hM, hcs⟩
  ·obtain ⟨cs', h1, h2, h3⟩ := h.done j (by omega)
   refine ⟨cs', h1, hH _ _ _ _ _ _ _ h2 hk fun x hx hh => ?_, fun t v hv => hs _ (Or.inl ?_) _ (h3 t v hv)⟩
   ·rcases List.mem_cons.1 hh with e' | e'
    ·exact apart0 hn hx e'
    ·exact e (apart hn hx e')
   ·have ht : t < sz := by have := (List.getElem?_eq_some_iff.1 hv).1; omega
    have : (j + 1) * sz ≤ i * sz := Nat.mul_le_mul_right sz (by omega)
    rw [Nat.succ_mul] at this
    omega
theorem NI.finish {H : ElH} {sz : Nat} {w : World} {b off k n : Nat} {cnts : List Nat} {bss : List (List Nat)} (hl1 : cnts.length = n) (hl : bss.length = n) {wr : World} (h : NI H sz w b off k n cnts bss n wr) : KeptL (b :: bss.flatten) w wr ∧ NH H sz wr k b off n cnts bss := by
 refine ⟨?_, hl1, hl, h.done⟩
 have := h.kept
 rwa [List.take_of_length_le (by omega)] at this
theorem ShL.stay {S : ElS} (hS : StayS S) {sz : Nat} {w w' : World} {A : Option Addr} {n : Nat} {cnts bs bs' : List Nat} (h : ShL S sz w A n cnts bs) (hk : KeptL bs' w w') (hd : ∀ x ∈ bs, x ∉ bs') : ShL S sz w' A n cnts bs := by
 refine ⟨h.1, ?_⟩
 rcases h.2 with h0 | ⟨b, off, bss, rfl, rfl, hs⟩
 ·exact Or.inl h0
 ·refine Or.inr ⟨b, off, bss, rfl, rfl, hs.l1, hs.l2, hs.nodup, Nat.lt_of_lt_of_le hs.lt hk.size, fun o => (hk.frozen ⟨b, o, none⟩ hs.lt).trans (hs.fr o), fun i hi => ?_⟩
  obtain ⟨cs, h1, h2, h3⟩ := hs.el i hi
  exact ⟨cs, h1, hS _ _ _ _ _ _ h2 hk fun x hx => hd x (List.mem_cons_of_mem _ (mem_flatten_getD hx)), fun t v hv => hk.far (hd b (List.mem_cons_self ..)) (h3 t v hv)⟩
theorem HdL.stay {H : ElH} (hH : StayH H) {sz : Nat} {w w' : World} {k : Nat} {A : Option Addr} {n : Nat} {cnts bs bs' : List Nat} (h : HdL H sz w k A n cnts bs) (hk : KeptL bs' w w') (hd : ∀ x ∈ bs, x ∉ bs') : HdL H sz w' k A n cnts bs := by
 refine ⟨h.1, ?_⟩
 rcases h.2 with h0 | ⟨b, off, bss, rfl, rfl, hs⟩
 ·exact Or.inl h0
 ·refine Or.inr ⟨b, off, bss, rfl, rfl, hs.l1, hs.l2, fun i hi => ?_⟩
  obtain ⟨cs, h1, h2, h3⟩ := hs.el i hi
  exact ⟨cs, h1, hH _ _ _ _ _ _ _ h2 hk fun x hx => hd x (List.mem_cons_of_mem _ (mem_flatten_getD hx)), fun t v hv => hk.far (hd b (List.mem_cons_self ..)) (h3 t v hv)⟩
theorem HdL.below {H : ElH} (hH : StayH H) {sz : Nat} {w w' : World} {k : Nat} {A : Option Addr} {n : Nat} {cnts bs : List Nat} (h : HdL H sz w k A n cnts bs) (hk : Below w.heap.size w w') : HdL H sz w' k A n cnts bs :=
 h.stay hH (bs' := []) (KeptL.below hk) fun _ _ => List.not_mem_nil
structure NM (b lo hi : Nat) (bs : List Nat) (wr W : World) : Prop where
 kept : KeptL (b :: bs) wr W
 same : ∀ o, (o < lo ∨ hi ≤ o) → ∀ v, wr.cell? ⟨b, o, none⟩ = v → W.cell? ⟨b, o, none⟩ = v
theorem NM.refl (b lo hi : Nat) (bs : List Nat) (w : World) : NM b lo hi bs w w := ⟨KeptL.refl _ _, fun _ _ _ h => h⟩
theorem NM.set {b lo hi : Nat} {bs : List Nat} {wr W : World} (h : NM b lo hi bs wr W) {p : Addr} {u : Value} {o : Nat} (hp : p = ⟨b, o, none⟩) (h1 : lo ≤ o) (h2 : o < hi) : NM b lo hi bs wr (W.setCell p u) := by
 subst hp
 exact ⟨h.kept.set (List.mem_cons_self ..), fun o' ho v hv => (World.cell?_setCell_other _ _ _ _ (by intro hh; simp only [Addr.mk.injEq] at hh; omega)).trans (h.same o' ho v hv)⟩
theorem ShL.walk {S : ElS} {H : ElH} (hS : StayS S) (hH : StayH H) {sz : Nat} {w : World} {A : Option Addr} {n : Nat} {cnts bs : List Nat} (h : ShL S sz w A n cnts bs) (k : Nat) :
  cnts.length = n ∧ ∃ P : Nat → World → Prop, P 0 w ∧
   (∀ i wr, i < n → P i wr → ∃ b off bs' cs, A = some ⟨b, off, none⟩ ∧ (∀ o, wr.frozen? ⟨b, o, none⟩ = false) ∧ b < wr.heap.size ∧ cs.length = sz ∧ S wr cs (cnts.getD i 0) bs' ∧ cellsAt wr b (off + i * sz) cs ∧ b ∉ bs' ∧
    ∀ W cs', NM b (off + i * sz) (off + (i + 1) * sz) bs' wr W → cs'.length = sz → H W (k + (cnts.take i).sum) cs' (cnts.getD i 0) bs' → cellsAt W b (off + i * sz) cs' → P (i + 1) W) ∧
   (∀ wr, P n wr → KeptL bs w wr ∧ HdL H sz wr k A n cnts bs) := by
 rcases h.2 with ⟨rfl, rfl, rfl⟩ | ⟨b, off, bss, rfl, rfl, hs⟩
 ·exact ⟨rfl, fun _ wr => wr = w, rfl, fun i wr hi => by omega, fun wr e => by subst e; exact ⟨KeptL.refl _ _, Nat.zero_le _, Or.inl ⟨rfl, rfl, rfl⟩⟩⟩
 ·refine ⟨hs.l1, NI H sz w b off k n cnts bss, NI.start .., fun i wr hi hI => ?_, fun wr hI => ?_⟩
  ·obtain ⟨h1, h2, cs, h3, h4, h5⟩ := hI.elem hS hs hi
   exact ⟨b, off, bss.getD i [], cs, rfl, h2, h1, h3, h4, h5, fun hb => apart0 hs.nodup hb rfl, fun W cs' hk hc hM hcs => NI.step hH hs.l2 hs.nodup hI hi hk.kept hk.same cs' hc hM hcs⟩
  ·obtain ⟨h1, h2⟩ := NI.finish hs.l1 hs.l2 hI
   exact ⟨h1, h.1, Or.inr ⟨b, off, bss, rfl, rfl, h2⟩⟩
theorem HdL.elem {H : ElH} {sz : Nat} {w : World} {k : Nat} {A : Option Addr} {n : Nat} {cnts bs : List Nat} (h : HdL H sz w k A n cnts bs) {i : Nat} (hi : i < n) :
  ∃ b off bs' cs, A = some ⟨b, off, none⟩ ∧ cs.length = sz ∧ H w (k + (cnts.take i).sum) cs (cnts.getD i 0) bs' ∧ cellsAt w b (off + i * sz) cs := by
 rcases h.2 with h0 | ⟨b, off, bss, rfl, rfl, hs⟩
 ·omega
 ·obtain ⟨cs, h1, h2, h3⟩ := hs.el i hi
  exact ⟨b, off, _, cs, rfl, h1, h2, h3⟩
theorem HdL.len {H : ElH} {sz : Nat} {w : World} {k : Nat} {A : Option Addr} {n : Nat} {cnts bs : List Nat} (h : HdL H sz w k A n cnts bs) : cnts.length = n := by
 rcases h.2 with ⟨rfl, rfl, -⟩ | ⟨b, off, bss, rfl, rfl, hs⟩
 ·rfl
 ·exact hs.l1
theorem sums_step {cnts : List Nat} {i n : Nat} (hl : cnts.length = n) (hi : i < n) : (cnts.take (i + 1)).sum = (cnts.take i).sum + cnts.getD i 0 ∧ (cnts.take i).sum + cnts.getD i 0 ≤ cnts.sum := by
 have h1 := sum_take_getD cnts i (by omega)
 have h2 := take_le_sum cnts (i + 1)
 omega
theorem sums_all {cnts : List Nat} {n : Nat} (hl : cnts.length = n) : (cnts.take n).sum = cnts.sum := by rw [List.take_of_length_le (by omega)]
end Go.Proofs.YthamekdjfoepmaaGreat
namespace Go.Proofs.YthamekdjfoepmaaGreat
open Go.RowKit
theorem flat_get {sz : Nat} : ∀ (l : List (List Value)) (i j : Nat) (hi : i < l.length) (hj : j < sz), (∀ c ∈ l, c.length = sz) → l.flatten[i * sz + j]? = (l[i])[j]?
 | [], i, j, hi, _, _ => by simp at hi
 | c :: cs, i, j, hi, hj, hz => by
  have hc := hz c (by simp)
  cases i with
  | zero => simp only [List.getElem_cons_zero, List.flatten_cons, Nat.zero_mul, Nat.zero_add]; rw [List.getElem?_append_left (by omega)]
  | succ i =>
   simp only [List.getElem_cons_succ]
   rw [List.flatten_cons, List.getElem?_append_right (by rw [hc, Nat.add_mul]; omega), hc, show (i + 1) * sz + j - sz = i * sz + j by rw [Nat.add_mul]; omega]
   exact flat_get cs i j (by simpa using hi) hj fun d hd => hz d (by simp [hd])
theorem flat_len {sz : Nat} : ∀ (l : List (List Value)), (∀ c ∈ l, c.length = sz) → l.flatten.length = l.length * sz
 | [], _ => by simp
 | c :: cs, h => by
  rw [List.flatten_cons, List.length_append, h c (by simp), flat_len cs fun d hd => h d (by simp [hd]), List.length_cons, Nat.add_mul]; omega
def OwnG {α : Type} (T : TypeId) (sz : Nat) (f : α → List Value) (w : World) (base : Nat) (v : Value) (xs : List α) : Prop := w.ownsRow base T sz v xs.length ((xs.map f).flatten)
section
variable {α : Type} {T : TypeId} {sz : Nat} {f : α → List Value}
theorem OwnG.lit (w : World) {base : Nat} (hb : base ≤ w.heap.size) : OwnG T sz f (w.alloc (.cells #[] T)) base (.slice (some ⟨w.heap.size, 0, none⟩) 0 0) ([] : List α) :=
 ⟨by simp, .inr ⟨w.heap.size, 0, #[], rfl, hb, Go.heap_alloc_last w _, Nat.le_refl _, by simp [maxLen], by simp, by simp⟩⟩
end
end Go.Proofs.YthamekdjfoepmaaGreat
namespace Go.Proofs.YthamekdjfoepmaaGreat
open Go.RowKit
theorem chain2 (w : World) (o o' : Obj) : Below w.heap.size w ((w.alloc o).alloc o') := ((Below.refl _ w).alloc (Nat.le_refl _) o).alloc (by simp) o'
end Go.Proofs.YthamekdjfoepmaaGreat
namespace Go.Proofs.YthamekdjfoepmaaGreat
open Go.RowKit
abbrev ElO (α : Type) := World → Nat → List Value → α → List Nat → Prop
structure GoodO {α : Type} (Ts : List TypeId) (sz : Nat) (E : ElO α) : Prop where
 len : ∀ {w base cs x bs}, E w base cs x bs → cs.length = sz
 one : ∀ {w base cs x bs}, E w base cs x bs → ∀ u ∈ cs, u.oneCell' = true
 typed : ∀ {w base cs x bs}, E w base cs x bs → ∀ b ∈ bs, base ≤ b ∧ ∃ cur U, w.heap[b]? = some (.cells cur U (0, 0)) ∧ U ∈ Ts
 nodup : ∀ {w base cs x bs}, E w base cs x bs → bs.Nodup
 dep : ∀ {w w' : World} {base cs x bs}, E w base cs x bs → (∀ b ∈ bs, w'.heap[b]? = w.heap[b]?) → E w' base cs x bs
 mono : ∀ {w base base' cs x bs}, E w base cs x bs → base' ≤ base → E w base' cs x bs
theorem ownsRow_dep {w w' : World} {base : Nat} {T : TypeId} {sz : Nat} {v : Value} {n : Nat} {xs : List Value} (h : w.ownsRow base T sz v n xs) (hd : ∀ k, v.ownBlock = some k → w'.heap[k]? = w.heap[k]?) : w'.ownsRow base T sz v n xs := by
 refine ⟨h.1, ?_⟩
 rcases h.2 with h | ⟨g, cap, cur, rfl, h1, h2, h3⟩
 ·exact .inl h
 ·exact .inr ⟨g, cap, cur, rfl, h1, (hd g rfl).trans h2, h3⟩
theorem ownsRow_mono {w : World} {base base' : Nat} {T : TypeId} {sz : Nat} {v : Value} {n : Nat} {xs : List Value} (h : w.ownsRow base T sz v n xs) (hb : base' ≤ base) : w.ownsRow base' T sz v n xs := by
 refine ⟨h.1, ?_⟩
 rcases h.2 with h | ⟨g, cap, cur, rfl, h1, h2⟩
 ·exact .inl h
 ·exact .inr ⟨g, cap, cur, rfl, Nat.le_trans hb h1, h2⟩
theorem ownsRow_typed {w : World} {base : Nat} {T : TypeId} {sz : Nat} {v : Value} {n : Nat} {xs : List Value} (h : w.ownsRow base T sz v n xs) {k : Nat} (hk : v.ownBlock = some k) : base ≤ k ∧ ∃ cur, w.heap[k]? = some (.cells cur T (0, 0)) := by
 rcases h.2 with ⟨rfl, -⟩ | ⟨g, cap, cur, rfl, h1, h2, -⟩
 ·simp [Value.ownBlock] at hk
 ·simp [Value.ownBlock] at hk
  subst hk
  exact ⟨h1, cur, h2⟩
theorem ownsRow_shape' {w : World} {base : Nat} {T : TypeId} {sz : Nat} {v : Value} {n : Nat} {xs : List Value} (h : w.ownsRow base T sz v n xs) : ∃ A c, v = .slice A n c := by
 rcases h.2 with ⟨rfl, hn⟩ | ⟨g, cap, cur, rfl, -⟩
 ·exact ⟨none, 0, by rw [hn]⟩
 ·exact ⟨_, _, rfl⟩
theorem ownsRow_one {w : World} {base : Nat} {T : TypeId} {sz : Nat} {v : Value} {n : Nat} {xs : List Value} (h : w.ownsRow base T sz v n xs) : v.oneCell' = true := by
 rcases h.2 with ⟨rfl, -⟩ | ⟨g, cap, cur, rfl, -⟩ <;> rfl
def blkN (v : Value) : List Nat := v.ownBlock.toList
theorem mem_blkN {v : Value} {b : Nat} : b ∈ blkN v ↔ v.ownBlock = some b := by simp [blkN]
theorem nodup_blkN (v : Value) : (blkN v).Nodup := by
 have hs : ∀ a : Option Nat, a.toList.Nodup := fun a => by cases a <;> simp
 exact hs _
section
variable {α : Type} {Ts : List TypeId} {sz : Nat} {E : ElO α} {T : TypeId}
theorem GoodO.lt (G : GoodO Ts sz E) {w : World} {base : Nat} {cs : List Value} {x : α} {bs : List Nat} (h : E w base cs x bs) {b : Nat} (hb : b ∈ bs) : base ≤ b ∧ b < w.heap.size := by
 obtain ⟨h1, cur, U, h2, -⟩ := G.typed h b hb
 exact ⟨h1, lt_of_block h2⟩
structure OwnN (E : ElO α) (T : TypeId) (sz : Nat) (w : World) (base : Nat) (v : Value) (xs : List α) (css : List (List Value)) (bss : List (List Nat)) : Prop where
 l1 : css.length = xs.length
 l2 : bss.length = xs.length
 row : w.ownsRow base T sz v xs.length css.flatten
 el : ∀ i (hi : i < xs.length), E w base (css.getD i []) xs[i] (bss.getD i [])
 apart : bss.flatten.Nodup
def OwnL (E : ElO α) (T : TypeId) (sz : Nat) (w : World) (base : Nat) (v : Value) (xs : List α) : Prop := ∃ css bss, OwnN E T sz w base v xs css bss
theorem mem_flatten_iff {bss : List (List Nat)} {x : Nat} : x ∈ bss.flatten ↔ ∃ i, i < bss.length ∧ x ∈ bss.getD i [] := by
 constructor
 ·intro h
  obtain ⟨l, hl, hx⟩ := List.mem_flatten.1 h
  obtain ⟨i, hi, rfl⟩ := List.mem_iff_getElem.1 hl
  exact ⟨i, hi, by rwa [List.getD_eq_getElem?_getD, List.getElem?_eq_getElem hi]⟩
 ·rintro ⟨i, hi, h⟩
  exact mem_flatten_getD h
theorem OwnN.typed (G : GoodO Ts sz E) {w : World} {base : Nat} {v : Value} {xs : List α} {css : List (List Value)} {bss : List (List Nat)} (h : OwnN E T sz w base v xs css bss) {b : Nat} (hb : b ∈ bss.flatten) : base ≤ b ∧ ∃ cur U, w.heap[b]? = some (.cells cur U (0, 0)) ∧ U ∈ Ts := by
 obtain ⟨i, hi, hx⟩ := mem_flatten_iff.1 hb
 exact G.typed (h.el i (by rw [← h.l2]; exact hi)) b hx
theorem OwnN.out (G : GoodO Ts sz E) (hT : T ∉ Ts) {w : World} {base : Nat} {v : Value} {xs : List α} {css : List (List Value)} {bss : List (List Nat)} (h : OwnN E T sz w base v xs css bss) {k : Nat} (hk : v.ownBlock = some k) : k ∉ bss.flatten := fun hb => by
 obtain ⟨-, cur, U, h2, h3⟩ := h.typed G hb
 obtain ⟨-, cur', h4⟩ := ownsRow_typed h.row hk
 rw [h2] at h4
 injection h4 with h4
 injection h4 with _ h5
 exact hT (h5 ▸ h3)
theorem OwnN.dep (G : GoodO Ts sz E) {w w' : World} {base : Nat} {v : Value} {xs : List α} {css : List (List Value)} {bss : List (List Nat)} (h : OwnN E T sz w base v xs css bss) (h1 : ∀ k, v.ownBlock = some k → w'.heap[k]? = w.heap[k]?) (h2 : ∀ b ∈ bss.flatten, w'.heap[b]? = w.heap[b]?) : OwnN E T sz w' base v xs css bss :=
 ⟨h.l1, h.l2, ownsRow_dep h.row h1, fun i hi => G.dep (h.el i hi) fun b hb => h2 b (mem_flatten_getD hb), h.apart⟩
theorem OwnN.mono (G : GoodO Ts sz E) {w : World} {base base' : Nat} {v : Value} {xs : List α} {css : List (List Value)} {bss : List (List Nat)} (h : OwnN E T sz w base v xs css bss) (hb : base' ≤ base) : OwnN E T sz w base' v xs css bss :=
 ⟨h.l1, h.l2, ownsRow_mono h.row hb, fun i hi => G.mono (h.el i hi) hb, h.apart⟩
theorem OwnL.lit (w : World) {base : Nat} (hb : base ≤ w.heap.size) : OwnL E T sz (w.alloc (.cells #[] T)) base (.slice (some ⟨w.heap.size, 0, none⟩) 0 0) [] :=
 ⟨[], [], rfl, rfl, ⟨by simp, .inr ⟨w.heap.size, 0, #[], rfl, hb, Go.heap_alloc_last w _, Nat.le_refl _, by simp [maxLen], by simp, by simp⟩⟩, fun i h => by simp at h, by simp⟩
theorem made_flat (z : Array Value) (hz : 0 < z.size) (n : Nat) : (madeCells z (n * z.size)).toList = (List.replicate n z.toList).flatten := by
 refine List.ext_getElem? fun j => ?_
 have hl : ∀ c ∈ List.replicate n z.toList, c.length = z.size := fun c hc => by rw [(List.mem_replicate.1 hc).2]; simp
 by_cases hj : j < n * z.size
 ·have hd : j / z.size < n := Nat.div_lt_of_lt_mul (by rw [Nat.mul_comm]; exact hj)
  have hm : j % z.size < z.size := Nat.mod_lt _ hz
  have := flat_get (List.replicate n z.toList) (j / z.size) (j % z.size) (by simpa using hd) hm hl
  rw [show j / z.size * z.size + j % z.size = j by rw [Nat.mul_comm]; exact Nat.div_add_mod j _] at this
  rw [this, Array.getElem?_toList]
  simp [madeCells, hj, hm]
 ·rw [List.getElem?_eq_none (by simp [size_madeCells]; omega), List.getElem?_eq_none (by rw [flat_len _ hl]; simp; omega)]
theorem OwnL.made (w : World) {base : Nat} (hb : base ≤ w.heap.size) (n : Nat) (z : Array Value) (hz : 0 < z.size) (hs : z.size = sz) (x : α) (hE : ∀ w, E w base z.toList x []) (hn : n ≤ maxLen) :
  OwnL E T sz (w.alloc (.cells (madeCells z (n * sz)) T)) base (.slice (some ⟨w.heap.size, 0, none⟩) n n) (List.replicate n x) := by
 subst hs
 refine ⟨List.replicate n z.toList, List.replicate n [], by simp, by simp, ?_, fun i hi => ?_, by simp⟩
 ·have := World.ownsRow_lit (e := T) (size := z.size) w (madeCells z (n * z.size)) n hb hn (size_madeCells _ _)
  rw [made_flat z hz] at this
  simpa using this
 ·have hi' : i < n := by simpa using hi
  rw [List.getD_eq_getElem?_getD, List.getD_eq_getElem?_getD, List.getElem?_replicate, List.getElem?_replicate, if_pos hi', if_pos hi', List.getElem_replicate]
  exact hE _
def setCells (w : World) (g off : Nat) : List Value → World
 | [] => w
 | u :: us => setCells (w.setCell ⟨g, off, none⟩ u) g (off + 1) us
def setAll (l : List Value) (off : Nat) : List Value → List Value
 | [] => l
 | u :: us => setAll (l.set off u) (off + 1) us
theorem setAll_get : ∀ (us l : List Value) (off j : Nat), off + us.length ≤ l.length → (setAll l off us)[j]? = if off ≤ j ∧ j < off + us.length then us[j - off]? else l[j]?
 | [], l, off, j, _ => by
  rw [setAll, if_neg]
  intro h
  simp only [List.length_nil] at h
  omega
 | u :: us, l, off, j, hl => by
  simp only [List.length_cons] at hl
  rw [setAll, setAll_get us _ _ _ (by simp; omega)]
  simp only [List.length_cons]
  by_cases e : j = off
  ·subst e
   rw [if_neg (by omega), if_pos (by omega), List.getElem?_set_self (by omega)]
   simp
  ·by_cases h1 : off + 1 ≤ j ∧ j < off + 1 + us.length
   ·rw [if_pos h1, if_pos (by omega), show j - off = (j - (off + 1)) + 1 by omega]
    simp
   ·rw [if_neg h1, if_neg (by omega), List.getElem?_set_ne (by omega)]
theorem setAll_flat {css : List (List Value)} (hz : ∀ c ∈ css, c.length = sz) {cs : List Value} (hc : cs.length = sz) (h0 : 0 < sz) {k : Nat} (hk : k < css.length) : setAll css.flatten (k * sz) cs = (css.set k cs).flatten := by
 have hz' : ∀ c ∈ css.set k cs, c.length = sz := fun c hc' => by
  rcases List.mem_or_eq_of_mem_set hc' with h | rfl
  ·exact hz c h
  ·exact hc
 have hfl := flat_len css hz
 have hkk : k * sz + sz ≤ css.length * sz := by
  have : (k + 1) * sz ≤ css.length * sz := Nat.mul_le_mul_right sz (by omega)
  rwa [Nat.succ_mul] at this
 refine List.ext_getElem? fun j => ?_
 rw [setAll_get _ _ _ _ (by rw [hfl, hc]; exact hkk), hc]
 by_cases hj : j < css.length * sz
 ·have hd : j / sz < css.length := Nat.div_lt_of_lt_mul (by rw [Nat.mul_comm]; exact hj)
  have hm : j % sz < sz := Nat.mod_lt _ h0
  have e : j / sz * sz + j % sz = j := by rw [Nat.mul_comm]; exact Nat.div_add_mod j _
  have g1 := flat_get css (j / sz) (j % sz) hd hm hz
  have g2 := flat_get (css.set k cs) (j / sz) (j % sz) (by simpa using hd) hm hz'
  rw [e] at g1 g2
  rw [g1, g2, List.getElem_set]
  by_cases h1 : k = j / sz
  ·subst h1
   rw [if_pos rfl, if_pos (by omega), show j - j / sz * sz = j % sz by omega]
  ·rw [if_neg h1, if_neg]
   intro ⟨a, b⟩
   rcases Nat.lt_or_gt_of_ne h1 with h2 | h2
   ·have : (k + 1) * sz ≤ j / sz * sz := Nat.mul_le_mul_right sz h2
    rw [Nat.succ_mul] at this
    omega
   ·have : (j / sz + 1) * sz ≤ k * sz := Nat.mul_le_mul_right sz h2
    rw [Nat.succ_mul] at this
    omega
 ·rw [if_neg (by omega), List.getElem?_eq_none (by rw [hfl]; omega), List.getElem?_eq_none (by rw [flat_len _ hz']; simp; omega)]
theorem ownsRow_setCells {g n cap : Nat} : ∀ (us : List Value) (w : World) (base : Nat) (xs : List Value) (off : Nat), w.ownsRow base T sz (.slice (some ⟨g, 0, none⟩) n cap) n xs →
  (setCells w g off us).ownsRow base T sz (.slice (some ⟨g, 0, none⟩) n cap) n (setAll xs off us) ∧ w.grownBy (setCells w g off us) (some g)
 | [], w, base, xs, off, h => ⟨h, ⟨rfl, rfl, rfl, Nat.le_refl _, fun _ _ _ => rfl⟩⟩
 | u :: us, w, base, xs, off, h => by
  obtain ⟨h1, h2⟩ := h.stored off u
  obtain ⟨h3, h4⟩ := ownsRow_setCells us _ base _ (off + 1) h1
  exact ⟨h3, ⟨h4.os.trans h2.os, h4.tape.trans h2.tape, h4.output.trans h2.output, Nat.le_trans h2.size h4.size, fun k hk ho => (h4.block k (Nat.lt_of_lt_of_le hk h2.size) ho).trans (h2.block k hk ho)⟩⟩
theorem Below.setCells {base : Nat} {a : World} {g : Nat} (hg : base ≤ g) : ∀ (us : List Value) (w : World) (off : Nat), Below base a w → Below base a (setCells w g off us)
 | [], w, off, h => h
 | u :: us, w, off, h => Below.setCells hg us _ _ (h.setCell (p := ⟨g, off, none⟩) hg u)
theorem nodup_set {bss : List (List Nat)} (h : bss.flatten.Nodup) {k : Nat} {bs : List Nat} (hb : bs.Nodup) (hn : ∀ b ∈ bs, b ∉ bss.flatten) : (bss.set k bs).flatten.Nodup := by
 have hp := List.pairwise_flatten.1 h
 refine List.pairwise_flatten.2 ⟨fun l hl => ?_, ?_⟩
 ·rcases List.mem_or_eq_of_mem_set hl with h1 | rfl
  ·exact hp.1 l h1
  ·exact hb
 ·refine List.pairwise_iff_getElem.2 fun i j hi hj hij x hx y hy => ?_
  have hi' : i < bss.length := by simpa using hi
  have hj' : j < bss.length := by simpa using hj
  rw [List.getElem_set] at hx hy
  split at hx <;> split at hy
  ·omega
  ·rintro rfl
   exact hn x hx (List.mem_flatten.2 ⟨_, List.getElem_mem hj', hy⟩)
  ·rintro rfl
   exact hn x hy (List.mem_flatten.2 ⟨_, List.getElem_mem hi', hx⟩)
  ·exact (List.pairwise_iff_getElem.1 hp.2) i j hi' hj' hij x hx y hy
theorem OwnN.cells (G : GoodO Ts sz E) {w : World} {base : Nat} {v : Value} {xs : List α} {css : List (List Value)} {bss : List (List Nat)} (h : OwnN E T sz w base v xs css bss) :
  (v = .slice none 0 0 ∧ xs = []) ∨ ∃ g c, v = .slice (some ⟨g, 0, none⟩) xs.length c ∧ xs.length ≤ c ∧ c ≤ maxLen ∧ base ≤ g ∧ g < w.heap.size ∧ (∀ off, w.frozen? ⟨g, off, none⟩ = false) ∧ ∀ i, i < xs.length → (css.getD i []).length = sz ∧ cellsAt w g (0 + i * sz) (css.getD i []) := by
 have hz : ∀ c ∈ css, c.length = sz := fun c hc => by
  obtain ⟨i, hi, rfl⟩ := List.mem_iff_getElem.1 hc
  have := G.len (h.el i (by rw [← h.l1]; exact hi))
  rwa [List.getD_eq_getElem?_getD, List.getElem?_eq_getElem hi] at this
 rcases h.row.2 with ⟨rfl, hn⟩ | ⟨g, cap, cur, rfl, h1, h2, h3, h4, h5, h6⟩
 ·exact Or.inl ⟨rfl, List.length_eq_zero_iff.1 hn⟩
 ·refine Or.inr ⟨g, cap, rfl, h3, h4, h1, lt_of_block h2, fun off => by simp [World.frozen?, h2], fun i hi => ⟨G.len (h.el i hi), fun t u hu => ?_⟩⟩
  have hi' : i < css.length := by rw [h.l1]; exact hi
  rw [List.getD_eq_getElem?_getD, List.getElem?_eq_getElem hi'] at hu
  have ht : t < sz := by have := (List.getElem?_eq_some_iff.1 hu).1; have h9 := hz _ (List.getElem_mem hi'); simp at this; omega
  have h7 := flat_get css i t hi' ht hz
  have hlt : i * sz + t < xs.length * sz := by
   have : (i + 1) * sz ≤ xs.length * sz := Nat.mul_le_mul_right sz (by omega)
   rw [Nat.succ_mul] at this
   omega
  rw [show css[i][t]? = some u from hu, ← h6, List.getElem?_take, if_pos hlt] at h7
  rw [cell_of_row _ _ _ _ _ _ h2, Nat.zero_add, ← Array.getElem?_toList]
  exact h7
theorem OwnL.sl (G : GoodO Ts sz E) {R : Rd α} {w : World} {base : Nat} {v : Value} {xs : List α} (h : OwnL E T sz w base v xs) (hR : ∀ cs x bs, E w base cs x bs → R (okF base w) w cs x) : ∃ A c, v = .slice A xs.length c ∧ xs.length ≤ c ∧ c ≤ maxLen ∧ Sl R sz (okF base w) w A xs.length xs := by
 obtain ⟨css, bss, h⟩ := h
 rcases h.cells G with ⟨rfl, rfl⟩ | ⟨g, c, rfl, h1, h2, h3, h4, h5, h6⟩
 ·exact ⟨none, 0, rfl, Nat.le_refl _, by simp [maxLen], rfl, fun hn => by simp at hn⟩
 ·refine ⟨_, c, rfl, h1, h2, rfl, fun hn => ⟨g, 0, rfl, ⟨h3, h4, h5⟩, fun i hi => ?_⟩⟩
  obtain ⟨h7, h8⟩ := h6 i hi
  exact ⟨_, h7, hR _ _ _ (h.el i hi), h8⟩
theorem OwnL.shape {w : World} {base : Nat} {v : Value} {xs : List α} (h : OwnL E T sz w base v xs) : ∃ A c, v = .slice A xs.length c := by
 obtain ⟨css, bss, h⟩ := h
 exact ownsRow_shape' h.row
end
end Go.Proofs.YthamekdjfoepmaaGreat
namespace Go.Proofs.YthamekdjfoepmaaGreat
open Go.RowKit Go.Maps
theorem But.ofBelow {R : Nat} {w w' : World} (h : Below w.heap.size w w') : But R w w' := ⟨h.os, h.tape, h.output, h.size, fun k hk _ => h.block k hk⟩
section
variable {α : Type} {T : TypeId} {sz : Nat} {f : α → List Value}
end
end Go.Proofs.YthamekdjfoepmaaGreat
namespace Go.Proofs.YthamekdjfoepmaaGreat
open Go.RowKit
theorem infoDataR : (Tryz.prog.info? 89).map (fun i => (i.zero, i.size, i.bytes)) = some (some (.agg #[.slice none 0 0]), 1, 24) := by kernel_rfl
end Go.Proofs.YthamekdjfoepmaaGreat
namespace Go.Proofs.YthamekdjfoepmaaGreat
open Go.RowKit
section
variable {α : Type} {Rr : Rd α} {T : TypeId} {sz : Nat}
theorem Sl.cells {ok : Nat → Prop} {w : World} {A : Option Addr} {n : Nat} {ds : List α} (hsz : 0 < sz) (h : Sl Rr sz ok w A n ds) :
  ∃ vs : List (List Value), vs.length = ds.length ∧ (∀ c ∈ vs, c.length = sz) ∧ (∀ i (hi : i < ds.length) (hi' : i < vs.length), Rr ok w vs[i] ds[i]) ∧ ∀ b off, A = some ⟨b, off, none⟩ → ∀ j u, vs.flatten[j]? = some u → w.cell? ((⟨b, off, none⟩ : Addr).add j) = some u := by
 have hx : ∀ i : Fin ds.length, ∃ cs : List Value, cs.length = sz ∧ Rr ok w cs ds[i.1] ∧ ∀ b off, A = some ⟨b, off, none⟩ → ∀ j u, cs[j]? = some u → w.cell? ⟨b, off + i.1 * sz + j, none⟩ = some u := fun i => by
  obtain ⟨b, off, e, -, hc⟩ := h.2 (by have := h.1; have := i.2; omega)
  obtain ⟨cs, h1, h2, h3⟩ := hc i.1 i.2
  exact ⟨cs, h1, h2, fun b' off' e' j u hj => by rw [e] at e'; cases e'; exact h3 j u hj⟩
 have hall : ∀ c ∈ List.ofFn (fun i => Classical.choose (hx i)), c.length = sz := fun c hc => by
  obtain ⟨i, hi, rfl⟩ := List.mem_iff_getElem.1 hc
  rw [List.getElem_ofFn]
  exact (Classical.choose_spec (hx _)).1
 refine ⟨List.ofFn fun i => Classical.choose (hx i), by simp, hall, fun i hi hi' => ?_, fun b off e j u hj => ?_⟩
 ·rw [List.getElem_ofFn]
  exact (Classical.choose_spec (hx ⟨i, hi⟩)).2.1
 ·have hl := flat_len (sz := sz) _ hall
  rw [List.length_ofFn] at hl
  have hjl : j < ds.length * sz := by rw [← hl]; exact (List.getElem?_eq_some_iff.1 hj).1
  have hi : j / sz < ds.length := (Nat.div_lt_iff_lt_mul hsz).2 hjl
  have hr : j % sz < sz := Nat.mod_lt _ hsz
  have e2 : j / sz * sz + j % sz = j := by rw [Nat.mul_comm]; exact Nat.div_add_mod j sz
  have h7 := flat_get (sz := sz) (List.ofFn fun i => Classical.choose (hx i)) (j / sz) (j % sz) (by simpa using hi) hr hall
  rw [e2, hj, List.getElem_ofFn] at h7
  have := (Classical.choose_spec (hx ⟨j / sz, hi⟩)).2.2 b off e (j % sz) u h7.symm
  rw [addr_add, ← e2, ← Nat.add_assoc]
  exact this
end
end Go.Proofs.YthamekdjfoepmaaGreat
namespace Go.Proofs.YthamekdjfoepmaaGreat
open Go.RowKit
def FlatO {α : Type} (f : α → List Value) : ElO α := fun _ _ cs x bs => cs = f x ∧ bs = []
theorem FlatO.good {α : Type} {f : α → List Value} {sz : Nat} (hf : ∀ x, (f x).length = sz) (h1 : ∀ x, ∀ u ∈ f x, u.oneCell' = true) : GoodO [] sz (FlatO f) where
 len := fun ⟨e, _⟩ => by rw [e]; exact hf _
 one := fun ⟨e, _⟩ u hu => by rw [e] at hu; exact h1 _ u hu
 typed := fun ⟨_, e⟩ b hb => by rw [e] at hb; cases hb
 nodup := fun ⟨_, e⟩ => by rw [e]; exact List.nodup_nil
 dep := fun h _ => h
 mono := fun h _ => h
section
variable {α : Type} {Ts : List TypeId} {sz : Nat} {E : ElO α} {T : TypeId}
def OwnTr (E : ElO α) (T : TypeId) (sz : Nat) (w : World) (base : Nat) (v : Value) (xs : List α) (bs : List Nat) : Prop := ∃ css bss, OwnN E T sz w base v xs css bss ∧ bs = blkN v ++ bss.flatten
theorem OwnTr.l {w : World} {base : Nat} {v : Value} {xs : List α} {bs : List Nat} (h : OwnTr E T sz w base v xs bs) : OwnL E T sz w base v xs := by
 obtain ⟨css, bss, h, -⟩ := h
 exact ⟨css, bss, h⟩
theorem OwnL.b {w : World} {base : Nat} {v : Value} {xs : List α} (h : OwnL E T sz w base v xs) : ∃ bs, OwnTr E T sz w base v xs bs := by
 obtain ⟨css, bss, h⟩ := h
 exact ⟨_, css, bss, h, rfl⟩
theorem OwnTr.typed (G : GoodO Ts sz E) {w : World} {base : Nat} {v : Value} {xs : List α} {bs : List Nat} (h : OwnTr E T sz w base v xs bs) : ∀ b ∈ bs, base ≤ b ∧ ∃ cur U, w.heap[b]? = some (.cells cur U (0, 0)) ∧ U ∈ T :: Ts := by
 obtain ⟨css, bss, h, rfl⟩ := h
 intro b hb
 rcases List.mem_append.1 hb with hb | hb
 ·obtain ⟨h1, cur, h2⟩ := ownsRow_typed h.row (mem_blkN.1 hb)
  exact ⟨h1, cur, T, h2, List.mem_cons_self ..⟩
 ·obtain ⟨h1, cur, U, h2, h3⟩ := h.typed G hb
  exact ⟨h1, cur, U, h2, List.mem_cons_of_mem _ h3⟩
theorem OwnTr.lt (G : GoodO Ts sz E) {w : World} {base : Nat} {v : Value} {xs : List α} {bs : List Nat} (h : OwnTr E T sz w base v xs bs) : ∀ b ∈ bs, base ≤ b ∧ b < w.heap.size := fun b hb => by
 obtain ⟨h1, cur, U, h2, -⟩ := h.typed G b hb
 exact ⟨h1, lt_of_block h2⟩
theorem OwnTr.nodup (G : GoodO Ts sz E) (hT : T ∉ Ts) {w : World} {base : Nat} {v : Value} {xs : List α} {bs : List Nat} (h : OwnTr E T sz w base v xs bs) : bs.Nodup := by
 obtain ⟨css, bss, h, rfl⟩ := h
 refine List.nodup_append.2 ⟨nodup_blkN _, h.apart, fun a ha b hb => ?_⟩
 rintro rfl
 exact h.out G hT (mem_blkN.1 ha) hb
theorem OwnTr.dep (G : GoodO Ts sz E) {w w' : World} {base : Nat} {v : Value} {xs : List α} {bs : List Nat} (h : OwnTr E T sz w base v xs bs) (hd : ∀ b ∈ bs, w'.heap[b]? = w.heap[b]?) : OwnTr E T sz w' base v xs bs := by
 obtain ⟨css, bss, h, rfl⟩ := h
 exact ⟨css, bss, h.dep G (fun k hk => hd k (List.mem_append_left _ (mem_blkN.2 hk))) fun b hb => hd b (List.mem_append_right _ hb), rfl⟩
theorem OwnTr.below (G : GoodO Ts sz E) {w w' : World} {base : Nat} {v : Value} {xs : List α} {bs : List Nat} (h : OwnTr E T sz w base v xs bs) (hb : Below w.heap.size w w') : OwnTr E T sz w' base v xs bs := h.dep G fun b hb' => hb.block b (h.lt G b hb').2
theorem OwnTr.mono (G : GoodO Ts sz E) {w : World} {base base' : Nat} {v : Value} {xs : List α} {bs : List Nat} (h : OwnTr E T sz w base v xs bs) (hb : base' ≤ base) : OwnTr E T sz w base' v xs bs := by
 obtain ⟨css, bss, h, e⟩ := h
 exact ⟨css, bss, h.mono G hb, e⟩
theorem OwnTr.one {w : World} {base : Nat} {v : Value} {xs : List α} {bs : List Nat} (h : OwnTr E T sz w base v xs bs) : v.oneCell' = true := by
 obtain ⟨css, bss, h, -⟩ := h
 exact ownsRow_one h.row
theorem OwnTr.nil (w : World) (base : Nat) : OwnTr E T sz w base (.slice none 0 0) [] [] := ⟨[], [], ⟨rfl, rfl, World.ownsRow_nil _ _ _ _, fun i h => by simp at h, by simp⟩, by simp [blkN, Value.ownBlock]⟩
theorem OwnTr.sl (G : GoodO Ts sz E) {R : Rd α} {w : World} {base : Nat} {v : Value} {xs : List α} {bs : List Nat} (h : OwnTr E T sz w base v xs bs) (hR : ∀ cs x bs, E w base cs x bs → R (okF base w) w cs x) : ∃ A c, v = .slice A xs.length c ∧ xs.length ≤ c ∧ c ≤ maxLen ∧ Sl R sz (okF base w) w A xs.length xs := h.l.sl G hR
theorem OwnTr.sh (G : GoodO Ts sz E) (hT : T ∉ Ts) {S : ElS} {cnt : α → Nat} {w : World} {base : Nat} {v : Value} {xs : List α} {bs : List Nat} (h : OwnTr E T sz w base v xs bs) (hn : xs.length ≤ 1048576) (hS : ∀ cs x bs, x ∈ xs → E w base cs x bs → S w cs (cnt x) bs) :
  ∃ A c, v = .slice A xs.length c ∧ ShL S sz w A xs.length (xs.map cnt) bs := by
 obtain ⟨css, bss, h, rfl⟩ := h
 rcases h.cells G with ⟨rfl, rfl⟩ | ⟨g, c, rfl, h1, h2, h3, h4, h5, h6⟩
 ·have e : bss = [] := List.length_eq_zero_iff.1 h.l2
  subst e
  exact ⟨none, 0, rfl, ⟨hn, Or.inl ⟨rfl, rfl, by simp [blkN, Value.ownBlock]⟩⟩⟩
 ·refine ⟨_, c, rfl, ⟨hn, Or.inr ⟨g, 0, bss, rfl, by simp [blkN, Value.ownBlock], by simp, h.l2, List.nodup_cons.2 ⟨h.out G hT rfl, h.apart⟩, h4, h5, fun i hi => ?_⟩⟩⟩
  obtain ⟨h7, h8⟩ := h6 i hi
  refine ⟨_, h7, ?_, h8⟩
  rw [List.getD_eq_getElem?_getD (l := xs.map cnt), List.getElem?_map, List.getElem?_eq_getElem hi]
  exact hS _ _ _ (List.getElem_mem hi) (h.el i hi)
theorem OwnTr.flat {f : α → List Value} (hf : ∀ x, (f x).length = sz) {w : World} {base : Nat} {v : Value} {xs : List α} {vs : List (List Value)} (h : w.ownsRow base T sz v xs.length vs.flatten) (hl : vs.length = xs.length) (hv : ∀ i (hi : i < xs.length) (hi' : i < vs.length), vs[i] = f xs[i]) : OwnTr (FlatO f) T sz w base v xs (blkN v) := by
 refine ⟨vs, List.replicate xs.length [], ⟨hl, by simp, h, fun i hi => ?_, by simp⟩, by simp⟩
 have hi' : i < vs.length := by omega
 rw [List.getD_eq_getElem?_getD, List.getD_eq_getElem?_getD, List.getElem?_eq_getElem hi', List.getElem?_replicate, if_pos hi]
 exact ⟨hv i hi hi', rfl⟩
theorem OwnN.put (G : GoodO Ts sz E) (hT : T ∉ Ts) {w w' : World} {base g cap : Nat} {xs : List α} {css : List (List Value)} {bss : List (List Nat)} {x : α} {cs : List Value} {bs : List Nat} {n : Nat} (h : OwnN E T sz w base (.slice (some ⟨g, 0, none⟩) n cap) xs css bss) (hl : n = xs.length) (hE : E w base cs x bs) (hn : ∀ b ∈ bs, b ∉ bss.flatten)
  {k : Nat} (hk : k < xs.length) (h1 : w'.ownsRow base T sz (.slice (some ⟨g, 0, none⟩) n cap) n (css.set k cs).flatten) (h2 : w.grownBy w' (some g)) : OwnN E T sz w' base (.slice (some ⟨g, 0, none⟩) n cap) (xs.set k x) (css.set k cs) (bss.set k bs) := by
 subst hl
 have hne : ∀ b ∈ bs, b ≠ g := fun b hb e => by
  subst e
  obtain ⟨-, cur, U, h2, h3⟩ := G.typed hE b hb
  obtain ⟨-, cur', h4⟩ := ownsRow_typed h.row (k := b) rfl
  rw [h2] at h4
  injection h4 with h4
  injection h4 with _ h5
  exact hT (h5 ▸ h3)
 refine ⟨by simp [h.l1], by simp [h.l2], by simpa using h1, fun i hi => ?_, nodup_set h.apart (G.nodup hE) hn⟩
 have hi' : i < xs.length := by simpa using hi
 rw [List.getElem_set, List.getD_eq_getElem?_getD, List.getD_eq_getElem?_getD, List.getElem?_set, List.getElem?_set]
 by_cases e : k = i
 ·subst e
  rw [if_pos rfl, if_pos rfl, if_pos rfl, if_pos (by rw [h.l1]; exact hk), if_pos (by rw [h.l2]; exact hk)]
  exact G.dep hE fun b hb => h2.block b (G.lt hE hb).2 fun e' => hne b hb (Option.some.inj e')
 ·rw [if_neg e, if_neg e, if_neg e, ← List.getD_eq_getElem?_getD, ← List.getD_eq_getElem?_getD]
  refine G.dep (h.el i hi') fun b hb => h2.block b (G.lt (h.el i hi') hb).2 fun e' => ?_
  exact h.out G hT (k := g) rfl (Option.some.inj e' ▸ mem_flatten_getD hb)
theorem flat_set1 {css : List (List Value)} (hz : ∀ c ∈ css, c.length = sz) {k t : Nat} (hk : k < css.length) (ht : t < sz) (u : Value) : css.flatten.set (k * sz + t) u = (css.set k ((css.getD k []).set t u)).flatten := by
 have hck : css.getD k [] = css[k] := by rw [List.getD_eq_getElem?_getD, List.getElem?_eq_getElem hk]; rfl
 have hlk := hz _ (List.getElem_mem hk)
 rw [hck]
 have hz' : ∀ c ∈ css.set k (css[k].set t u), c.length = sz := fun c hc' => by
  rcases List.mem_or_eq_of_mem_set hc' with h | rfl
  ·exact hz c h
  ·simpa using hlk
 have h0 : 0 < sz := by omega
 have hfl := flat_len css hz
 refine List.ext_getElem? fun j => ?_
 by_cases hj : j < css.length * sz
 ·have hd : j / sz < css.length := Nat.div_lt_of_lt_mul (by rw [Nat.mul_comm]; exact hj)
  have hm : j % sz < sz := Nat.mod_lt _ h0
  have e : j / sz * sz + j % sz = j := by rw [Nat.mul_comm]; exact Nat.div_add_mod j _
  have g1 := flat_get css (j / sz) (j % sz) hd hm hz
  have g2 := flat_get (css.set k (css[k].set t u)) (j / sz) (j % sz) (by simpa using hd) hm hz'
  rw [e] at g1 g2
  rw [g2, List.getElem_set]
  by_cases h1 : k = j / sz
  ·subst h1
   rw [if_pos rfl]
   by_cases h2 : t = j % sz
   ·rw [h2, e, List.getElem?_set_self (by rw [hfl]; exact hj), List.getElem?_set_self (by rw [hlk]; exact hm)]
   ·rw [List.getElem?_set_ne (by omega), List.getElem?_set_ne h2, g1]
  ·rw [if_neg h1, List.getElem?_set_ne (fun hh => h1 ?_), g1]
   rw [← hh]
   rw [Nat.mul_comm k sz, Nat.mul_add_div h0, Nat.div_eq_of_lt ht, Nat.add_zero]
 ·rw [List.getElem?_eq_none (by simp [hfl]; omega), List.getElem?_eq_none (by rw [flat_len _ hz']; simp; omega)]
def PartO (sz : Nat) (E : ElO α) : ElO (α ⊕ List Value) := fun w base cs x bs => match x with
 | .inl x => E w base cs x bs
 | .inr c => cs = c ∧ c.length = sz ∧ (∀ u ∈ c, u.oneCell' = true) ∧ bs = []
theorem PartO.good (G : GoodO Ts sz E) : GoodO Ts sz (PartO sz E) where
 len := fun {w base cs x bs} h => by
  cases x with
  | inl x => exact G.len h
  | inr c => rw [h.1]; exact h.2.1
 one := fun {w base cs x bs} h => by
  cases x with
  | inl x => exact G.one h
  | inr c => rw [h.1]; exact h.2.2.1
 typed := fun {w base cs x bs} h => by
  cases x with
  | inl x => exact G.typed h
  | inr c => intro b hb; rw [h.2.2.2] at hb; cases hb
 nodup := fun {w base cs x bs} h => by
  cases x with
  | inl x => exact G.nodup h
  | inr c => rw [h.2.2.2]; exact List.nodup_nil
 dep := fun {w w' base cs x bs} h hd => by
  cases x with
  | inl x => exact G.dep h hd
  | inr c => exact h
 mono := fun {w base base' cs x bs} h hb => by
  cases x with
  | inl x => exact G.mono h hb
  | inr c => exact h
def partL (xs : List α) (vs : List (List Value)) (k : Nat) : List (α ⊕ List Value) := (xs.take k).map .inl ++ (vs.drop k).map .inr
theorem partL_len {xs : List α} {vs : List (List Value)} {k : Nat} (hl : vs.length = xs.length) (hk : k ≤ xs.length) : (partL xs vs k).length = xs.length := by
 unfold partL; simp; omega
theorem partL_get {xs : List α} {vs : List (List Value)} {k : Nat} (hl : vs.length = xs.length) (hk : k < xs.length) (h : k < (partL xs vs k).length) : (partL xs vs k)[k] = .inr (vs[k]'(by omega)) := by
 have h2 : (partL xs vs k)[k]? = some (.inr (vs[k]'(by omega))) := by
  unfold partL
  rw [List.getElem?_append_right (by simp; omega), List.length_map, List.length_take, Nat.min_eq_left (Nat.le_of_lt hk), Nat.sub_self, List.getElem?_map, List.getElem?_drop, Nat.add_zero, List.getElem?_eq_getElem (by omega)]
  rfl
 rw [List.getElem?_eq_getElem h] at h2
 exact Option.some.inj h2
theorem partL_set {xs : List α} {vs : List (List Value)} {k : Nat} (hl : vs.length = xs.length) (hk : k < xs.length) : (partL xs vs k).set k (.inl xs[k]) = partL xs vs (k + 1) := by
 unfold partL
 have h1 : ((xs.take k).map (Sum.inl : α → α ⊕ List Value)).length = k := by simp; omega
 rw [List.set_append_right _ _ (by omega), h1, Nat.sub_self, List.drop_eq_getElem_cons (by omega : k < vs.length), List.map_cons, List.set_cons_zero, List.take_succ_eq_append_getElem hk, List.map_append, List.append_assoc]
 rfl
def OwnPt (E : ElO α) (T : TypeId) (sz : Nat) (w : World) (base : Nat) (v : Value) (xs : List α) (vs : List (List Value)) (k : Nat) (bs : List Nat) : Prop := OwnTr (PartO sz E) T sz w base v (partL xs vs k) bs
theorem OwnPt.start {w : World} {base : Nat} {v : Value} {xs : List α} {vs : List (List Value)} (h : w.ownsRow base T sz v xs.length vs.flatten) (hl : vs.length = xs.length) (hz : ∀ c ∈ vs, c.length = sz) (h1 : ∀ c ∈ vs, ∀ u ∈ c, u.oneCell' = true) : OwnPt E T sz w base v xs vs 0 (blkN v) := by
 have e : partL xs vs 0 = vs.map .inr := by unfold partL; simp
 unfold OwnPt
 rw [e]
 refine ⟨vs, List.replicate xs.length [], ⟨by simp, by simp [hl], by rw [List.length_map, hl]; exact h, fun i hi => ?_, by simp⟩, by simp⟩
 have hi1 : i < vs.length := by simpa using hi
 have hi2 : i < xs.length := by omega
 rw [List.getD_eq_getElem?_getD, List.getD_eq_getElem?_getD, List.getElem?_eq_getElem hi1, List.getElem?_replicate, if_pos hi2, List.getElem_map]
 exact ⟨rfl, hz _ (List.getElem_mem hi1), h1 _ (List.getElem_mem hi1), rfl⟩
theorem OwnPt.done {w : World} {base : Nat} {v : Value} {xs : List α} {vs : List (List Value)} {bs : List Nat} (hl : vs.length = xs.length) (h : OwnPt E T sz w base v xs vs xs.length bs) : OwnTr E T sz w base v xs bs := by
 have e : partL xs vs xs.length = xs.map .inl := by unfold partL; rw [List.take_of_length_le (Nat.le_refl _), List.drop_of_length_le (by omega)]; simp
 unfold OwnPt at h
 rw [e] at h
 obtain ⟨css, bss, h, rfl⟩ := h
 refine ⟨css, bss, ⟨by simpa using h.l1, by simpa using h.l2, by simpa using h.row, fun i hi => ?_, h.apart⟩, rfl⟩
 have := h.el i (by simpa using hi)
 rw [List.getElem_map] at this
 exact this
theorem OwnPt.at_ (G : GoodO Ts sz E) {w : World} {base : Nat} {v : Value} {xs : List α} {vs : List (List Value)} {k : Nat} {bs : List Nat} (h : OwnPt E T sz w base v xs vs k bs) (hl : vs.length = xs.length) (hk : k < xs.length) :
  ∃ g c, v = .slice (some ⟨g, 0, none⟩) xs.length c ∧ xs.length ≤ c ∧ c ≤ maxLen ∧ base ≤ g ∧ g < w.heap.size ∧ g ∈ bs ∧ (∀ off, w.frozen? ⟨g, off, none⟩ = false) ∧ ∀ t u, (vs[k]'(by omega))[t]? = some u → w.cell? ⟨g, k * sz + t, none⟩ = some u := by
 obtain ⟨css, bss, h, rfl⟩ := h
 have hn := partL_len hl (Nat.le_of_lt hk)
 rcases h.cells (PartO.good G) with ⟨rfl, e⟩ | ⟨g, c, rfl, h1, h2, h3, h4, h5, h6⟩
 ·rw [e] at hn; simp at hn; omega
 ·rw [hn] at h1
  refine ⟨g, c, by rw [hn], h1, h2, h3, h4, by simp [blkN, Value.ownBlock], h5, fun t u hu => ?_⟩
  have he := h.el k (by omega)
  rw [partL_get hl hk] at he
  have := (h6 k (by omega)).2 t u (by rw [he.1]; exact hu)
  rwa [Nat.zero_add] at this
theorem OwnPt.step (G : GoodO Ts sz E) (hT : T ∉ Ts) {w w' : World} {base g c : Nat} {xs : List α} {vs : List (List Value)} {k : Nat} {bs bx : List Nat} {cs : List Value} (h : OwnPt E T sz w base (.slice (some ⟨g, 0, none⟩) xs.length c) xs vs k bs) (hl : vs.length = xs.length) (hk : k < xs.length) (hE : E w base cs xs[k] bx) (hn : ∀ b ∈ bx, b ∉ bs)
  (hs : ∀ css : List (List Value), (∀ c ∈ css, c.length = sz) → css.length = xs.length → css.getD k [] = vs[k]'(by omega) → w.ownsRow base T sz (.slice (some ⟨g, 0, none⟩) xs.length c) xs.length css.flatten → w'.ownsRow base T sz (.slice (some ⟨g, 0, none⟩) xs.length c) xs.length (css.set k cs).flatten) (h2 : w.grownBy w' (some g)) :
  ∃ bs', OwnPt E T sz w' base (.slice (some ⟨g, 0, none⟩) xs.length c) xs vs (k + 1) bs' ∧ ∀ b, b ∈ bs' → b ∈ bs ∨ b ∈ bx := by
 obtain ⟨css, bss, h, rfl⟩ := h
 have hlp := partL_len hl (Nat.le_of_lt hk)
 have hz : ∀ c ∈ css, c.length = sz := fun c hc => by
  obtain ⟨i, hi, rfl⟩ := List.mem_iff_getElem.1 hc
  have := (PartO.good G).len (h.el i (by rw [← h.l1]; exact hi))
  rwa [List.getD_eq_getElem?_getD, List.getElem?_eq_getElem hi] at this
 have he := h.el k (by omega)
 rw [partL_get hl hk] at he
 have h1 := hs css hz (by rw [h.l1, hlp]) he.1 (by have := h.row; rwa [hlp] at this)
 have h9 := OwnN.put (PartO.good G) hT (x := .inl xs[k]) (cs := cs) (bs := bx) h (by rw [hlp]) hE (fun b hb hh => hn b hb (List.mem_append_right _ hh)) (by omega) h1 h2
 rw [partL_set hl hk] at h9
 refine ⟨_, ⟨_, _, h9, rfl⟩, fun b hb => ?_⟩
 rcases List.mem_append.1 hb with hb | hb
 ·exact .inl (List.mem_append_left _ hb)
 ·obtain ⟨l, hl', hb2⟩ := List.mem_flatten.1 hb
  rcases List.mem_or_eq_of_mem_set hl' with h | rfl
  ·exact .inl (List.mem_append_right _ (List.mem_flatten.2 ⟨l, h, hb2⟩))
  ·exact .inr hb2
theorem OwnPt.cell (G : GoodO Ts sz E) (hT : T ∉ Ts) {w : World} {base g c : Nat} {xs : List α} {vs : List (List Value)} {k t : Nat} {bs bx : List Nat} {u : Value} (h : OwnPt E T sz w base (.slice (some ⟨g, 0, none⟩) xs.length c) xs vs k bs) (hl : vs.length = xs.length) (hk : k < xs.length) (ht : t < sz) (hE : E w base ((vs[k]'(by omega)).set t u) xs[k] bx) (hn : ∀ b ∈ bx, b ∉ bs) :
  ∃ bs', OwnPt E T sz (w.setCell ⟨g, k * sz + t, none⟩ u) base (.slice (some ⟨g, 0, none⟩) xs.length c) xs vs (k + 1) bs' ∧ ∀ b, b ∈ bs' → b ∈ bs ∨ b ∈ bx := by
 refine h.step G hT hl hk hE hn (fun css hz hcl hck hrow => ?_) ?_
 ·obtain ⟨h1, -⟩ := hrow.stored (k * sz + t) u
  rw [flat_set1 hz (by omega) ht, hck] at h1
  exact h1
 ·exact ⟨rfl, rfl, rfl, by simp [World.setCell], fun k hk hn => Below.heap_setCell _ _ _ _ (fun e => hn (by rw [e]))⟩
theorem grown_setCells {g : Nat} : ∀ (us : List Value) (w : World) (off : Nat), w.grownBy (setCells w g off us) (some g)
 | [], w, off => ⟨rfl, rfl, rfl, Nat.le_refl _, fun _ _ _ => rfl⟩
 | u :: us, w, off => by
  have h2 : w.grownBy (w.setCell ⟨g, off, none⟩ u) (some g) := ⟨rfl, rfl, rfl, by simp [World.setCell], fun k hk hn => Below.heap_setCell _ _ _ _ (fun e => hn (by rw [e]))⟩
  have h4 := grown_setCells (g := g) us (w.setCell ⟨g, off, none⟩ u) (off + 1)
  exact ⟨h4.os.trans h2.os, h4.tape.trans h2.tape, h4.output.trans h2.output, Nat.le_trans h2.size h4.size, fun k hk ho => (h4.block k (Nat.lt_of_lt_of_le hk h2.size) ho).trans (h2.block k hk ho)⟩
theorem OwnPt.cells (G : GoodO Ts sz E) (hT : T ∉ Ts) (h0 : 0 < sz) {w : World} {base g c : Nat} {xs : List α} {vs : List (List Value)} {k : Nat} {bs bx : List Nat} {cs : List Value} (h : OwnPt E T sz w base (.slice (some ⟨g, 0, none⟩) xs.length c) xs vs k bs) (hl : vs.length = xs.length) (hk : k < xs.length) (hE : E w base cs xs[k] bx) (hn : ∀ b ∈ bx, b ∉ bs) :
  ∃ bs', OwnPt E T sz (setCells w g (k * sz) cs) base (.slice (some ⟨g, 0, none⟩) xs.length c) xs vs (k + 1) bs' ∧ ∀ b, b ∈ bs' → b ∈ bs ∨ b ∈ bx := by
 refine h.step G hT hl hk hE hn (fun css hz hcl hck hrow => ?_) (grown_setCells cs w (k * sz))
 ·obtain ⟨h1, -⟩ := ownsRow_setCells cs w base css.flatten (k * sz) hrow
  rwa [setAll_flat hz (G.len hE) h0 (by omega)] at h1
end
end Go.Proofs.YthamekdjfoepmaaGreat
