/-
  Several texts in one: what the proof leans on, part 1.
-/
import Derived.Test.YtemimhghhihllaaGreatRows
import Derived.WalkKit
import Derived.ProofKit
import Derived.OpenShut
import Derived.ShutString
import Derived.ChangeOld
import Derived.Below
import Derived.Lib.SmallJoins
import Derived.Lib.Hide
import Derived.Deep.QuietTactic
import Derived.BigQuiet
import Derived.WalkSpells
import Derived.WalkLawsBesides
import Derived.Deep.Slices
import Derived.Deep.WholeRow
import Derived.Laws.StructEq
import Derived.Deep.RegionHeld3
import Derived.Stop.Asserts
import Derived.Deep.RegionWith
import Derived.Deep.LoopGhost
import Derived.Maps.AppendAt
import Derived.Maps.Own
import Derived.Maps.OwnOps
import Derived.Maps.OwnSet
set_option linter.unusedVariables false
set_option linter.unusedSimpArgs false
namespace Go.Proofs.YtemimhghhihllaaGreat
theorem pz0 {α : Type _} {l : List α} {i : Nat} (h : i < l.toArray.size) : l.toArray[i] = l[i] := rfl
theorem pz1 {α : Type _} (a : α) (l : List α) (h : 0 < (a :: l).length) : (a :: l)[0] = a := rfl
theorem pz2 {α : Type _} (a : α) (l : List α) (i : Nat) (h : i + 1 < (a :: l).length) : (a :: l)[i + 1] = l[i]'(Nat.lt_of_succ_lt_succ h) := rfl
theorem pz3 {α : Type _} (l : List α) (i : Nat) (a : α) : l.toArray.setIfInBounds i a = (l.set i a).toArray := List.setIfInBounds_toArray l i a
theorem pz4 {α : Type _} {x : α} {l : List α} {a : α} : (x :: l).set 0 a = a :: l := rfl
theorem pz5 {α : Type _} {x : α} {l : List α} {i : Nat} {a : α} : (x :: l).set (i + 1) a = x :: l.set i a := rfl
end Go.Proofs.YtemimhghhihllaaGreat
namespace Go.Proofs.YtemimhghhihllaaGreat
open Go.ChangeShapes Go.WideShapes Go.ChangeAt Go.RowKit Go.Joins
theorem own : ownKnob Tryz.prog.godebug = none := by kernel_rfl
theorem laidOut : laidOutB Tryz.prog = true := by kernel_rfl
def IsVal (k n : Int) (s : ByteArray) : Prop := (Lit.int .i64 k).wf = true ∧ (Lit.int .i64 n).wf = true ∧ s.size ≤ maxLen
end Go.Proofs.YtemimhghhihllaaGreat
namespace Go.Proofs.YtemimhghhihllaaGreat
open Go.RowKit
theorem cell_lt {w : World} {p : Addr} {v : Value} (h : w.cell? p = some v) : p.block < w.heap.size := by
  by_cases hb : p.block < w.heap.size
  · exact hb
  · simp [World.cell?, Array.getElem?_eq_none (Nat.le_of_not_lt hb)] at h
theorem retB {a b : Bool} (h : a = b) : Ending.returned (.bool a) = .returned (.bool b) := by rw [h]
theorem retI {k : IntKind} {a b : Int} (h : a = b) : Ending.returned (.int k a) = .returned (.int k b) := by rw [h]
end Go.Proofs.YtemimhghhihllaaGreat
namespace Go.Proofs.YtemimhghhihllaaGreat
open Go.ChangeShapes Go.WideShapes Go.ChangeAt Go.RowKit Go.Joins Go.Deep
def Cellz (w : World) (sz : Nat) (A : Option Addr) (n : Nat) (xss : List (List Value)) : Prop :=
  xss.length = n ∧ (∀ c ∈ xss, c.length = sz) ∧
  (0 < n → ∃ b off, A = some ⟨b, off, none⟩ ∧ ∀ (i : Nat) (h : i < xss.length) (j : Nat) (h' : j < (xss[i]).length), w.cell? ⟨b, off + (i * sz + j), none⟩ = some (xss[i])[j])
theorem Cellz.keep {w w' : World} {sz : Nat} {A : Option Addr} {n : Nat} {xss : List (List Value)} (h : Cellz w sz A n xss) (hk : ∀ p v, w.cell? p = some v → w'.cell? p = some v) : Cellz w' sz A n xss :=
  ⟨h.1, h.2.1, fun hn => by
    obtain ⟨b, off, e, hc⟩ := h.2.2 hn
    exact ⟨b, off, e, fun i hi j hj => hk _ _ (hc i hi j hj)⟩⟩
theorem Cellz.below {w w' : World} {sz : Nat} {A : Option Addr} {n : Nat} {xss : List (List Value)} (h : Cellz w sz A n xss) (hb : Below w.heap.size w w') : Cellz w' sz A n xss :=
  h.keep fun _ _ hp => (hb.cell (cell_lt hp)).trans hp
theorem addr_add (b off i : Nat) : (⟨b, off, none⟩ : Addr).add i = ⟨b, off + i, none⟩ := by
  unfold Addr.add; split
  · subst_vars; rfl
  · rfl
theorem cellz_of_trod {H : Type} {enc : TypeId × Value → H} {P : Program} {W : World} {fuel : Nat} {t e : TypeId} {sz : Nat} {a : Option Addr} {len cap : Nat} {x : DataW H × List MemPlace}
    (ht : P.underlying t = some (.slice e)) (hC : P.cellsOf e = sz) (h0 : 0 < sz)
    (h : DataW.trod enc P W 0 (fun _ => true) true fuel t [.slice a len cap] = some x) :
    ∃ xss, Cellz W sz a len xss ∧ len ≤ maxLen ∧ ∀ c ∈ xss, ∃ n y, DataW.trod enc P W 0 (fun _ => true) true n e c = some y := by
  rcases open_slice ht h with ⟨hcs, _⟩ | ⟨ad, l, c, m, n, D, Pl, hcs, _, hl, hm, hmm, _, hi⟩
  · simp at hcs
    obtain ⟨rfl, rfl, rfl⟩ := hcs
    exact ⟨[], ⟨rfl, by simp, fun h => absurd h (by omega)⟩, by omega, by simp⟩
  · simp at hcs
    obtain ⟨rfl, rfl, rfl⟩ := hcs
    rw [hC] at hi
    simp at hmm
    have hch : ∀ i, ∃ cs', i < len → W.cells? 0 (ad.add (i * sz)) sz = some cs' ∧ ∃ n y, DataW.trod enc P W 0 (fun _ => true) true n e cs' = some y := by
      intro i
      by_cases hlt : i < len
      · obtain ⟨cs', h1, h2⟩ := hi i (by omega)
        exact ⟨cs', fun _ => ⟨h1, _, _, h2⟩⟩
      · exact ⟨[], fun h => absurd h hlt⟩
    obtain ⟨f, hf⟩ := Classical.axiomOfChoice hch
    refine ⟨(List.range len).map f, ⟨by simp, ?_, ?_⟩, by omega, ?_⟩
    · intro c hc
      simp only [List.mem_map, List.mem_range] at hc
      obtain ⟨i, hi, rfl⟩ := hc
      exact (World.cells?_some (hf i hi).1).2.1
    · intro hn
      obtain ⟨b, off, spot⟩ := ad
      have hspot : spot = none := by
        obtain ⟨_, hcl, hat⟩ := World.cells?_some (hf 0 hn).1
        have h1 := hat 0 h0
        rw [List.getElem?_eq_getElem (by omega)] at h1
        have := World.cell?_spot h1
        simpa [Addr.add] using this
      subst hspot
      refine ⟨b, off, rfl, fun i hi j hj => ?_⟩
      simp only [List.length_map, List.length_range] at hi
      simp only [List.getElem_map, List.getElem_range] at hj ⊢
      obtain ⟨_, hcl, hat⟩ := World.cells?_some (hf i hi).1
      have h1 := hat j (by omega)
      rw [List.getElem?_eq_getElem hj, addr_add, addr_add] at h1
      rw [← h1, Nat.add_assoc]
    · intro c hc
      simp only [List.mem_map, List.mem_range] at hc
      obtain ⟨i, hi, rfl⟩ := hc
      exact (hf i hi).2
theorem val_of_trod {H : Type} {enc : TypeId × Value → H} {P : Program} {W : World} {fuel : Nat} {t : TypeId} {f0 f1 f2 : Field} {cs : List Value} {x : DataW H × List MemPlace}
    (hs : P.underlying t = some (.struct #[f0, f1, f2])) (hC : P.cellsOf t = 3) (o : f0.offset = 0 ∧ f1.offset = 1 ∧ f2.offset = 2) (hc0 : P.cellsOf f0.type = 1) (hc1 : P.cellsOf f1.type = 1) (hc2 : P.cellsOf f2.type = 1)
    (h0 : P.underlying f0.type = some (.int .i64)) (h1 : P.underlying f1.type = some (.int .i64)) (h2 : P.underlying f2.type = some .string)
    (h : DataW.trod enc P W 0 (fun _ => true) true fuel t cs = some x) :
    ∃ k n s, cs = [.int .i64 k, .int .i64 n, .string s] ∧ IsVal k n s := by
  obtain ⟨xs, n, _, _, hl, hlen, hf⟩ := DataW.trod_struct hs h
  rw [hC] at hl
  match cs, hl, xs, hlen with
  | [c0, c1, c2], _, [y0, y1, y2], _ =>
    have g0 := hf 0 f0 rfl
    have g1 := hf 1 f1 rfl
    have g2 := hf 2 f2 rfl
    rw [o.1, hc0] at g0
    rw [o.2.1, hc1] at g1
    rw [o.2.2, hc2] at g2
    simp at g0 g1 g2
    obtain ⟨k, q0, -, wk⟩ := DataW.trod_int h0 g0
    obtain ⟨n, q1, -, wn⟩ := DataW.trod_int h1 g1
    obtain ⟨s, q2, -, ws⟩ := DataW.trod_string h2 g2
    simp at q0 q1 q2
    subst q0 q1 q2
    exact ⟨k, n, s, rfl, wk, wn, ws⟩
theorem tok_of_trod {H : Type} {enc : TypeId × Value → H} {P : Program} {W : World} {fuel : Nat} {t : TypeId} {g0 g1 g2 f0 f1 f2 : Field} {cs : List Value} {x : DataW H × List MemPlace}
    (ht : P.underlying t = some (.struct #[g0, g1, g2])) (hCt : P.cellsOf t = 5) (ot : g0.offset = 0 ∧ g1.offset = 1 ∧ g2.offset = 2) (hd0 : P.cellsOf g0.type = 1) (hd1 : P.cellsOf g1.type = 1) (hd2 : P.cellsOf g2.type = 3)
    (k0 : P.underlying g0.type = some (.int .i64)) (k1 : P.underlying g1.type = some (.int .i64))
    (hs : P.underlying g2.type = some (.struct #[f0, f1, f2])) (o : f0.offset = 0 ∧ f1.offset = 1 ∧ f2.offset = 2) (hc0 : P.cellsOf f0.type = 1) (hc1 : P.cellsOf f1.type = 1) (hc2 : P.cellsOf f2.type = 1)
    (h0 : P.underlying f0.type = some (.int .i64)) (h1 : P.underlying f1.type = some (.int .i64)) (h2 : P.underlying f2.type = some .string)
    (h : DataW.trod enc P W 0 (fun _ => true) true fuel t cs = some x) :
    ∃ k c vk vn vs, cs = [.int .i64 k, .int .i64 c, .int .i64 vk, .int .i64 vn, .string vs] ∧ (Lit.int .i64 k).wf = true ∧ (Lit.int .i64 c).wf = true ∧ IsVal vk vn vs := by
  obtain ⟨xs, n, _, _, hl, hlen, hf⟩ := DataW.trod_struct ht h
  rw [hCt] at hl
  match cs, hl, xs, hlen with
  | [c0, c1, c2, c3, c4], _, [y0, y1, y2], _ =>
    have e0 := hf 0 g0 rfl
    have e1 := hf 1 g1 rfl
    have e2 := hf 2 g2 rfl
    rw [ot.1, hd0] at e0
    rw [ot.2.1, hd1] at e1
    rw [ot.2.2, hd2] at e2
    simp at e0 e1 e2
    obtain ⟨k, q0, -, wk⟩ := DataW.trod_int k0 e0
    obtain ⟨c, q1, -, wc⟩ := DataW.trod_int k1 e1
    obtain ⟨vk, vn, vs, q2, w2⟩ := val_of_trod hs hd2 o hc0 hc1 hc2 h0 h1 h2 e2
    simp at q0 q1 q2
    obtain ⟨rfl, rfl, rfl⟩ := q2
    subst q0 q1
    exact ⟨k, c, vk, vn, vs, rfl, wk, wc, w2⟩
def Row (w : World) (g : Nat) (T : TypeId) (cs : Array Value) : Prop := w.heap[g]? = some (.cells cs T (0, 0))
theorem Row.set {w : World} {g : Nat} {T : TypeId} {cs : Array Value} (h : Row w g T cs) (i : Nat) (v : Value) : Row (w.setCell ⟨g, i, none⟩ v) g T (cs.setIfInBounds i v) := by
  unfold Row at h ⊢
  simp [World.setCell, Array.getElem?_modify, h]
theorem Row.cell {w : World} {g : Nat} {T : TypeId} {cs : Array Value} (h : Row w g T cs) (i : Nat) : w.cell? ⟨g, i, none⟩ = cs[i]? := cell_of_row w g i cs T (0, 0) h
theorem Row.free {w : World} {g : Nat} {T : TypeId} {cs : Array Value} (h : Row w g T cs) (i : Nat) : w.frozen? ⟨g, i, none⟩ = false := by
  unfold Row at h
  simp [World.frozen?, h]
theorem Row.below {w w' : World} {g : Nat} {T : TypeId} {cs : Array Value} (h : Row w g T cs) (hb : Below w.heap.size w w') : Row w' g T cs := (hb.block g (lt_of_block h)).trans h
theorem Row.new (w : World) (T : TypeId) (cs : Array Value) : Row (w.alloc (.cells cs T)) w.heap.size T cs := Go.heap_alloc_last w _
theorem Row.five {w : World} {g : Nat} {T : TypeId} {a0 a1 a2 a3 a4 : Value} (h : Row w g T #[a0, a1, a2, a3, a4]) :
    (w.cell? ⟨g, 0, none⟩ = some a0 ∧ w.cell? ⟨g, 1, none⟩ = some a1 ∧ w.cell? ⟨g, 2, none⟩ = some a2 ∧ w.cell? ⟨g, 3, none⟩ = some a3 ∧ w.cell? ⟨g, 4, none⟩ = some a4) ∧
    (w.frozen? ⟨g, 0, none⟩ = false ∧ w.frozen? ⟨g, 1, none⟩ = false ∧ w.frozen? ⟨g, 2, none⟩ = false ∧ w.frozen? ⟨g, 3, none⟩ = false ∧ w.frozen? ⟨g, 4, none⟩ = false) :=
  ⟨⟨h.cell 0, h.cell 1, h.cell 2, h.cell 3, h.cell 4⟩, ⟨h.free 0, h.free 1, h.free 2, h.free 3, h.free 4⟩⟩
theorem Row.alloc {w : World} {g : Nat} {T : TypeId} {cs : Array Value} (h : Row w g T cs) (o : Obj) : Row (w.alloc o) g T cs := (Below.heap_alloc w o g (lt_of_block h)).trans h
theorem Row.three {w : World} {g : Nat} {T : TypeId} {a0 a1 a2 : Value} (h : Row w g T #[a0, a1, a2]) :
    (w.cell? ⟨g, 0, none⟩ = some a0 ∧ w.cell? ⟨g, 1, none⟩ = some a1 ∧ w.cell? ⟨g, 2, none⟩ = some a2) ∧ (w.frozen? ⟨g, 0, none⟩ = false ∧ w.frozen? ⟨g, 1, none⟩ = false ∧ w.frozen? ⟨g, 2, none⟩ = false) :=
  ⟨⟨h.cell 0, h.cell 1, h.cell 2⟩, ⟨h.free 0, h.free 1, h.free 2⟩⟩
theorem Row.drew {w : World} {g : Nat} {T : TypeId} {cs : Array Value} (h : Row w g T cs) : Row w.drew g T cs := h
theorem Row.drewN {w : World} {g : Nat} {T : TypeId} {cs : Array Value} (h : Row w g T cs) (n : Nat) : Row (w.drewN n) g T cs := h
theorem Row.far {w : World} {g : Nat} {T : TypeId} {cs : Array Value} (h : Row w g T cs) {p : Addr} (hp : g ≠ p.block) (v : Value) : Row (w.setCell p v) g T cs := (Below.heap_setCell w p v g hp).trans h
theorem Row.newAt (w : World) (T : TypeId) (cs : Array Value) (g : Nat) (hg : w.heap.size = g) : Row (w.alloc (.cells cs T)) g T cs := hg ▸ Row.new w T cs
abbrev Rd (α : Type) := (Nat → Prop) → World → List Value → α → Prop
def Sl {α : Type} (R : Rd α) (sz : Nat) (ok : Nat → Prop) (w : World) (A : Option Addr) (n : Nat) (ds : List α) : Prop :=
  ds.length = n ∧ (0 < n → ∃ b off, A = some ⟨b, off, none⟩ ∧ ok b ∧ ∀ (i : Nat) (h : i < ds.length), ∃ cs : List Value, cs.length = sz ∧ R ok w cs ds[i] ∧ ∀ (j : Nat) (v : Value), cs[j]? = some v → w.cell? ⟨b, off + i * sz + j, none⟩ = some v)
def Stays {α : Type} (R : Rd α) : Prop := ∀ (ok ok' : Nat → Prop) (w w' : World) (cs : List Value) (d : α), R ok w cs d → (∀ b, ok b → ok' b) → (∀ p v, ok p.block → w.cell? p = some v → w'.cell? p = some v) → R ok' w' cs d
theorem Sl.stays {α : Type} {R : Rd α} (hR : Stays R) {sz : Nat} {ok ok' : Nat → Prop} {w w' : World} {A : Option Addr} {n : Nat} {ds : List α} (h : Sl R sz ok w A n ds) (ho : ∀ b, ok b → ok' b) (hk : ∀ p v, ok p.block → w.cell? p = some v → w'.cell? p = some v) : Sl R sz ok' w' A n ds :=
  ⟨h.1, fun hn => by
    obtain ⟨b, off, e, hb, hi⟩ := h.2 hn
    refine ⟨b, off, e, ho b hb, fun i hlt => ?_⟩
    obtain ⟨cs, h1, h2, h3⟩ := hi i hlt
    exact ⟨cs, h1, hR _ _ _ _ _ _ h2 ho hk, fun j v hv => hk _ _ hb (h3 j v hv)⟩⟩
theorem below_keep {w w' : World} (hb : Below w.heap.size w w') : ∀ p v, w.cell? p = some v → w'.cell? p = some v := fun _ _ hp => (hb.cell (cell_lt hp)).trans hp
theorem Sl.below {α : Type} {R : Rd α} (hR : Stays R) {sz : Nat} {ok : Nat → Prop} {w w' : World} {A : Option Addr} {n : Nat} {ds : List α} (h : Sl R sz ok w A n ds) (hb : Below w.heap.size w w') : Sl R sz ok w' A n ds :=
  h.stays hR (fun _ h => h) fun p v _ hp => below_keep hb p v hp
def FlatR {α : Type} (f : α → List Value) : Rd α := fun _ _ cs d => cs = f d
theorem FlatR.stays {α : Type} (f : α → List Value) : Stays (FlatR f) := fun _ _ _ _ _ _ h _ _ => h
theorem Sl.cellz {α : Type} {f : α → List Value} {sz : Nat} {ok : Nat → Prop} {w : World} {A : Option Addr} {n : Nat} {ds : List α} (hf : ∀ d, (f d).length = sz) (h : Sl (FlatR f) sz ok w A n ds) : Cellz w sz A n (ds.map f) := by
  refine ⟨by simpa using h.1, fun c hc => by obtain ⟨d, _, rfl⟩ := List.mem_map.1 hc; exact hf d, fun hn => ?_⟩
  obtain ⟨b, off, e, hb, hi⟩ := h.2 hn
  refine ⟨b, off, e, fun i hlt j hj => ?_⟩
  obtain ⟨cs, h1, h2, h3⟩ := hi i (by simpa using hlt)
  have e2 : (ds.map f)[i] = cs := by rw [List.getElem_map]; exact h2.symm
  rw [← Nat.add_assoc]
  exact h3 j _ (by rw [List.getElem?_eq_some_iff]; exact ⟨by rw [e2] at hj; exact hj, by simp only [e2]⟩)
def LaidR {α : Type} (R : Rd α) (sz : Nat) (ok : Nat → Prop) (w : World) (cs : Array Value) (k : Nat) (ds : List α) : Prop :=
  ∀ (i : Nat) (h : i < ds.length), i < k → ∃ c : List Value, c.length = sz ∧ R ok w c ds[i] ∧ ∀ (j : Nat) (v : Value), c[j]? = some v → cs[i * sz + j]? = some v
theorem LaidR.zero {α : Type} (R : Rd α) (sz : Nat) (ok : Nat → Prop) (w : World) (cs : Array Value) (ds : List α) : LaidR R sz ok w cs 0 ds := fun _ _ h => by omega
theorem LaidR.more {α : Type} {R : Rd α} {sz : Nat} {ok : Nat → Prop} {w : World} {cs cs' : Array Value} {k : Nat} {ds : List α} (h : LaidR R sz ok w cs k ds) (hk : k < ds.length) {c : List Value} (hc : c.length = sz) (hr : R ok w c ds[k])
    (hold : ∀ m, m < k * sz → cs'[m]? = cs[m]?) (hnew : ∀ (j : Nat) (v : Value), c[j]? = some v → cs'[k * sz + j]? = some v) : LaidR R sz ok w cs' (k + 1) ds := fun i hi hlt => by
  by_cases e : i = k
  · subst e
    exact ⟨c, hc, hr, hnew⟩
  · obtain ⟨c', h1, h2, h3⟩ := h i hi (by omega)
    refine ⟨c', h1, h2, fun j v hv => ?_⟩
    have hj : j < sz := by obtain ⟨hj, _⟩ := List.getElem?_eq_some_iff.1 hv; omega
    rw [hold _ ?_]
    · exact h3 j v hv
    · have : (i + 1) * sz ≤ k * sz := Nat.mul_le_mul_right _ (by omega)
      rw [Nat.add_mul] at this
      omega
theorem sl_of_laid {α : Type} {R : Rd α} {sz : Nat} {ok : Nat → Prop} {w : World} {g : Nat} {T : TypeId} {cs : Array Value} {k : Nat} {ds : List α} (hr : Row w g T cs) (hg : ok g) (h : LaidR R sz ok w cs k ds) (hk : ds.length ≤ k) : Sl R sz ok w (some ⟨g, 0, none⟩) ds.length ds :=
  ⟨rfl, fun _ => ⟨g, 0, rfl, hg, fun i hi => by
    obtain ⟨c, h1, h2, h3⟩ := h i hi (by omega)
    refine ⟨c, h1, h2, fun j v hv => ?_⟩
    rw [Nat.zero_add, hr.cell]
    exact h3 j v hv⟩⟩
theorem list_of_rel {α β : Type} {r : β → α → Prop} {q : α → Prop} : ∀ xss : List β, (∀ c ∈ xss, ∃ d, r c d ∧ q d) → ∃ ds : List α, ds.length = xss.length ∧ (∀ (i : Nat) (h : i < xss.length) (h' : i < ds.length), r xss[i] ds[i]) ∧ ∀ d ∈ ds, q d
  | [], _ => ⟨[], rfl, fun i h => absurd h (by simp), by simp⟩
  | c :: cs, h => by
    obtain ⟨d, hr, hq⟩ := h c (by simp)
    obtain ⟨ds, h1, h2, h3⟩ := list_of_rel cs fun c' hc => h c' (by simp [hc])
    refine ⟨d :: ds, by simp [h1], fun i hi hi' => ?_, by simpa using ⟨hq, h3⟩⟩
    cases i with
    | zero => exact hr
    | succ i => exact h2 i (by simpa using hi) (by simpa using hi')
theorem sl_of_trod {α : Type} {R : Rd α} {q : α → Prop} {H : Type} {enc : TypeId × Value → H} {P : Program} {W : World} {fuel : Nat} {t e : TypeId} {sz : Nat} {a : Option Addr} {len cap : Nat} {x : DataW H × List MemPlace}
    (ht : P.underlying t = some (.slice e)) (hC : P.cellsOf e = sz) (h0 : 0 < sz) (hR : ∀ n c y, DataW.trod enc P W 0 (fun _ => true) true n e c = some y → ∃ d, R (fun _ => True) W c d ∧ q d)
    (h : DataW.trod enc P W 0 (fun _ => true) true fuel t [.slice a len cap] = some x) :
    ∃ ds, Sl R sz (fun _ => True) W a len ds ∧ ds.length ≤ maxLen ∧ ∀ d ∈ ds, q d := by
  obtain ⟨xss, ⟨hl, hz, hc⟩, hm, hr⟩ := cellz_of_trod (sz := sz) ht hC h0 h
  obtain ⟨ds, h1, h2, h3⟩ := list_of_rel (r := fun c d => R (fun _ => True) W c d) (q := q) xss fun c hc => by
    obtain ⟨n, y, hy⟩ := hr c hc
    exact hR _ _ _ hy
  refine ⟨ds, ⟨by omega, fun hn => ?_⟩, by omega, h3⟩
  obtain ⟨b, off, e, hi⟩ := hc hn
  refine ⟨b, off, e, trivial, fun i hlt => ⟨xss[i], hz _ (List.getElem_mem (by omega)), h2 i (by omega) hlt, fun j v hv => ?_⟩⟩
  obtain ⟨hj, hv'⟩ := List.getElem?_eq_some_iff.1 hv
  rw [Nat.add_assoc, hi i (by omega) j hj, hv']
end Go.Proofs.YtemimhghhihllaaGreat
namespace Go.Proofs.YtemimhghhihllaaGreat
open Go.RowKit
def valOkB (k n : Int) (s : ByteArray) : Bool :=
  if k = 0 then n == 0 && s.toList.isEmpty else if k = 1 then decide (-1000000000 ≤ n) && decide (n ≤ 1000000000) && s.toList.isEmpty else if k = 2 then n == 0 && decide ((s.size : Int) ≤ 12) else false
theorem specIn (n lo hi : Int) (w : World) :
    Calls Tryz.prog 41 #[.int .i64 n, .int .i64 lo, .int .i64 hi] w fun e w' => e = .returned (.bool (decide (lo ≤ n) && decide (n ≤ hi))) ∧ w = w' := by
  by_cases h : lo ≤ n
  · go_enter Tryz.func41, Tryz.ntmps41
    go_wp2
    go_ret
    exact ⟨retB (by simp [h]), rfl⟩
  · have h' : decide (lo ≤ n) = false := by simpa using h
    go_enter Tryz.func41, Tryz.ntmps41
    go_wp2
    go_ret
    exact ⟨retB (by simp), rfl⟩
theorem specValOk (k n : Int) (s : ByteArray) (w : World) :
    Calls Tryz.prog 136 #[.agg #[.int .i64 k, .int .i64 n, .string s]] w fun e w' => e = .returned (.bool (valOkB k n s)) ∧ Below w.heap.size w w' := by
  have hb := fun o => (Below.refl w.heap.size w).alloc (Nat.le_refl _) o
  have HB := Lib.hid hb
  clear hb
  by_cases k0 : k = 0
  · subst k0
    go_enter Tryz.func136, Tryz.ntmps136
    go_wp2
    all_goals
      go_ret
      exact ⟨retB (by simp [valOkB, *]), HB.out _⟩
  have d0 : (k == 0) = false := by simpa using k0
  by_cases k1 : k = 1
  · subst k1
    by_cases h : (decide (-1000000000 ≤ n) && decide (n ≤ 1000000000)) = true
    · go_enter Tryz.func136, Tryz.ntmps136
      go_wp2_with (go_at_call 41; refine (specIn _ _ _ _).mono ?_; rintro e w' ⟨rfl, rfl⟩)
      go_ret
      exact ⟨retB (by simp [valOkB] at h ⊢; simp [h]), HB.out _⟩
    · have h' : (decide (-1000000000 ≤ n) && decide (n ≤ 1000000000)) = false := by simpa using h
      go_enter Tryz.func136, Tryz.ntmps136
      go_wp2_with (go_at_call 41; refine (specIn _ _ _ _).mono ?_; rintro e w' ⟨rfl, rfl⟩)
      go_ret
      exact ⟨retB (by simp [valOkB, h']), HB.out _⟩
  have d1 : (k == 1) = false := by simpa using k1
  by_cases k2 : k = 2
  · subst k2
    by_cases h : n = 0
    · subst h
      go_enter Tryz.func136, Tryz.ntmps136
      go_wp2
      go_ret
      exact ⟨retB (by simp [valOkB]), HB.out _⟩
    · have h' : (n == 0) = false := by simpa using h
      go_enter Tryz.func136, Tryz.ntmps136
      go_wp2
      go_ret
      exact ⟨retB (by simp [valOkB, h']), HB.out _⟩
  · have d2 : (k == 2) = false := by simpa using k2
    go_enter Tryz.func136, Tryz.ntmps136
    go_wp2
    go_ret
    exact ⟨retB (by simp [valOkB, k0, k1, k2]), HB.out _⟩
theorem as_num_num (v : Value) (w : World) : (Instr.typeAssert (.iface 275 v) 270 275 true).run Tryz.prog w = .ok (.tuple #[v, .bool true]) w := by kernel_rfl
theorem as_str_num (v : Value) (w : World) : (Instr.typeAssert (.iface 282 v) 270 275 true).run Tryz.prog w = .ok (.tuple #[.int .i64 0, .bool false]) w := by kernel_rfl
theorem as_str_str (v : Value) (w : World) : (Instr.typeAssert (.iface 282 v) 270 282 true).run Tryz.prog w = .ok (.tuple #[v, .bool true]) w := by kernel_rfl
theorem as_not_num (v : Value) (w : World) : (Instr.typeAssert (.iface 274 v) 270 275 true).run Tryz.prog w = .ok (.tuple #[.int .i64 0, .bool false]) w := by kernel_rfl
theorem as_not_str (v : Value) (w : World) : (Instr.typeAssert (.iface 274 v) 270 282 true).run Tryz.prog w = .ok (.tuple #[.string ByteArray.empty, .bool false]) w := by kernel_rfl
theorem implValOfNum (n : Int) (w : World) :
    Calls Tryz.prog 214 #[.iface 275 (.int .i64 n)] w fun e w' => e = .returned (.agg #[.int .i64 1, .int .i64 n, .string ⟨#[]⟩]) ∧ Below w.heap.size w w' := by
  have as1 := as_num_num
  go_enter Tryz.func214, Tryz.ntmps214
  go_wp2
  exact bodyPost_ret (v := .agg #[.int .i64 1, .int .i64 n, .string ⟨#[]⟩]) (by simp [results, Tryz.results214, go_sem]) rfl ⟨rfl, (Below.refl _ _).alloc (Nat.le_refl _) _⟩
theorem implValOfStr (s : ByteArray) (w : World) :
    Calls Tryz.prog 214 #[.iface 282 (.string s)] w fun e w' => e = .returned (.agg #[.int .i64 2, .int .i64 0, .string s]) ∧ Below w.heap.size w w' := by
  have as1 := as_str_num
  have as2 := as_str_str
  go_enter Tryz.func214, Tryz.ntmps214
  go_wp2
  exact bodyPost_ret (v := .agg #[.int .i64 2, .int .i64 0, .string s]) (by simp [results, Tryz.results214, go_sem]) rfl ⟨rfl, (Below.refl _ _).alloc (Nat.le_refl _) _⟩
theorem implValOfNot (w : World) :
    Calls Tryz.prog 214 #[.iface 274 (.agg #[])] w fun e w' => e = .returned (.agg #[.int .i64 0, .int .i64 0, .string ⟨#[]⟩]) ∧ Below w.heap.size w w' := by
  have as1 := as_not_num
  have as2 := as_not_str
  go_enter Tryz.func214, Tryz.ntmps214
  go_wp2
  exact bodyPost_ret (v := .agg #[.int .i64 0, .int .i64 0, .string ⟨#[]⟩]) (by simp [results, Tryz.results214, go_sem]) rfl ⟨rfl, (Below.refl _ _).alloc (Nat.le_refl _) _⟩
theorem rightOfNot (w : World) : (method 405 274 (.agg #[]) "loop.example/g00570/impl.right").run Tryz.prog w = .ok (245, .agg #[]) w := by kernel_rfl
theorem rightOfNum (n : Int) (w : World) : (method 405 275 (.int .i64 n) "loop.example/g00570/impl.right").run Tryz.prog w = .ok (227, .int .i64 n) w := by kernel_rfl
theorem rightOfStr (s : ByteArray) (w : World) : (method 405 282 (.string s) "loop.example/g00570/impl.right").run Tryz.prog w = .ok (248, .string s) w := by kernel_rfl
theorem rightNot (w : World) : Calls Tryz.prog 245 #[.agg #[]] w fun e w' => e = .returned (.bool true) ∧ Below w.heap.size w w' := by
  go_enter Tryz.func245, Tryz.ntmps245
  go_wp2
  go_ret
  first | exact ⟨rfl, Below.refl _ _⟩ | exact ⟨rfl, (Below.refl _ _).alloc (Nat.le_refl _) _⟩
theorem rightNum (n : Int) (w : World) : Calls Tryz.prog 227 #[.int .i64 n] w fun e w' => e = .returned (.bool (decide (-1000000000 ≤ n) && decide (n ≤ 1000000000))) ∧ w = w' := by
  by_cases h : -1000000000 ≤ n
  · go_enter Tryz.func227, Tryz.ntmps227
    go_wp2
    go_ret
    exact ⟨retB (by simp [h]), rfl⟩
  · have h' : decide (-1000000000 ≤ n) = false := by simpa using h
    go_enter Tryz.func227, Tryz.ntmps227
    go_wp2
    go_ret
    exact ⟨retB (by simp), rfl⟩
theorem rightStr (s : ByteArray) (w : World) : Calls Tryz.prog 248 #[.string s] w fun e w' => e = .returned (.bool (decide ((s.size : Int) ≤ 12))) ∧ w = w' := by
  go_enter Tryz.func248, Tryz.ntmps248
  go_wp2
  go_ret
  exact ⟨rfl, rfl⟩
def Cells3 (w : World) (b : Nat) (k n : Int) (s : ByteArray) : Prop := w.cell? ⟨b, 0, none⟩ = some (.int .i64 k) ∧ w.cell? ⟨b, 1, none⟩ = some (.int .i64 n) ∧ w.cell? ⟨b, 2, none⟩ = some (.string s)
theorem Cells3.below {w w' : World} {b : Nat} {k n : Int} {s : ByteArray} (h : Cells3 w b k n s) (hb : Below w.heap.size w w') : Cells3 w' b k n s :=
  ⟨(hb.cell (cell_lt h.1)).trans h.1, (hb.cell (cell_lt h.2.1)).trans h.2.1, (hb.cell (cell_lt h.2.2)).trans h.2.2⟩
def heldV (k n : Int) (s : ByteArray) : Value := if k = 0 then .iface 274 (.agg #[]) else if k = 1 then .iface 275 (.int .i64 n) else .iface 282 (.string s)
theorem chain1 (w : World) (o : Obj) {w1 : World} (hb : Below (w.alloc o).drew.heap.size (w.alloc o).drew w1) : Below w.heap.size w w1 :=
  (((Below.refl _ w).alloc (Nat.le_refl _) o).drew).trans (hb.mono (by simp))
theorem boxed {w w1 : World} {k n : Int} {s : ByteArray} {T : TypeId} (hb : Below (w.alloc (.cells #[.int .i64 k, .int .i64 n, .string s] T)).drew.heap.size (w.alloc (.cells #[.int .i64 k, .int .i64 n, .string s] T)).drew w1) :
    w1.cell? ⟨w.heap.size, 0, none⟩ = some (.int .i64 k) ∧ w1.cell? ⟨w.heap.size, 1, none⟩ = some (.int .i64 n) ∧ w1.cell? ⟨w.heap.size, 2, none⟩ = some (.string s) := by
  refine ⟨?_, ?_, ?_⟩ <;> (rw [hb.cell (by simp)]; simp)
def HeldOk (k n : Int) (s : ByteArray) (w : World) (e : Ending) (w' : World) : Prop := e = .returned (.tuple #[heldV k n s, .bool true]) ∧ Below w.heap.size w w'
def HeldNo (w : World) (e : Ending) (w' : World) : Prop := e = .returned (.tuple #[.nilIface, .bool false]) ∧ Below w.heap.size w w'
set_option maxRecDepth 100000 in
set_option maxHeartbeats 1000000 in
theorem held0yes (s : ByteArray) (w : World) (hs : s.toList = []) :
    Calls Tryz.prog 192 #[.agg #[.int .i64 0, .int .i64 0, .string s]] w (HeldOk 0 0 s w) := by
  have hm := rightOfNot
  go_enter Tryz.func192, Tryz.ntmps192
  go_wp2_with fail
  go_region_held3 (fun w' => w'.cell? ⟨w.heap.size, 0, none⟩ = some (.int .i64 0) ∧ w'.cell? ⟨w.heap.size, 1, none⟩ = some (.int .i64 0) ∧ w'.cell? ⟨w.heap.size, 2, none⟩ = some (.string s)) (first | go_keep | (refine ⟨?_, ?_, ?_⟩ <;> (rw [hb.cell (by simp)]; simp)) | (refine ⟨?_, ?_, ?_⟩ <;> (rw [hb2.cell (by have := hb.size; simp at this; simp; omega), hb.cell (by simp)]; simp)))
    (first | (go_at_call 214; refine (implValOfNot _).mono ?_; rintro e w1 ⟨rfl, hb⟩) | (go_at_call 245; refine (rightNot _).mono ?_; rintro e w2 ⟨rfl, hb2⟩))
  go_wp2
  go_ret2
  exact ⟨rfl, (chain1 w _ hb).trans (hb2.mono (by have := hb.size; simp at this; omega))⟩
set_option maxRecDepth 100000 in
set_option maxHeartbeats 1000000 in
theorem held0n (n : Int) (s : ByteArray) (w : World) (hn : ¬ n = 0) :
    Calls Tryz.prog 192 #[.agg #[.int .i64 0, .int .i64 n, .string s]] w (HeldNo w) := by
  have e1 : (0 == n) = false := by simp; omega
  go_enter Tryz.func192, Tryz.ntmps192
  go_wp2_with fail
  first | (go_region_with ((go_at_call 214; refine (implValOfNot _).mono ?_; rintro e w1 ⟨rfl, hb⟩; obtain ⟨r0, r1, r2⟩ := boxed hb))) | fail
  all_goals
    go_wp2
    go_ret2
    exact ⟨rfl, chain1 w _ hb⟩
set_option maxRecDepth 100000 in
set_option maxHeartbeats 1000000 in
theorem held0s (n : Int) (s : ByteArray) (w : World) (hs : ¬ s.toList = []) :
    Calls Tryz.prog 192 #[.agg #[.int .i64 0, .int .i64 n, .string s]] w (HeldNo w) := by
  by_cases hn : n = 0
  · subst hn
    have e1 : (([] : List UInt8) == s.toList) = false := by simpa using hs
    go_enter Tryz.func192, Tryz.ntmps192
    go_wp2_with fail
    first | (go_region_with ((go_at_call 214; refine (implValOfNot _).mono ?_; rintro e w1 ⟨rfl, hb⟩; obtain ⟨r0, r1, r2⟩ := boxed hb))) | fail
    all_goals
      go_wp2
      go_ret2
      exact ⟨rfl, chain1 w _ hb⟩
  · exact held0n n s w hn
set_option maxRecDepth 100000 in
set_option maxHeartbeats 1000000 in
theorem held1yes (n : Int) (s : ByteArray) (w : World) (hs : s.toList = []) (h : (decide (-1000000000 ≤ n) && decide (n ≤ 1000000000)) = true) :
    Calls Tryz.prog 192 #[.agg #[.int .i64 1, .int .i64 n, .string s]] w (HeldOk 1 n s w) := by
  have hm := rightOfNum n
  go_enter Tryz.func192, Tryz.ntmps192
  go_wp2_with fail
  go_region_held3 (fun w' => w'.cell? ⟨w.heap.size, 0, none⟩ = some (.int .i64 1) ∧ w'.cell? ⟨w.heap.size, 1, none⟩ = some (.int .i64 n) ∧ w'.cell? ⟨w.heap.size, 2, none⟩ = some (.string s)) (first | go_keep | (refine ⟨?_, ?_, ?_⟩ <;> (rw [hb.cell (by simp)]; simp)) | (refine ⟨?_, ?_, ?_⟩ <;> (rw [hb2.cell (by have := hb.size; simp at this; simp; omega), hb.cell (by simp)]; simp)))
    (first | (go_at_call 214; refine (implValOfNum _ _).mono ?_; rintro e w1 ⟨rfl, hb⟩) | (go_at_call 227; refine (rightNum _ _).mono ?_; rintro e w2 ⟨rfl, rfl⟩))
  go_wp2
  go_ret2
  exact ⟨rfl, chain1 w _ hb⟩
set_option maxRecDepth 100000 in
set_option maxHeartbeats 1000000 in
theorem held1no (n : Int) (s : ByteArray) (w : World) (hs : s.toList = []) (h : (decide (-1000000000 ≤ n) && decide (n ≤ 1000000000)) = false) :
    Calls Tryz.prog 192 #[.agg #[.int .i64 1, .int .i64 n, .string s]] w (HeldNo w) := by
  have hm := rightOfNum n
  go_enter Tryz.func192, Tryz.ntmps192
  go_wp2_with fail
  go_region_held3 (fun w' => w'.cell? ⟨w.heap.size, 0, none⟩ = some (.int .i64 1) ∧ w'.cell? ⟨w.heap.size, 1, none⟩ = some (.int .i64 n) ∧ w'.cell? ⟨w.heap.size, 2, none⟩ = some (.string s)) (first | go_keep | (refine ⟨?_, ?_, ?_⟩ <;> (rw [hb.cell (by simp)]; simp)) | (refine ⟨?_, ?_, ?_⟩ <;> (rw [hb2.cell (by have := hb.size; simp at this; simp; omega), hb.cell (by simp)]; simp)))
    (first | (go_at_call 214; refine (implValOfNum _ _).mono ?_; rintro e w1 ⟨rfl, hb⟩) | (go_at_call 227; refine (rightNum _ _).mono ?_; rintro e w2 ⟨rfl, rfl⟩))
  go_wp2
  go_ret2
  exact ⟨rfl, chain1 w _ hb⟩
set_option maxRecDepth 100000 in
set_option maxHeartbeats 1000000 in
theorem held1s (n : Int) (s : ByteArray) (w : World) (hs : ¬ s.toList = []) :
    Calls Tryz.prog 192 #[.agg #[.int .i64 1, .int .i64 n, .string s]] w (HeldNo w) := by
  have e1 : (([] : List UInt8) == s.toList) = false := by simpa using hs
  go_enter Tryz.func192, Tryz.ntmps192
  go_wp2_with fail
  first | (go_region_with ((go_at_call 214; refine (implValOfNum _ _).mono ?_; rintro e w1 ⟨rfl, hb⟩; obtain ⟨r0, r1, r2⟩ := boxed hb))) | fail
  all_goals
    go_wp2
    go_ret2
    exact ⟨rfl, chain1 w _ hb⟩
set_option maxRecDepth 100000 in
set_option maxHeartbeats 1000000 in
theorem held2yes (s : ByteArray) (w : World) (h : decide ((s.size : Int) ≤ 12) = true) :
    Calls Tryz.prog 192 #[.agg #[.int .i64 2, .int .i64 0, .string s]] w (HeldOk 2 0 s w) := by
  have hm := rightOfStr s
  go_enter Tryz.func192, Tryz.ntmps192
  go_wp2_with fail
  go_region_held3 (fun w' => w'.cell? ⟨w.heap.size, 0, none⟩ = some (.int .i64 2) ∧ w'.cell? ⟨w.heap.size, 1, none⟩ = some (.int .i64 0) ∧ w'.cell? ⟨w.heap.size, 2, none⟩ = some (.string s)) (first | go_keep | (refine ⟨?_, ?_, ?_⟩ <;> (rw [hb.cell (by simp)]; simp)) | (refine ⟨?_, ?_, ?_⟩ <;> (rw [hb2.cell (by have := hb.size; simp at this; simp; omega), hb.cell (by simp)]; simp)))
    (first | (go_at_call 214; refine (implValOfStr _ _).mono ?_; rintro e w1 ⟨rfl, hb⟩) | (go_at_call 248; refine (rightStr _ _).mono ?_; rintro e w2 ⟨rfl, rfl⟩))
  go_wp2
  go_ret2
  exact ⟨rfl, chain1 w _ hb⟩
set_option maxRecDepth 100000 in
set_option maxHeartbeats 1000000 in
theorem held2no (s : ByteArray) (w : World) (h : decide ((s.size : Int) ≤ 12) = false) :
    Calls Tryz.prog 192 #[.agg #[.int .i64 2, .int .i64 0, .string s]] w (HeldNo w) := by
  have hm := rightOfStr s
  go_enter Tryz.func192, Tryz.ntmps192
  go_wp2_with fail
  go_region_held3 (fun w' => w'.cell? ⟨w.heap.size, 0, none⟩ = some (.int .i64 2) ∧ w'.cell? ⟨w.heap.size, 1, none⟩ = some (.int .i64 0) ∧ w'.cell? ⟨w.heap.size, 2, none⟩ = some (.string s)) (first | go_keep | (refine ⟨?_, ?_, ?_⟩ <;> (rw [hb.cell (by simp)]; simp)) | (refine ⟨?_, ?_, ?_⟩ <;> (rw [hb2.cell (by have := hb.size; simp at this; simp; omega), hb.cell (by simp)]; simp)))
    (first | (go_at_call 214; refine (implValOfStr _ _).mono ?_; rintro e w1 ⟨rfl, hb⟩) | (go_at_call 248; refine (rightStr _ _).mono ?_; rintro e w2 ⟨rfl, rfl⟩))
  go_wp2
  go_ret2
  exact ⟨rfl, chain1 w _ hb⟩
set_option maxRecDepth 100000 in
set_option maxHeartbeats 1000000 in
theorem held2n (n : Int) (s : ByteArray) (w : World) (hn : ¬ n = 0) :
    Calls Tryz.prog 192 #[.agg #[.int .i64 2, .int .i64 n, .string s]] w (HeldNo w) := by
  have e1 : (0 == n) = false := by simp; omega
  go_enter Tryz.func192, Tryz.ntmps192
  go_wp2_with fail
  first | (go_region_with ((go_at_call 214; refine (implValOfStr _ _).mono ?_; rintro e w1 ⟨rfl, hb⟩; obtain ⟨r0, r1, r2⟩ := boxed hb))) | fail
  all_goals
    go_wp2
    go_ret2
    exact ⟨rfl, chain1 w _ hb⟩
theorem heldElse (k n : Int) (s : ByteArray) (w : World) (k0 : (k == 0) = false) (k1 : (k == 1) = false) (k2 : (k == 2) = false) :
    Calls Tryz.prog 192 #[.agg #[.int .i64 k, .int .i64 n, .string s]] w (HeldNo w) := by
  go_enter Tryz.func192, Tryz.ntmps192
  go_wp2
  go_ret2
  exact ⟨rfl, (Below.refl _ _).alloc (Nat.le_refl _) _⟩
theorem heldYes (k n : Int) (s : ByteArray) (w : World) (h : valOkB k n s = true) :
    Calls Tryz.prog 192 #[.agg #[.int .i64 k, .int .i64 n, .string s]] w (HeldOk k n s w) := by
  unfold valOkB at h
  by_cases k0 : k = 0
  · subst k0
    simp at h
    obtain ⟨rfl, hs⟩ := h
    exact held0yes s w hs
  by_cases k1 : k = 1
  · subst k1
    simp at h
    exact held1yes n s w h.2 (by simpa using h.1)
  by_cases k2 : k = 2
  · subst k2
    simp at h
    obtain ⟨rfl, hs⟩ := h
    exact held2yes s w (by simpa using hs)
  · simp [k0, k1, k2] at h
theorem heldNo (k n : Int) (s : ByteArray) (w : World) (h : valOkB k n s = false) :
    Calls Tryz.prog 192 #[.agg #[.int .i64 k, .int .i64 n, .string s]] w (HeldNo w) := by
  unfold valOkB at h
  by_cases k0 : k = 0
  · subst k0
    by_cases hs : s.toList = []
    · by_cases hn : n = 0
      · simp [hs, hn] at h
      · exact held0n n s w hn
    · exact held0s n s w hs
  by_cases k1 : k = 1
  · subst k1
    by_cases hs : s.toList = []
    · refine held1no n s w hs ?_
      simpa [hs] using h
    · exact held1s n s w hs
  by_cases k2 : k = 2
  · subst k2
    by_cases hn : n = 0
    · subst hn
      refine held2no s w ?_
      simpa using h
    · exact held2n n s w hn
  · exact heldElse k n s w (by simpa using k0) (by simpa using k1) (by simpa using k2)
theorem implValOk (k n : Int) (s : ByteArray) (w : World) :
    Calls Tryz.prog 167 #[.agg #[.int .i64 k, .int .i64 n, .string s]] w fun e w' => e = .returned (.bool (valOkB k n s)) ∧ Below w.heap.size w w' := by
  have hb0 := (Below.refl w.heap.size w).alloc (Nat.le_refl _) (.cells #[.int .i64 k, .int .i64 n, .string s] 93)
  cases h : valOkB k n s
  · have H := Lib.hid h; clear h
    go_enter Tryz.func167, Tryz.ntmps167
    go_wp2_with fail
    refine (heldNo k n s _ H.out).mono ?_
    rintro e w1 ⟨rfl, hb⟩
    go_wp2
    go_ret
    exact ⟨rfl, hb0.trans (hb.mono (by simp))⟩
  · have H := Lib.hid h; clear h
    go_enter Tryz.func167, Tryz.ntmps167
    go_wp2_with fail
    refine (heldYes k n s _ H.out).mono ?_
    rintro e w1 ⟨rfl, hb⟩
    go_wp2
    go_ret
    exact ⟨rfl, hb0.trans (hb.mono (by simp))⟩
def cmpI (x y : Int) : Int := if x < y then -1 else if y < x then 1 else 0
def cmpS (x y : ByteArray) : Int := if Op.bytesLess x.toList y.toList = true then -1 else if x.toList = y.toList then 0 else 1
def firstNZ (x y z : Int) : Int := if x ≠ 0 then x else if y ≠ 0 then y else z
theorem cmpInt (x y : Int) (w : World) :
    Calls Tryz.prog 120 #[.int .i64 x, .int .i64 y] w fun e w' => e = .returned (.int .i64 (cmpI x y)) ∧ w = w' := by
  unfold cmpI
  by_cases h : x < y
  · rw [if_pos h]
    go_enter Tryz.func120, Tryz.ntmps120
    go_wp2
    go_ret
    exact ⟨rfl, rfl⟩
  by_cases h2 : y < x
  · rw [if_neg h, if_pos h2]
    have hd : decide (x < y) = false := by simpa using h
    go_enter Tryz.func120, Tryz.ntmps120
    go_wp2
    go_ret
    exact ⟨rfl, rfl⟩
  · rw [if_neg h, if_neg h2]
    have hd : decide (x < y) = false := by simpa using h
    have hd2 : decide (y < x) = false := by simpa using h2
    go_enter Tryz.func120, Tryz.ntmps120
    go_wp2
    go_ret
    exact ⟨rfl, rfl⟩
theorem cmpStr (x y : ByteArray) (w : World) :
    Calls Tryz.prog 195 #[.string x, .string y] w fun e w' => e = .returned (.int .i64 (cmpS x y)) ∧ w = w' := by
  unfold cmpS
  by_cases h : Op.bytesLess x.toList y.toList = true
  · rw [if_pos h]
    go_enter Tryz.func195, Tryz.ntmps195
    go_wp2
    go_ret
    exact ⟨rfl, rfl⟩
  have h' : Op.bytesLess x.toList y.toList = false := by simpa using h
  by_cases h2 : x.toList = y.toList
  · rw [if_neg h, if_pos h2]
    have h3 : (x.toList == y.toList) = true := by simpa using h2
    clear h h2
    go_enter Tryz.func195, Tryz.ntmps195
    go_wp2
    go_ret
    exact ⟨rfl, rfl⟩
  · rw [if_neg h, if_neg h2]
    have h3 : (x.toList == y.toList) = false := by simpa using h2
    clear h
    go_enter Tryz.func195, Tryz.ntmps195
    go_wp2
    go_ret
    exact ⟨rfl, rfl⟩
set_option maxHeartbeats 1000000 in
theorem cmpOr (b : Nat) (x y z : Int) (w : World) (h0 : w.cell? ⟨b, 0, none⟩ = some (.int .i64 x)) (h1 : w.cell? ⟨b, 1, none⟩ = some (.int .i64 y)) (h2 : w.cell? ⟨b, 2, none⟩ = some (.int .i64 z)) :
    Calls Tryz.prog 117 #[.slice (some ⟨b, 0, none⟩) 3 3] w fun e w' => e = .returned (.int .i64 (firstNZ x y z)) ∧ w = w' := by
  by_cases hx : x = 0
  · subst hx
    by_cases hy : y = 0
    · subst hy
      by_cases hz : z = 0
      · subst hz
        rw [show firstNZ 0 0 0 = 0 by decide]
        go_enter Tryz.func117, Tryz.ntmps117
        go_wp2
        refine wp_loop_rounds 4 ?_
        rw [rounds_succ]
        go_wp2
        rw [rounds_succ]
        go_wp2
        rw [rounds_succ]
        go_wp2
        rw [rounds_succ]
        go_wp2
        go_ret
        exact ⟨rfl, rfl⟩
      · rw [show firstNZ 0 0 z = z by simp [firstNZ]]
        have hz' : (z != 0) = true := by simpa using hz
        go_enter Tryz.func117, Tryz.ntmps117
        go_wp2
        refine wp_loop_rounds 4 ?_
        rw [rounds_succ]
        go_wp2
        rw [rounds_succ]
        go_wp2
        rw [rounds_succ]
        go_wp2
        go_ret
        exact ⟨rfl, rfl⟩
    · rw [show firstNZ 0 y z = y by simp [firstNZ, hy]]
      have hy' : (y != 0) = true := by simpa using hy
      go_enter Tryz.func117, Tryz.ntmps117
      go_wp2
      refine wp_loop_rounds 4 ?_
      rw [rounds_succ]
      go_wp2
      rw [rounds_succ]
      go_wp2
      go_ret
      exact ⟨rfl, rfl⟩
  · rw [show firstNZ x y z = x by simp [firstNZ, hx]]
    have hx' : (x != 0) = true := by simpa using hx
    go_enter Tryz.func117, Tryz.ntmps117
    go_wp2
    refine wp_loop_rounds 4 ?_
    rw [rounds_succ]
    go_wp2
    go_ret
    exact ⟨rfl, rfl⟩
def szN (left : Int) (s : ByteArray) : Int := if left - s.size < 0 then -1 else left - s.size
theorem lawsSzVal (k n : Int) (s : ByteArray) (left : Int) (w : World) (h0 : 0 ≤ left) (h1 : left ≤ 1048576) (hs : s.size ≤ maxLen) :
    Calls Tryz.prog 39 #[.agg #[.int .i64 k, .int .i64 n, .string s], .int .i64 left] w fun e w' => e = .returned (.int .i64 (szN left s)) ∧ Below w.heap.size w w' := by
  unfold maxLen at hs
  unfold szN
  by_cases h : left - s.size < 0
  · rw [if_pos h]
    go_enter Tryz.func39, Tryz.ntmps39
    go_wp2
    go_ret
    exact ⟨rfl, (Below.refl _ _).alloc (Nat.le_refl _) _⟩
  · rw [if_neg h]
    have h' : decide (left - (s.size : Int) < 0) = false := by simpa using h
    go_enter Tryz.func39, Tryz.ntmps39
    go_wp2
    go_ret
    exact ⟨rfl, (Below.refl _ _).alloc (Nat.le_refl _) _⟩
set_option maxHeartbeats 400000 in
theorem lawsToVal (k n : Int) (s : ByteArray) (w : World) :
    Calls Tryz.prog 46 #[.agg #[.int .i64 k, .int .i64 n, .string s]] w fun e w' => e = .returned (.agg #[.int .i64 k, .int .i64 n, .string s]) ∧ Below w.heap.size w w' := by
  go_enter Tryz.func46, Tryz.ntmps46
  go_wp2
  exact bodyPost_ret (v := .agg #[.int .i64 k, .int .i64 n, .string s]) (by simp [results, Tryz.results46, go_sem]) rfl
    ⟨rfl, (((Below.refl _ _).alloc (Nat.le_refl _) _).alloc (by simp) _).alloc (by simp; omega) _⟩
structure Vl where
  k : Int
  n : Int
  s : ByteArray
structure Tk where
  k : Int
  c : Int
  vk : Int
  vn : Int
  vs : ByteArray
def zeroB (k n : Int) (s : ByteArray) : Bool := k == 0 && (n == 0 && s.toList.isEmpty)
def isOpB (k : Int) : Bool := decide (3 ≤ k) && decide (k ≤ 10)
def tokB (t : Tk) (cols : Int) : Bool :=
  if t.k = 1 then decide (0 ≤ t.c) && (decide (t.c < cols) && zeroB t.vk t.vn t.vs)
  else if t.k = 2 then t.c == 0 && valOkB t.vk t.vn t.vs
  else if isOpB t.k then t.c == 0 && zeroB t.vk t.vn t.vs else false
def takes (k : Int) : Nat := if k = 7 ∨ k = 8 then 1 else if k = 3 ∨ k = 4 ∨ k = 5 ∨ k = 6 ∨ k = 9 ∨ k = 10 then 2 else 0
def exprGo (cols : Int) : List Tk → Nat → Option Nat
  | [], left => some left
  | t :: ts, left => if tokB t cols = true ∧ takes t.k ≤ left then exprGo cols ts (left - takes t.k + 1) else none
def exprB (ts : List Tk) (cols : Int) : Bool := decide (0 ≤ cols) && (decide (cols ≤ 16) && (decide (ts.length ≤ 24) && exprGo cols ts 0 == some 1))
theorem exprGo_append (cols : Int) : ∀ (a b : List Tk) (n : Nat), exprGo cols (a ++ b) n = (exprGo cols a n).bind (exprGo cols b)
  | [], b, n => rfl
  | t :: ts, b, n => by
    simp only [List.cons_append, exprGo]
    split
    · exact exprGo_append cols ts b _
    · rfl
theorem takes_le (k : Int) : takes k ≤ 2 := by unfold takes; split <;> (try split) <;> omega
theorem exprGo_snoc (cols : Int) (ts : List Tk) (i : Nat) (hi : i < ts.length) (n m : Nat) (h : exprGo cols (ts.take i) n = some m) :
    exprGo cols (ts.take (i + 1)) n = if tokB ts[i] cols = true ∧ takes ts[i].k ≤ m then some (m - takes ts[i].k + 1) else none := by
  rw [List.take_succ_eq_append_getElem hi, exprGo_append, h]
  simp [exprGo]
theorem exprGo_dead (cols : Int) (ts : List Tk) (i : Nat) (n : Nat) (h : exprGo cols (ts.take i) n = none) : exprGo cols ts n = none := by
  have e : ts = ts.take i ++ ts.drop i := (List.take_append_drop i ts).symm
  rw [e, exprGo_append, h]
  rfl
def Tk.cells (t : Tk) : List Value := [.int .i64 t.k, .int .i64 t.c, .int .i64 t.vk, .int .i64 t.vn, .string t.vs]
def Toks (w : World) (A : Option Addr) (n : Nat) (ts : List Tk) : Prop := Cellz w 5 A n (ts.map Tk.cells)
theorem Toks.len {w : World} {A : Option Addr} {n : Nat} {ts : List Tk} (h : Toks w A n ts) : ts.length = n := by simpa using h.1
theorem Toks.below {w w' : World} {A : Option Addr} {n : Nat} {ts : List Tk} (h : Toks w A n ts) (hb : Below w.heap.size w w') : Toks w' A n ts := Cellz.below h hb
theorem Toks.at_ {w : World} {A : Option Addr} {n : Nat} {ts : List Tk} (h : Toks w A n ts) {i : Nat} (hi : i < ts.length) :
    ∃ b off, A = some ⟨b, off, none⟩ ∧ w.cell? ⟨b, off + i * 5, none⟩ = some (.int .i64 ts[i].k) ∧ w.cell? ⟨b, off + i * 5 + 1, none⟩ = some (.int .i64 ts[i].c) ∧
      w.cell? ⟨b, off + i * 5 + 2, none⟩ = some (.int .i64 ts[i].vk) ∧ w.cell? ⟨b, off + i * 5 + 3, none⟩ = some (.int .i64 ts[i].vn) ∧ w.cell? ⟨b, off + i * 5 + 4, none⟩ = some (.string ts[i].vs) := by
  have hl := h.len
  obtain ⟨b, off, rfl, hc⟩ := h.2.2 (by omega)
  have hi' : i < (ts.map Tk.cells).length := by simpa using hi
  have g : ∀ j v, ts[i].cells[j]? = some v → w.cell? ⟨b, off + i * 5 + j, none⟩ = some v := by
    intro j v hv
    have e : (ts.map Tk.cells)[i] = ts[i].cells := by simp
    obtain ⟨hj, hv'⟩ := List.getElem?_eq_some_iff.1 hv
    have := hc i hi' j (by rw [e]; exact hj)
    rw [Nat.add_assoc, this]
    simp only [e, hv']
  exact ⟨b, off, rfl, g 0 _ rfl, g 1 _ rfl, g 2 _ rfl, g 3 _ rfl, g 4 _ rfl⟩
theorem implIsOp (k : Int) (w : World) : Calls Tryz.prog 213 #[.int .i64 k] w fun e w' => e = .returned (.bool (isOpB k)) ∧ w = w' := by
  unfold isOpB
  by_cases h : 3 ≤ k
  · go_enter Tryz.func213, Tryz.ntmps213
    go_wp2
    go_ret
    exact ⟨retB (by simp [h]), rfl⟩
  · have h' : decide (3 ≤ k) = false := by simpa using h
    go_enter Tryz.func213, Tryz.ntmps213
    go_wp2
    go_ret
    exact ⟨retB (by simp), rfl⟩
set_option maxRecDepth 100000 in
set_option maxHeartbeats 1000000 in
theorem implTokOk (t : Tk) (cols : Int) (w : World) :
    Calls Tryz.prog 190 #[.agg #[.int .i64 t.k, .int .i64 t.c, .int .i64 t.vk, .int .i64 t.vn, .string t.vs], .int .i64 cols] w fun e w' => e = .returned (.bool (tokB t cols)) ∧ Below w.heap.size w w' := by
  obtain ⟨k, c, vk, vn, vs⟩ := t
  have hb := (Below.refl w.heap.size w).alloc (Nat.le_refl _) (.cells #[.int .i64 k, .int .i64 c, .int .i64 vk, .int .i64 vn, .string vs] 180)
  have HB := Lib.hid hb
  clear hb
  by_cases h1 : k = 1
  · subst h1
    go_enter Tryz.func190, Tryz.ntmps190
    go_wp2
    all_goals
      go_ret
      exact ⟨retB (by first | (simp [tokB, zeroB, *]; done) | (simp [tokB, zeroB]; omega)), (Below.refl _ _).alloc (Nat.le_refl _) _⟩
  have e1 : (k == 1) = false := by simpa using h1
  by_cases h2 : k = 2
  · subst h2
    by_cases hc : c = 0
    · subst hc
      go_enter Tryz.func190, Tryz.ntmps190
      go_wp2_with fail
      refine (implValOk _ _ _ _).mono ?_
      rintro e w1 ⟨rfl, hb1⟩
      go_wp2
      go_ret
      exact ⟨retB (by simp [tokB]), HB.out.trans (hb1.mono (by simp))⟩
    · have ec : (c == 0) = false := by simpa using hc
      go_enter Tryz.func190, Tryz.ntmps190
      go_wp2
      go_ret
      exact ⟨retB (by simp [tokB, hc]), (Below.refl _ _).alloc (Nat.le_refl _) _⟩
  have e2 : (k == 2) = false := by simpa using h2
  cases ho : isOpB k
  · have HO := Lib.hid ho
    go_enter Tryz.func190, Tryz.ntmps190
    go_wp2_with fail
    refine (implIsOp _ _).mono ?_
    rintro e w1 ⟨rfl, rfl⟩
    go_wp2
    go_ret
    exact ⟨retB (by simp [tokB, h1, h2, HO.out]), (Below.refl _ _).alloc (Nat.le_refl _) _⟩
  · have HO := Lib.hid ho
    go_enter Tryz.func190, Tryz.ntmps190
    go_wp2_with fail
    refine (implIsOp _ _).mono ?_
    rintro e w1 ⟨rfl, rfl⟩
    go_wp2
    all_goals
      go_ret
      exact ⟨retB (by simp [tokB, zeroB, HO.out, *]), (Below.refl _ _).alloc (Nat.le_refl _) _⟩
def opsCells : Array Value := #[.string ⟨#[]⟩, .int .i64 0, .nilFunc, .string ⟨#[]⟩, .int .i64 0, .nilFunc, .string ⟨#[]⟩, .int .i64 0, .nilFunc, .string ⟨#[61]⟩, .int .i64 2, .func (.func 205) #[] #[], .string ⟨#[60]⟩, .int .i64 2, .func (.func 206) #[] #[], .string ⟨#[97, 110, 100]⟩, .int .i64 2, .func (.func 207) #[] #[], .string ⟨#[111, 114]⟩, .int .i64 2, .func (.func 208) #[] #[], .string ⟨#[110, 111, 116]⟩, .int .i64 1, .func (.func 209) #[] #[], .string ⟨#[105, 115, 110, 117, 108, 108]⟩, .int .i64 1, .func (.func 210) #[] #[], .string ⟨#[43]⟩, .int .i64 2, .func (.func 211) #[] #[], .string ⟨#[45]⟩, .int .i64 2, .func (.func 212) #[] #[]]
def opsZero : Array Value := #[.string ⟨#[]⟩, .int .i64 0, .nilFunc, .string ⟨#[]⟩, .int .i64 0, .nilFunc, .string ⟨#[]⟩, .int .i64 0, .nilFunc, .string ⟨#[]⟩, .int .i64 0, .nilFunc, .string ⟨#[]⟩, .int .i64 0, .nilFunc, .string ⟨#[]⟩, .int .i64 0, .nilFunc, .string ⟨#[]⟩, .int .i64 0, .nilFunc, .string ⟨#[]⟩, .int .i64 0, .nilFunc, .string ⟨#[]⟩, .int .i64 0, .nilFunc, .string ⟨#[]⟩, .int .i64 0, .nilFunc, .string ⟨#[]⟩, .int .i64 0, .nilFunc]
set_option maxRecDepth 100000 in
set_option maxHeartbeats 1000000 in
theorem implOpTable (w : World) :
    Calls Tryz.prog 189 #[] w fun e w' => e = .returned (.agg opsCells) ∧ Below w.heap.size w w' := by
  have hsz : (Tryz.prog.info? 264).map (·.size) = some opsCells.size := by kernel_rfl
  have hg := Go.heap_alloc_last w (.cells opsCells 264)
  have h1 : opsCells.all (·.oneCell') = true := by simp [opsCells, Value.oneCell']
  have HS := Lib.hid hsz
  have H1 := Lib.hid h1
  have HG := Lib.hid hg
  clear hsz hg h1
  go_enter Tryz.func189, Tryz.ntmps189
  go_wp2_with (refine wpList_store_row rfl 264 (.tmp 0) (.tmp 9) rfl w.heap.size opsCells rfl rfl 264 opsZero (Go.heap_alloc_last w (.cells opsZero 264)) HS.out rfl H1.out ?_)
  rw [World.setRow_alloc_new]
  exact bodyPost_ret (results_cell_row (p := 0) (ty := 264) rfl _ _ w.heap.size 264 opsCells (0, 0) _ rfl HG.out Tryz.underlying264 rfl HS.out) rfl ⟨rfl, (Below.refl _ _).alloc (Nat.le_refl _) _⟩
def takesOr (t : Tk) (cols : Int) : Int := if tokB t cols = true then takes t.k else -1
set_option maxRecDepth 100000 in
set_option maxHeartbeats 4000000 in
theorem specTakes (t : Tk) (cols : Int) (w : World) (h0 : 0 ≤ cols) (h16 : cols ≤ 16) :
    Calls Tryz.prog 174 #[.agg #[.int .i64 t.k, .int .i64 t.c, .int .i64 t.vk, .int .i64 t.vn, .string t.vs], .int .i64 cols] w fun e w' => e = .returned (.int .i64 (takesOr t cols)) ∧ Below w.heap.size w w' := by
  obtain ⟨k, c, vk, vn, vs⟩ := t
  by_cases h1 : k = 1
  · subst h1
    go_enter Tryz.func174, Tryz.ntmps174
    go_wp2_with (go_at_call 41; refine (specIn _ _ _ _).mono ?_; rintro e w1 ⟨rfl, rfl⟩)
    all_goals
      go_ret
      exact ⟨retI (by first | (simp [takesOr, tokB, zeroB, takes, *]; done) | (simp [takesOr, tokB, zeroB, takes, *]; omega)), (Below.refl _ _).alloc (Nat.le_refl _) _⟩
  have e1 : (k == 1) = false := by simpa using h1
  have d1 : (k != 1) = true := by simpa using h1
  by_cases h2 : k = 2
  · subst h2
    by_cases hc : c = 0
    · subst hc
      go_enter Tryz.func174, Tryz.ntmps174
      go_wp2_with fail
      refine (specValOk _ _ _ _).mono ?_
      rintro e w1 ⟨rfl, hb1⟩
      have HB := Lib.hid (((Below.refl w.heap.size w).alloc (Nat.le_refl _) _).trans (hb1.mono (by simp)))
      clear hb1
      go_wp2
      all_goals
        go_ret
        exact ⟨retI (by simp [takesOr, tokB, takes, *]), HB.out⟩
    · have ec : (c != 0) = true := by simpa using hc
      go_enter Tryz.func174, Tryz.ntmps174
      go_wp2
      go_ret
      exact ⟨retI (by simp [takesOr, tokB, hc]), (Below.refl _ _).alloc (Nat.le_refl _) _⟩
  have e2 : (k == 2) = false := by simpa using h2
  have d2 : (k != 2) = true := by simpa using h2
  by_cases h7 : k = 7
  · subst h7
    by_cases hc : c = 0
    · subst hc
      go_enter Tryz.func174, Tryz.ntmps174
      go_wp2
      all_goals
        go_ret
        exact ⟨retI (by simp [takesOr, tokB, zeroB, isOpB, takes, *]), (Below.refl _ _).alloc (Nat.le_refl _) _⟩
    · have ec : (c != 0) = true := by simpa using hc
      go_enter Tryz.func174, Tryz.ntmps174
      go_wp2
      go_ret
      exact ⟨retI (by simp [takesOr, tokB, isOpB, hc]), (Below.refl _ _).alloc (Nat.le_refl _) _⟩
  have e7 : (k == 7) = false := by simpa using h7
  by_cases h8 : k = 8
  · subst h8
    by_cases hc : c = 0
    · subst hc
      go_enter Tryz.func174, Tryz.ntmps174
      go_wp2
      all_goals
        go_ret
        exact ⟨retI (by simp [takesOr, tokB, zeroB, isOpB, takes, *]), (Below.refl _ _).alloc (Nat.le_refl _) _⟩
    · have ec : (c != 0) = true := by simpa using hc
      go_enter Tryz.func174, Tryz.ntmps174
      go_wp2
      go_ret
      exact ⟨retI (by simp [takesOr, tokB, isOpB, hc]), (Below.refl _ _).alloc (Nat.le_refl _) _⟩
  have e8 : (k == 8) = false := by simpa using h8
  by_cases h3 : k = 3
  · subst h3
    by_cases hc : c = 0
    · subst hc
      go_enter Tryz.func174, Tryz.ntmps174
      go_wp2
      all_goals
        go_ret
        exact ⟨retI (by simp [takesOr, tokB, zeroB, isOpB, takes, *]), (Below.refl _ _).alloc (Nat.le_refl _) _⟩
    · have ec : (c != 0) = true := by simpa using hc
      go_enter Tryz.func174, Tryz.ntmps174
      go_wp2
      go_ret
      exact ⟨retI (by simp [takesOr, tokB, isOpB, hc]), (Below.refl _ _).alloc (Nat.le_refl _) _⟩
  have e3 : (k == 3) = false := by simpa using h3
  by_cases h4 : k = 4
  · subst h4
    by_cases hc : c = 0
    · subst hc
      go_enter Tryz.func174, Tryz.ntmps174
      go_wp2
      all_goals
        go_ret
        exact ⟨retI (by simp [takesOr, tokB, zeroB, isOpB, takes, *]), (Below.refl _ _).alloc (Nat.le_refl _) _⟩
    · have ec : (c != 0) = true := by simpa using hc
      go_enter Tryz.func174, Tryz.ntmps174
      go_wp2
      go_ret
      exact ⟨retI (by simp [takesOr, tokB, isOpB, hc]), (Below.refl _ _).alloc (Nat.le_refl _) _⟩
  have e4 : (k == 4) = false := by simpa using h4
  by_cases h5 : k = 5
  · subst h5
    by_cases hc : c = 0
    · subst hc
      go_enter Tryz.func174, Tryz.ntmps174
      go_wp2
      all_goals
        go_ret
        exact ⟨retI (by simp [takesOr, tokB, zeroB, isOpB, takes, *]), (Below.refl _ _).alloc (Nat.le_refl _) _⟩
    · have ec : (c != 0) = true := by simpa using hc
      go_enter Tryz.func174, Tryz.ntmps174
      go_wp2
      go_ret
      exact ⟨retI (by simp [takesOr, tokB, isOpB, hc]), (Below.refl _ _).alloc (Nat.le_refl _) _⟩
  have e5 : (k == 5) = false := by simpa using h5
  by_cases h6 : k = 6
  · subst h6
    by_cases hc : c = 0
    · subst hc
      go_enter Tryz.func174, Tryz.ntmps174
      go_wp2
      all_goals
        go_ret
        exact ⟨retI (by simp [takesOr, tokB, zeroB, isOpB, takes, *]), (Below.refl _ _).alloc (Nat.le_refl _) _⟩
    · have ec : (c != 0) = true := by simpa using hc
      go_enter Tryz.func174, Tryz.ntmps174
      go_wp2
      go_ret
      exact ⟨retI (by simp [takesOr, tokB, isOpB, hc]), (Below.refl _ _).alloc (Nat.le_refl _) _⟩
  have e6 : (k == 6) = false := by simpa using h6
  by_cases h9 : k = 9
  · subst h9
    by_cases hc : c = 0
    · subst hc
      go_enter Tryz.func174, Tryz.ntmps174
      go_wp2
      all_goals
        go_ret
        exact ⟨retI (by simp [takesOr, tokB, zeroB, isOpB, takes, *]), (Below.refl _ _).alloc (Nat.le_refl _) _⟩
    · have ec : (c != 0) = true := by simpa using hc
      go_enter Tryz.func174, Tryz.ntmps174
      go_wp2
      go_ret
      exact ⟨retI (by simp [takesOr, tokB, isOpB, hc]), (Below.refl _ _).alloc (Nat.le_refl _) _⟩
  have e9 : (k == 9) = false := by simpa using h9
  by_cases h10 : k = 10
  · subst h10
    by_cases hc : c = 0
    · subst hc
      go_enter Tryz.func174, Tryz.ntmps174
      go_wp2
      all_goals
        go_ret
        exact ⟨retI (by simp [takesOr, tokB, zeroB, isOpB, takes, *]), (Below.refl _ _).alloc (Nat.le_refl _) _⟩
    · have ec : (c != 0) = true := by simpa using hc
      go_enter Tryz.func174, Tryz.ntmps174
      go_wp2
      go_ret
      exact ⟨retI (by simp [takesOr, tokB, isOpB, hc]), (Below.refl _ _).alloc (Nat.le_refl _) _⟩
  have e10 : (k == 10) = false := by simpa using h10
  have ho : isOpB k = false := by unfold isOpB; simp; omega
  have HO := Lib.hid ho
  clear ho
  by_cases hc : c = 0
  · subst hc
    go_enter Tryz.func174, Tryz.ntmps174
    go_wp2
    all_goals
      go_ret
      exact ⟨retI (by simp [takesOr, tokB, h1, h2, HO.out]), (Below.refl _ _).alloc (Nat.le_refl _) _⟩
  · have ec : (c != 0) = true := by simpa using hc
    go_enter Tryz.func174, Tryz.ntmps174
    go_wp2
    all_goals
      go_ret
      exact ⟨retI (by simp [takesOr, tokB, h1, h2, HO.out]), (Below.refl _ _).alloc (Nat.le_refl _) _⟩
def l2B (ts : List Tk) (cols : Int) : Bool := exprGo cols ts 0 == some 1 && decide (ts.length ≤ 24)
set_option maxRecDepth 100000 in
set_option maxHeartbeats 1000000 in
theorem specL2Expr (A : Option Addr) (n cap : Nat) (ts : List Tk) (cols : Int) (w : World) (h : Toks w A n ts) (hn : n ≤ maxLen) (h0 : 0 ≤ cols) (h16 : cols ≤ 16) :
    Calls Tryz.prog 135 #[.slice A n cap, .int .i64 cols] w fun e w' => e = .returned (.bool (l2B ts cols)) ∧ Below w.heap.size w w' := by
  unfold maxLen at hn
  obtain rfl : n = ts.length := h.len.symm
  go_enter Tryz.func135, Tryz.ntmps135
  go_wp2
  go_loopw [5, 6] (fun m i wr => ∃ k l : Nat, k ≤ ts.length ∧ i = .int .i64 k ∧ m = .int .i64 l ∧ l ≤ k ∧ Hid (exprGo cols (ts.take k) 0 = some l) ∧ Below w.heap.size w wr) (fun _ i _ => ts.length - (intOf i).toNat)
  case atStart => exact ⟨0, 0, by omega, rfl, rfl, by omega, Lib.hid (by simp [exprGo]), Below.refl _ _⟩
  case round =>
    obtain ⟨k, l, hk, rfl, rfl, hlk, hgo, hb⟩ := hrel
    by_cases hlt : k < ts.length
    · obtain ⟨b, off, rfl, c0, c1, c2, c3, c4⟩ := (h.below hb).at_ hlt
      have hsn := Lib.hid (exprGo_snoc cols ts k hlt 0 l hgo.out)
      by_cases ht : tokB ts[k] cols = true ∧ takes ts[k].k ≤ l
      · have HT := Lib.hid ht
        have hq : takesOr ts[k] cols = takes ts[k].k := by simp [takesOr, ht.1]
        have HQ := Lib.hid hq
        have hq2 := takes_le ts[k].k
        have hq3 := ht.2
        clear hq ht
        go_wp2_with fail
        refine (specTakes ts[k] cols _ h0 h16).mono ?_
        rintro e w1 ⟨rfl, hb1⟩
        rw [HQ.out]
        generalize takes ts[k].k = q at *
        go_wp2_with fail
        go_roundw
        case rel => exact ⟨k + 1, l - q + 1, by omega, by go_num, by go_num, by omega, Lib.hid (by rw [hsn.out, if_pos HT.out]), hb.trans (hb1.mono hb.size)⟩
        case measure => simp [intOf]; omega
      · have HT := Lib.hid ht
        have hd : exprGo cols ts 0 = none := exprGo_dead cols ts (k + 1) 0 (by rw [hsn.out, if_neg ht])
        have HD := Lib.hid (show l2B ts cols = false by simp [l2B, hd])
        by_cases ht1 : tokB ts[k] cols = true
        · have hq : takesOr ts[k] cols = takes ts[k].k := by simp [takesOr, ht1]
          have HQ := Lib.hid hq
          have hq2 := takes_le ts[k].k
          have hq3 : l < takes ts[k].k := Nat.lt_of_not_le fun x => ht ⟨ht1, x⟩
          clear hq ht hd ht1
          go_wp2_with fail
          refine (specTakes ts[k] cols _ h0 h16).mono ?_
          rintro e w1 ⟨rfl, hb1⟩
          rw [HQ.out]
          generalize takes ts[k].k = q at *
          go_wp2_with fail
          go_ret
          exact ⟨retB (by rw [HD.out]), hb.trans (hb1.mono hb.size)⟩
        · have hq : takesOr ts[k] cols = -1 := by simp [takesOr, ht1]
          have HQ := Lib.hid hq
          clear hq ht hd ht1
          go_wp2_with fail
          refine (specTakes ts[k] cols _ h0 h16).mono ?_
          rintro e w1 ⟨rfl, hb1⟩
          rw [HQ.out]
          go_wp2_with fail
          go_ret
          exact ⟨retB (by rw [HD.out]), hb.trans (hb1.mono hb.size)⟩
    · have e : ts.take k = ts := List.take_of_length_le (by omega)
      have hg2 := hgo.out
      rw [e] at hg2
      have HF := Lib.hid (show l2B ts cols = (l == 1 && decide (ts.length ≤ 24)) by simp [l2B, hg2])
      clear hgo e hg2
      by_cases hl1 : l = 1
      · subst hl1
        go_wp2
        go_ret
        exact ⟨retB (by rw [HF.out]; simp; omega), hb⟩
      · have el : ((l : Int) == 1) = false := by simp; omega
        go_wp2
        go_ret
        exact ⟨retB (by rw [HF.out]; simp [hl1]), hb⟩
theorem ops_takes (k : Nat) (h : k < 11) : opsCells[k * 3 + 1]? = some (.int .i64 (takes k)) := by
  have : k = 0 ∨ k = 1 ∨ k = 2 ∨ k = 3 ∨ k = 4 ∨ k = 5 ∨ k = 6 ∨ k = 7 ∨ k = 8 ∨ k = 9 ∨ k = 10 := by omega
  rcases this with rfl | rfl | rfl | rfl | rfl | rfl | rfl | rfl | rfl | rfl | rfl <;> rfl
theorem tokB_kind {t : Tk} {cols : Int} (h : tokB t cols = true) : 1 ≤ t.k ∧ t.k ≤ 10 := by
  unfold tokB isOpB at h
  split at h
  · omega
  · split at h
    · omega
    · split at h
      · rename_i h'; simp at h'; omega
      · cases h
theorem new_at {w w' : World} {xs : Array Value} {T : TypeId} (hb : Below (w.alloc (.cells xs T)).heap.size (w.alloc (.cells xs T)) w') (j : Nat) (v : Value) (hv : xs[j]? = some v) : w'.cell? ⟨w.heap.size, j, none⟩ = some v := by
  rw [hb.cell (by simp), World.cell?_alloc_new]
  exact hv
set_option maxRecDepth 100000 in
set_option maxHeartbeats 1000000 in
theorem implExprOk (A : Option Addr) (n cap : Nat) (ts : List Tk) (cols : Int) (w : World) (h : Toks w A n ts) (hn : n ≤ maxLen) :
    Calls Tryz.prog 150 #[.slice A n cap, .int .i64 cols] w fun e w' => e = .returned (.bool (exprB ts cols)) ∧ Below w.heap.size w w' := by
  unfold maxLen at hn
  obtain rfl : n = ts.length := h.len.symm
  by_cases h0 : cols < 0
  · go_enter Tryz.func150, Tryz.ntmps150
    go_wp2
    go_ret
    exact ⟨retB (by simp [exprB]; omega), Below.refl _ _⟩
  have e0 : decide (cols < 0) = false := by simpa using h0
  by_cases h16 : 16 < cols
  · go_enter Tryz.func150, Tryz.ntmps150
    go_wp2
    go_ret
    exact ⟨retB (by simp [exprB]; omega), Below.refl _ _⟩
  have e16 : decide (16 < cols) = false := by simpa using h16
  by_cases h24 : (24 : Int) < ts.length
  · go_enter Tryz.func150, Tryz.ntmps150
    go_wp2
    go_ret
    exact ⟨retB (by simp [exprB]; omega), Below.refl _ _⟩
  have e24 : decide ((24 : Int) < ts.length) = false := by simpa using h24
  go_enter Tryz.func150, Tryz.ntmps150
  go_wp2_with fail
  refine (implOpTable _).mono ?_
  rintro e w1 ⟨rfl, hb1⟩
  have hs1 : (Tryz.prog.info? 264).map (·.size) = some opsCells.size := by kernel_rfl
  have hs2 : opsCells.all (·.oneCell') = true := by simp [opsCells, Value.oneCell']
  have S1 := Lib.hid hs1
  have S2 := Lib.hid hs2
  clear hs1 hs2
  go_wp2_with (refine wpList_store_row rfl 264 (.tmp 5) (.tmp 20) rfl w1.heap.size opsCells rfl rfl 264 opsZero (Go.heap_alloc_last w1 (.cells opsZero 264)) S1.out rfl S2.out ?_)
  rw [World.setRow_alloc_new]
  have hg := Go.heap_alloc_last w1 (.cells opsCells 264)
  have hb2 := hb1.trans (((Below.refl w1.heap.size w1).alloc (Nat.le_refl _) (.cells opsCells 264)).mono hb1.size)
  have hg0 : w.heap.size ≤ w1.heap.size := hb1.size
  generalize w1.alloc (.cells opsCells 264) = w2 at *
  generalize w1.heap.size = g at *
  have HG := Lib.hid hg
  clear hg hb1 S1 S2
  go_loopw [6, 23] (fun m i wr => ∃ k l : Nat, k ≤ ts.length ∧ i = .int .i64 k ∧ m = .int .i64 l ∧ l ≤ k ∧ Hid (exprGo cols (ts.take k) 0 = some l) ∧ Below w2.heap.size w2 wr) (fun _ i _ => ts.length - (intOf i).toNat)
  case atStart => exact ⟨0, 0, by omega, rfl, rfl, by omega, Lib.hid (by simp [exprGo]), Below.refl _ _⟩
  case round =>
    obtain ⟨k, l, hk, rfl, rfl, hlk, hgo, hb⟩ := hrel
    by_cases hlt : k < ts.length
    · obtain ⟨b, off, rfl, c0, c1, c2, c3, c4⟩ := (h.below (hb2.trans (hb.mono hb2.size))).at_ hlt
      have hsn := Lib.hid (exprGo_snoc cols ts k hlt 0 l hgo.out)
      cases ht : tokB ts[k] cols
      · have HD := Lib.hid (show exprB ts cols = false by
          have hd := exprGo_dead cols ts (k + 1) 0 (by rw [hsn.out, if_neg (by simp [ht])])
          simp [exprB, hd])
        have HT := Lib.hid ht
        clear ht hsn
        go_wp2_with fail
        refine (implTokOk ts[k] cols _).mono ?_
        rintro e w3 ⟨rfl, hb3⟩
        rw [HT.out]
        go_wp2_with fail
        go_ret
        exact ⟨retB (by rw [HD.out]), hb2.trans ((hb.trans ((((Below.refl wr.heap.size wr).alloc (Nat.le_refl _) _).trans (hb3.mono (by simp))).mono hb.size)).mono hb2.size)⟩
      · have HT := Lib.hid ht
        obtain ⟨k1, k10⟩ := tokB_kind ht
        obtain ⟨kk, hkk⟩ := Int.eq_ofNat_of_zero_le (show 0 ≤ ts[k].k by omega)
        have hk11 : kk < 11 := by omega
        have hops := ops_takes kk hk11
        have htk : takes ts[k].k = takes kk := by rw [hkk]
        have HOPS := Lib.hid hops
        have HTK := Lib.hid htk
        have HKK := Lib.hid hkk
        have hq2 := takes_le kk
        clear ht hops htk hkk k1 k10
        go_wp2_with fail
        refine (implTokOk ts[k] cols _).mono ?_
        rintro e w3 ⟨rfl, hb3⟩
        rw [HT.out]
        have hbt := hb.trans ((((Below.refl wr.heap.size wr).alloc (Nat.le_refl _) _).trans (hb3.mono (by simp))).mono hb.size)
        have t0 : w3.cell? ⟨wr.heap.size, 0, none⟩ = some (.int .i64 kk) := new_at hb3 0 _ (by rw [← HKK.out]; rfl)
        have g0 : w3.cell? ⟨g, kk * 3 + 1, none⟩ = some (.int .i64 (takes kk)) := by
          rw [hbt.cell (lt_of_block HG.out), cell_of_row _ _ _ _ _ _ HG.out]
          exact HOPS.out
        by_cases hle : takes kk ≤ l
        · have hle' : decide ((l : Int) < takes kk) = false := by simp; omega
          go_wp2_with fail
          go_roundw
          case rel => exact ⟨k + 1, l - takes kk + 1, by omega, by go_num, by go_num, by omega, Lib.hid (by rw [hsn.out, if_pos ⟨HT.out, by rw [HTK.out]; exact hle⟩, HTK.out]), hbt⟩
          case measure => simp [intOf]; omega
        · have hle' : decide ((l : Int) < takes kk) = true := by simp; omega
          have HD := Lib.hid (show exprB ts cols = false by
            have hd := exprGo_dead cols ts (k + 1) 0 (by rw [hsn.out, if_neg (by rw [HTK.out]; exact fun x => hle x.2)])
            simp [exprB, hd])
          go_wp2_with fail
          go_ret
          exact ⟨retB (by rw [HD.out]), hb2.trans (hbt.mono hb2.size)⟩
    · have e : ts.take k = ts := List.take_of_length_le (by omega)
      have hg2 := hgo.out
      rw [e] at hg2
      have HF := Lib.hid (show exprB ts cols = (l == 1) by
        have h24' : ts.length ≤ 24 := by omega
        simp [exprB, hg2, h0, h16, h24'])
      clear hgo e hg2
      go_wp2
      go_ret
      exact ⟨retB (by rw [HF.out, Bool.eq_iff_iff]; simp; omega), hb2.trans (hb.mono hb2.size)⟩
theorem lawsSzTok (t : Tk) (left : Int) (w : World) (h0 : 0 ≤ left) (h1 : left ≤ 1048576) (hs : t.vs.size ≤ maxLen) :
    Calls Tryz.prog 131 #[.agg #[.int .i64 t.k, .int .i64 t.c, .int .i64 t.vk, .int .i64 t.vn, .string t.vs], .int .i64 left] w fun e w' => e = .returned (.int .i64 (szN left t.vs)) ∧ Below w.heap.size w w' := by
  have HB := Lib.hid ((Below.refl w.heap.size w).alloc (Nat.le_refl _) (.cells #[.int .i64 t.k, .int .i64 t.c, .int .i64 t.vk, .int .i64 t.vn, .string t.vs] 210))
  by_cases hn : szN left t.vs < 0
  · have HN := Lib.hid (show szN left t.vs = -1 by unfold szN at hn ⊢; split at hn <;> simp_all)
    clear hn
    go_enter Tryz.func131, Tryz.ntmps131
    go_wp2_with fail
    refine (lawsSzVal _ _ _ _ _ h0 h1 hs).mono ?_
    rintro e w1 ⟨rfl, hb1⟩
    rw [HN.out]
    go_wp2
    go_ret
    exact ⟨retI (by rw [HN.out]), HB.out.trans (hb1.mono HB.out.size)⟩
  · have hn' : decide (szN left t.vs < 0) = false := by simpa using hn
    go_enter Tryz.func131, Tryz.ntmps131
    go_wp2_with fail
    refine (lawsSzVal _ _ _ _ _ h0 h1 hs).mono ?_
    rintro e w1 ⟨rfl, hb1⟩
    go_wp2
    go_ret
    exact ⟨rfl, HB.out.trans (hb1.mono HB.out.size)⟩
set_option maxHeartbeats 400000 in
theorem lawsToTok (t : Tk) (w : World) :
    Calls Tryz.prog 143 #[.agg #[.int .i64 t.k, .int .i64 t.c, .int .i64 t.vk, .int .i64 t.vn, .string t.vs]] w fun e w' => e = .returned (.agg #[.int .i64 t.k, .int .i64 t.c, .int .i64 t.vk, .int .i64 t.vn, .string t.vs]) ∧ Below w.heap.size w w' := by
  go_enter Tryz.func143, Tryz.ntmps143
  go_wp2_with fail
  have r2 := Row.new ((w.alloc (.cells #[.int .i64 t.k, .int .i64 t.c, .int .i64 t.vk, .int .i64 t.vn, .string t.vs] 210)).alloc (.cells #[.int .i64 0, .int .i64 0, .int .i64 0, .int .i64 0, .string ⟨#[]⟩] 180)) 180 #[.int .i64 t.k, .int .i64 t.c, .int .i64 0, .int .i64 0, .string ⟨#[]⟩]
  have r1 := (Row.new (w.alloc (.cells #[.int .i64 t.k, .int .i64 t.c, .int .i64 t.vk, .int .i64 t.vn, .string t.vs] 210)) 180 #[.int .i64 0, .int .i64 0, .int .i64 0, .int .i64 0, .string ⟨#[]⟩]).alloc (.cells #[.int .i64 t.k, .int .i64 t.c, .int .i64 0, .int .i64 0, .string ⟨#[]⟩] 180)
  have hb0 := (((Below.refl w.heap.size w).alloc (Nat.le_refl _) (.cells #[.int .i64 t.k, .int .i64 t.c, .int .i64 t.vk, .int .i64 t.vn, .string t.vs] 210)).alloc (by simp) (.cells #[.int .i64 0, .int .i64 0, .int .i64 0, .int .i64 0, .string ⟨#[]⟩] 180)).alloc (by simp; omega) (.cells #[.int .i64 t.k, .int .i64 t.c, .int .i64 0, .int .i64 0, .string ⟨#[]⟩] 180)
  rw [show ((w.alloc (.cells #[.int .i64 t.k, .int .i64 t.c, .int .i64 t.vk, .int .i64 t.vn, .string t.vs] 210)).alloc (.cells #[.int .i64 0, .int .i64 0, .int .i64 0, .int .i64 0, .string ⟨#[]⟩] 180)).heap.size = w.heap.size + 1 + 1 by simp] at r2
  rw [show (w.alloc (.cells #[.int .i64 t.k, .int .i64 t.c, .int .i64 t.vk, .int .i64 t.vn, .string t.vs] 210)).heap.size = w.heap.size + 1 by simp] at r1
  generalize ((w.alloc (.cells #[.int .i64 t.k, .int .i64 t.c, .int .i64 t.vk, .int .i64 t.vn, .string t.vs] 210)).alloc (.cells #[.int .i64 0, .int .i64 0, .int .i64 0, .int .i64 0, .string ⟨#[]⟩] 180)).alloc (.cells #[.int .i64 t.k, .int .i64 t.c, .int .i64 0, .int .i64 0, .string ⟨#[]⟩] 180) = x at *
  refine (lawsToVal _ _ _ _).mono ?_
  rintro e w1 ⟨rfl, hb1⟩
  obtain ⟨⟨c0, c1, c2, c3, c4⟩, ⟨f0, f1, f2, f3, f4⟩⟩ := (r1.below hb1).five
  obtain ⟨⟨d0, d1, d2, d3, d4⟩, ⟨g0, g1, g2, g3, g4⟩⟩ := (r2.below hb1).five
  have hz := hb0.trans (hb1.mono hb0.size)
  clear r1 r2 hb1 hb0
  go_wp2_with fail
  refine bodyPost_ret (v := .agg #[.int .i64 t.k, .int .i64 t.c, .int .i64 t.vk, .int .i64 t.vn, .string t.vs]) (by simp [results, Tryz.results143, go_sem, c0, c1, c2, c3, c4]) rfl ⟨rfl, ?_⟩
  repeat (first | with_reducible exact hz | with_reducible refine Below.drew ?_ | with_reducible refine Below.setCell ?_ (by simp; omega) _ | with_reducible refine Below.setCell ?_ (by simp) _)
theorem mk_rows {P : Program} {t e : TypeId} {sz bs : Nat} {z : Value} (ht : P.underlying t = some (.slice e)) (hi : (P.info? e).map (fun i => (i.zero, i.size, i.bytes)) = some (some z, sz, bs)) (hbs : bs ≤ 100000) (n : Nat) (hn : n ≤ 1048576) (w : World) :
    (Instr.makeSlice t (.int .i64 (n : Int)) (.int .i64 (n : Int))).run P w = .ok (.slice (some ⟨w.heap.size, 0, none⟩) n n) (w.alloc (.cells (madeCells z.cells (n * sz)) e)) := by
  obtain ⟨i, h1, h2, h3, h4⟩ := info_parts hi
  have hb : (i.bytes : Int) * n ≤ 281474976710656 := by
    rw [h4]
    have h5 : bs * n ≤ 100000 * 1048576 := Nat.mul_le_mul hbs hn
    have h6 : ((bs * n : Nat) : Int) ≤ 104857600000 := by omega
    rw [Int.natCast_mul] at h6
    omega
  have hr := run_make (P := P) w t e i z ht h1 h2 .i64 .i64 n n (by omega) (by omega) hb (by omega)
  simp only [Int.toNat_natCast, h3] at hr
  exact hr
theorem lawsEqVal (k n : Int) (s : ByteArray) (w : World) :
    Calls Tryz.prog 53 #[.agg #[.int .i64 k, .int .i64 n, .string s], .agg #[.int .i64 k, .int .i64 n, .string s]] w fun e w' => e = .returned (.bool true) ∧ Below w.heap.size w w' := by
  go_enter Tryz.func53, Tryz.ntmps53
  go_wp2
  go_ret
  exact ⟨rfl, ((Below.refl _ _).alloc (Nat.le_refl _) _).alloc (by simp) _⟩
theorem lawsEqTok (t : Tk) (w : World) :
    Calls Tryz.prog 159 #[.agg #[.int .i64 t.k, .int .i64 t.c, .int .i64 t.vk, .int .i64 t.vn, .string t.vs], .agg #[.int .i64 t.k, .int .i64 t.c, .int .i64 t.vk, .int .i64 t.vn, .string t.vs]] w fun e w' => e = .returned (.bool true) ∧ Below w.heap.size w w' := by
  have hb0 := ((Below.refl w.heap.size w).alloc (Nat.le_refl _) (.cells #[.int .i64 t.k, .int .i64 t.c, .int .i64 t.vk, .int .i64 t.vn, .string t.vs] 180)).alloc (by simp) (.cells #[.int .i64 t.k, .int .i64 t.c, .int .i64 t.vk, .int .i64 t.vn, .string t.vs] 180)
  have HB := Lib.hid hb0
  clear hb0
  go_enter Tryz.func159, Tryz.ntmps159
  go_wp2_with fail
  first | (refine (lawsEqVal _ _ _ _).mono ?_; rintro e w1 ⟨rfl, hb1⟩) | skip
  go_wp2
  go_ret
  exact ⟨rfl, HB.out.trans (hb1.mono HB.out.size)⟩
def szR (left : Int) (n : Nat) : Int := if left < n then -1 else left - n
theorem szR_cases (l : Int) (k : Nat) (_h0 : 0 ≤ l) : (l < k ∧ Hid (szR l k = -1)) ∨ (∃ l' : Int, Hid (szR l k = l') ∧ Hid (l' = l - k) ∧ 0 ≤ l' ∧ l' ≤ l ∧ (k : Int) ≤ l) := by
  by_cases h : l < k
  · exact .inl ⟨h, Lib.hid (if_pos h)⟩
  · exact .inr ⟨l - k, Lib.hid (if_neg h), Lib.hid rfl, by omega, by omega, by omega⟩
theorem szR_no {l : Int} {k : Nat} (h : l < k) : (-1 : Int) = szR l k := by unfold szR; rw [if_pos h]
theorem szR_yes {l m : Int} {k : Nat} (h0 : 0 ≤ m) (h : m = l - k) : m = szR l k := by unfold szR; rw [if_neg (by omega)]; exact h
def szL {α : Type} (f : α → Nat) (l : List α) : Nat := l.length + (l.map f).sum
theorem sum_take {α : Type} (f : α → Nat) (l : List α) (k : Nat) (h : k < l.length) : ((l.take (k + 1)).map f).sum = ((l.take k).map f).sum + f l[k] := by
  rw [List.take_succ_eq_append_getElem h, List.map_append, List.sum_append]; simp
theorem sum_take_le {α : Type} (f : α → Nat) (l : List α) (k : Nat) : ((l.take k).map f).sum ≤ (l.map f).sum := by
  have e : (l.map f).sum = ((l.take k).map f).sum + ((l.drop k).map f).sum := by rw [← List.sum_append, ← List.map_append, List.take_append_drop]
  omega
theorem sum_mem_le {α : Type} (f : α → Nat) (l : List α) (k : Nat) (h : k < l.length) : f l[k] ≤ (l.map f).sum := by
  have := sum_take f l k h
  have := sum_take_le f l (k + 1)
  omega
def Vl.cells (v : Vl) : List Value := [.int .i64 v.k, .int .i64 v.n, .string v.s]
def Vals (w : World) (A : Option Addr) (n : Nat) (vs : List Vl) : Prop := Cellz w 3 A n (vs.map Vl.cells)
theorem Vals.len {w : World} {A : Option Addr} {n : Nat} {vs : List Vl} (h : Vals w A n vs) : vs.length = n := by simpa using h.1
theorem Vals.below {w w' : World} {A : Option Addr} {n : Nat} {vs : List Vl} (h : Vals w A n vs) (hb : Below w.heap.size w w') : Vals w' A n vs := Cellz.below h hb
theorem Vals.at_ {w : World} {A : Option Addr} {n : Nat} {vs : List Vl} (h : Vals w A n vs) {i : Nat} (hi : i < vs.length) :
    ∃ b off, A = some ⟨b, off, none⟩ ∧ w.cell? ⟨b, off + i * 3, none⟩ = some (.int .i64 vs[i].k) ∧ w.cell? ⟨b, off + i * 3 + 1, none⟩ = some (.int .i64 vs[i].n) ∧ w.cell? ⟨b, off + i * 3 + 2, none⟩ = some (.string vs[i].s) := by
  have hl := h.len
  obtain ⟨b, off, rfl, hc⟩ := h.2.2 (by omega)
  have hi' : i < (vs.map Vl.cells).length := by simpa using hi
  have g : ∀ j v, vs[i].cells[j]? = some v → w.cell? ⟨b, off + i * 3 + j, none⟩ = some v := by
    intro j v hv
    have e : (vs.map Vl.cells)[i] = vs[i].cells := by simp
    obtain ⟨hj, hv'⟩ := List.getElem?_eq_some_iff.1 hv
    have := hc i hi' j (by rw [e]; exact hj)
    rw [Nat.add_assoc, this]
    simp only [e, hv']
  exact ⟨b, off, rfl, g 0 _ rfl, g 1 _ rfl, g 2 _ rfl⟩
end Go.Proofs.YtemimhghhihllaaGreat
namespace Go.Proofs.YtemimhghhihllaaGreat
open Go.RowKit
def IntR : Rd Int := FlatR fun n => [.int .i64 n]
def TkR : Rd Tk := FlatR Tk.cells
def VlR : Rd Vl := FlatR Vl.cells
theorem IntR.stays : Stays IntR := FlatR.stays _
theorem TkR.stays : Stays TkR := FlatR.stays _
theorem VlR.stays : Stays VlR := FlatR.stays _
structure Cl where
  name : ByteArray
  kind : Int
  nn : Bool
  d : Vl
def Cl.cells (x : Cl) : List Value := [.string x.name, .int .i64 x.kind, .bool x.nn, .int .i64 x.d.k, .int .i64 x.d.n, .string x.d.s]
def ClR : Rd Cl := FlatR Cl.cells
theorem ClR.stays : Stays ClR := FlatR.stays _
def Cl.sz (x : Cl) : Nat := x.name.size + x.d.s.size
def Cl.wf (x : Cl) : Prop := x.name.size ≤ maxLen ∧ x.d.s.size ≤ maxLen
structure Uq where
  cols : List Int
def UqR : Rd Uq := fun ok w cs x => ∃ (A0 : Option Addr) (n0 c0 : Nat), cs = [.slice A0 n0 c0] ∧ Sl IntR 1 ok w A0 n0 x.cols ∧ (n0 ≤ c0)
theorem UqR.stays : Stays UqR := fun _ _ _ _ _ _ ⟨A0, n0, c0, e, h0, hcp⟩ ho hk => ⟨A0, n0, c0, e, h0.stays IntR.stays ho hk, hcp⟩
def Uq.sz (x : Uq) : Nat := x.cols.length
def Uq.wf (x : Uq) : Prop := x.cols.length ≤ maxLen
structure Ck where
  expr : List Tk
def CkR : Rd Ck := fun ok w cs x => ∃ (A0 : Option Addr) (n0 c0 : Nat), cs = [.slice A0 n0 c0] ∧ Sl TkR 5 ok w A0 n0 x.expr ∧ (n0 ≤ c0)
theorem CkR.stays : Stays CkR := fun _ _ _ _ _ _ ⟨A0, n0, c0, e, h0, hcp⟩ ho hk => ⟨A0, n0, c0, e, h0.stays TkR.stays ho hk, hcp⟩
def Ck.sz (x : Ck) : Nat := szL (fun t : Tk => t.vs.size) x.expr
def Ck.wf (x : Ck) : Prop := (x.expr.length ≤ maxLen ∧ ∀ t ∈ x.expr, t.vs.size ≤ maxLen)
structure Fk where
  cols : List Int
  table : ByteArray
  del : Int
  upd : Int
  dfr : Bool
def FkR : Rd Fk := fun ok w cs x => ∃ (A0 : Option Addr) (n0 c0 : Nat), cs = [.slice A0 n0 c0, .string x.table, .int .i64 x.del, .int .i64 x.upd, .bool x.dfr] ∧ Sl IntR 1 ok w A0 n0 x.cols ∧ (n0 ≤ c0)
theorem FkR.stays : Stays FkR := fun _ _ _ _ _ _ ⟨A0, n0, c0, e, h0, hcp⟩ ho hk => ⟨A0, n0, c0, e, h0.stays IntR.stays ho hk, hcp⟩
def Fk.sz (x : Fk) : Nat := x.cols.length + x.table.size
def Fk.wf (x : Fk) : Prop := x.cols.length ≤ maxLen ∧ x.table.size ≤ maxLen
structure Tb where
  name : ByteArray
  cols : List Cl
  key : List Int
  uniqs : List Uq
  checks : List Ck
  fks : List Fk
def TbR : Rd Tb := fun ok w cs x => ∃ (A1 : Option Addr) (n1 c1 : Nat) (A2 : Option Addr) (n2 c2 : Nat) (A3 : Option Addr) (n3 c3 : Nat) (A4 : Option Addr) (n4 c4 : Nat) (A5 : Option Addr) (n5 c5 : Nat), cs = [.string x.name, .slice A1 n1 c1, .slice A2 n2 c2, .slice A3 n3 c3, .slice A4 n4 c4, .slice A5 n5 c5] ∧ Sl ClR 6 ok w A1 n1 x.cols ∧ Sl IntR 1 ok w A2 n2 x.key ∧ Sl UqR 1 ok w A3 n3 x.uniqs ∧ Sl CkR 1 ok w A4 n4 x.checks ∧ Sl FkR 5 ok w A5 n5 x.fks ∧ (n1 ≤ c1 ∧ n2 ≤ c2 ∧ n3 ≤ c3 ∧ n4 ≤ c4 ∧ n5 ≤ c5)
theorem TbR.stays : Stays TbR := fun _ _ _ _ _ _ ⟨A1, n1, c1, A2, n2, c2, A3, n3, c3, A4, n4, c4, A5, n5, c5, e, h1, h2, h3, h4, h5, hcp⟩ ho hk => ⟨A1, n1, c1, A2, n2, c2, A3, n3, c3, A4, n4, c4, A5, n5, c5, e, h1.stays ClR.stays ho hk, h2.stays IntR.stays ho hk, h3.stays UqR.stays ho hk, h4.stays CkR.stays ho hk, h5.stays FkR.stays ho hk, hcp⟩
def Tb.sz (x : Tb) : Nat := x.name.size + szL Cl.sz x.cols + x.key.length + szL Uq.sz x.uniqs + szL Ck.sz x.checks + szL Fk.sz x.fks
def Tb.wf (x : Tb) : Prop := x.name.size ≤ maxLen ∧ (x.cols.length ≤ maxLen ∧ ∀ y ∈ x.cols, y.wf) ∧ x.key.length ≤ maxLen ∧ (x.uniqs.length ≤ maxLen ∧ ∀ y ∈ x.uniqs, y.wf) ∧ (x.checks.length ≤ maxLen ∧ ∀ y ∈ x.checks, y.wf) ∧ (x.fks.length ≤ maxLen ∧ ∀ y ∈ x.fks, y.wf)
structure Rw where
  id : Int
  vals : List Vl
def RwR : Rd Rw := fun ok w cs x => ∃ (A1 : Option Addr) (n1 c1 : Nat), cs = [.int .i64 x.id, .slice A1 n1 c1] ∧ Sl VlR 3 ok w A1 n1 x.vals ∧ (n1 ≤ c1)
theorem RwR.stays : Stays RwR := fun _ _ _ _ _ _ ⟨A1, n1, c1, e, h1, hcp⟩ ho hk => ⟨A1, n1, c1, e, h1.stays VlR.stays ho hk, hcp⟩
def Rw.sz (x : Rw) : Nat := szL (fun v : Vl => v.s.size) x.vals
def Rw.wf (x : Rw) : Prop := (x.vals.length ≤ maxLen ∧ ∀ v ∈ x.vals, v.s.size ≤ maxLen)
structure Dt where
  rows : List Rw
def DtR : Rd Dt := fun ok w cs x => ∃ (A0 : Option Addr) (n0 c0 : Nat), cs = [.slice A0 n0 c0] ∧ Sl RwR 2 ok w A0 n0 x.rows ∧ (n0 ≤ c0)
theorem DtR.stays : Stays DtR := fun _ _ _ _ _ _ ⟨A0, n0, c0, e, h0, hcp⟩ ho hk => ⟨A0, n0, c0, e, h0.stays RwR.stays ho hk, hcp⟩
def Dt.sz (x : Dt) : Nat := szL Rw.sz x.rows
def Dt.wf (x : Dt) : Prop := (x.rows.length ≤ maxLen ∧ ∀ y ∈ x.rows, y.wf)
structure En where
  key : List Vl
  id : Int
def EnR : Rd En := fun ok w cs x => ∃ (A0 : Option Addr) (n0 c0 : Nat), cs = [.slice A0 n0 c0, .int .i64 x.id] ∧ Sl VlR 3 ok w A0 n0 x.key ∧ (n0 ≤ c0)
theorem EnR.stays : Stays EnR := fun _ _ _ _ _ _ ⟨A0, n0, c0, e, h0, hcp⟩ ho hk => ⟨A0, n0, c0, e, h0.stays VlR.stays ho hk, hcp⟩
def En.sz (x : En) : Nat := szL (fun v : Vl => v.s.size) x.key
def En.wf (x : En) : Prop := (x.key.length ≤ maxLen ∧ ∀ v ∈ x.key, v.s.size ≤ maxLen)
theorem Row.all1 {w : World} {g : Nat} {T : TypeId} {a0 : Value} (h : Row w g T #[a0]) :
    (w.cell? ⟨g, 0, none⟩ = some a0) ∧ (w.frozen? ⟨g, 0, none⟩ = false) :=
  ⟨h.cell 0, h.free 0⟩
theorem Row.all2 {w : World} {g : Nat} {T : TypeId} {a0 a1 : Value} (h : Row w g T #[a0, a1]) :
    (w.cell? ⟨g, 0, none⟩ = some a0 ∧ w.cell? ⟨g, 1, none⟩ = some a1) ∧ (w.frozen? ⟨g, 0, none⟩ = false ∧ w.frozen? ⟨g, 1, none⟩ = false) :=
  ⟨⟨h.cell 0, h.cell 1⟩, ⟨h.free 0, h.free 1⟩⟩
theorem Row.all6 {w : World} {g : Nat} {T : TypeId} {a0 a1 a2 a3 a4 a5 : Value} (h : Row w g T #[a0, a1, a2, a3, a4, a5]) :
    (w.cell? ⟨g, 0, none⟩ = some a0 ∧ w.cell? ⟨g, 1, none⟩ = some a1 ∧ w.cell? ⟨g, 2, none⟩ = some a2 ∧ w.cell? ⟨g, 3, none⟩ = some a3 ∧ w.cell? ⟨g, 4, none⟩ = some a4 ∧ w.cell? ⟨g, 5, none⟩ = some a5) ∧ (w.frozen? ⟨g, 0, none⟩ = false ∧ w.frozen? ⟨g, 1, none⟩ = false ∧ w.frozen? ⟨g, 2, none⟩ = false ∧ w.frozen? ⟨g, 3, none⟩ = false ∧ w.frozen? ⟨g, 4, none⟩ = false ∧ w.frozen? ⟨g, 5, none⟩ = false) :=
  ⟨⟨h.cell 0, h.cell 1, h.cell 2, h.cell 3, h.cell 4, h.cell 5⟩, ⟨h.free 0, h.free 1, h.free 2, h.free 3, h.free 4, h.free 5⟩⟩
theorem TkR.at_ {ok : Nat → Prop} {w : World} {A : Option Addr} {n : Nat} {ds : List Tk} (h : Sl TkR 5 ok w A n ds) {i : Nat} (hi : i < ds.length) :
    ∃ (b off : Nat), ok b ∧ A = some ⟨b, off, none⟩ ∧ w.cell? ⟨b, off + i * 5, none⟩ = some (.int .i64 ds[i].k) ∧ w.cell? ⟨b, off + i * 5 + 1, none⟩ = some (.int .i64 ds[i].c) ∧ w.cell? ⟨b, off + i * 5 + 2, none⟩ = some (.int .i64 ds[i].vk) ∧ w.cell? ⟨b, off + i * 5 + 3, none⟩ = some (.int .i64 ds[i].vn) ∧ w.cell? ⟨b, off + i * 5 + 4, none⟩ = some (.string ds[i].vs) := by
  have hl := h.1
  obtain ⟨b, off, rfl, hb, hc⟩ := h.2 (by omega)
  obtain ⟨cs, -, hR, g⟩ := hc i hi
  have e : cs = _ := hR
  subst e
  exact ⟨b, off, hb, rfl, g 0 _ rfl, g 1 _ rfl, g 2 _ rfl, g 3 _ rfl, g 4 _ rfl⟩
theorem VlR.at_ {ok : Nat → Prop} {w : World} {A : Option Addr} {n : Nat} {ds : List Vl} (h : Sl VlR 3 ok w A n ds) {i : Nat} (hi : i < ds.length) :
    ∃ (b off : Nat), ok b ∧ A = some ⟨b, off, none⟩ ∧ w.cell? ⟨b, off + i * 3, none⟩ = some (.int .i64 ds[i].k) ∧ w.cell? ⟨b, off + i * 3 + 1, none⟩ = some (.int .i64 ds[i].n) ∧ w.cell? ⟨b, off + i * 3 + 2, none⟩ = some (.string ds[i].s) := by
  have hl := h.1
  obtain ⟨b, off, rfl, hb, hc⟩ := h.2 (by omega)
  obtain ⟨cs, -, hR, g⟩ := hc i hi
  have e : cs = _ := hR
  subst e
  exact ⟨b, off, hb, rfl, g 0 _ rfl, g 1 _ rfl, g 2 _ rfl⟩
theorem IntR.at_ {ok : Nat → Prop} {w : World} {A : Option Addr} {n : Nat} {ds : List Int} (h : Sl IntR 1 ok w A n ds) {i : Nat} (hi : i < ds.length) :
    ∃ (b off : Nat) , ok b ∧ A = some ⟨b, off, none⟩ ∧ w.cell? ⟨b, off + i, none⟩ = some (.int .i64 ds[i]) := by
  have hl := h.1
  obtain ⟨b, off, rfl, hb, hc⟩ := h.2 (by omega)
  obtain ⟨cs, -, hR, g⟩ := hc i hi
  have e : cs = _ := hR
  subst e
  exact ⟨b, off, hb, rfl, by have := g 0 _ rfl; rwa [Nat.mul_one] at this⟩
theorem ClR.at_ {ok : Nat → Prop} {w : World} {A : Option Addr} {n : Nat} {ds : List Cl} (h : Sl ClR 6 ok w A n ds) {i : Nat} (hi : i < ds.length) :
    ∃ (b off : Nat) , ok b ∧ A = some ⟨b, off, none⟩ ∧ w.cell? ⟨b, off + i * 6, none⟩ = some (.string ds[i].name) ∧ w.cell? ⟨b, off + i * 6 + 1, none⟩ = some (.int .i64 ds[i].kind) ∧ w.cell? ⟨b, off + i * 6 + 2, none⟩ = some (.bool ds[i].nn) ∧ w.cell? ⟨b, off + i * 6 + 3, none⟩ = some (.int .i64 ds[i].d.k) ∧ w.cell? ⟨b, off + i * 6 + 4, none⟩ = some (.int .i64 ds[i].d.n) ∧ w.cell? ⟨b, off + i * 6 + 5, none⟩ = some (.string ds[i].d.s) := by
  have hl := h.1
  obtain ⟨b, off, rfl, hb, hc⟩ := h.2 (by omega)
  obtain ⟨cs, -, hR, g⟩ := hc i hi
  have e : cs = _ := hR
  subst e
  exact ⟨b, off, hb, rfl, g 0 _ rfl, g 1 _ rfl, g 2 _ rfl, g 3 _ rfl, g 4 _ rfl, g 5 _ rfl⟩
theorem UqR.at_ {ok : Nat → Prop} {w : World} {A : Option Addr} {n : Nat} {ds : List Uq} (h : Sl UqR 1 ok w A n ds) {i : Nat} (hi : i < ds.length) :
    ∃ (b off : Nat) (A0 : Option Addr) (n0 c0 : Nat), ok b ∧ A = some ⟨b, off, none⟩ ∧ w.cell? ⟨b, off + i, none⟩ = some (.slice A0 n0 c0) ∧ Sl IntR 1 ok w A0 n0 ds[i].cols ∧ (n0 ≤ c0) := by
  have hl := h.1
  obtain ⟨b, off, rfl, hb, hc⟩ := h.2 (by omega)
  obtain ⟨cs, -, hR, g⟩ := hc i hi
  obtain ⟨A0, n0, c0, rfl, h0, hcp⟩ := hR
  exact ⟨b, off, A0, n0, c0, hb, rfl, by have := g 0 _ rfl; rwa [Nat.mul_one] at this, h0, hcp⟩
theorem CkR.at_ {ok : Nat → Prop} {w : World} {A : Option Addr} {n : Nat} {ds : List Ck} (h : Sl CkR 1 ok w A n ds) {i : Nat} (hi : i < ds.length) :
    ∃ (b off : Nat) (A0 : Option Addr) (n0 c0 : Nat), ok b ∧ A = some ⟨b, off, none⟩ ∧ w.cell? ⟨b, off + i, none⟩ = some (.slice A0 n0 c0) ∧ Sl TkR 5 ok w A0 n0 ds[i].expr ∧ (n0 ≤ c0) := by
  have hl := h.1
  obtain ⟨b, off, rfl, hb, hc⟩ := h.2 (by omega)
  obtain ⟨cs, -, hR, g⟩ := hc i hi
  obtain ⟨A0, n0, c0, rfl, h0, hcp⟩ := hR
  exact ⟨b, off, A0, n0, c0, hb, rfl, by have := g 0 _ rfl; rwa [Nat.mul_one] at this, h0, hcp⟩
theorem FkR.at_ {ok : Nat → Prop} {w : World} {A : Option Addr} {n : Nat} {ds : List Fk} (h : Sl FkR 5 ok w A n ds) {i : Nat} (hi : i < ds.length) :
    ∃ (b off : Nat) (A0 : Option Addr) (n0 c0 : Nat), ok b ∧ A = some ⟨b, off, none⟩ ∧ w.cell? ⟨b, off + i * 5, none⟩ = some (.slice A0 n0 c0) ∧ w.cell? ⟨b, off + i * 5 + 1, none⟩ = some (.string ds[i].table) ∧ w.cell? ⟨b, off + i * 5 + 2, none⟩ = some (.int .i64 ds[i].del) ∧ w.cell? ⟨b, off + i * 5 + 3, none⟩ = some (.int .i64 ds[i].upd) ∧ w.cell? ⟨b, off + i * 5 + 4, none⟩ = some (.bool ds[i].dfr) ∧ Sl IntR 1 ok w A0 n0 ds[i].cols ∧ (n0 ≤ c0) := by
  have hl := h.1
  obtain ⟨b, off, rfl, hb, hc⟩ := h.2 (by omega)
  obtain ⟨cs, -, hR, g⟩ := hc i hi
  obtain ⟨A0, n0, c0, rfl, h0, hcp⟩ := hR
  exact ⟨b, off, A0, n0, c0, hb, rfl, g 0 _ rfl, g 1 _ rfl, g 2 _ rfl, g 3 _ rfl, g 4 _ rfl, h0, hcp⟩
theorem TbR.at_ {ok : Nat → Prop} {w : World} {A : Option Addr} {n : Nat} {ds : List Tb} (h : Sl TbR 6 ok w A n ds) {i : Nat} (hi : i < ds.length) :
    ∃ (b off : Nat) (A1 : Option Addr) (n1 c1 : Nat) (A2 : Option Addr) (n2 c2 : Nat) (A3 : Option Addr) (n3 c3 : Nat) (A4 : Option Addr) (n4 c4 : Nat) (A5 : Option Addr) (n5 c5 : Nat), ok b ∧ A = some ⟨b, off, none⟩ ∧ w.cell? ⟨b, off + i * 6, none⟩ = some (.string ds[i].name) ∧ w.cell? ⟨b, off + i * 6 + 1, none⟩ = some (.slice A1 n1 c1) ∧ w.cell? ⟨b, off + i * 6 + 2, none⟩ = some (.slice A2 n2 c2) ∧ w.cell? ⟨b, off + i * 6 + 3, none⟩ = some (.slice A3 n3 c3) ∧ w.cell? ⟨b, off + i * 6 + 4, none⟩ = some (.slice A4 n4 c4) ∧ w.cell? ⟨b, off + i * 6 + 5, none⟩ = some (.slice A5 n5 c5) ∧ Sl ClR 6 ok w A1 n1 ds[i].cols ∧ Sl IntR 1 ok w A2 n2 ds[i].key ∧ Sl UqR 1 ok w A3 n3 ds[i].uniqs ∧ Sl CkR 1 ok w A4 n4 ds[i].checks ∧ Sl FkR 5 ok w A5 n5 ds[i].fks ∧ (n1 ≤ c1 ∧ n2 ≤ c2 ∧ n3 ≤ c3 ∧ n4 ≤ c4 ∧ n5 ≤ c5) := by
  have hl := h.1
  obtain ⟨b, off, rfl, hb, hc⟩ := h.2 (by omega)
  obtain ⟨cs, -, hR, g⟩ := hc i hi
  obtain ⟨A1, n1, c1, A2, n2, c2, A3, n3, c3, A4, n4, c4, A5, n5, c5, rfl, h1, h2, h3, h4, h5, hcp⟩ := hR
  exact ⟨b, off, A1, n1, c1, A2, n2, c2, A3, n3, c3, A4, n4, c4, A5, n5, c5, hb, rfl, g 0 _ rfl, g 1 _ rfl, g 2 _ rfl, g 3 _ rfl, g 4 _ rfl, g 5 _ rfl, h1, h2, h3, h4, h5, hcp⟩
theorem RwR.at_ {ok : Nat → Prop} {w : World} {A : Option Addr} {n : Nat} {ds : List Rw} (h : Sl RwR 2 ok w A n ds) {i : Nat} (hi : i < ds.length) :
    ∃ (b off : Nat) (A1 : Option Addr) (n1 c1 : Nat), ok b ∧ A = some ⟨b, off, none⟩ ∧ w.cell? ⟨b, off + i * 2, none⟩ = some (.int .i64 ds[i].id) ∧ w.cell? ⟨b, off + i * 2 + 1, none⟩ = some (.slice A1 n1 c1) ∧ Sl VlR 3 ok w A1 n1 ds[i].vals ∧ (n1 ≤ c1) := by
  have hl := h.1
  obtain ⟨b, off, rfl, hb, hc⟩ := h.2 (by omega)
  obtain ⟨cs, -, hR, g⟩ := hc i hi
  obtain ⟨A1, n1, c1, rfl, h1, hcp⟩ := hR
  exact ⟨b, off, A1, n1, c1, hb, rfl, g 0 _ rfl, g 1 _ rfl, h1, hcp⟩
theorem DtR.at_ {ok : Nat → Prop} {w : World} {A : Option Addr} {n : Nat} {ds : List Dt} (h : Sl DtR 1 ok w A n ds) {i : Nat} (hi : i < ds.length) :
    ∃ (b off : Nat) (A0 : Option Addr) (n0 c0 : Nat), ok b ∧ A = some ⟨b, off, none⟩ ∧ w.cell? ⟨b, off + i, none⟩ = some (.slice A0 n0 c0) ∧ Sl RwR 2 ok w A0 n0 ds[i].rows ∧ (n0 ≤ c0) := by
  have hl := h.1
  obtain ⟨b, off, rfl, hb, hc⟩ := h.2 (by omega)
  obtain ⟨cs, -, hR, g⟩ := hc i hi
  obtain ⟨A0, n0, c0, rfl, h0, hcp⟩ := hR
  exact ⟨b, off, A0, n0, c0, hb, rfl, by have := g 0 _ rfl; rwa [Nat.mul_one] at this, h0, hcp⟩
theorem EnR.at_ {ok : Nat → Prop} {w : World} {A : Option Addr} {n : Nat} {ds : List En} (h : Sl EnR 2 ok w A n ds) {i : Nat} (hi : i < ds.length) :
    ∃ (b off : Nat) (A0 : Option Addr) (n0 c0 : Nat), ok b ∧ A = some ⟨b, off, none⟩ ∧ w.cell? ⟨b, off + i * 2, none⟩ = some (.slice A0 n0 c0) ∧ w.cell? ⟨b, off + i * 2 + 1, none⟩ = some (.int .i64 ds[i].id) ∧ Sl VlR 3 ok w A0 n0 ds[i].key ∧ (n0 ≤ c0) := by
  have hl := h.1
  obtain ⟨b, off, rfl, hb, hc⟩ := h.2 (by omega)
  obtain ⟨cs, -, hR, g⟩ := hc i hi
  obtain ⟨A0, n0, c0, rfl, h0, hcp⟩ := hR
  exact ⟨b, off, A0, n0, c0, hb, rfl, g 0 _ rfl, g 1 _ rfl, h0, hcp⟩
def okF (G : Nat) (w : World) : Nat → Prop := fun b => G ≤ b ∧ b < w.heap.size ∧ ∀ off, w.frozen? ⟨b, off, none⟩ = false
theorem frozen_setCell (w : World) (p : Addr) (v : Value) (a : Addr) : (w.setCell p v).frozen? a = w.frozen? a := by
  unfold World.frozen? World.setCell
  by_cases e : p.block = a.block
  · simp only [Array.getElem?_modify, if_pos e]
    cases h : w.heap[a.block]? with
    | none => rfl
    | some o => cases o <;> rfl
  · simp only [Array.getElem?_modify, if_neg e]
theorem okF.mono {G G' : Nat} {w : World} {b : Nat} (h : okF G w b) (hG : G' ≤ G) : okF G' w b := ⟨Nat.le_trans hG h.1, h.2⟩
theorem okF.below {G : Nat} {w w' : World} (hb : Below w.heap.size w w') {b : Nat} (h : okF G w b) : okF G w' b :=
  ⟨h.1, Nat.lt_of_lt_of_le h.2.1 hb.size, fun off => (World.frozen?_of_block (w := w) (hb.block b h.2.1)).trans (h.2.2 off)⟩
theorem okF.set {G : Nat} {w : World} {b : Nat} (h : okF G w b) (p : Addr) (v : Value) : okF G (w.setCell p v) b :=
  ⟨h.1, by simpa [World.setCell] using h.2.1, fun off => (frozen_setCell w p v _).trans (h.2.2 off)⟩
theorem Sl.belowF {α : Type} {R : Rd α} (hR : Stays R) {sz G : Nat} {w w' : World} {A : Option Addr} {n : Nat} {ds : List α} (h : Sl R sz (okF G w) w A n ds) (hb : Below w.heap.size w w') : Sl R sz (okF G w') w' A n ds :=
  h.stays hR (fun _ h => h.below hb) fun p v _ hp => below_keep hb p v hp
theorem Sl.setF {α : Type} {R : Rd α} (hR : Stays R) {sz G : Nat} {w : World} {A : Option Addr} {n : Nat} {ds : List α} (h : Sl R sz (okF G w) w A n ds) {p : Addr} (hp : p.block < G) (v : Value) : Sl R sz (okF G (w.setCell p v)) (w.setCell p v) A n ds :=
  h.stays hR (fun _ h => h.set p v) fun q u hq hu => (World.cell?_of_block (w := w) (a := q) (Below.heap_setCell w p v q.block (by have := hq.1; omega))).trans hu
theorem LaidR.belowF {α : Type} {R : Rd α} (hR : Stays R) {sz G : Nat} {w w' : World} {cs : Array Value} {k : Nat} {ds : List α} (h : LaidR R sz (okF G w) w cs k ds) (hb : Below w.heap.size w w') : LaidR R sz (okF G w') w' cs k ds := fun i hi hlt => by
  obtain ⟨c, h1, h2, h3⟩ := h i hi hlt
  exact ⟨c, h1, hR _ _ _ _ _ _ h2 (fun _ h => h.below hb) (fun p v _ hp => below_keep hb p v hp), h3⟩
theorem LaidR.setF {α : Type} {R : Rd α} (hR : Stays R) {sz G : Nat} {w : World} {cs : Array Value} {k : Nat} {ds : List α} (h : LaidR R sz (okF G w) w cs k ds) {p : Addr} (hp : p.block < G) (v : Value) : LaidR R sz (okF G (w.setCell p v)) (w.setCell p v) cs k ds := fun i hi hlt => by
  obtain ⟨c, h1, h2, h3⟩ := h i hi hlt
  exact ⟨c, h1, hR _ _ _ _ _ _ h2 (fun _ h => h.set p v) (fun q u hq hu => (World.cell?_of_block (w := w) (a := q) (Below.heap_setCell w p v q.block (by have := hq.1; omega))).trans hu), h3⟩
def MadeSl {α : Type} (R : Rd α) (sz n : Nat) (ds : List α) (w : World) (e : Ending) (w' : World) : Prop := ∃ A c, e = .returned (.slice A n c) ∧ n ≤ c ∧ Sl R sz (okF w.heap.size w') w' A n ds ∧ Below w.heap.size w w'
def MadeR {α : Type} (R : Rd α) (d : α) (w : World) (e : Ending) (w' : World) : Prop := ∃ cs : List Value, e = .returned (.agg cs.toArray) ∧ R (okF w.heap.size w') w' cs d ∧ Below w.heap.size w w'
theorem hold1 (cs : Array Value) (k : Nat) (v0 : Value) : ∀ m, m < k * 1 → (cs.setIfInBounds (k) v0)[m]? = cs[m]? := by
  intro m hm
  simp only [Array.getElem?_setIfInBounds]
  rw [if_neg (by omega)]
theorem fresh1 (cs : Array Value) (k : Nat) (v0 : Value) (hs : k * 1 + 1 ≤ cs.size) : ∀ (j : Nat) (v : Value), [v0][j]? = some v → (cs.setIfInBounds (k) v0)[k * 1 + j]? = some v := by
  intro j v hj
  have hlt : j < 1 := by obtain ⟨h, _⟩ := List.getElem?_eq_some_iff.1 hj; simpa using h
  have : j = 0 := by omega
  rcases this with rfl <;> simp at hj <;> subst hj <;> simp [Array.getElem?_setIfInBounds] <;> omega
theorem hold2 (cs : Array Value) (k : Nat) (v0 v1 : Value) : ∀ m, m < k * 2 → ((cs.setIfInBounds (k * 2) v0).setIfInBounds (k * 2 + 1) v1)[m]? = cs[m]? := by
  intro m hm
  simp only [Array.getElem?_setIfInBounds, Array.size_setIfInBounds]
  rw [if_neg (by omega)]; rw [if_neg (by omega)]
theorem fresh2 (cs : Array Value) (k : Nat) (v0 v1 : Value) (hs : k * 2 + 2 ≤ cs.size) : ∀ (j : Nat) (v : Value), [v0, v1][j]? = some v → ((cs.setIfInBounds (k * 2) v0).setIfInBounds (k * 2 + 1) v1)[k * 2 + j]? = some v := by
  intro j v hj
  have hlt : j < 2 := by obtain ⟨h, _⟩ := List.getElem?_eq_some_iff.1 hj; simpa using h
  have : j = 0 ∨ j = 1 := by omega
  rcases this with rfl | rfl <;> simp at hj <;> subst hj <;> simp [Array.getElem?_setIfInBounds] <;> omega
theorem hold3 (cs : Array Value) (k : Nat) (v0 v1 v2 : Value) : ∀ m, m < k * 3 → (((cs.setIfInBounds (k * 3) v0).setIfInBounds (k * 3 + 1) v1).setIfInBounds (k * 3 + 2) v2)[m]? = cs[m]? := by
  intro m hm
  simp only [Array.getElem?_setIfInBounds, Array.size_setIfInBounds]
  rw [if_neg (by omega)]; rw [if_neg (by omega)]; rw [if_neg (by omega)]
theorem fresh3 (cs : Array Value) (k : Nat) (v0 v1 v2 : Value) (hs : k * 3 + 3 ≤ cs.size) : ∀ (j : Nat) (v : Value), [v0, v1, v2][j]? = some v → (((cs.setIfInBounds (k * 3) v0).setIfInBounds (k * 3 + 1) v1).setIfInBounds (k * 3 + 2) v2)[k * 3 + j]? = some v := by
  intro j v hj
  have hlt : j < 3 := by obtain ⟨h, _⟩ := List.getElem?_eq_some_iff.1 hj; simpa using h
  have : j = 0 ∨ j = 1 ∨ j = 2 := by omega
  rcases this with rfl | rfl | rfl <;> simp at hj <;> subst hj <;> simp [Array.getElem?_setIfInBounds] <;> omega
theorem hold5 (cs : Array Value) (k : Nat) (v0 v1 v2 v3 v4 : Value) : ∀ m, m < k * 5 → (((((cs.setIfInBounds (k * 5) v0).setIfInBounds (k * 5 + 1) v1).setIfInBounds (k * 5 + 2) v2).setIfInBounds (k * 5 + 3) v3).setIfInBounds (k * 5 + 4) v4)[m]? = cs[m]? := by
  intro m hm
  simp only [Array.getElem?_setIfInBounds, Array.size_setIfInBounds]
  rw [if_neg (by omega)]; rw [if_neg (by omega)]; rw [if_neg (by omega)]; rw [if_neg (by omega)]; rw [if_neg (by omega)]
theorem fresh5 (cs : Array Value) (k : Nat) (v0 v1 v2 v3 v4 : Value) (hs : k * 5 + 5 ≤ cs.size) : ∀ (j : Nat) (v : Value), [v0, v1, v2, v3, v4][j]? = some v → (((((cs.setIfInBounds (k * 5) v0).setIfInBounds (k * 5 + 1) v1).setIfInBounds (k * 5 + 2) v2).setIfInBounds (k * 5 + 3) v3).setIfInBounds (k * 5 + 4) v4)[k * 5 + j]? = some v := by
  intro j v hj
  have hlt : j < 5 := by obtain ⟨h, _⟩ := List.getElem?_eq_some_iff.1 hj; simpa using h
  have : j = 0 ∨ j = 1 ∨ j = 2 ∨ j = 3 ∨ j = 4 := by omega
  rcases this with rfl | rfl | rfl | rfl | rfl <;> simp at hj <;> subst hj <;> simp [Array.getElem?_setIfInBounds] <;> omega
theorem hold6 (cs : Array Value) (k : Nat) (v0 v1 v2 v3 v4 v5 : Value) : ∀ m, m < k * 6 → ((((((cs.setIfInBounds (k * 6) v0).setIfInBounds (k * 6 + 1) v1).setIfInBounds (k * 6 + 2) v2).setIfInBounds (k * 6 + 3) v3).setIfInBounds (k * 6 + 4) v4).setIfInBounds (k * 6 + 5) v5)[m]? = cs[m]? := by
  intro m hm
  simp only [Array.getElem?_setIfInBounds, Array.size_setIfInBounds]
  rw [if_neg (by omega)]; rw [if_neg (by omega)]; rw [if_neg (by omega)]; rw [if_neg (by omega)]; rw [if_neg (by omega)]; rw [if_neg (by omega)]
theorem fresh6 (cs : Array Value) (k : Nat) (v0 v1 v2 v3 v4 v5 : Value) (hs : k * 6 + 6 ≤ cs.size) : ∀ (j : Nat) (v : Value), [v0, v1, v2, v3, v4, v5][j]? = some v → ((((((cs.setIfInBounds (k * 6) v0).setIfInBounds (k * 6 + 1) v1).setIfInBounds (k * 6 + 2) v2).setIfInBounds (k * 6 + 3) v3).setIfInBounds (k * 6 + 4) v4).setIfInBounds (k * 6 + 5) v5)[k * 6 + j]? = some v := by
  intro j v hj
  have hlt : j < 6 := by obtain ⟨h, _⟩ := List.getElem?_eq_some_iff.1 hj; simpa using h
  have : j = 0 ∨ j = 1 ∨ j = 2 ∨ j = 3 ∨ j = 4 ∨ j = 5 := by omega
  rcases this with rfl | rfl | rfl | rfl | rfl | rfl <;> simp at hj <;> subst hj <;> simp [Array.getElem?_setIfInBounds] <;> omega
theorem infoIntT : (Tryz.prog.info? 2).map (fun i => (i.zero, i.size, i.bytes)) = some (some (.int .i64 0), 1, 8) := by kernel_rfl
set_option maxRecDepth 100000 in
set_option maxHeartbeats 1000000 in
theorem lawsToIntL (A : Option Addr) (n c : Nat) (l : List Int) (ok : Nat → Prop) (w : World) (h : Sl IntR 1 ok w A n l) (hs : l.length ≤ 1048576) :
    Calls Tryz.prog 26 #[.slice A n c] w (MadeSl IntR 1 n l w) := by
  obtain rfl : l.length = n := h.1
  have hn : l.length ≤ 1048576 := by exact hs
  have HS := Lib.hid hs
  clear hs
  have hmk := fun w => mk_rows (P := Tryz.prog) Tryz.underlying28 infoIntT (by omega) l.length hn w
  simp only [Nat.mul_one] at hmk
  simp only [Value.cells] at hmk
  go_enter Tryz.func26, Tryz.ntmps26
  go_wp2
  have row := Row.new w 2 (madeCells #[.int .i64 0] (l.length))
  have hb0 := (Below.refl w.heap.size w).alloc (Nat.le_refl _) (.cells (madeCells #[.int .i64 0] (l.length)) 2)
  have hsz := size_madeCells #[.int .i64 0] (l.length)
  have hx0 : (w.alloc (.cells (madeCells #[.int .i64 0] (l.length)) 2)).heap.size = w.heap.size + 1 := by simp
  generalize w.alloc (.cells (madeCells #[.int .i64 0] (l.length)) 2) = x at *
  generalize madeCells #[.int .i64 0] (l.length) = cs0 at *
  have HZ := Lib.hid hsz
  have HX0 := Lib.hid hx0
  clear hmk hsz hx0
  go_loopw [4] (fun i wr => ∃ (k : Nat) (cs : Array Value), k ≤ l.length ∧ i = .int .i64 k ∧ Row wr w.heap.size 2 cs ∧ Hid (cs.size = l.length * 1) ∧ Hid (LaidR IntR 1 (okF (w.heap.size + 1) wr) wr cs k l) ∧ Hid (w.heap.size + 1 ≤ wr.heap.size) ∧ Below w.heap.size w wr) (fun i _ => l.length - (intOf i).toNat)
  case atStart => exact ⟨0, cs0, by omega, rfl, row, Lib.hid (by rw [HZ.out]; exact (Nat.mul_one _).symm), Lib.hid (LaidR.zero _ _ _ _ _ _), Lib.hid (by rw [HX0.out]; exact Nat.le_refl _), hb0⟩
  case round =>
    obtain ⟨k, cs, hk, rfl, hrow, hcs, hlaid, hgw, hb⟩ := hrel
    by_cases hlt : k < l.length
    · obtain ⟨b, off, -, rfl, q0⟩ := IntR.at_ (h.below IntR.stays hb) hlt
      have hsz1 : k * 1 + 1 ≤ cs.size := by rw [hcs.out]; omega
      have q1 : wr.cell? ⟨w.heap.size, k, none⟩ = some (cs[k]?.getD undef) := by rw [hrow.cell, Array.getElem?_eq_getElem (by omega)]; rfl
      have f0 := hrow.free k
      have HR := Lib.hid hrow
      clear hrow
      go_wp2_with fail
      go_roundw
      case rel => exact ⟨k + 1, _, by omega, by go_num, HR.out.set _ _, Lib.hid (by simp [hcs.out]), Lib.hid (((hlaid.out.setF IntR.stays (by simp) _).more hlt rfl rfl (hold1 cs k _) (fresh1 cs k _ hsz1))), Lib.hid (by simpa using hgw.out), hb.setCell (by simp) _⟩
      case measure => simp [intOf]; omega
    · obtain rfl : k = l.length := by omega
      go_wp2
      go_ret
      exact ⟨_, _, rfl, Nat.le_refl _, (sl_of_laid (ok := okF w.heap.size _) hrow ⟨Nat.le_refl _, hgw.out, fun off => hrow.free off⟩ (fun i hi hlt' => by
        obtain ⟨c', h1, h2, h3⟩ := hlaid.out i hi hlt'
        exact ⟨c', h1, IntR.stays _ _ _ _ _ _ h2 (fun b hb' => hb'.mono (Nat.le_succ _)) (fun p v _ hp => hp), h3⟩) (Nat.le_refl _)), hb⟩
theorem infoTokT : (Tryz.prog.info? 180).map (fun i => (i.zero, i.size, i.bytes)) = some (some (.agg #[.int .i64 0, .int .i64 0, .int .i64 0, .int .i64 0, .string ⟨#[]⟩]), 5, 48) := by kernel_rfl
set_option maxRecDepth 100000 in
set_option maxHeartbeats 1000000 in
theorem lawsToTokL (A : Option Addr) (n c : Nat) (l : List Tk) (ok : Nat → Prop) (w : World) (h : Sl TkR 5 ok w A n l) (hs : szL (fun t : Tk => t.vs.size) l ≤ 1048576) :
    Calls Tryz.prog 96 #[.slice A n c] w (MadeSl TkR 5 n l w) := by
  obtain rfl : l.length = n := h.1
  have hn : l.length ≤ 1048576 := by unfold szL at hs; omega
  have HS := Lib.hid hs
  clear hs
  have hmk := fun w => mk_rows (P := Tryz.prog) Tryz.underlying88 infoTokT (by omega) l.length hn w
  go_enter Tryz.func96, Tryz.ntmps96
  go_wp2
  have row := Row.new w 180 (madeCells #[.int .i64 0, .int .i64 0, .int .i64 0, .int .i64 0, .string ⟨#[]⟩] (l.length * 5))
  have hb0 := (Below.refl w.heap.size w).alloc (Nat.le_refl _) (.cells (madeCells #[.int .i64 0, .int .i64 0, .int .i64 0, .int .i64 0, .string ⟨#[]⟩] (l.length * 5)) 180)
  have hsz := size_madeCells #[.int .i64 0, .int .i64 0, .int .i64 0, .int .i64 0, .string ⟨#[]⟩] (l.length * 5)
  have hx0 : (w.alloc (.cells (madeCells #[.int .i64 0, .int .i64 0, .int .i64 0, .int .i64 0, .string ⟨#[]⟩] (l.length * 5)) 180)).heap.size = w.heap.size + 1 := by simp
  generalize w.alloc (.cells (madeCells #[.int .i64 0, .int .i64 0, .int .i64 0, .int .i64 0, .string ⟨#[]⟩] (l.length * 5)) 180) = x at *
  generalize madeCells #[.int .i64 0, .int .i64 0, .int .i64 0, .int .i64 0, .string ⟨#[]⟩] (l.length * 5) = cs0 at *
  have HZ := Lib.hid hsz
  have HX0 := Lib.hid hx0
  clear hmk hsz hx0
  go_loopw [4] (fun i wr => ∃ (k : Nat) (cs : Array Value), k ≤ l.length ∧ i = .int .i64 k ∧ Row wr w.heap.size 180 cs ∧ Hid (cs.size = l.length * 5) ∧ Hid (LaidR TkR 5 (okF (w.heap.size + 1) wr) wr cs k l) ∧ Hid (w.heap.size + 1 ≤ wr.heap.size) ∧ Below w.heap.size w wr) (fun i _ => l.length - (intOf i).toNat)
  case atStart => exact ⟨0, cs0, by omega, rfl, row, Lib.hid (by rw [HZ.out]), Lib.hid (LaidR.zero _ _ _ _ _ _), Lib.hid (by rw [HX0.out]; exact Nat.le_refl _), hb0⟩
  case round =>
    obtain ⟨k, cs, hk, rfl, hrow, hcs, hlaid, hgw, hb⟩ := hrel
    by_cases hlt : k < l.length
    · obtain ⟨b, off, -, rfl, q0, q1, q2, q3, q4⟩ := TkR.at_ (h.below TkR.stays hb) hlt
      have hsz1 : k * 5 + 5 ≤ cs.size := by rw [hcs.out]; omega
      have hszk : l[k].vs.size ≤ 1048576 := by have := HS.out; have := sum_mem_le (fun t : Tk => t.vs.size) l k hlt; unfold szL at *; (try simp only at *); omega
      have HSK := Lib.hid hszk
      clear hszk
      go_wp2_with fail
      refine (lawsToTok l[k] _).mono ?_
      rintro e w1 ⟨rfl, hb1⟩
      have hrow1 := hrow.below hb1
      have hgw1 : w.heap.size + 1 ≤ w1.heap.size := Nat.le_trans hgw.out hb1.size
      have HGW := Lib.hid hgw1
      clear hgw1
      have hl1 := Lib.hid (hlaid.out.belowF TkR.stays hb1)
      have q : ∀ j, j < 5 → w1.cell? ⟨w.heap.size, k * 5 + j, none⟩ = some (cs[k * 5 + j]?.getD undef) := fun j hj => by
        rw [hrow1.cell, Array.getElem?_eq_getElem (by omega)]; rfl
      have z0 : w1.cell? ⟨w.heap.size, k * 5, none⟩ = some (cs[k * 5]?.getD undef) := q 0 (by omega)
      have z1 := q 1 (by omega)
      have z2 := q 2 (by omega)
      have z3 := q 3 (by omega)
      have z4 := q 4 (by omega)
      have f0 := hrow1.free (k * 5)
      have f1 := hrow1.free (k * 5 + 1)
      have f2 := hrow1.free (k * 5 + 2)
      have f3 := hrow1.free (k * 5 + 3)
      have f4 := hrow1.free (k * 5 + 4)
      clear q
      have HR := Lib.hid hrow1
      clear hrow1 hrow q0 q1 q2 q3 q4
      go_wp2_with fail
      go_roundw
      case rel =>
        exact ⟨k + 1, _, by omega, by go_num, (((((HR.out).set _ _).set _ _).set _ _).set _ _).set _ _, Lib.hid (by simp [hcs.out]), Lib.hid (((((((hl1.out).setF TkR.stays (by simp) _).setF TkR.stays (by simp) _).setF TkR.stays (by simp) _).setF TkR.stays (by simp) _).setF TkR.stays (by simp) _).more hlt (c := [.int .i64 l[k].k, .int .i64 l[k].c, .int .i64 l[k].vk, .int .i64 l[k].vn, .string l[k].vs]) rfl rfl (hold5 cs k _ _ _ _ _) (fresh5 cs k _ _ _ _ _ hsz1)), Lib.hid (by simpa using HGW.out), (((((hb.trans (hb1.mono hb.size)).setCell (by simp) _).setCell (by simp) _).setCell (by simp) _).setCell (by simp) _).setCell (by simp) _⟩
      case measure => simp [intOf]; omega
    · obtain rfl : k = l.length := by omega
      go_wp2
      go_ret
      exact ⟨_, _, rfl, Nat.le_refl _, (sl_of_laid (ok := okF w.heap.size _) hrow ⟨Nat.le_refl _, hgw.out, fun off => hrow.free off⟩ (fun i hi hlt' => by
        obtain ⟨c', h1, h2, h3⟩ := hlaid.out i hi hlt'
        exact ⟨c', h1, TkR.stays _ _ _ _ _ _ h2 (fun b hb' => hb'.mono (Nat.le_succ _)) (fun p v _ hp => hp), h3⟩) (Nat.le_refl _)), hb⟩
theorem infoValT : (Tryz.prog.info? 93).map (fun i => (i.zero, i.size, i.bytes)) = some (some (.agg #[.int .i64 0, .int .i64 0, .string ⟨#[]⟩]), 3, 32) := by kernel_rfl
set_option maxRecDepth 100000 in
set_option maxHeartbeats 1000000 in
theorem lawsToValL (A : Option Addr) (n c : Nat) (l : List Vl) (ok : Nat → Prop) (w : World) (h : Sl VlR 3 ok w A n l) (hs : szL (fun v : Vl => v.s.size) l ≤ 1048576) :
    Calls Tryz.prog 12 #[.slice A n c] w (MadeSl VlR 3 n l w) := by
  obtain rfl : l.length = n := h.1
  have hn : l.length ≤ 1048576 := by unfold szL at hs; omega
  have HS := Lib.hid hs
  clear hs
  have hmk := fun w => mk_rows (P := Tryz.prog) Tryz.underlying34 infoValT (by omega) l.length hn w
  go_enter Tryz.func12, Tryz.ntmps12
  go_wp2
  have row := Row.new w 93 (madeCells #[.int .i64 0, .int .i64 0, .string ⟨#[]⟩] (l.length * 3))
  have hb0 := (Below.refl w.heap.size w).alloc (Nat.le_refl _) (.cells (madeCells #[.int .i64 0, .int .i64 0, .string ⟨#[]⟩] (l.length * 3)) 93)
  have hsz := size_madeCells #[.int .i64 0, .int .i64 0, .string ⟨#[]⟩] (l.length * 3)
  have hx0 : (w.alloc (.cells (madeCells #[.int .i64 0, .int .i64 0, .string ⟨#[]⟩] (l.length * 3)) 93)).heap.size = w.heap.size + 1 := by simp
  generalize w.alloc (.cells (madeCells #[.int .i64 0, .int .i64 0, .string ⟨#[]⟩] (l.length * 3)) 93) = x at *
  generalize madeCells #[.int .i64 0, .int .i64 0, .string ⟨#[]⟩] (l.length * 3) = cs0 at *
  have HZ := Lib.hid hsz
  have HX0 := Lib.hid hx0
  clear hmk hsz hx0
  go_loopw [4] (fun i wr => ∃ (k : Nat) (cs : Array Value), k ≤ l.length ∧ i = .int .i64 k ∧ Row wr w.heap.size 93 cs ∧ Hid (cs.size = l.length * 3) ∧ Hid (LaidR VlR 3 (okF (w.heap.size + 1) wr) wr cs k l) ∧ Hid (w.heap.size + 1 ≤ wr.heap.size) ∧ Below w.heap.size w wr) (fun i _ => l.length - (intOf i).toNat)
  case atStart => exact ⟨0, cs0, by omega, rfl, row, Lib.hid (by rw [HZ.out]), Lib.hid (LaidR.zero _ _ _ _ _ _), Lib.hid (by rw [HX0.out]; exact Nat.le_refl _), hb0⟩
  case round =>
    obtain ⟨k, cs, hk, rfl, hrow, hcs, hlaid, hgw, hb⟩ := hrel
    by_cases hlt : k < l.length
    · obtain ⟨b, off, -, rfl, q0, q1, q2⟩ := VlR.at_ (h.below VlR.stays hb) hlt
      have hsz1 : k * 3 + 3 ≤ cs.size := by rw [hcs.out]; omega
      have hszk : l[k].s.size ≤ 1048576 := by have := HS.out; have := sum_mem_le (fun v : Vl => v.s.size) l k hlt; unfold szL at *; (try simp only at *); omega
      have HSK := Lib.hid hszk
      clear hszk
      go_wp2_with fail
      refine (lawsToVal l[k].k l[k].n l[k].s _).mono ?_
      rintro e w1 ⟨rfl, hb1⟩
      have hrow1 := hrow.below hb1
      have hgw1 : w.heap.size + 1 ≤ w1.heap.size := Nat.le_trans hgw.out hb1.size
      have HGW := Lib.hid hgw1
      clear hgw1
      have hl1 := Lib.hid (hlaid.out.belowF VlR.stays hb1)
      have q : ∀ j, j < 3 → w1.cell? ⟨w.heap.size, k * 3 + j, none⟩ = some (cs[k * 3 + j]?.getD undef) := fun j hj => by
        rw [hrow1.cell, Array.getElem?_eq_getElem (by omega)]; rfl
      have z0 : w1.cell? ⟨w.heap.size, k * 3, none⟩ = some (cs[k * 3]?.getD undef) := q 0 (by omega)
      have z1 := q 1 (by omega)
      have z2 := q 2 (by omega)
      have f0 := hrow1.free (k * 3)
      have f1 := hrow1.free (k * 3 + 1)
      have f2 := hrow1.free (k * 3 + 2)
      clear q
      have HR := Lib.hid hrow1
      clear hrow1 hrow q0 q1 q2
      go_wp2_with fail
      go_roundw
      case rel =>
        exact ⟨k + 1, _, by omega, by go_num, (((HR.out).set _ _).set _ _).set _ _, Lib.hid (by simp [hcs.out]), Lib.hid (((((hl1.out).setF VlR.stays (by simp) _).setF VlR.stays (by simp) _).setF VlR.stays (by simp) _).more hlt (c := [.int .i64 l[k].k, .int .i64 l[k].n, .string l[k].s]) rfl rfl (hold3 cs k _ _ _) (fresh3 cs k _ _ _ hsz1)), Lib.hid (by simpa using HGW.out), (((hb.trans (hb1.mono hb.size)).setCell (by simp) _).setCell (by simp) _).setCell (by simp) _⟩
      case measure => simp [intOf]; omega
    · obtain rfl : k = l.length := by omega
      go_wp2
      go_ret
      exact ⟨_, _, rfl, Nat.le_refl _, (sl_of_laid (ok := okF w.heap.size _) hrow ⟨Nat.le_refl _, hgw.out, fun off => hrow.free off⟩ (fun i hi hlt' => by
        obtain ⟨c', h1, h2, h3⟩ := hlaid.out i hi hlt'
        exact ⟨c', h1, VlR.stays _ _ _ _ _ _ h2 (fun b hb' => hb'.mono (Nat.le_succ _)) (fun p v _ hp => hp), h3⟩) (Nat.le_refl _)), hb⟩
set_option maxRecDepth 100000 in
set_option maxHeartbeats 1000000 in
theorem lawsToCol (x : Cl)  (ok : Nat → Prop) (w : World)  (hs : x.sz ≤ 1048576) :
    Calls Tryz.prog 139 #[.agg #[.string x.name, .int .i64 x.kind, .bool x.nn, .int .i64 x.d.k, .int .i64 x.d.n, .string x.d.s]] w fun e w' => e = .returned (.agg #[.string x.name, .int .i64 x.kind, .bool x.nn, .int .i64 x.d.k, .int .i64 x.d.n, .string x.d.s]) ∧ Below w.heap.size w w' := by
  clear hs
  have ra := ((Row.new w 200 #[.string x.name, .int .i64 x.kind, .bool x.nn, .int .i64 x.d.k, .int .i64 x.d.n, .string x.d.s]).alloc (.cells #[.string ⟨#[]⟩, .int .i64 0, .bool false, .int .i64 0, .int .i64 0, .string ⟨#[]⟩] 172)).alloc (.cells #[.string x.name, .int .i64 x.kind, .bool x.nn, .int .i64 0, .int .i64 0, .string ⟨#[]⟩] 172)
  have r1 := (Row.newAt (w.alloc (.cells #[.string x.name, .int .i64 x.kind, .bool x.nn, .int .i64 x.d.k, .int .i64 x.d.n, .string x.d.s] 200)) 172 #[.string ⟨#[]⟩, .int .i64 0, .bool false, .int .i64 0, .int .i64 0, .string ⟨#[]⟩] (w.heap.size + 1) (by simp)).alloc (.cells #[.string x.name, .int .i64 x.kind, .bool x.nn, .int .i64 0, .int .i64 0, .string ⟨#[]⟩] 172)
  have r2 := Row.newAt ((w.alloc (.cells #[.string x.name, .int .i64 x.kind, .bool x.nn, .int .i64 x.d.k, .int .i64 x.d.n, .string x.d.s] 200)).alloc (.cells #[.string ⟨#[]⟩, .int .i64 0, .bool false, .int .i64 0, .int .i64 0, .string ⟨#[]⟩] 172)) 172 #[.string x.name, .int .i64 x.kind, .bool x.nn, .int .i64 0, .int .i64 0, .string ⟨#[]⟩] (w.heap.size + 1 + 1) (by simp)
  have hb0 := ((((Below.refl w.heap.size w).alloc (Nat.le_refl _) (.cells #[.string x.name, .int .i64 x.kind, .bool x.nn, .int .i64 x.d.k, .int .i64 x.d.n, .string x.d.s] 200)).alloc (by simp) (.cells #[.string ⟨#[]⟩, .int .i64 0, .bool false, .int .i64 0, .int .i64 0, .string ⟨#[]⟩] 172)).alloc (by simp; omega) (.cells #[.string x.name, .int .i64 x.kind, .bool x.nn, .int .i64 0, .int .i64 0, .string ⟨#[]⟩] 172))
  have hz0 : w.heap.size + 3 ≤ (((w.alloc (.cells #[.string x.name, .int .i64 x.kind, .bool x.nn, .int .i64 x.d.k, .int .i64 x.d.n, .string x.d.s] 200)).alloc (.cells #[.string ⟨#[]⟩, .int .i64 0, .bool false, .int .i64 0, .int .i64 0, .string ⟨#[]⟩] 172)).alloc (.cells #[.string x.name, .int .i64 x.kind, .bool x.nn, .int .i64 0, .int .i64 0, .string ⟨#[]⟩] 172)).heap.size := by simp
  go_enter Tryz.func139, Tryz.ntmps139
  go_wp2_with fail
  generalize ((w.alloc (.cells #[.string x.name, .int .i64 x.kind, .bool x.nn, .int .i64 x.d.k, .int .i64 x.d.n, .string x.d.s] 200)).alloc (.cells #[.string ⟨#[]⟩, .int .i64 0, .bool false, .int .i64 0, .int .i64 0, .string ⟨#[]⟩] 172)).alloc (.cells #[.string x.name, .int .i64 x.kind, .bool x.nn, .int .i64 0, .int .i64 0, .string ⟨#[]⟩] 172) = x0 at *
  refine (lawsToVal _ _ _ _).mono ?_
  rintro e w1 ⟨rfl, hc0⟩
  have ra := ra.below hc0
  have r1 := r1.below hc0
  have r2 := r2.below hc0
  have hbx0 := hb0.trans (hc0.mono hb0.size)
  have hz1 : w.heap.size + 3 ≤ w1.heap.size := Nat.le_trans hz0 hc0.size
  obtain ⟨⟨a_0_0, a_0_1, a_0_2, a_0_3, a_0_4, a_0_5⟩, -⟩ := ra.all6
  obtain ⟨⟨b_0_0, b_0_1, b_0_2, b_0_3, b_0_4, b_0_5⟩, ⟨f_0_0, f_0_1, f_0_2, f_0_3, f_0_4, f_0_5⟩⟩ := r2.all6
  obtain ⟨⟨g_0_0, g_0_1, g_0_2, g_0_3, g_0_4, g_0_5⟩, ⟨k_0_0, k_0_1, k_0_2, k_0_3, k_0_4, k_0_5⟩⟩ := r1.all6
  have rz : Row ((((((((((w1).setCell ⟨w.heap.size + 1 + 1, 3, none⟩ (.int .i64 x.d.k)).setCell ⟨w.heap.size + 1 + 1, 4, none⟩ (.int .i64 x.d.n)).setCell ⟨w.heap.size + 1 + 1, 5, none⟩ (.string x.d.s)).setCell ⟨w.heap.size + 1, 0, none⟩ (.string x.name)).setCell ⟨w.heap.size + 1, 1, none⟩ (.int .i64 x.kind)).setCell ⟨w.heap.size + 1, 2, none⟩ (.bool x.nn)).setCell ⟨w.heap.size + 1, 3, none⟩ (.int .i64 x.d.k)).setCell ⟨w.heap.size + 1, 4, none⟩ (.int .i64 x.d.n)).setCell ⟨w.heap.size + 1, 5, none⟩ (.string x.d.s)) (w.heap.size + 1) 172 #[.string x.name, .int .i64 x.kind, .bool x.nn, .int .i64 x.d.k, .int .i64 x.d.n, .string x.d.s] := (((((((((r1).far (by simp) _).far (by simp) _).far (by simp) _).set 0 _).set 1 _).set 2 _).set 3 _).set 4 _).set 5 _
  obtain ⟨⟨z0, z1, z2, z3, z4, z5⟩, -⟩ := rz.all6
  have hbz : Below w.heap.size w ((((((((((w1).setCell ⟨w.heap.size + 1 + 1, 3, none⟩ (.int .i64 x.d.k)).setCell ⟨w.heap.size + 1 + 1, 4, none⟩ (.int .i64 x.d.n)).setCell ⟨w.heap.size + 1 + 1, 5, none⟩ (.string x.d.s)).setCell ⟨w.heap.size + 1, 0, none⟩ (.string x.name)).setCell ⟨w.heap.size + 1, 1, none⟩ (.int .i64 x.kind)).setCell ⟨w.heap.size + 1, 2, none⟩ (.bool x.nn)).setCell ⟨w.heap.size + 1, 3, none⟩ (.int .i64 x.d.k)).setCell ⟨w.heap.size + 1, 4, none⟩ (.int .i64 x.d.n)).setCell ⟨w.heap.size + 1, 5, none⟩ (.string x.d.s)) := (((((((((hbx0).setCell (by simp; try omega) _).setCell (by simp; try omega) _).setCell (by simp; try omega) _).setCell (by simp; try omega) _).setCell (by simp; try omega) _).setCell (by simp; try omega) _).setCell (by simp; try omega) _).setCell (by simp; try omega) _).setCell (by simp; try omega) _
  clear ra r1 r2 rz
  go_wp2_with fail
  exact bodyPost_ret (v := .agg #[.string x.name, .int .i64 x.kind, .bool x.nn, .int .i64 x.d.k, .int .i64 x.d.n, .string x.d.s]) (by simp [results, Tryz.results139, go_sem, z0, z1, z2, z3, z4, z5]) rfl ⟨rfl, hbz⟩
theorem infoColT : (Tryz.prog.info? 172).map (fun i => (i.zero, i.size, i.bytes)) = some (some (.agg #[.string ⟨#[]⟩, .int .i64 0, .bool false, .int .i64 0, .int .i64 0, .string ⟨#[]⟩]), 6, 64) := by kernel_rfl
set_option maxRecDepth 100000 in
set_option maxHeartbeats 1000000 in
theorem lawsToColL (A : Option Addr) (n c : Nat) (l : List Cl) (ok : Nat → Prop) (w : World) (h : Sl ClR 6 ok w A n l) (hs : szL Cl.sz l ≤ 1048576) :
    Calls Tryz.prog 92 #[.slice A n c] w (MadeSl ClR 6 n l w) := by
  obtain rfl : l.length = n := h.1
  have hn : l.length ≤ 1048576 := by unfold szL at hs; omega
  have HS := Lib.hid hs
  clear hs
  have hmk := fun w => mk_rows (P := Tryz.prog) Tryz.underlying81 infoColT (by omega) l.length hn w
  go_enter Tryz.func92, Tryz.ntmps92
  go_wp2
  have row := Row.new w 172 (madeCells #[.string ⟨#[]⟩, .int .i64 0, .bool false, .int .i64 0, .int .i64 0, .string ⟨#[]⟩] (l.length * 6))
  have hb0 := (Below.refl w.heap.size w).alloc (Nat.le_refl _) (.cells (madeCells #[.string ⟨#[]⟩, .int .i64 0, .bool false, .int .i64 0, .int .i64 0, .string ⟨#[]⟩] (l.length * 6)) 172)
  have hsz := size_madeCells #[.string ⟨#[]⟩, .int .i64 0, .bool false, .int .i64 0, .int .i64 0, .string ⟨#[]⟩] (l.length * 6)
  have hx0 : (w.alloc (.cells (madeCells #[.string ⟨#[]⟩, .int .i64 0, .bool false, .int .i64 0, .int .i64 0, .string ⟨#[]⟩] (l.length * 6)) 172)).heap.size = w.heap.size + 1 := by simp
  generalize w.alloc (.cells (madeCells #[.string ⟨#[]⟩, .int .i64 0, .bool false, .int .i64 0, .int .i64 0, .string ⟨#[]⟩] (l.length * 6)) 172) = x at *
  generalize madeCells #[.string ⟨#[]⟩, .int .i64 0, .bool false, .int .i64 0, .int .i64 0, .string ⟨#[]⟩] (l.length * 6) = cs0 at *
  have HZ := Lib.hid hsz
  have HX0 := Lib.hid hx0
  clear hmk hsz hx0
  go_loopw [4] (fun i wr => ∃ (k : Nat) (cs : Array Value), k ≤ l.length ∧ i = .int .i64 k ∧ Row wr w.heap.size 172 cs ∧ Hid (cs.size = l.length * 6) ∧ Hid (LaidR ClR 6 (okF (w.heap.size + 1) wr) wr cs k l) ∧ Hid (w.heap.size + 1 ≤ wr.heap.size) ∧ Below w.heap.size w wr) (fun i _ => l.length - (intOf i).toNat)
  case atStart => exact ⟨0, cs0, by omega, rfl, row, Lib.hid (by rw [HZ.out]), Lib.hid (LaidR.zero _ _ _ _ _ _), Lib.hid (by rw [HX0.out]; exact Nat.le_refl _), hb0⟩
  case round =>
    obtain ⟨k, cs, hk, rfl, hrow, hcs, hlaid, hgw, hb⟩ := hrel
    by_cases hlt : k < l.length
    · obtain ⟨b, off, -, rfl, q0, q1, q2, q3, q4, q5⟩ := ClR.at_ (h.below ClR.stays hb) hlt
      have hsz1 : k * 6 + 6 ≤ cs.size := by rw [hcs.out]; omega
      have hszk : l[k].sz ≤ 1048576 := by have := HS.out; have := sum_mem_le (Cl.sz) l k hlt; unfold szL at *; (try simp only at *); omega
      have HSK := Lib.hid hszk
      clear hszk
      go_wp2_with fail
      refine (lawsToCol l[k]  ok _  HSK.out).mono ?_
      rintro e w1 ⟨rfl, hb1⟩
      have hrow1 := hrow.below hb1
      have hgw1 : w.heap.size + 1 ≤ w1.heap.size := Nat.le_trans hgw.out hb1.size
      have HGW := Lib.hid hgw1
      clear hgw1
      have hl1 := Lib.hid (hlaid.out.belowF ClR.stays hb1)
      have q : ∀ j, j < 6 → w1.cell? ⟨w.heap.size, k * 6 + j, none⟩ = some (cs[k * 6 + j]?.getD undef) := fun j hj => by
        rw [hrow1.cell, Array.getElem?_eq_getElem (by omega)]; rfl
      have z0 : w1.cell? ⟨w.heap.size, k * 6, none⟩ = some (cs[k * 6]?.getD undef) := q 0 (by omega)
      have z1 := q 1 (by omega)
      have z2 := q 2 (by omega)
      have z3 := q 3 (by omega)
      have z4 := q 4 (by omega)
      have z5 := q 5 (by omega)
      have f0 := hrow1.free (k * 6)
      have f1 := hrow1.free (k * 6 + 1)
      have f2 := hrow1.free (k * 6 + 2)
      have f3 := hrow1.free (k * 6 + 3)
      have f4 := hrow1.free (k * 6 + 4)
      have f5 := hrow1.free (k * 6 + 5)
      clear q
      have HR := Lib.hid hrow1
      clear hrow1 hrow q0 q1 q2 q3 q4 q5
      go_wp2_with fail
      go_roundw
      case rel =>
        exact ⟨k + 1, _, by omega, by go_num, ((((((HR.out).set _ _).set _ _).set _ _).set _ _).set _ _).set _ _, Lib.hid (by simp [hcs.out]), Lib.hid ((((((((hl1.out).setF ClR.stays (by simp) _).setF ClR.stays (by simp) _).setF ClR.stays (by simp) _).setF ClR.stays (by simp) _).setF ClR.stays (by simp) _).setF ClR.stays (by simp) _).more hlt (c := [.string l[k].name, .int .i64 l[k].kind, .bool l[k].nn, .int .i64 l[k].d.k, .int .i64 l[k].d.n, .string l[k].d.s]) rfl rfl (hold6 cs k _ _ _ _ _ _) (fresh6 cs k _ _ _ _ _ _ hsz1)), Lib.hid (by simpa using HGW.out), ((((((hb.trans (hb1.mono hb.size)).setCell (by simp) _).setCell (by simp) _).setCell (by simp) _).setCell (by simp) _).setCell (by simp) _).setCell (by simp) _⟩
      case measure => simp [intOf]; omega
    · obtain rfl : k = l.length := by omega
      go_wp2
      go_ret
      exact ⟨_, _, rfl, Nat.le_refl _, (sl_of_laid (ok := okF w.heap.size _) hrow ⟨Nat.le_refl _, hgw.out, fun off => hrow.free off⟩ (fun i hi hlt' => by
        obtain ⟨c', h1, h2, h3⟩ := hlaid.out i hi hlt'
        exact ⟨c', h1, ClR.stays _ _ _ _ _ _ h2 (fun b hb' => hb'.mono (Nat.le_succ _)) (fun p v _ hp => hp), h3⟩) (Nat.le_refl _)), hb⟩
set_option maxRecDepth 100000 in
set_option maxHeartbeats 1000000 in
theorem lawsToUnique (x : Uq) (A0 : Option Addr) (n0 c0 : Nat) (ok : Nat → Prop) (w : World) (h0 : Sl IntR 1 ok w A0 n0 x.cols) (hs : x.sz ≤ 1048576) :
    Calls Tryz.prog 140 #[.agg #[.slice A0 n0 c0]] w (MadeR UqR x w) := by
  have hs0 : x.cols.length ≤ 1048576 := by have := hs; unfold Uq.sz at this; omega
  have HS0 := Lib.hid hs0
  clear hs0
  clear hs
  have ra := ((Row.new w 202 #[.slice A0 n0 c0]).alloc (.cells #[.slice none 0 0] 174)).alloc (.cells #[.slice none 0 0] 174)
  have r1 := (Row.newAt (w.alloc (.cells #[.slice A0 n0 c0] 202)) 174 #[.slice none 0 0] (w.heap.size + 1) (by simp)).alloc (.cells #[.slice none 0 0] 174)
  have r2 := Row.newAt ((w.alloc (.cells #[.slice A0 n0 c0] 202)).alloc (.cells #[.slice none 0 0] 174)) 174 #[.slice none 0 0] (w.heap.size + 1 + 1) (by simp)
  have hb0 := ((((Below.refl w.heap.size w).alloc (Nat.le_refl _) (.cells #[.slice A0 n0 c0] 202)).alloc (by simp) (.cells #[.slice none 0 0] 174)).alloc (by simp; omega) (.cells #[.slice none 0 0] 174))
  have hz0 : w.heap.size + 3 ≤ (((w.alloc (.cells #[.slice A0 n0 c0] 202)).alloc (.cells #[.slice none 0 0] 174)).alloc (.cells #[.slice none 0 0] 174)).heap.size := by simp
  go_enter Tryz.func140, Tryz.ntmps140
  go_wp2_with fail
  generalize ((w.alloc (.cells #[.slice A0 n0 c0] 202)).alloc (.cells #[.slice none 0 0] 174)).alloc (.cells #[.slice none 0 0] 174) = x0 at *
  refine (lawsToIntL A0 n0 c0 x.cols ok _ (h0.below IntR.stays hb0) HS0.out).mono ?_
  rintro e w1 ⟨B0, d0, rfl, hcp0, t0, hc0⟩
  have u0 := t0.stays IntR.stays (ok' := okF (w.heap.size + 3) w1) (fun b hb' => hb'.mono (by omega)) (fun p v _ hp => hp)
  clear t0
  have ra := ra.below hc0
  have r1 := r1.below hc0
  have r2 := r2.below hc0
  have hbx0 := hb0.trans (hc0.mono hb0.size)
  have hz1 : w.heap.size + 3 ≤ w1.heap.size := Nat.le_trans hz0 hc0.size
  obtain ⟨a_0_0, -⟩ := ra.all1
  obtain ⟨b_0_0, f_0_0⟩ := r2.all1
  obtain ⟨g_0_0, k_0_0⟩ := r1.all1
  have rz : Row (((w1).setCell ⟨w.heap.size + 1 + 1, 0, none⟩ (.slice B0 n0 d0)).setCell ⟨w.heap.size + 1, 0, none⟩ (.slice B0 n0 d0)) (w.heap.size + 1) 174 #[.slice B0 n0 d0] := ((r1).far (by simp) _).set 0 _
  obtain ⟨z0, -⟩ := rz.all1
  have y0 : Sl IntR 1 (okF (w.heap.size + 3) (((w1).setCell ⟨w.heap.size + 1 + 1, 0, none⟩ (.slice B0 n0 d0)).setCell ⟨w.heap.size + 1, 0, none⟩ (.slice B0 n0 d0))) (((w1).setCell ⟨w.heap.size + 1 + 1, 0, none⟩ (.slice B0 n0 d0)).setCell ⟨w.heap.size + 1, 0, none⟩ (.slice B0 n0 d0)) B0 n0 x.cols := ((u0).setF IntR.stays (by simp) _).setF IntR.stays (by simp) _
  have hbz : Below w.heap.size w (((w1).setCell ⟨w.heap.size + 1 + 1, 0, none⟩ (.slice B0 n0 d0)).setCell ⟨w.heap.size + 1, 0, none⟩ (.slice B0 n0 d0)) := ((hbx0).setCell (by simp; try omega) _).setCell (by simp; try omega) _
  clear ra r1 r2 rz
  go_wp2_with fail
  exact bodyPost_ret (v := .agg #[.slice B0 n0 d0]) (by simp [results, Tryz.results140, go_sem, z0]) rfl ⟨[.slice B0 n0 d0], rfl, ⟨_, _, _, rfl, y0.stays IntR.stays (fun b hb' => hb'.mono (by omega)) (fun p v _ hp => hp), hcp0⟩, hbz⟩
theorem infoUniqueT : (Tryz.prog.info? 174).map (fun i => (i.zero, i.size, i.bytes)) = some (some (.agg #[.slice none 0 0]), 1, 24) := by kernel_rfl
set_option maxRecDepth 100000 in
set_option maxHeartbeats 1000000 in
theorem lawsToUniqueL (A : Option Addr) (n c : Nat) (l : List Uq) (ok : Nat → Prop) (w : World) (h : Sl UqR 1 ok w A n l) (hs : szL Uq.sz l ≤ 1048576) :
    Calls Tryz.prog 93 #[.slice A n c] w (MadeSl UqR 1 n l w) := by
  obtain rfl : l.length = n := h.1
  have hn : l.length ≤ 1048576 := by unfold szL at hs; omega
  have HS := Lib.hid hs
  clear hs
  have hmk := fun w => mk_rows (P := Tryz.prog) Tryz.underlying82 infoUniqueT (by omega) l.length hn w
  simp only [Nat.mul_one] at hmk
  go_enter Tryz.func93, Tryz.ntmps93
  go_wp2
  have row := Row.new w 174 (madeCells #[.slice none 0 0] (l.length))
  have hb0 := (Below.refl w.heap.size w).alloc (Nat.le_refl _) (.cells (madeCells #[.slice none 0 0] (l.length)) 174)
  have hsz := size_madeCells #[.slice none 0 0] (l.length)
  have hx0 : (w.alloc (.cells (madeCells #[.slice none 0 0] (l.length)) 174)).heap.size = w.heap.size + 1 := by simp
  generalize w.alloc (.cells (madeCells #[.slice none 0 0] (l.length)) 174) = x at *
  generalize madeCells #[.slice none 0 0] (l.length) = cs0 at *
  have HZ := Lib.hid hsz
  have HX0 := Lib.hid hx0
  clear hmk hsz hx0
  go_loopw [4] (fun i wr => ∃ (k : Nat) (cs : Array Value), k ≤ l.length ∧ i = .int .i64 k ∧ Row wr w.heap.size 174 cs ∧ Hid (cs.size = l.length * 1) ∧ Hid (LaidR UqR 1 (okF (w.heap.size + 1) wr) wr cs k l) ∧ Hid (w.heap.size + 1 ≤ wr.heap.size) ∧ Below w.heap.size w wr) (fun i _ => l.length - (intOf i).toNat)
  case atStart => exact ⟨0, cs0, by omega, rfl, row, Lib.hid (by rw [HZ.out]; exact (Nat.mul_one _).symm), Lib.hid (LaidR.zero _ _ _ _ _ _), Lib.hid (by rw [HX0.out]; exact Nat.le_refl _), hb0⟩
  case round =>
    obtain ⟨k, cs, hk, rfl, hrow, hcs, hlaid, hgw, hb⟩ := hrel
    by_cases hlt : k < l.length
    · obtain ⟨b, off, A0, n0, c0, -, rfl, q0, s0, -⟩ := UqR.at_ (h.below UqR.stays hb) hlt
      have hsz1 : k * 1 + 1 ≤ cs.size := by rw [hcs.out]; omega
      have hszk : l[k].sz ≤ 1048576 := by have := HS.out; have := sum_mem_le (Uq.sz) l k hlt; unfold szL at *; (try simp only at *); omega
      have HSK := Lib.hid hszk
      clear hszk
      go_wp2_with fail
      refine (lawsToUnique l[k] A0 n0 c0 ok _ s0 HSK.out).mono ?_
      rintro e w1 ⟨cs', rfl, hR1, hb1⟩
      obtain ⟨B0, m0, d0, rfl, t0, hcp⟩ := hR1
      have hrow1 := hrow.below hb1
      have hgw1 : w.heap.size + 1 ≤ w1.heap.size := Nat.le_trans hgw.out hb1.size
      have HGW := Lib.hid hgw1
      clear hgw1
      have hl1 := Lib.hid (hlaid.out.belowF UqR.stays hb1)
      have q : ∀ j, j < 1 → w1.cell? ⟨w.heap.size, k + j, none⟩ = some (cs[k + j]?.getD undef) := fun j hj => by
        rw [hrow1.cell, Array.getElem?_eq_getElem (by omega)]; rfl
      have z0 : w1.cell? ⟨w.heap.size, k, none⟩ = some (cs[k]?.getD undef) := q 0 (by omega)
      have f0 := hrow1.free (k)
      clear q
      have HR := Lib.hid hrow1
      clear hrow1 hrow q0
      go_wp2_with fail
      go_roundw
      case rel =>
        have y0 := ((t0.stays IntR.stays (ok' := okF (w.heap.size + 1) w1) (fun b hb' => hb'.mono hgw.out) (fun p v _ hp => hp))).setF IntR.stays (p := ⟨w.heap.size, k, none⟩) (by simp) (.slice B0 m0 d0)
        exact ⟨k + 1, _, by omega, by go_num, (HR.out).set _ _, Lib.hid (by simp [hcs.out]), Lib.hid (((hl1.out).setF UqR.stays (by simp) _).more hlt (c := [.slice B0 m0 d0]) rfl ⟨_, _, _, rfl, y0, hcp⟩ (hold1 cs k _) (fresh1 cs k _ hsz1)), Lib.hid (by simpa using HGW.out), (hb.trans (hb1.mono hb.size)).setCell (by simp) _⟩
      case measure => simp [intOf]; omega
    · obtain rfl : k = l.length := by omega
      go_wp2
      go_ret
      exact ⟨_, _, rfl, Nat.le_refl _, (sl_of_laid (ok := okF w.heap.size _) hrow ⟨Nat.le_refl _, hgw.out, fun off => hrow.free off⟩ (fun i hi hlt' => by
        obtain ⟨c', h1, h2, h3⟩ := hlaid.out i hi hlt'
        exact ⟨c', h1, UqR.stays _ _ _ _ _ _ h2 (fun b hb' => hb'.mono (Nat.le_succ _)) (fun p v _ hp => hp), h3⟩) (Nat.le_refl _)), hb⟩
set_option maxRecDepth 100000 in
set_option maxHeartbeats 1000000 in
theorem lawsToCheck (x : Ck) (A0 : Option Addr) (n0 c0 : Nat) (ok : Nat → Prop) (w : World) (h0 : Sl TkR 5 ok w A0 n0 x.expr) (hs : x.sz ≤ 1048576) :
    Calls Tryz.prog 141 #[.agg #[.slice A0 n0 c0]] w (MadeR CkR x w) := by
  have hs0 : szL (fun t : Tk => t.vs.size) x.expr ≤ 1048576 := by have := hs; unfold Ck.sz at this; omega
  have HS0 := Lib.hid hs0
  clear hs0
  clear hs
  have ra := ((Row.new w 205 #[.slice A0 n0 c0]).alloc (.cells #[.slice none 0 0] 176)).alloc (.cells #[.slice none 0 0] 176)
  have r1 := (Row.newAt (w.alloc (.cells #[.slice A0 n0 c0] 205)) 176 #[.slice none 0 0] (w.heap.size + 1) (by simp)).alloc (.cells #[.slice none 0 0] 176)
  have r2 := Row.newAt ((w.alloc (.cells #[.slice A0 n0 c0] 205)).alloc (.cells #[.slice none 0 0] 176)) 176 #[.slice none 0 0] (w.heap.size + 1 + 1) (by simp)
  have hb0 := ((((Below.refl w.heap.size w).alloc (Nat.le_refl _) (.cells #[.slice A0 n0 c0] 205)).alloc (by simp) (.cells #[.slice none 0 0] 176)).alloc (by simp; omega) (.cells #[.slice none 0 0] 176))
  have hz0 : w.heap.size + 3 ≤ (((w.alloc (.cells #[.slice A0 n0 c0] 205)).alloc (.cells #[.slice none 0 0] 176)).alloc (.cells #[.slice none 0 0] 176)).heap.size := by simp
  go_enter Tryz.func141, Tryz.ntmps141
  go_wp2_with fail
  generalize ((w.alloc (.cells #[.slice A0 n0 c0] 205)).alloc (.cells #[.slice none 0 0] 176)).alloc (.cells #[.slice none 0 0] 176) = x0 at *
  refine (lawsToTokL A0 n0 c0 x.expr ok _ (h0.below TkR.stays hb0) HS0.out).mono ?_
  rintro e w1 ⟨B0, d0, rfl, hcp0, t0, hc0⟩
  have u0 := t0.stays TkR.stays (ok' := okF (w.heap.size + 3) w1) (fun b hb' => hb'.mono (by omega)) (fun p v _ hp => hp)
  clear t0
  have ra := ra.below hc0
  have r1 := r1.below hc0
  have r2 := r2.below hc0
  have hbx0 := hb0.trans (hc0.mono hb0.size)
  have hz1 : w.heap.size + 3 ≤ w1.heap.size := Nat.le_trans hz0 hc0.size
  obtain ⟨a_0_0, -⟩ := ra.all1
  obtain ⟨b_0_0, f_0_0⟩ := r2.all1
  obtain ⟨g_0_0, k_0_0⟩ := r1.all1
  have rz : Row (((w1).setCell ⟨w.heap.size + 1 + 1, 0, none⟩ (.slice B0 n0 d0)).setCell ⟨w.heap.size + 1, 0, none⟩ (.slice B0 n0 d0)) (w.heap.size + 1) 176 #[.slice B0 n0 d0] := ((r1).far (by simp) _).set 0 _
  obtain ⟨z0, -⟩ := rz.all1
  have y0 : Sl TkR 5 (okF (w.heap.size + 3) (((w1).setCell ⟨w.heap.size + 1 + 1, 0, none⟩ (.slice B0 n0 d0)).setCell ⟨w.heap.size + 1, 0, none⟩ (.slice B0 n0 d0))) (((w1).setCell ⟨w.heap.size + 1 + 1, 0, none⟩ (.slice B0 n0 d0)).setCell ⟨w.heap.size + 1, 0, none⟩ (.slice B0 n0 d0)) B0 n0 x.expr := ((u0).setF TkR.stays (by simp) _).setF TkR.stays (by simp) _
  have hbz : Below w.heap.size w (((w1).setCell ⟨w.heap.size + 1 + 1, 0, none⟩ (.slice B0 n0 d0)).setCell ⟨w.heap.size + 1, 0, none⟩ (.slice B0 n0 d0)) := ((hbx0).setCell (by simp; try omega) _).setCell (by simp; try omega) _
  clear ra r1 r2 rz
  go_wp2_with fail
  exact bodyPost_ret (v := .agg #[.slice B0 n0 d0]) (by simp [results, Tryz.results141, go_sem, z0]) rfl ⟨[.slice B0 n0 d0], rfl, ⟨_, _, _, rfl, y0.stays TkR.stays (fun b hb' => hb'.mono (by omega)) (fun p v _ hp => hp), hcp0⟩, hbz⟩
theorem infoCheckT : (Tryz.prog.info? 176).map (fun i => (i.zero, i.size, i.bytes)) = some (some (.agg #[.slice none 0 0]), 1, 24) := by kernel_rfl
set_option maxRecDepth 100000 in
set_option maxHeartbeats 1000000 in
theorem lawsToCheckL (A : Option Addr) (n c : Nat) (l : List Ck) (ok : Nat → Prop) (w : World) (h : Sl CkR 1 ok w A n l) (hs : szL Ck.sz l ≤ 1048576) :
    Calls Tryz.prog 94 #[.slice A n c] w (MadeSl CkR 1 n l w) := by
  obtain rfl : l.length = n := h.1
  have hn : l.length ≤ 1048576 := by unfold szL at hs; omega
  have HS := Lib.hid hs
  clear hs
  have hmk := fun w => mk_rows (P := Tryz.prog) Tryz.underlying83 infoCheckT (by omega) l.length hn w
  simp only [Nat.mul_one] at hmk
  go_enter Tryz.func94, Tryz.ntmps94
  go_wp2
  have row := Row.new w 176 (madeCells #[.slice none 0 0] (l.length))
  have hb0 := (Below.refl w.heap.size w).alloc (Nat.le_refl _) (.cells (madeCells #[.slice none 0 0] (l.length)) 176)
  have hsz := size_madeCells #[.slice none 0 0] (l.length)
  have hx0 : (w.alloc (.cells (madeCells #[.slice none 0 0] (l.length)) 176)).heap.size = w.heap.size + 1 := by simp
  generalize w.alloc (.cells (madeCells #[.slice none 0 0] (l.length)) 176) = x at *
  generalize madeCells #[.slice none 0 0] (l.length) = cs0 at *
  have HZ := Lib.hid hsz
  have HX0 := Lib.hid hx0
  clear hmk hsz hx0
  go_loopw [4] (fun i wr => ∃ (k : Nat) (cs : Array Value), k ≤ l.length ∧ i = .int .i64 k ∧ Row wr w.heap.size 176 cs ∧ Hid (cs.size = l.length * 1) ∧ Hid (LaidR CkR 1 (okF (w.heap.size + 1) wr) wr cs k l) ∧ Hid (w.heap.size + 1 ≤ wr.heap.size) ∧ Below w.heap.size w wr) (fun i _ => l.length - (intOf i).toNat)
  case atStart => exact ⟨0, cs0, by omega, rfl, row, Lib.hid (by rw [HZ.out]; exact (Nat.mul_one _).symm), Lib.hid (LaidR.zero _ _ _ _ _ _), Lib.hid (by rw [HX0.out]; exact Nat.le_refl _), hb0⟩
  case round =>
    obtain ⟨k, cs, hk, rfl, hrow, hcs, hlaid, hgw, hb⟩ := hrel
    by_cases hlt : k < l.length
    · obtain ⟨b, off, A0, n0, c0, -, rfl, q0, s0, -⟩ := CkR.at_ (h.below CkR.stays hb) hlt
      have hsz1 : k * 1 + 1 ≤ cs.size := by rw [hcs.out]; omega
      have hszk : l[k].sz ≤ 1048576 := by have := HS.out; have := sum_mem_le (Ck.sz) l k hlt; unfold szL at *; (try simp only at *); omega
      have HSK := Lib.hid hszk
      clear hszk
      go_wp2_with fail
      refine (lawsToCheck l[k] A0 n0 c0 ok _ s0 HSK.out).mono ?_
      rintro e w1 ⟨cs', rfl, hR1, hb1⟩
      obtain ⟨B0, m0, d0, rfl, t0, hcp⟩ := hR1
      have hrow1 := hrow.below hb1
      have hgw1 : w.heap.size + 1 ≤ w1.heap.size := Nat.le_trans hgw.out hb1.size
      have HGW := Lib.hid hgw1
      clear hgw1
      have hl1 := Lib.hid (hlaid.out.belowF CkR.stays hb1)
      have q : ∀ j, j < 1 → w1.cell? ⟨w.heap.size, k + j, none⟩ = some (cs[k + j]?.getD undef) := fun j hj => by
        rw [hrow1.cell, Array.getElem?_eq_getElem (by omega)]; rfl
      have z0 : w1.cell? ⟨w.heap.size, k, none⟩ = some (cs[k]?.getD undef) := q 0 (by omega)
      have f0 := hrow1.free (k)
      clear q
      have HR := Lib.hid hrow1
      clear hrow1 hrow q0
      go_wp2_with fail
      go_roundw
      case rel =>
        have y0 := ((t0.stays TkR.stays (ok' := okF (w.heap.size + 1) w1) (fun b hb' => hb'.mono hgw.out) (fun p v _ hp => hp))).setF TkR.stays (p := ⟨w.heap.size, k, none⟩) (by simp) (.slice B0 m0 d0)
        exact ⟨k + 1, _, by omega, by go_num, (HR.out).set _ _, Lib.hid (by simp [hcs.out]), Lib.hid (((hl1.out).setF CkR.stays (by simp) _).more hlt (c := [.slice B0 m0 d0]) rfl ⟨_, _, _, rfl, y0, hcp⟩ (hold1 cs k _) (fresh1 cs k _ hsz1)), Lib.hid (by simpa using HGW.out), (hb.trans (hb1.mono hb.size)).setCell (by simp) _⟩
      case measure => simp [intOf]; omega
    · obtain rfl : k = l.length := by omega
      go_wp2
      go_ret
      exact ⟨_, _, rfl, Nat.le_refl _, (sl_of_laid (ok := okF w.heap.size _) hrow ⟨Nat.le_refl _, hgw.out, fun off => hrow.free off⟩ (fun i hi hlt' => by
        obtain ⟨c', h1, h2, h3⟩ := hlaid.out i hi hlt'
        exact ⟨c', h1, CkR.stays _ _ _ _ _ _ h2 (fun b hb' => hb'.mono (Nat.le_succ _)) (fun p v _ hp => hp), h3⟩) (Nat.le_refl _)), hb⟩
set_option maxRecDepth 100000 in
set_option maxHeartbeats 1000000 in
theorem lawsToFk (x : Fk) (A0 : Option Addr) (n0 c0 : Nat) (ok : Nat → Prop) (w : World) (h0 : Sl IntR 1 ok w A0 n0 x.cols) (hs : x.sz ≤ 1048576) :
    Calls Tryz.prog 142 #[.agg #[.slice A0 n0 c0, .string x.table, .int .i64 x.del, .int .i64 x.upd, .bool x.dfr]] w (MadeR FkR x w) := by
  have hs0 : x.cols.length ≤ 1048576 := by have := hs; unfold Fk.sz at this; omega
  have HS0 := Lib.hid hs0
  clear hs0
  clear hs
  have ra := ((Row.new w 207 #[.slice A0 n0 c0, .string x.table, .int .i64 x.del, .int .i64 x.upd, .bool x.dfr]).alloc (.cells #[.slice none 0 0, .string ⟨#[]⟩, .int .i64 0, .int .i64 0, .bool false] 178)).alloc (.cells #[.slice none 0 0, .string ⟨#[]⟩, .int .i64 0, .int .i64 0, .bool false] 178)
  have r1 := (Row.newAt (w.alloc (.cells #[.slice A0 n0 c0, .string x.table, .int .i64 x.del, .int .i64 x.upd, .bool x.dfr] 207)) 178 #[.slice none 0 0, .string ⟨#[]⟩, .int .i64 0, .int .i64 0, .bool false] (w.heap.size + 1) (by simp)).alloc (.cells #[.slice none 0 0, .string ⟨#[]⟩, .int .i64 0, .int .i64 0, .bool false] 178)
  have r2 := Row.newAt ((w.alloc (.cells #[.slice A0 n0 c0, .string x.table, .int .i64 x.del, .int .i64 x.upd, .bool x.dfr] 207)).alloc (.cells #[.slice none 0 0, .string ⟨#[]⟩, .int .i64 0, .int .i64 0, .bool false] 178)) 178 #[.slice none 0 0, .string ⟨#[]⟩, .int .i64 0, .int .i64 0, .bool false] (w.heap.size + 1 + 1) (by simp)
  have hb0 := ((((Below.refl w.heap.size w).alloc (Nat.le_refl _) (.cells #[.slice A0 n0 c0, .string x.table, .int .i64 x.del, .int .i64 x.upd, .bool x.dfr] 207)).alloc (by simp) (.cells #[.slice none 0 0, .string ⟨#[]⟩, .int .i64 0, .int .i64 0, .bool false] 178)).alloc (by simp; omega) (.cells #[.slice none 0 0, .string ⟨#[]⟩, .int .i64 0, .int .i64 0, .bool false] 178))
  have hz0 : w.heap.size + 3 ≤ (((w.alloc (.cells #[.slice A0 n0 c0, .string x.table, .int .i64 x.del, .int .i64 x.upd, .bool x.dfr] 207)).alloc (.cells #[.slice none 0 0, .string ⟨#[]⟩, .int .i64 0, .int .i64 0, .bool false] 178)).alloc (.cells #[.slice none 0 0, .string ⟨#[]⟩, .int .i64 0, .int .i64 0, .bool false] 178)).heap.size := by simp
  go_enter Tryz.func142, Tryz.ntmps142
  go_wp2_with fail
  generalize ((w.alloc (.cells #[.slice A0 n0 c0, .string x.table, .int .i64 x.del, .int .i64 x.upd, .bool x.dfr] 207)).alloc (.cells #[.slice none 0 0, .string ⟨#[]⟩, .int .i64 0, .int .i64 0, .bool false] 178)).alloc (.cells #[.slice none 0 0, .string ⟨#[]⟩, .int .i64 0, .int .i64 0, .bool false] 178) = x0 at *
  refine (lawsToIntL A0 n0 c0 x.cols ok _ (h0.below IntR.stays hb0) HS0.out).mono ?_
  rintro e w1 ⟨B0, d0, rfl, hcp0, t0, hc0⟩
  have u0 := t0.stays IntR.stays (ok' := okF (w.heap.size + 3) w1) (fun b hb' => hb'.mono (by omega)) (fun p v _ hp => hp)
  clear t0
  have ra := ra.below hc0
  have r1 := r1.below hc0
  have r2 := r2.below hc0
  have hbx0 := hb0.trans (hc0.mono hb0.size)
  have hz1 : w.heap.size + 3 ≤ w1.heap.size := Nat.le_trans hz0 hc0.size
  obtain ⟨⟨a_0_0, a_0_1, a_0_2, a_0_3, a_0_4⟩, -⟩ := ra.five
  obtain ⟨⟨b_0_0, b_0_1, b_0_2, b_0_3, b_0_4⟩, ⟨f_0_0, f_0_1, f_0_2, f_0_3, f_0_4⟩⟩ := r2.five
  obtain ⟨⟨g_0_0, g_0_1, g_0_2, g_0_3, g_0_4⟩, ⟨k_0_0, k_0_1, k_0_2, k_0_3, k_0_4⟩⟩ := r1.five
  have rz : Row (((((((((((w1).setCell ⟨w.heap.size + 1 + 1, 0, none⟩ (.slice B0 n0 d0)).setCell ⟨w.heap.size + 1 + 1, 1, none⟩ (.string x.table)).setCell ⟨w.heap.size + 1 + 1, 2, none⟩ (.int .i64 x.del)).setCell ⟨w.heap.size + 1 + 1, 3, none⟩ (.int .i64 x.upd)).setCell ⟨w.heap.size + 1 + 1, 4, none⟩ (.bool x.dfr)).setCell ⟨w.heap.size + 1, 0, none⟩ (.slice B0 n0 d0)).setCell ⟨w.heap.size + 1, 1, none⟩ (.string x.table)).setCell ⟨w.heap.size + 1, 2, none⟩ (.int .i64 x.del)).setCell ⟨w.heap.size + 1, 3, none⟩ (.int .i64 x.upd)).setCell ⟨w.heap.size + 1, 4, none⟩ (.bool x.dfr)) (w.heap.size + 1) 178 #[.slice B0 n0 d0, .string x.table, .int .i64 x.del, .int .i64 x.upd, .bool x.dfr] := ((((((((((r1).far (by simp) _).far (by simp) _).far (by simp) _).far (by simp) _).far (by simp) _).set 0 _).set 1 _).set 2 _).set 3 _).set 4 _
  obtain ⟨⟨z0, z1, z2, z3, z4⟩, -⟩ := rz.five
  have y0 : Sl IntR 1 (okF (w.heap.size + 3) (((((((((((w1).setCell ⟨w.heap.size + 1 + 1, 0, none⟩ (.slice B0 n0 d0)).setCell ⟨w.heap.size + 1 + 1, 1, none⟩ (.string x.table)).setCell ⟨w.heap.size + 1 + 1, 2, none⟩ (.int .i64 x.del)).setCell ⟨w.heap.size + 1 + 1, 3, none⟩ (.int .i64 x.upd)).setCell ⟨w.heap.size + 1 + 1, 4, none⟩ (.bool x.dfr)).setCell ⟨w.heap.size + 1, 0, none⟩ (.slice B0 n0 d0)).setCell ⟨w.heap.size + 1, 1, none⟩ (.string x.table)).setCell ⟨w.heap.size + 1, 2, none⟩ (.int .i64 x.del)).setCell ⟨w.heap.size + 1, 3, none⟩ (.int .i64 x.upd)).setCell ⟨w.heap.size + 1, 4, none⟩ (.bool x.dfr))) (((((((((((w1).setCell ⟨w.heap.size + 1 + 1, 0, none⟩ (.slice B0 n0 d0)).setCell ⟨w.heap.size + 1 + 1, 1, none⟩ (.string x.table)).setCell ⟨w.heap.size + 1 + 1, 2, none⟩ (.int .i64 x.del)).setCell ⟨w.heap.size + 1 + 1, 3, none⟩ (.int .i64 x.upd)).setCell ⟨w.heap.size + 1 + 1, 4, none⟩ (.bool x.dfr)).setCell ⟨w.heap.size + 1, 0, none⟩ (.slice B0 n0 d0)).setCell ⟨w.heap.size + 1, 1, none⟩ (.string x.table)).setCell ⟨w.heap.size + 1, 2, none⟩ (.int .i64 x.del)).setCell ⟨w.heap.size + 1, 3, none⟩ (.int .i64 x.upd)).setCell ⟨w.heap.size + 1, 4, none⟩ (.bool x.dfr)) B0 n0 x.cols := ((((((((((u0).setF IntR.stays (by simp) _).setF IntR.stays (by simp) _).setF IntR.stays (by simp) _).setF IntR.stays (by simp) _).setF IntR.stays (by simp) _).setF IntR.stays (by simp) _).setF IntR.stays (by simp) _).setF IntR.stays (by simp) _).setF IntR.stays (by simp) _).setF IntR.stays (by simp) _
  have hbz : Below w.heap.size w (((((((((((w1).setCell ⟨w.heap.size + 1 + 1, 0, none⟩ (.slice B0 n0 d0)).setCell ⟨w.heap.size + 1 + 1, 1, none⟩ (.string x.table)).setCell ⟨w.heap.size + 1 + 1, 2, none⟩ (.int .i64 x.del)).setCell ⟨w.heap.size + 1 + 1, 3, none⟩ (.int .i64 x.upd)).setCell ⟨w.heap.size + 1 + 1, 4, none⟩ (.bool x.dfr)).setCell ⟨w.heap.size + 1, 0, none⟩ (.slice B0 n0 d0)).setCell ⟨w.heap.size + 1, 1, none⟩ (.string x.table)).setCell ⟨w.heap.size + 1, 2, none⟩ (.int .i64 x.del)).setCell ⟨w.heap.size + 1, 3, none⟩ (.int .i64 x.upd)).setCell ⟨w.heap.size + 1, 4, none⟩ (.bool x.dfr)) := ((((((((((hbx0).setCell (by simp; try omega) _).setCell (by simp; try omega) _).setCell (by simp; try omega) _).setCell (by simp; try omega) _).setCell (by simp; try omega) _).setCell (by simp; try omega) _).setCell (by simp; try omega) _).setCell (by simp; try omega) _).setCell (by simp; try omega) _).setCell (by simp; try omega) _
  clear ra r1 r2 rz
  go_wp2_with fail
  exact bodyPost_ret (v := .agg #[.slice B0 n0 d0, .string x.table, .int .i64 x.del, .int .i64 x.upd, .bool x.dfr]) (by simp [results, Tryz.results142, go_sem, z0, z1, z2, z3, z4]) rfl ⟨[.slice B0 n0 d0, .string x.table, .int .i64 x.del, .int .i64 x.upd, .bool x.dfr], rfl, ⟨_, _, _, rfl, y0.stays IntR.stays (fun b hb' => hb'.mono (by omega)) (fun p v _ hp => hp), hcp0⟩, hbz⟩
theorem infoFkT : (Tryz.prog.info? 178).map (fun i => (i.zero, i.size, i.bytes)) = some (some (.agg #[.slice none 0 0, .string ⟨#[]⟩, .int .i64 0, .int .i64 0, .bool false]), 5, 64) := by kernel_rfl
set_option maxRecDepth 100000 in
set_option maxHeartbeats 1000000 in
theorem lawsToFkL (A : Option Addr) (n c : Nat) (l : List Fk) (ok : Nat → Prop) (w : World) (h : Sl FkR 5 ok w A n l) (hs : szL Fk.sz l ≤ 1048576) :
    Calls Tryz.prog 95 #[.slice A n c] w (MadeSl FkR 5 n l w) := by
  obtain rfl : l.length = n := h.1
  have hn : l.length ≤ 1048576 := by unfold szL at hs; omega
  have HS := Lib.hid hs
  clear hs
  have hmk := fun w => mk_rows (P := Tryz.prog) Tryz.underlying84 infoFkT (by omega) l.length hn w
  go_enter Tryz.func95, Tryz.ntmps95
  go_wp2
  have row := Row.new w 178 (madeCells #[.slice none 0 0, .string ⟨#[]⟩, .int .i64 0, .int .i64 0, .bool false] (l.length * 5))
  have hb0 := (Below.refl w.heap.size w).alloc (Nat.le_refl _) (.cells (madeCells #[.slice none 0 0, .string ⟨#[]⟩, .int .i64 0, .int .i64 0, .bool false] (l.length * 5)) 178)
  have hsz := size_madeCells #[.slice none 0 0, .string ⟨#[]⟩, .int .i64 0, .int .i64 0, .bool false] (l.length * 5)
  have hx0 : (w.alloc (.cells (madeCells #[.slice none 0 0, .string ⟨#[]⟩, .int .i64 0, .int .i64 0, .bool false] (l.length * 5)) 178)).heap.size = w.heap.size + 1 := by simp
  generalize w.alloc (.cells (madeCells #[.slice none 0 0, .string ⟨#[]⟩, .int .i64 0, .int .i64 0, .bool false] (l.length * 5)) 178) = x at *
  generalize madeCells #[.slice none 0 0, .string ⟨#[]⟩, .int .i64 0, .int .i64 0, .bool false] (l.length * 5) = cs0 at *
  have HZ := Lib.hid hsz
  have HX0 := Lib.hid hx0
  clear hmk hsz hx0
  go_loopw [4] (fun i wr => ∃ (k : Nat) (cs : Array Value), k ≤ l.length ∧ i = .int .i64 k ∧ Row wr w.heap.size 178 cs ∧ Hid (cs.size = l.length * 5) ∧ Hid (LaidR FkR 5 (okF (w.heap.size + 1) wr) wr cs k l) ∧ Hid (w.heap.size + 1 ≤ wr.heap.size) ∧ Below w.heap.size w wr) (fun i _ => l.length - (intOf i).toNat)
  case atStart => exact ⟨0, cs0, by omega, rfl, row, Lib.hid (by rw [HZ.out]), Lib.hid (LaidR.zero _ _ _ _ _ _), Lib.hid (by rw [HX0.out]; exact Nat.le_refl _), hb0⟩
  case round =>
    obtain ⟨k, cs, hk, rfl, hrow, hcs, hlaid, hgw, hb⟩ := hrel
    by_cases hlt : k < l.length
    · obtain ⟨b, off, A0, n0, c0, -, rfl, q0, q1, q2, q3, q4, s0, -⟩ := FkR.at_ (h.below FkR.stays hb) hlt
      have hsz1 : k * 5 + 5 ≤ cs.size := by rw [hcs.out]; omega
      have hszk : l[k].sz ≤ 1048576 := by have := HS.out; have := sum_mem_le (Fk.sz) l k hlt; unfold szL at *; (try simp only at *); omega
      have HSK := Lib.hid hszk
      clear hszk
      go_wp2_with fail
      refine (lawsToFk l[k] A0 n0 c0 ok _ s0 HSK.out).mono ?_
      rintro e w1 ⟨cs', rfl, hR1, hb1⟩
      obtain ⟨B0, m0, d0, rfl, t0, hcp⟩ := hR1
      have hrow1 := hrow.below hb1
      have hgw1 : w.heap.size + 1 ≤ w1.heap.size := Nat.le_trans hgw.out hb1.size
      have HGW := Lib.hid hgw1
      clear hgw1
      have hl1 := Lib.hid (hlaid.out.belowF FkR.stays hb1)
      have q : ∀ j, j < 5 → w1.cell? ⟨w.heap.size, k * 5 + j, none⟩ = some (cs[k * 5 + j]?.getD undef) := fun j hj => by
        rw [hrow1.cell, Array.getElem?_eq_getElem (by omega)]; rfl
      have z0 : w1.cell? ⟨w.heap.size, k * 5, none⟩ = some (cs[k * 5]?.getD undef) := q 0 (by omega)
      have z1 := q 1 (by omega)
      have z2 := q 2 (by omega)
      have z3 := q 3 (by omega)
      have z4 := q 4 (by omega)
      have f0 := hrow1.free (k * 5)
      have f1 := hrow1.free (k * 5 + 1)
      have f2 := hrow1.free (k * 5 + 2)
      have f3 := hrow1.free (k * 5 + 3)
      have f4 := hrow1.free (k * 5 + 4)
      clear q
      have HR := Lib.hid hrow1
      clear hrow1 hrow q0 q1 q2 q3 q4
      go_wp2_with fail
      go_roundw
      case rel =>
        have y0 := ((((((t0.stays IntR.stays (ok' := okF (w.heap.size + 1) w1) (fun b hb' => hb'.mono hgw.out) (fun p v _ hp => hp))).setF IntR.stays (p := ⟨w.heap.size, k * 5, none⟩) (by simp) (.slice B0 m0 d0)).setF IntR.stays (p := ⟨w.heap.size, k * 5 + 1, none⟩) (by simp) (.string l[k].table)).setF IntR.stays (p := ⟨w.heap.size, k * 5 + 2, none⟩) (by simp) (.int .i64 l[k].del)).setF IntR.stays (p := ⟨w.heap.size, k * 5 + 3, none⟩) (by simp) (.int .i64 l[k].upd)).setF IntR.stays (p := ⟨w.heap.size, k * 5 + 4, none⟩) (by simp) (.bool l[k].dfr)
        exact ⟨k + 1, _, by omega, by go_num, (((((HR.out).set _ _).set _ _).set _ _).set _ _).set _ _, Lib.hid (by simp [hcs.out]), Lib.hid (((((((hl1.out).setF FkR.stays (by simp) _).setF FkR.stays (by simp) _).setF FkR.stays (by simp) _).setF FkR.stays (by simp) _).setF FkR.stays (by simp) _).more hlt (c := [.slice B0 m0 d0, .string l[k].table, .int .i64 l[k].del, .int .i64 l[k].upd, .bool l[k].dfr]) rfl ⟨_, _, _, rfl, y0, hcp⟩ (hold5 cs k _ _ _ _ _) (fresh5 cs k _ _ _ _ _ hsz1)), Lib.hid (by simpa using HGW.out), (((((hb.trans (hb1.mono hb.size)).setCell (by simp) _).setCell (by simp) _).setCell (by simp) _).setCell (by simp) _).setCell (by simp) _⟩
      case measure => simp [intOf]; omega
    · obtain rfl : k = l.length := by omega
      go_wp2
      go_ret
      exact ⟨_, _, rfl, Nat.le_refl _, (sl_of_laid (ok := okF w.heap.size _) hrow ⟨Nat.le_refl _, hgw.out, fun off => hrow.free off⟩ (fun i hi hlt' => by
        obtain ⟨c', h1, h2, h3⟩ := hlaid.out i hi hlt'
        exact ⟨c', h1, FkR.stays _ _ _ _ _ _ h2 (fun b hb' => hb'.mono (Nat.le_succ _)) (fun p v _ hp => hp), h3⟩) (Nat.le_refl _)), hb⟩
set_option maxRecDepth 100000 in
set_option maxHeartbeats 1000000 in
theorem lawsToTable (x : Tb) (A1 : Option Addr) (n1 c1 : Nat) (A2 : Option Addr) (n2 c2 : Nat) (A3 : Option Addr) (n3 c3 : Nat) (A4 : Option Addr) (n4 c4 : Nat) (A5 : Option Addr) (n5 c5 : Nat) (ok : Nat → Prop) (w : World) (h1 : Sl ClR 6 ok w A1 n1 x.cols) (h2 : Sl IntR 1 ok w A2 n2 x.key) (h3 : Sl UqR 1 ok w A3 n3 x.uniqs) (h4 : Sl CkR 1 ok w A4 n4 x.checks) (h5 : Sl FkR 5 ok w A5 n5 x.fks) (hs : x.sz ≤ 1048576) :
    Calls Tryz.prog 44 #[.agg #[.string x.name, .slice A1 n1 c1, .slice A2 n2 c2, .slice A3 n3 c3, .slice A4 n4 c4, .slice A5 n5 c5]] w (MadeR TbR x w) := by
  have hs1 : szL Cl.sz x.cols ≤ 1048576 := by have := hs; unfold Tb.sz at this; omega
  have HS1 := Lib.hid hs1
  clear hs1
  have hs2 : x.key.length ≤ 1048576 := by have := hs; unfold Tb.sz at this; omega
  have HS2 := Lib.hid hs2
  clear hs2
  have hs3 : szL Uq.sz x.uniqs ≤ 1048576 := by have := hs; unfold Tb.sz at this; omega
  have HS3 := Lib.hid hs3
  clear hs3
  have hs4 : szL Ck.sz x.checks ≤ 1048576 := by have := hs; unfold Tb.sz at this; omega
  have HS4 := Lib.hid hs4
  clear hs4
  have hs5 : szL Fk.sz x.fks ≤ 1048576 := by have := hs; unfold Tb.sz at this; omega
  have HS5 := Lib.hid hs5
  clear hs5
  clear hs
  have ra := ((Row.new w 69 #[.string x.name, .slice A1 n1 c1, .slice A2 n2 c2, .slice A3 n3 c3, .slice A4 n4 c4, .slice A5 n5 c5]).alloc (.cells #[.string ⟨#[]⟩, .slice none 0 0, .slice none 0 0, .slice none 0 0, .slice none 0 0, .slice none 0 0] 86)).alloc (.cells #[.string x.name, .slice none 0 0, .slice none 0 0, .slice none 0 0, .slice none 0 0, .slice none 0 0] 86)
  have r1 := (Row.newAt (w.alloc (.cells #[.string x.name, .slice A1 n1 c1, .slice A2 n2 c2, .slice A3 n3 c3, .slice A4 n4 c4, .slice A5 n5 c5] 69)) 86 #[.string ⟨#[]⟩, .slice none 0 0, .slice none 0 0, .slice none 0 0, .slice none 0 0, .slice none 0 0] (w.heap.size + 1) (by simp)).alloc (.cells #[.string x.name, .slice none 0 0, .slice none 0 0, .slice none 0 0, .slice none 0 0, .slice none 0 0] 86)
  have r2 := Row.newAt ((w.alloc (.cells #[.string x.name, .slice A1 n1 c1, .slice A2 n2 c2, .slice A3 n3 c3, .slice A4 n4 c4, .slice A5 n5 c5] 69)).alloc (.cells #[.string ⟨#[]⟩, .slice none 0 0, .slice none 0 0, .slice none 0 0, .slice none 0 0, .slice none 0 0] 86)) 86 #[.string x.name, .slice none 0 0, .slice none 0 0, .slice none 0 0, .slice none 0 0, .slice none 0 0] (w.heap.size + 1 + 1) (by simp)
  have hb0 := ((((Below.refl w.heap.size w).alloc (Nat.le_refl _) (.cells #[.string x.name, .slice A1 n1 c1, .slice A2 n2 c2, .slice A3 n3 c3, .slice A4 n4 c4, .slice A5 n5 c5] 69)).alloc (by simp) (.cells #[.string ⟨#[]⟩, .slice none 0 0, .slice none 0 0, .slice none 0 0, .slice none 0 0, .slice none 0 0] 86)).alloc (by simp; omega) (.cells #[.string x.name, .slice none 0 0, .slice none 0 0, .slice none 0 0, .slice none 0 0, .slice none 0 0] 86))
  have hz0 : w.heap.size + 3 ≤ (((w.alloc (.cells #[.string x.name, .slice A1 n1 c1, .slice A2 n2 c2, .slice A3 n3 c3, .slice A4 n4 c4, .slice A5 n5 c5] 69)).alloc (.cells #[.string ⟨#[]⟩, .slice none 0 0, .slice none 0 0, .slice none 0 0, .slice none 0 0, .slice none 0 0] 86)).alloc (.cells #[.string x.name, .slice none 0 0, .slice none 0 0, .slice none 0 0, .slice none 0 0, .slice none 0 0] 86)).heap.size := by simp
  go_enter Tryz.func44, Tryz.ntmps44
  go_wp2_with fail
  generalize ((w.alloc (.cells #[.string x.name, .slice A1 n1 c1, .slice A2 n2 c2, .slice A3 n3 c3, .slice A4 n4 c4, .slice A5 n5 c5] 69)).alloc (.cells #[.string ⟨#[]⟩, .slice none 0 0, .slice none 0 0, .slice none 0 0, .slice none 0 0, .slice none 0 0] 86)).alloc (.cells #[.string x.name, .slice none 0 0, .slice none 0 0, .slice none 0 0, .slice none 0 0, .slice none 0 0] 86) = x0 at *
  refine (lawsToColL A1 n1 c1 x.cols ok _ (h1.below ClR.stays hb0) HS1.out).mono ?_
  rintro e w1 ⟨B1, d1, rfl, hcp1, t1, hc0⟩
  have u1 := t1.stays ClR.stays (ok' := okF (w.heap.size + 3) w1) (fun b hb' => hb'.mono (by omega)) (fun p v _ hp => hp)
  clear t1
  have ra := ra.below hc0
  have r1 := r1.below hc0
  have r2 := r2.below hc0
  have hbx0 := hb0.trans (hc0.mono hb0.size)
  have hz1 : w.heap.size + 3 ≤ w1.heap.size := Nat.le_trans hz0 hc0.size
  obtain ⟨⟨a_0_0, a_0_1, a_0_2, a_0_3, a_0_4, a_0_5⟩, -⟩ := ra.all6
  obtain ⟨⟨b_0_0, b_0_1, b_0_2, b_0_3, b_0_4, b_0_5⟩, ⟨f_0_0, f_0_1, f_0_2, f_0_3, f_0_4, f_0_5⟩⟩ := r2.all6
  go_wp2_with fail
  have ra' : Row ((w1).setCell ⟨w.heap.size + 1 + 1, 1, none⟩ (.slice B1 n1 d1)) w.heap.size 69 #[.string x.name, .slice A1 n1 c1, .slice A2 n2 c2, .slice A3 n3 c3, .slice A4 n4 c4, .slice A5 n5 c5] := (ra).far (by simp; try omega) _
  have r1' : Row ((w1).setCell ⟨w.heap.size + 1 + 1, 1, none⟩ (.slice B1 n1 d1)) (w.heap.size + 1) 86 #[.string ⟨#[]⟩, .slice none 0 0, .slice none 0 0, .slice none 0 0, .slice none 0 0, .slice none 0 0] := (r1).far (by simp) _
  have r2' : Row ((w1).setCell ⟨w.heap.size + 1 + 1, 1, none⟩ (.slice B1 n1 d1)) (w.heap.size + 1 + 1) 86 #[.string x.name, .slice B1 n1 d1, .slice none 0 0, .slice none 0 0, .slice none 0 0, .slice none 0 0] := (r2).set 1 _
  have hb1 : Below w.heap.size w ((w1).setCell ⟨w.heap.size + 1 + 1, 1, none⟩ (.slice B1 n1 d1)) := (hbx0).setCell (by simp; try omega) _
  have hz1' : w.heap.size + 3 ≤ ((w1).setCell ⟨w.heap.size + 1 + 1, 1, none⟩ (.slice B1 n1 d1)).heap.size := by simpa using hz1
  have u1' : Sl ClR 6 (okF (w.heap.size + 3) ((w1).setCell ⟨w.heap.size + 1 + 1, 1, none⟩ (.slice B1 n1 d1))) ((w1).setCell ⟨w.heap.size + 1 + 1, 1, none⟩ (.slice B1 n1 d1)) B1 n1 x.cols := (u1).setF ClR.stays (by simp) _
  clear ra r1 r2 hz1 u1 a_0_0 a_0_1 a_0_2 a_0_3 a_0_4 a_0_5 b_0_0 b_0_1 b_0_2 b_0_3 b_0_4 b_0_5 f_0_0 f_0_1 f_0_2 f_0_3 f_0_4 f_0_5
  generalize (w1).setCell ⟨w.heap.size + 1 + 1, 1, none⟩ (.slice B1 n1 d1) = x1 at *
  have ra := ra'
  have r1 := r1'
  have r2 := r2'
  have hz1 := hz1'
  have u1 := u1'
  clear ra' r1' r2' hz1' u1'
  refine (lawsToIntL A2 n2 c2 x.key ok _ (h2.below IntR.stays hb1) HS2.out).mono ?_
  rintro e w2 ⟨B2, d2, rfl, hcp2, t2, hc1⟩
  have u2 := t2.stays IntR.stays (ok' := okF (w.heap.size + 3) w2) (fun b hb' => hb'.mono (by omega)) (fun p v _ hp => hp)
  clear t2
  have ra := ra.below hc1
  have r1 := r1.below hc1
  have r2 := r2.below hc1
  have hbx1 := hb1.trans (hc1.mono hb1.size)
  have hz2 : w.heap.size + 3 ≤ w2.heap.size := Nat.le_trans hz1 hc1.size
  have u1 := u1.belowF ClR.stays hc1
  obtain ⟨⟨a_1_0, a_1_1, a_1_2, a_1_3, a_1_4, a_1_5⟩, -⟩ := ra.all6
  obtain ⟨⟨b_1_0, b_1_1, b_1_2, b_1_3, b_1_4, b_1_5⟩, ⟨f_1_0, f_1_1, f_1_2, f_1_3, f_1_4, f_1_5⟩⟩ := r2.all6
  go_wp2_with fail
  have ra' : Row ((w2).setCell ⟨w.heap.size + 1 + 1, 2, none⟩ (.slice B2 n2 d2)) w.heap.size 69 #[.string x.name, .slice A1 n1 c1, .slice A2 n2 c2, .slice A3 n3 c3, .slice A4 n4 c4, .slice A5 n5 c5] := (ra).far (by simp; try omega) _
  have r1' : Row ((w2).setCell ⟨w.heap.size + 1 + 1, 2, none⟩ (.slice B2 n2 d2)) (w.heap.size + 1) 86 #[.string ⟨#[]⟩, .slice none 0 0, .slice none 0 0, .slice none 0 0, .slice none 0 0, .slice none 0 0] := (r1).far (by simp) _
  have r2' : Row ((w2).setCell ⟨w.heap.size + 1 + 1, 2, none⟩ (.slice B2 n2 d2)) (w.heap.size + 1 + 1) 86 #[.string x.name, .slice B1 n1 d1, .slice B2 n2 d2, .slice none 0 0, .slice none 0 0, .slice none 0 0] := (r2).set 2 _
  have hb2 : Below w.heap.size w ((w2).setCell ⟨w.heap.size + 1 + 1, 2, none⟩ (.slice B2 n2 d2)) := (hbx1).setCell (by simp; try omega) _
  have hz2' : w.heap.size + 3 ≤ ((w2).setCell ⟨w.heap.size + 1 + 1, 2, none⟩ (.slice B2 n2 d2)).heap.size := by simpa using hz2
  have u1' : Sl ClR 6 (okF (w.heap.size + 3) ((w2).setCell ⟨w.heap.size + 1 + 1, 2, none⟩ (.slice B2 n2 d2))) ((w2).setCell ⟨w.heap.size + 1 + 1, 2, none⟩ (.slice B2 n2 d2)) B1 n1 x.cols := (u1).setF ClR.stays (by simp) _
  have u2' : Sl IntR 1 (okF (w.heap.size + 3) ((w2).setCell ⟨w.heap.size + 1 + 1, 2, none⟩ (.slice B2 n2 d2))) ((w2).setCell ⟨w.heap.size + 1 + 1, 2, none⟩ (.slice B2 n2 d2)) B2 n2 x.key := (u2).setF IntR.stays (by simp) _
  clear ra r1 r2 hz2 u1 u2 a_1_0 a_1_1 a_1_2 a_1_3 a_1_4 a_1_5 b_1_0 b_1_1 b_1_2 b_1_3 b_1_4 b_1_5 f_1_0 f_1_1 f_1_2 f_1_3 f_1_4 f_1_5
  generalize (w2).setCell ⟨w.heap.size + 1 + 1, 2, none⟩ (.slice B2 n2 d2) = x2 at *
  have ra := ra'
  have r1 := r1'
  have r2 := r2'
  have hz2 := hz2'
  have u1 := u1'
  have u2 := u2'
  clear ra' r1' r2' hz2' u1' u2'
  refine (lawsToUniqueL A3 n3 c3 x.uniqs ok _ (h3.below UqR.stays hb2) HS3.out).mono ?_
  rintro e w3 ⟨B3, d3, rfl, hcp3, t3, hc2⟩
  have u3 := t3.stays UqR.stays (ok' := okF (w.heap.size + 3) w3) (fun b hb' => hb'.mono (by omega)) (fun p v _ hp => hp)
  clear t3
  have ra := ra.below hc2
  have r1 := r1.below hc2
  have r2 := r2.below hc2
  have hbx2 := hb2.trans (hc2.mono hb2.size)
  have hz3 : w.heap.size + 3 ≤ w3.heap.size := Nat.le_trans hz2 hc2.size
  have u1 := u1.belowF ClR.stays hc2
  have u2 := u2.belowF IntR.stays hc2
  obtain ⟨⟨a_2_0, a_2_1, a_2_2, a_2_3, a_2_4, a_2_5⟩, -⟩ := ra.all6
  obtain ⟨⟨b_2_0, b_2_1, b_2_2, b_2_3, b_2_4, b_2_5⟩, ⟨f_2_0, f_2_1, f_2_2, f_2_3, f_2_4, f_2_5⟩⟩ := r2.all6
  go_wp2_with fail
  have ra' : Row ((w3).setCell ⟨w.heap.size + 1 + 1, 3, none⟩ (.slice B3 n3 d3)) w.heap.size 69 #[.string x.name, .slice A1 n1 c1, .slice A2 n2 c2, .slice A3 n3 c3, .slice A4 n4 c4, .slice A5 n5 c5] := (ra).far (by simp; try omega) _
  have r1' : Row ((w3).setCell ⟨w.heap.size + 1 + 1, 3, none⟩ (.slice B3 n3 d3)) (w.heap.size + 1) 86 #[.string ⟨#[]⟩, .slice none 0 0, .slice none 0 0, .slice none 0 0, .slice none 0 0, .slice none 0 0] := (r1).far (by simp) _
  have r2' : Row ((w3).setCell ⟨w.heap.size + 1 + 1, 3, none⟩ (.slice B3 n3 d3)) (w.heap.size + 1 + 1) 86 #[.string x.name, .slice B1 n1 d1, .slice B2 n2 d2, .slice B3 n3 d3, .slice none 0 0, .slice none 0 0] := (r2).set 3 _
  have hb3 : Below w.heap.size w ((w3).setCell ⟨w.heap.size + 1 + 1, 3, none⟩ (.slice B3 n3 d3)) := (hbx2).setCell (by simp; try omega) _
  have hz3' : w.heap.size + 3 ≤ ((w3).setCell ⟨w.heap.size + 1 + 1, 3, none⟩ (.slice B3 n3 d3)).heap.size := by simpa using hz3
  have u1' : Sl ClR 6 (okF (w.heap.size + 3) ((w3).setCell ⟨w.heap.size + 1 + 1, 3, none⟩ (.slice B3 n3 d3))) ((w3).setCell ⟨w.heap.size + 1 + 1, 3, none⟩ (.slice B3 n3 d3)) B1 n1 x.cols := (u1).setF ClR.stays (by simp) _
  have u2' : Sl IntR 1 (okF (w.heap.size + 3) ((w3).setCell ⟨w.heap.size + 1 + 1, 3, none⟩ (.slice B3 n3 d3))) ((w3).setCell ⟨w.heap.size + 1 + 1, 3, none⟩ (.slice B3 n3 d3)) B2 n2 x.key := (u2).setF IntR.stays (by simp) _
  have u3' : Sl UqR 1 (okF (w.heap.size + 3) ((w3).setCell ⟨w.heap.size + 1 + 1, 3, none⟩ (.slice B3 n3 d3))) ((w3).setCell ⟨w.heap.size + 1 + 1, 3, none⟩ (.slice B3 n3 d3)) B3 n3 x.uniqs := (u3).setF UqR.stays (by simp) _
  clear ra r1 r2 hz3 u1 u2 u3 a_2_0 a_2_1 a_2_2 a_2_3 a_2_4 a_2_5 b_2_0 b_2_1 b_2_2 b_2_3 b_2_4 b_2_5 f_2_0 f_2_1 f_2_2 f_2_3 f_2_4 f_2_5
  generalize (w3).setCell ⟨w.heap.size + 1 + 1, 3, none⟩ (.slice B3 n3 d3) = x3 at *
  have ra := ra'
  have r1 := r1'
  have r2 := r2'
  have hz3 := hz3'
  have u1 := u1'
  have u2 := u2'
  have u3 := u3'
  clear ra' r1' r2' hz3' u1' u2' u3'
  refine (lawsToCheckL A4 n4 c4 x.checks ok _ (h4.below CkR.stays hb3) HS4.out).mono ?_
  rintro e w4 ⟨B4, d4, rfl, hcp4, t4, hc3⟩
  have u4 := t4.stays CkR.stays (ok' := okF (w.heap.size + 3) w4) (fun b hb' => hb'.mono (by omega)) (fun p v _ hp => hp)
  clear t4
  have ra := ra.below hc3
  have r1 := r1.below hc3
  have r2 := r2.below hc3
  have hbx3 := hb3.trans (hc3.mono hb3.size)
  have hz4 : w.heap.size + 3 ≤ w4.heap.size := Nat.le_trans hz3 hc3.size
  have u1 := u1.belowF ClR.stays hc3
  have u2 := u2.belowF IntR.stays hc3
  have u3 := u3.belowF UqR.stays hc3
  obtain ⟨⟨a_3_0, a_3_1, a_3_2, a_3_3, a_3_4, a_3_5⟩, -⟩ := ra.all6
  obtain ⟨⟨b_3_0, b_3_1, b_3_2, b_3_3, b_3_4, b_3_5⟩, ⟨f_3_0, f_3_1, f_3_2, f_3_3, f_3_4, f_3_5⟩⟩ := r2.all6
  go_wp2_with fail
  have ra' : Row ((w4).setCell ⟨w.heap.size + 1 + 1, 4, none⟩ (.slice B4 n4 d4)) w.heap.size 69 #[.string x.name, .slice A1 n1 c1, .slice A2 n2 c2, .slice A3 n3 c3, .slice A4 n4 c4, .slice A5 n5 c5] := (ra).far (by simp; try omega) _
  have r1' : Row ((w4).setCell ⟨w.heap.size + 1 + 1, 4, none⟩ (.slice B4 n4 d4)) (w.heap.size + 1) 86 #[.string ⟨#[]⟩, .slice none 0 0, .slice none 0 0, .slice none 0 0, .slice none 0 0, .slice none 0 0] := (r1).far (by simp) _
  have r2' : Row ((w4).setCell ⟨w.heap.size + 1 + 1, 4, none⟩ (.slice B4 n4 d4)) (w.heap.size + 1 + 1) 86 #[.string x.name, .slice B1 n1 d1, .slice B2 n2 d2, .slice B3 n3 d3, .slice B4 n4 d4, .slice none 0 0] := (r2).set 4 _
  have hb4 : Below w.heap.size w ((w4).setCell ⟨w.heap.size + 1 + 1, 4, none⟩ (.slice B4 n4 d4)) := (hbx3).setCell (by simp; try omega) _
  have hz4' : w.heap.size + 3 ≤ ((w4).setCell ⟨w.heap.size + 1 + 1, 4, none⟩ (.slice B4 n4 d4)).heap.size := by simpa using hz4
  have u1' : Sl ClR 6 (okF (w.heap.size + 3) ((w4).setCell ⟨w.heap.size + 1 + 1, 4, none⟩ (.slice B4 n4 d4))) ((w4).setCell ⟨w.heap.size + 1 + 1, 4, none⟩ (.slice B4 n4 d4)) B1 n1 x.cols := (u1).setF ClR.stays (by simp) _
  have u2' : Sl IntR 1 (okF (w.heap.size + 3) ((w4).setCell ⟨w.heap.size + 1 + 1, 4, none⟩ (.slice B4 n4 d4))) ((w4).setCell ⟨w.heap.size + 1 + 1, 4, none⟩ (.slice B4 n4 d4)) B2 n2 x.key := (u2).setF IntR.stays (by simp) _
  have u3' : Sl UqR 1 (okF (w.heap.size + 3) ((w4).setCell ⟨w.heap.size + 1 + 1, 4, none⟩ (.slice B4 n4 d4))) ((w4).setCell ⟨w.heap.size + 1 + 1, 4, none⟩ (.slice B4 n4 d4)) B3 n3 x.uniqs := (u3).setF UqR.stays (by simp) _
  have u4' : Sl CkR 1 (okF (w.heap.size + 3) ((w4).setCell ⟨w.heap.size + 1 + 1, 4, none⟩ (.slice B4 n4 d4))) ((w4).setCell ⟨w.heap.size + 1 + 1, 4, none⟩ (.slice B4 n4 d4)) B4 n4 x.checks := (u4).setF CkR.stays (by simp) _
  clear ra r1 r2 hz4 u1 u2 u3 u4 a_3_0 a_3_1 a_3_2 a_3_3 a_3_4 a_3_5 b_3_0 b_3_1 b_3_2 b_3_3 b_3_4 b_3_5 f_3_0 f_3_1 f_3_2 f_3_3 f_3_4 f_3_5
  generalize (w4).setCell ⟨w.heap.size + 1 + 1, 4, none⟩ (.slice B4 n4 d4) = x4 at *
  have ra := ra'
  have r1 := r1'
  have r2 := r2'
  have hz4 := hz4'
  have u1 := u1'
  have u2 := u2'
  have u3 := u3'
  have u4 := u4'
  clear ra' r1' r2' hz4' u1' u2' u3' u4'
  refine (lawsToFkL A5 n5 c5 x.fks ok _ (h5.below FkR.stays hb4) HS5.out).mono ?_
  rintro e w5 ⟨B5, d5, rfl, hcp5, t5, hc4⟩
  have u5 := t5.stays FkR.stays (ok' := okF (w.heap.size + 3) w5) (fun b hb' => hb'.mono (by omega)) (fun p v _ hp => hp)
  clear t5
  have ra := ra.below hc4
  have r1 := r1.below hc4
  have r2 := r2.below hc4
  have hbx4 := hb4.trans (hc4.mono hb4.size)
  have hz5 : w.heap.size + 3 ≤ w5.heap.size := Nat.le_trans hz4 hc4.size
  have u1 := u1.belowF ClR.stays hc4
  have u2 := u2.belowF IntR.stays hc4
  have u3 := u3.belowF UqR.stays hc4
  have u4 := u4.belowF CkR.stays hc4
  obtain ⟨⟨a_4_0, a_4_1, a_4_2, a_4_3, a_4_4, a_4_5⟩, -⟩ := ra.all6
  obtain ⟨⟨b_4_0, b_4_1, b_4_2, b_4_3, b_4_4, b_4_5⟩, ⟨f_4_0, f_4_1, f_4_2, f_4_3, f_4_4, f_4_5⟩⟩ := r2.all6
  obtain ⟨⟨g_4_0, g_4_1, g_4_2, g_4_3, g_4_4, g_4_5⟩, ⟨k_4_0, k_4_1, k_4_2, k_4_3, k_4_4, k_4_5⟩⟩ := r1.all6
  have rz : Row ((((((((w5).setCell ⟨w.heap.size + 1 + 1, 5, none⟩ (.slice B5 n5 d5)).setCell ⟨w.heap.size + 1, 0, none⟩ (.string x.name)).setCell ⟨w.heap.size + 1, 1, none⟩ (.slice B1 n1 d1)).setCell ⟨w.heap.size + 1, 2, none⟩ (.slice B2 n2 d2)).setCell ⟨w.heap.size + 1, 3, none⟩ (.slice B3 n3 d3)).setCell ⟨w.heap.size + 1, 4, none⟩ (.slice B4 n4 d4)).setCell ⟨w.heap.size + 1, 5, none⟩ (.slice B5 n5 d5)) (w.heap.size + 1) 86 #[.string x.name, .slice B1 n1 d1, .slice B2 n2 d2, .slice B3 n3 d3, .slice B4 n4 d4, .slice B5 n5 d5] := (((((((r1).far (by simp) _).set 0 _).set 1 _).set 2 _).set 3 _).set 4 _).set 5 _
  obtain ⟨⟨z0, z1, z2, z3, z4, z5⟩, -⟩ := rz.all6
  have y1 : Sl ClR 6 (okF (w.heap.size + 3) ((((((((w5).setCell ⟨w.heap.size + 1 + 1, 5, none⟩ (.slice B5 n5 d5)).setCell ⟨w.heap.size + 1, 0, none⟩ (.string x.name)).setCell ⟨w.heap.size + 1, 1, none⟩ (.slice B1 n1 d1)).setCell ⟨w.heap.size + 1, 2, none⟩ (.slice B2 n2 d2)).setCell ⟨w.heap.size + 1, 3, none⟩ (.slice B3 n3 d3)).setCell ⟨w.heap.size + 1, 4, none⟩ (.slice B4 n4 d4)).setCell ⟨w.heap.size + 1, 5, none⟩ (.slice B5 n5 d5))) ((((((((w5).setCell ⟨w.heap.size + 1 + 1, 5, none⟩ (.slice B5 n5 d5)).setCell ⟨w.heap.size + 1, 0, none⟩ (.string x.name)).setCell ⟨w.heap.size + 1, 1, none⟩ (.slice B1 n1 d1)).setCell ⟨w.heap.size + 1, 2, none⟩ (.slice B2 n2 d2)).setCell ⟨w.heap.size + 1, 3, none⟩ (.slice B3 n3 d3)).setCell ⟨w.heap.size + 1, 4, none⟩ (.slice B4 n4 d4)).setCell ⟨w.heap.size + 1, 5, none⟩ (.slice B5 n5 d5)) B1 n1 x.cols := (((((((u1).setF ClR.stays (by simp) _).setF ClR.stays (by simp) _).setF ClR.stays (by simp) _).setF ClR.stays (by simp) _).setF ClR.stays (by simp) _).setF ClR.stays (by simp) _).setF ClR.stays (by simp) _
  have y2 : Sl IntR 1 (okF (w.heap.size + 3) ((((((((w5).setCell ⟨w.heap.size + 1 + 1, 5, none⟩ (.slice B5 n5 d5)).setCell ⟨w.heap.size + 1, 0, none⟩ (.string x.name)).setCell ⟨w.heap.size + 1, 1, none⟩ (.slice B1 n1 d1)).setCell ⟨w.heap.size + 1, 2, none⟩ (.slice B2 n2 d2)).setCell ⟨w.heap.size + 1, 3, none⟩ (.slice B3 n3 d3)).setCell ⟨w.heap.size + 1, 4, none⟩ (.slice B4 n4 d4)).setCell ⟨w.heap.size + 1, 5, none⟩ (.slice B5 n5 d5))) ((((((((w5).setCell ⟨w.heap.size + 1 + 1, 5, none⟩ (.slice B5 n5 d5)).setCell ⟨w.heap.size + 1, 0, none⟩ (.string x.name)).setCell ⟨w.heap.size + 1, 1, none⟩ (.slice B1 n1 d1)).setCell ⟨w.heap.size + 1, 2, none⟩ (.slice B2 n2 d2)).setCell ⟨w.heap.size + 1, 3, none⟩ (.slice B3 n3 d3)).setCell ⟨w.heap.size + 1, 4, none⟩ (.slice B4 n4 d4)).setCell ⟨w.heap.size + 1, 5, none⟩ (.slice B5 n5 d5)) B2 n2 x.key := (((((((u2).setF IntR.stays (by simp) _).setF IntR.stays (by simp) _).setF IntR.stays (by simp) _).setF IntR.stays (by simp) _).setF IntR.stays (by simp) _).setF IntR.stays (by simp) _).setF IntR.stays (by simp) _
  have y3 : Sl UqR 1 (okF (w.heap.size + 3) ((((((((w5).setCell ⟨w.heap.size + 1 + 1, 5, none⟩ (.slice B5 n5 d5)).setCell ⟨w.heap.size + 1, 0, none⟩ (.string x.name)).setCell ⟨w.heap.size + 1, 1, none⟩ (.slice B1 n1 d1)).setCell ⟨w.heap.size + 1, 2, none⟩ (.slice B2 n2 d2)).setCell ⟨w.heap.size + 1, 3, none⟩ (.slice B3 n3 d3)).setCell ⟨w.heap.size + 1, 4, none⟩ (.slice B4 n4 d4)).setCell ⟨w.heap.size + 1, 5, none⟩ (.slice B5 n5 d5))) ((((((((w5).setCell ⟨w.heap.size + 1 + 1, 5, none⟩ (.slice B5 n5 d5)).setCell ⟨w.heap.size + 1, 0, none⟩ (.string x.name)).setCell ⟨w.heap.size + 1, 1, none⟩ (.slice B1 n1 d1)).setCell ⟨w.heap.size + 1, 2, none⟩ (.slice B2 n2 d2)).setCell ⟨w.heap.size + 1, 3, none⟩ (.slice B3 n3 d3)).setCell ⟨w.heap.size + 1, 4, none⟩ (.slice B4 n4 d4)).setCell ⟨w.heap.size + 1, 5, none⟩ (.slice B5 n5 d5)) B3 n3 x.uniqs := (((((((u3).setF UqR.stays (by simp) _).setF UqR.stays (by simp) _).setF UqR.stays (by simp) _).setF UqR.stays (by simp) _).setF UqR.stays (by simp) _).setF UqR.stays (by simp) _).setF UqR.stays (by simp) _
  have y4 : Sl CkR 1 (okF (w.heap.size + 3) ((((((((w5).setCell ⟨w.heap.size + 1 + 1, 5, none⟩ (.slice B5 n5 d5)).setCell ⟨w.heap.size + 1, 0, none⟩ (.string x.name)).setCell ⟨w.heap.size + 1, 1, none⟩ (.slice B1 n1 d1)).setCell ⟨w.heap.size + 1, 2, none⟩ (.slice B2 n2 d2)).setCell ⟨w.heap.size + 1, 3, none⟩ (.slice B3 n3 d3)).setCell ⟨w.heap.size + 1, 4, none⟩ (.slice B4 n4 d4)).setCell ⟨w.heap.size + 1, 5, none⟩ (.slice B5 n5 d5))) ((((((((w5).setCell ⟨w.heap.size + 1 + 1, 5, none⟩ (.slice B5 n5 d5)).setCell ⟨w.heap.size + 1, 0, none⟩ (.string x.name)).setCell ⟨w.heap.size + 1, 1, none⟩ (.slice B1 n1 d1)).setCell ⟨w.heap.size + 1, 2, none⟩ (.slice B2 n2 d2)).setCell ⟨w.heap.size + 1, 3, none⟩ (.slice B3 n3 d3)).setCell ⟨w.heap.size + 1, 4, none⟩ (.slice B4 n4 d4)).setCell ⟨w.heap.size + 1, 5, none⟩ (.slice B5 n5 d5)) B4 n4 x.checks := (((((((u4).setF CkR.stays (by simp) _).setF CkR.stays (by simp) _).setF CkR.stays (by simp) _).setF CkR.stays (by simp) _).setF CkR.stays (by simp) _).setF CkR.stays (by simp) _).setF CkR.stays (by simp) _
  have y5 : Sl FkR 5 (okF (w.heap.size + 3) ((((((((w5).setCell ⟨w.heap.size + 1 + 1, 5, none⟩ (.slice B5 n5 d5)).setCell ⟨w.heap.size + 1, 0, none⟩ (.string x.name)).setCell ⟨w.heap.size + 1, 1, none⟩ (.slice B1 n1 d1)).setCell ⟨w.heap.size + 1, 2, none⟩ (.slice B2 n2 d2)).setCell ⟨w.heap.size + 1, 3, none⟩ (.slice B3 n3 d3)).setCell ⟨w.heap.size + 1, 4, none⟩ (.slice B4 n4 d4)).setCell ⟨w.heap.size + 1, 5, none⟩ (.slice B5 n5 d5))) ((((((((w5).setCell ⟨w.heap.size + 1 + 1, 5, none⟩ (.slice B5 n5 d5)).setCell ⟨w.heap.size + 1, 0, none⟩ (.string x.name)).setCell ⟨w.heap.size + 1, 1, none⟩ (.slice B1 n1 d1)).setCell ⟨w.heap.size + 1, 2, none⟩ (.slice B2 n2 d2)).setCell ⟨w.heap.size + 1, 3, none⟩ (.slice B3 n3 d3)).setCell ⟨w.heap.size + 1, 4, none⟩ (.slice B4 n4 d4)).setCell ⟨w.heap.size + 1, 5, none⟩ (.slice B5 n5 d5)) B5 n5 x.fks := (((((((u5).setF FkR.stays (by simp) _).setF FkR.stays (by simp) _).setF FkR.stays (by simp) _).setF FkR.stays (by simp) _).setF FkR.stays (by simp) _).setF FkR.stays (by simp) _).setF FkR.stays (by simp) _
  have hbz : Below w.heap.size w ((((((((w5).setCell ⟨w.heap.size + 1 + 1, 5, none⟩ (.slice B5 n5 d5)).setCell ⟨w.heap.size + 1, 0, none⟩ (.string x.name)).setCell ⟨w.heap.size + 1, 1, none⟩ (.slice B1 n1 d1)).setCell ⟨w.heap.size + 1, 2, none⟩ (.slice B2 n2 d2)).setCell ⟨w.heap.size + 1, 3, none⟩ (.slice B3 n3 d3)).setCell ⟨w.heap.size + 1, 4, none⟩ (.slice B4 n4 d4)).setCell ⟨w.heap.size + 1, 5, none⟩ (.slice B5 n5 d5)) := (((((((hbx4).setCell (by simp; try omega) _).setCell (by simp; try omega) _).setCell (by simp; try omega) _).setCell (by simp; try omega) _).setCell (by simp; try omega) _).setCell (by simp; try omega) _).setCell (by simp; try omega) _
  clear ra r1 r2 rz
  go_wp2_with fail
  exact bodyPost_ret (v := .agg #[.string x.name, .slice B1 n1 d1, .slice B2 n2 d2, .slice B3 n3 d3, .slice B4 n4 d4, .slice B5 n5 d5]) (by simp [results, Tryz.results44, go_sem, z0, z1, z2, z3, z4, z5]) rfl ⟨[.string x.name, .slice B1 n1 d1, .slice B2 n2 d2, .slice B3 n3 d3, .slice B4 n4 d4, .slice B5 n5 d5], rfl, ⟨_, _, _, _, _, _, _, _, _, _, _, _, _, _, _, rfl, y1.stays ClR.stays (fun b hb' => hb'.mono (by omega)) (fun p v _ hp => hp), y2.stays IntR.stays (fun b hb' => hb'.mono (by omega)) (fun p v _ hp => hp), y3.stays UqR.stays (fun b hb' => hb'.mono (by omega)) (fun p v _ hp => hp), y4.stays CkR.stays (fun b hb' => hb'.mono (by omega)) (fun p v _ hp => hp), y5.stays FkR.stays (fun b hb' => hb'.mono (by omega)) (fun p v _ hp => hp), ⟨hcp1, hcp2, hcp3, hcp4, hcp5⟩⟩, hbz⟩
theorem infoTableT : (Tryz.prog.info? 86).map (fun i => (i.zero, i.size, i.bytes)) = some (some (.agg #[.string ⟨#[]⟩, .slice none 0 0, .slice none 0 0, .slice none 0 0, .slice none 0 0, .slice none 0 0]), 6, 136) := by kernel_rfl
set_option maxRecDepth 100000 in
set_option maxHeartbeats 1000000 in
theorem lawsToTableL (A : Option Addr) (n c : Nat) (l : List Tb) (ok : Nat → Prop) (w : World) (h : Sl TbR 6 ok w A n l) (hs : szL Tb.sz l ≤ 1048576) :
    Calls Tryz.prog 10 #[.slice A n c] w (MadeSl TbR 6 n l w) := by
  obtain rfl : l.length = n := h.1
  have hn : l.length ≤ 1048576 := by unfold szL at hs; omega
  have HS := Lib.hid hs
  clear hs
  have hmk := fun w => mk_rows (P := Tryz.prog) Tryz.underlying30 infoTableT (by omega) l.length hn w
  go_enter Tryz.func10, Tryz.ntmps10
  go_wp2
  have row := Row.new w 86 (madeCells #[.string ⟨#[]⟩, .slice none 0 0, .slice none 0 0, .slice none 0 0, .slice none 0 0, .slice none 0 0] (l.length * 6))
  have hb0 := (Below.refl w.heap.size w).alloc (Nat.le_refl _) (.cells (madeCells #[.string ⟨#[]⟩, .slice none 0 0, .slice none 0 0, .slice none 0 0, .slice none 0 0, .slice none 0 0] (l.length * 6)) 86)
  have hsz := size_madeCells #[.string ⟨#[]⟩, .slice none 0 0, .slice none 0 0, .slice none 0 0, .slice none 0 0, .slice none 0 0] (l.length * 6)
  have hx0 : (w.alloc (.cells (madeCells #[.string ⟨#[]⟩, .slice none 0 0, .slice none 0 0, .slice none 0 0, .slice none 0 0, .slice none 0 0] (l.length * 6)) 86)).heap.size = w.heap.size + 1 := by simp
  generalize w.alloc (.cells (madeCells #[.string ⟨#[]⟩, .slice none 0 0, .slice none 0 0, .slice none 0 0, .slice none 0 0, .slice none 0 0] (l.length * 6)) 86) = x at *
  generalize madeCells #[.string ⟨#[]⟩, .slice none 0 0, .slice none 0 0, .slice none 0 0, .slice none 0 0, .slice none 0 0] (l.length * 6) = cs0 at *
  have HZ := Lib.hid hsz
  have HX0 := Lib.hid hx0
  clear hmk hsz hx0
  go_loopw [4] (fun i wr => ∃ (k : Nat) (cs : Array Value), k ≤ l.length ∧ i = .int .i64 k ∧ Row wr w.heap.size 86 cs ∧ Hid (cs.size = l.length * 6) ∧ Hid (LaidR TbR 6 (okF (w.heap.size + 1) wr) wr cs k l) ∧ Hid (w.heap.size + 1 ≤ wr.heap.size) ∧ Below w.heap.size w wr) (fun i _ => l.length - (intOf i).toNat)
  case atStart => exact ⟨0, cs0, by omega, rfl, row, Lib.hid (by rw [HZ.out]), Lib.hid (LaidR.zero _ _ _ _ _ _), Lib.hid (by rw [HX0.out]; exact Nat.le_refl _), hb0⟩
  case round =>
    obtain ⟨k, cs, hk, rfl, hrow, hcs, hlaid, hgw, hb⟩ := hrel
    by_cases hlt : k < l.length
    · obtain ⟨b, off, A1, n1, c1, A2, n2, c2, A3, n3, c3, A4, n4, c4, A5, n5, c5, -, rfl, q0, q1, q2, q3, q4, q5, s1, s2, s3, s4, s5, -⟩ := TbR.at_ (h.below TbR.stays hb) hlt
      have hsz1 : k * 6 + 6 ≤ cs.size := by rw [hcs.out]; omega
      have hszk : l[k].sz ≤ 1048576 := by have := HS.out; have := sum_mem_le (Tb.sz) l k hlt; unfold szL at *; (try simp only at *); omega
      have HSK := Lib.hid hszk
      clear hszk
      go_wp2_with fail
      refine (lawsToTable l[k] A1 n1 c1 A2 n2 c2 A3 n3 c3 A4 n4 c4 A5 n5 c5 ok _ s1 s2 s3 s4 s5 HSK.out).mono ?_
      rintro e w1 ⟨cs', rfl, hR1, hb1⟩
      obtain ⟨B1, m1, d1, B2, m2, d2, B3, m3, d3, B4, m4, d4, B5, m5, d5, rfl, t1, t2, t3, t4, t5, hcp⟩ := hR1
      have hrow1 := hrow.below hb1
      have hgw1 : w.heap.size + 1 ≤ w1.heap.size := Nat.le_trans hgw.out hb1.size
      have HGW := Lib.hid hgw1
      clear hgw1
      have hl1 := Lib.hid (hlaid.out.belowF TbR.stays hb1)
      have q : ∀ j, j < 6 → w1.cell? ⟨w.heap.size, k * 6 + j, none⟩ = some (cs[k * 6 + j]?.getD undef) := fun j hj => by
        rw [hrow1.cell, Array.getElem?_eq_getElem (by omega)]; rfl
      have z0 : w1.cell? ⟨w.heap.size, k * 6, none⟩ = some (cs[k * 6]?.getD undef) := q 0 (by omega)
      have z1 := q 1 (by omega)
      have z2 := q 2 (by omega)
      have z3 := q 3 (by omega)
      have z4 := q 4 (by omega)
      have z5 := q 5 (by omega)
      have f0 := hrow1.free (k * 6)
      have f1 := hrow1.free (k * 6 + 1)
      have f2 := hrow1.free (k * 6 + 2)
      have f3 := hrow1.free (k * 6 + 3)
      have f4 := hrow1.free (k * 6 + 4)
      have f5 := hrow1.free (k * 6 + 5)
      clear q
      have HR := Lib.hid hrow1
      clear hrow1 hrow q0 q1 q2 q3 q4 q5
      go_wp2_with fail
      go_roundw
      case rel =>
        have y1 := (((((((t1.stays ClR.stays (ok' := okF (w.heap.size + 1) w1) (fun b hb' => hb'.mono hgw.out) (fun p v _ hp => hp))).setF ClR.stays (p := ⟨w.heap.size, k * 6, none⟩) (by simp) (.string l[k].name)).setF ClR.stays (p := ⟨w.heap.size, k * 6 + 1, none⟩) (by simp) (.slice B1 m1 d1)).setF ClR.stays (p := ⟨w.heap.size, k * 6 + 2, none⟩) (by simp) (.slice B2 m2 d2)).setF ClR.stays (p := ⟨w.heap.size, k * 6 + 3, none⟩) (by simp) (.slice B3 m3 d3)).setF ClR.stays (p := ⟨w.heap.size, k * 6 + 4, none⟩) (by simp) (.slice B4 m4 d4)).setF ClR.stays (p := ⟨w.heap.size, k * 6 + 5, none⟩) (by simp) (.slice B5 m5 d5)
        have y2 := (((((((t2.stays IntR.stays (ok' := okF (w.heap.size + 1) w1) (fun b hb' => hb'.mono hgw.out) (fun p v _ hp => hp))).setF IntR.stays (p := ⟨w.heap.size, k * 6, none⟩) (by simp) (.string l[k].name)).setF IntR.stays (p := ⟨w.heap.size, k * 6 + 1, none⟩) (by simp) (.slice B1 m1 d1)).setF IntR.stays (p := ⟨w.heap.size, k * 6 + 2, none⟩) (by simp) (.slice B2 m2 d2)).setF IntR.stays (p := ⟨w.heap.size, k * 6 + 3, none⟩) (by simp) (.slice B3 m3 d3)).setF IntR.stays (p := ⟨w.heap.size, k * 6 + 4, none⟩) (by simp) (.slice B4 m4 d4)).setF IntR.stays (p := ⟨w.heap.size, k * 6 + 5, none⟩) (by simp) (.slice B5 m5 d5)
        have y3 := (((((((t3.stays UqR.stays (ok' := okF (w.heap.size + 1) w1) (fun b hb' => hb'.mono hgw.out) (fun p v _ hp => hp))).setF UqR.stays (p := ⟨w.heap.size, k * 6, none⟩) (by simp) (.string l[k].name)).setF UqR.stays (p := ⟨w.heap.size, k * 6 + 1, none⟩) (by simp) (.slice B1 m1 d1)).setF UqR.stays (p := ⟨w.heap.size, k * 6 + 2, none⟩) (by simp) (.slice B2 m2 d2)).setF UqR.stays (p := ⟨w.heap.size, k * 6 + 3, none⟩) (by simp) (.slice B3 m3 d3)).setF UqR.stays (p := ⟨w.heap.size, k * 6 + 4, none⟩) (by simp) (.slice B4 m4 d4)).setF UqR.stays (p := ⟨w.heap.size, k * 6 + 5, none⟩) (by simp) (.slice B5 m5 d5)
        have y4 := (((((((t4.stays CkR.stays (ok' := okF (w.heap.size + 1) w1) (fun b hb' => hb'.mono hgw.out) (fun p v _ hp => hp))).setF CkR.stays (p := ⟨w.heap.size, k * 6, none⟩) (by simp) (.string l[k].name)).setF CkR.stays (p := ⟨w.heap.size, k * 6 + 1, none⟩) (by simp) (.slice B1 m1 d1)).setF CkR.stays (p := ⟨w.heap.size, k * 6 + 2, none⟩) (by simp) (.slice B2 m2 d2)).setF CkR.stays (p := ⟨w.heap.size, k * 6 + 3, none⟩) (by simp) (.slice B3 m3 d3)).setF CkR.stays (p := ⟨w.heap.size, k * 6 + 4, none⟩) (by simp) (.slice B4 m4 d4)).setF CkR.stays (p := ⟨w.heap.size, k * 6 + 5, none⟩) (by simp) (.slice B5 m5 d5)
        have y5 := (((((((t5.stays FkR.stays (ok' := okF (w.heap.size + 1) w1) (fun b hb' => hb'.mono hgw.out) (fun p v _ hp => hp))).setF FkR.stays (p := ⟨w.heap.size, k * 6, none⟩) (by simp) (.string l[k].name)).setF FkR.stays (p := ⟨w.heap.size, k * 6 + 1, none⟩) (by simp) (.slice B1 m1 d1)).setF FkR.stays (p := ⟨w.heap.size, k * 6 + 2, none⟩) (by simp) (.slice B2 m2 d2)).setF FkR.stays (p := ⟨w.heap.size, k * 6 + 3, none⟩) (by simp) (.slice B3 m3 d3)).setF FkR.stays (p := ⟨w.heap.size, k * 6 + 4, none⟩) (by simp) (.slice B4 m4 d4)).setF FkR.stays (p := ⟨w.heap.size, k * 6 + 5, none⟩) (by simp) (.slice B5 m5 d5)
        exact ⟨k + 1, _, by omega, by go_num, ((((((HR.out).set _ _).set _ _).set _ _).set _ _).set _ _).set _ _, Lib.hid (by simp [hcs.out]), Lib.hid ((((((((hl1.out).setF TbR.stays (by simp) _).setF TbR.stays (by simp) _).setF TbR.stays (by simp) _).setF TbR.stays (by simp) _).setF TbR.stays (by simp) _).setF TbR.stays (by simp) _).more hlt (c := [.string l[k].name, .slice B1 m1 d1, .slice B2 m2 d2, .slice B3 m3 d3, .slice B4 m4 d4, .slice B5 m5 d5]) rfl ⟨_, _, _, _, _, _, _, _, _, _, _, _, _, _, _, rfl, y1, y2, y3, y4, y5, hcp⟩ (hold6 cs k _ _ _ _ _ _) (fresh6 cs k _ _ _ _ _ _ hsz1)), Lib.hid (by simpa using HGW.out), ((((((hb.trans (hb1.mono hb.size)).setCell (by simp) _).setCell (by simp) _).setCell (by simp) _).setCell (by simp) _).setCell (by simp) _).setCell (by simp) _⟩
      case measure => simp [intOf]; omega
    · obtain rfl : k = l.length := by omega
      go_wp2
      go_ret
      exact ⟨_, _, rfl, Nat.le_refl _, (sl_of_laid (ok := okF w.heap.size _) hrow ⟨Nat.le_refl _, hgw.out, fun off => hrow.free off⟩ (fun i hi hlt' => by
        obtain ⟨c', h1, h2, h3⟩ := hlaid.out i hi hlt'
        exact ⟨c', h1, TbR.stays _ _ _ _ _ _ h2 (fun b hb' => hb'.mono (Nat.le_succ _)) (fun p v _ hp => hp), h3⟩) (Nat.le_refl _)), hb⟩
set_option maxRecDepth 100000 in
set_option maxHeartbeats 1000000 in
theorem lawsToRow (x : Rw) (A1 : Option Addr) (n1 c1 : Nat) (ok : Nat → Prop) (w : World) (h1 : Sl VlR 3 ok w A1 n1 x.vals) (hs : x.sz ≤ 1048576) :
    Calls Tryz.prog 164 #[.agg #[.int .i64 x.id, .slice A1 n1 c1]] w (MadeR RwR x w) := by
  have hs1 : szL (fun v : Vl => v.s.size) x.vals ≤ 1048576 := by have := hs; unfold Rw.sz at this; omega
  have HS1 := Lib.hid hs1
  clear hs1
  clear hs
  have ra := ((Row.new w 242 #[.int .i64 x.id, .slice A1 n1 c1]).alloc (.cells #[.int .i64 0, .slice none 0 0] 130)).alloc (.cells #[.int .i64 x.id, .slice none 0 0] 130)
  have r1 := (Row.newAt (w.alloc (.cells #[.int .i64 x.id, .slice A1 n1 c1] 242)) 130 #[.int .i64 0, .slice none 0 0] (w.heap.size + 1) (by simp)).alloc (.cells #[.int .i64 x.id, .slice none 0 0] 130)
  have r2 := Row.newAt ((w.alloc (.cells #[.int .i64 x.id, .slice A1 n1 c1] 242)).alloc (.cells #[.int .i64 0, .slice none 0 0] 130)) 130 #[.int .i64 x.id, .slice none 0 0] (w.heap.size + 1 + 1) (by simp)
  have hb0 := ((((Below.refl w.heap.size w).alloc (Nat.le_refl _) (.cells #[.int .i64 x.id, .slice A1 n1 c1] 242)).alloc (by simp) (.cells #[.int .i64 0, .slice none 0 0] 130)).alloc (by simp; omega) (.cells #[.int .i64 x.id, .slice none 0 0] 130))
  have hz0 : w.heap.size + 3 ≤ (((w.alloc (.cells #[.int .i64 x.id, .slice A1 n1 c1] 242)).alloc (.cells #[.int .i64 0, .slice none 0 0] 130)).alloc (.cells #[.int .i64 x.id, .slice none 0 0] 130)).heap.size := by simp
  go_enter Tryz.func164, Tryz.ntmps164
  go_wp2_with fail
  generalize ((w.alloc (.cells #[.int .i64 x.id, .slice A1 n1 c1] 242)).alloc (.cells #[.int .i64 0, .slice none 0 0] 130)).alloc (.cells #[.int .i64 x.id, .slice none 0 0] 130) = x0 at *
  refine (lawsToValL A1 n1 c1 x.vals ok _ (h1.below VlR.stays hb0) HS1.out).mono ?_
  rintro e w1 ⟨B1, d1, rfl, hcp1, t1, hc0⟩
  have u1 := t1.stays VlR.stays (ok' := okF (w.heap.size + 3) w1) (fun b hb' => hb'.mono (by omega)) (fun p v _ hp => hp)
  clear t1
  have ra := ra.below hc0
  have r1 := r1.below hc0
  have r2 := r2.below hc0
  have hbx0 := hb0.trans (hc0.mono hb0.size)
  have hz1 : w.heap.size + 3 ≤ w1.heap.size := Nat.le_trans hz0 hc0.size
  obtain ⟨⟨a_0_0, a_0_1⟩, -⟩ := ra.all2
  obtain ⟨⟨b_0_0, b_0_1⟩, ⟨f_0_0, f_0_1⟩⟩ := r2.all2
  obtain ⟨⟨g_0_0, g_0_1⟩, ⟨k_0_0, k_0_1⟩⟩ := r1.all2
  have rz : Row ((((w1).setCell ⟨w.heap.size + 1 + 1, 1, none⟩ (.slice B1 n1 d1)).setCell ⟨w.heap.size + 1, 0, none⟩ (.int .i64 x.id)).setCell ⟨w.heap.size + 1, 1, none⟩ (.slice B1 n1 d1)) (w.heap.size + 1) 130 #[.int .i64 x.id, .slice B1 n1 d1] := (((r1).far (by simp) _).set 0 _).set 1 _
  obtain ⟨⟨z0, z1⟩, -⟩ := rz.all2
  have y1 : Sl VlR 3 (okF (w.heap.size + 3) ((((w1).setCell ⟨w.heap.size + 1 + 1, 1, none⟩ (.slice B1 n1 d1)).setCell ⟨w.heap.size + 1, 0, none⟩ (.int .i64 x.id)).setCell ⟨w.heap.size + 1, 1, none⟩ (.slice B1 n1 d1))) ((((w1).setCell ⟨w.heap.size + 1 + 1, 1, none⟩ (.slice B1 n1 d1)).setCell ⟨w.heap.size + 1, 0, none⟩ (.int .i64 x.id)).setCell ⟨w.heap.size + 1, 1, none⟩ (.slice B1 n1 d1)) B1 n1 x.vals := (((u1).setF VlR.stays (by simp) _).setF VlR.stays (by simp) _).setF VlR.stays (by simp) _
  have hbz : Below w.heap.size w ((((w1).setCell ⟨w.heap.size + 1 + 1, 1, none⟩ (.slice B1 n1 d1)).setCell ⟨w.heap.size + 1, 0, none⟩ (.int .i64 x.id)).setCell ⟨w.heap.size + 1, 1, none⟩ (.slice B1 n1 d1)) := (((hbx0).setCell (by simp; try omega) _).setCell (by simp; try omega) _).setCell (by simp; try omega) _
  clear ra r1 r2 rz
  go_wp2_with fail
  exact bodyPost_ret (v := .agg #[.int .i64 x.id, .slice B1 n1 d1]) (by simp [results, Tryz.results164, go_sem, z0, z1]) rfl ⟨[.int .i64 x.id, .slice B1 n1 d1], rfl, ⟨_, _, _, rfl, y1.stays VlR.stays (fun b hb' => hb'.mono (by omega)) (fun p v _ hp => hp), hcp1⟩, hbz⟩
theorem infoRowT : (Tryz.prog.info? 130).map (fun i => (i.zero, i.size, i.bytes)) = some (some (.agg #[.int .i64 0, .slice none 0 0]), 2, 32) := by kernel_rfl
set_option maxRecDepth 100000 in
set_option maxHeartbeats 1000000 in
theorem lawsToRowL (A : Option Addr) (n c : Nat) (l : List Rw) (ok : Nat → Prop) (w : World) (h : Sl RwR 2 ok w A n l) (hs : szL Rw.sz l ≤ 1048576) :
    Calls Tryz.prog 115 #[.slice A n c] w (MadeSl RwR 2 n l w) := by
  obtain rfl : l.length = n := h.1
  have hn : l.length ≤ 1048576 := by unfold szL at hs; omega
  have HS := Lib.hid hs
  clear hs
  have hmk := fun w => mk_rows (P := Tryz.prog) Tryz.underlying120 infoRowT (by omega) l.length hn w
  go_enter Tryz.func115, Tryz.ntmps115
  go_wp2
  have row := Row.new w 130 (madeCells #[.int .i64 0, .slice none 0 0] (l.length * 2))
  have hb0 := (Below.refl w.heap.size w).alloc (Nat.le_refl _) (.cells (madeCells #[.int .i64 0, .slice none 0 0] (l.length * 2)) 130)
  have hsz := size_madeCells #[.int .i64 0, .slice none 0 0] (l.length * 2)
  have hx0 : (w.alloc (.cells (madeCells #[.int .i64 0, .slice none 0 0] (l.length * 2)) 130)).heap.size = w.heap.size + 1 := by simp
  generalize w.alloc (.cells (madeCells #[.int .i64 0, .slice none 0 0] (l.length * 2)) 130) = x at *
  generalize madeCells #[.int .i64 0, .slice none 0 0] (l.length * 2) = cs0 at *
  have HZ := Lib.hid hsz
  have HX0 := Lib.hid hx0
  clear hmk hsz hx0
  go_loopw [4] (fun i wr => ∃ (k : Nat) (cs : Array Value), k ≤ l.length ∧ i = .int .i64 k ∧ Row wr w.heap.size 130 cs ∧ Hid (cs.size = l.length * 2) ∧ Hid (LaidR RwR 2 (okF (w.heap.size + 1) wr) wr cs k l) ∧ Hid (w.heap.size + 1 ≤ wr.heap.size) ∧ Below w.heap.size w wr) (fun i _ => l.length - (intOf i).toNat)
  case atStart => exact ⟨0, cs0, by omega, rfl, row, Lib.hid (by rw [HZ.out]), Lib.hid (LaidR.zero _ _ _ _ _ _), Lib.hid (by rw [HX0.out]; exact Nat.le_refl _), hb0⟩
  case round =>
    obtain ⟨k, cs, hk, rfl, hrow, hcs, hlaid, hgw, hb⟩ := hrel
    by_cases hlt : k < l.length
    · obtain ⟨b, off, A1, n1, c1, -, rfl, q0, q1, s1, -⟩ := RwR.at_ (h.below RwR.stays hb) hlt
      have hsz1 : k * 2 + 2 ≤ cs.size := by rw [hcs.out]; omega
      have hszk : l[k].sz ≤ 1048576 := by have := HS.out; have := sum_mem_le (Rw.sz) l k hlt; unfold szL at *; (try simp only at *); omega
      have HSK := Lib.hid hszk
      clear hszk
      go_wp2_with fail
      refine (lawsToRow l[k] A1 n1 c1 ok _ s1 HSK.out).mono ?_
      rintro e w1 ⟨cs', rfl, hR1, hb1⟩
      obtain ⟨B1, m1, d1, rfl, t1, hcp⟩ := hR1
      have hrow1 := hrow.below hb1
      have hgw1 : w.heap.size + 1 ≤ w1.heap.size := Nat.le_trans hgw.out hb1.size
      have HGW := Lib.hid hgw1
      clear hgw1
      have hl1 := Lib.hid (hlaid.out.belowF RwR.stays hb1)
      have q : ∀ j, j < 2 → w1.cell? ⟨w.heap.size, k * 2 + j, none⟩ = some (cs[k * 2 + j]?.getD undef) := fun j hj => by
        rw [hrow1.cell, Array.getElem?_eq_getElem (by omega)]; rfl
      have z0 : w1.cell? ⟨w.heap.size, k * 2, none⟩ = some (cs[k * 2]?.getD undef) := q 0 (by omega)
      have z1 := q 1 (by omega)
      have f0 := hrow1.free (k * 2)
      have f1 := hrow1.free (k * 2 + 1)
      clear q
      have HR := Lib.hid hrow1
      clear hrow1 hrow q0 q1
      go_wp2_with fail
      go_roundw
      case rel =>
        have y1 := (((t1.stays VlR.stays (ok' := okF (w.heap.size + 1) w1) (fun b hb' => hb'.mono hgw.out) (fun p v _ hp => hp))).setF VlR.stays (p := ⟨w.heap.size, k * 2, none⟩) (by simp) (.int .i64 l[k].id)).setF VlR.stays (p := ⟨w.heap.size, k * 2 + 1, none⟩) (by simp) (.slice B1 m1 d1)
        exact ⟨k + 1, _, by omega, by go_num, ((HR.out).set _ _).set _ _, Lib.hid (by simp [hcs.out]), Lib.hid ((((hl1.out).setF RwR.stays (by simp) _).setF RwR.stays (by simp) _).more hlt (c := [.int .i64 l[k].id, .slice B1 m1 d1]) rfl ⟨_, _, _, rfl, y1, hcp⟩ (hold2 cs k _ _) (fresh2 cs k _ _ hsz1)), Lib.hid (by simpa using HGW.out), ((hb.trans (hb1.mono hb.size)).setCell (by simp) _).setCell (by simp) _⟩
      case measure => simp [intOf]; omega
    · obtain rfl : k = l.length := by omega
      go_wp2
      go_ret
      exact ⟨_, _, rfl, Nat.le_refl _, (sl_of_laid (ok := okF w.heap.size _) hrow ⟨Nat.le_refl _, hgw.out, fun off => hrow.free off⟩ (fun i hi hlt' => by
        obtain ⟨c', h1, h2, h3⟩ := hlaid.out i hi hlt'
        exact ⟨c', h1, RwR.stays _ _ _ _ _ _ h2 (fun b hb' => hb'.mono (Nat.le_succ _)) (fun p v _ hp => hp), h3⟩) (Nat.le_refl _)), hb⟩
set_option maxRecDepth 100000 in
set_option maxHeartbeats 1000000 in
theorem lawsToData (x : Dt) (A0 : Option Addr) (n0 c0 : Nat) (ok : Nat → Prop) (w : World) (h0 : Sl RwR 2 ok w A0 n0 x.rows) (hs : x.sz ≤ 1048576) :
    Calls Tryz.prog 65 #[.agg #[.slice A0 n0 c0]] w (MadeR DtR x w) := by
  have hs0 : szL Rw.sz x.rows ≤ 1048576 := by have := hs; unfold Dt.sz at this; omega
  have HS0 := Lib.hid hs0
  clear hs0
  clear hs
  have ra := ((Row.new w 116 #[.slice A0 n0 c0]).alloc (.cells #[.slice none 0 0] 122)).alloc (.cells #[.slice none 0 0] 122)
  have r1 := (Row.newAt (w.alloc (.cells #[.slice A0 n0 c0] 116)) 122 #[.slice none 0 0] (w.heap.size + 1) (by simp)).alloc (.cells #[.slice none 0 0] 122)
  have r2 := Row.newAt ((w.alloc (.cells #[.slice A0 n0 c0] 116)).alloc (.cells #[.slice none 0 0] 122)) 122 #[.slice none 0 0] (w.heap.size + 1 + 1) (by simp)
  have hb0 := ((((Below.refl w.heap.size w).alloc (Nat.le_refl _) (.cells #[.slice A0 n0 c0] 116)).alloc (by simp) (.cells #[.slice none 0 0] 122)).alloc (by simp; omega) (.cells #[.slice none 0 0] 122))
  have hz0 : w.heap.size + 3 ≤ (((w.alloc (.cells #[.slice A0 n0 c0] 116)).alloc (.cells #[.slice none 0 0] 122)).alloc (.cells #[.slice none 0 0] 122)).heap.size := by simp
  go_enter Tryz.func65, Tryz.ntmps65
  go_wp2_with fail
  generalize ((w.alloc (.cells #[.slice A0 n0 c0] 116)).alloc (.cells #[.slice none 0 0] 122)).alloc (.cells #[.slice none 0 0] 122) = x0 at *
  refine (lawsToRowL A0 n0 c0 x.rows ok _ (h0.below RwR.stays hb0) HS0.out).mono ?_
  rintro e w1 ⟨B0, d0, rfl, hcp0, t0, hc0⟩
  have u0 := t0.stays RwR.stays (ok' := okF (w.heap.size + 3) w1) (fun b hb' => hb'.mono (by omega)) (fun p v _ hp => hp)
  clear t0
  have ra := ra.below hc0
  have r1 := r1.below hc0
  have r2 := r2.below hc0
  have hbx0 := hb0.trans (hc0.mono hb0.size)
  have hz1 : w.heap.size + 3 ≤ w1.heap.size := Nat.le_trans hz0 hc0.size
  obtain ⟨a_0_0, -⟩ := ra.all1
  obtain ⟨b_0_0, f_0_0⟩ := r2.all1
  obtain ⟨g_0_0, k_0_0⟩ := r1.all1
  have rz : Row (((w1).setCell ⟨w.heap.size + 1 + 1, 0, none⟩ (.slice B0 n0 d0)).setCell ⟨w.heap.size + 1, 0, none⟩ (.slice B0 n0 d0)) (w.heap.size + 1) 122 #[.slice B0 n0 d0] := ((r1).far (by simp) _).set 0 _
  obtain ⟨z0, -⟩ := rz.all1
  have y0 : Sl RwR 2 (okF (w.heap.size + 3) (((w1).setCell ⟨w.heap.size + 1 + 1, 0, none⟩ (.slice B0 n0 d0)).setCell ⟨w.heap.size + 1, 0, none⟩ (.slice B0 n0 d0))) (((w1).setCell ⟨w.heap.size + 1 + 1, 0, none⟩ (.slice B0 n0 d0)).setCell ⟨w.heap.size + 1, 0, none⟩ (.slice B0 n0 d0)) B0 n0 x.rows := ((u0).setF RwR.stays (by simp) _).setF RwR.stays (by simp) _
  have hbz : Below w.heap.size w (((w1).setCell ⟨w.heap.size + 1 + 1, 0, none⟩ (.slice B0 n0 d0)).setCell ⟨w.heap.size + 1, 0, none⟩ (.slice B0 n0 d0)) := ((hbx0).setCell (by simp; try omega) _).setCell (by simp; try omega) _
  clear ra r1 r2 rz
  go_wp2_with fail
  exact bodyPost_ret (v := .agg #[.slice B0 n0 d0]) (by simp [results, Tryz.results65, go_sem, z0]) rfl ⟨[.slice B0 n0 d0], rfl, ⟨_, _, _, rfl, y0.stays RwR.stays (fun b hb' => hb'.mono (by omega)) (fun p v _ hp => hp), hcp0⟩, hbz⟩
theorem infoDataT : (Tryz.prog.info? 122).map (fun i => (i.zero, i.size, i.bytes)) = some (some (.agg #[.slice none 0 0]), 1, 24) := by kernel_rfl
set_option maxRecDepth 100000 in
set_option maxHeartbeats 1000000 in
theorem lawsToDataL (A : Option Addr) (n c : Nat) (l : List Dt) (ok : Nat → Prop) (w : World) (h : Sl DtR 1 ok w A n l) (hs : szL Dt.sz l ≤ 1048576) :
    Calls Tryz.prog 25 #[.slice A n c] w (MadeSl DtR 1 n l w) := by
  obtain rfl : l.length = n := h.1
  have hn : l.length ≤ 1048576 := by unfold szL at hs; omega
  have HS := Lib.hid hs
  clear hs
  have hmk := fun w => mk_rows (P := Tryz.prog) Tryz.underlying50 infoDataT (by omega) l.length hn w
  simp only [Nat.mul_one] at hmk
  go_enter Tryz.func25, Tryz.ntmps25
  go_wp2
  have row := Row.new w 122 (madeCells #[.slice none 0 0] (l.length))
  have hb0 := (Below.refl w.heap.size w).alloc (Nat.le_refl _) (.cells (madeCells #[.slice none 0 0] (l.length)) 122)
  have hsz := size_madeCells #[.slice none 0 0] (l.length)
  have hx0 : (w.alloc (.cells (madeCells #[.slice none 0 0] (l.length)) 122)).heap.size = w.heap.size + 1 := by simp
  generalize w.alloc (.cells (madeCells #[.slice none 0 0] (l.length)) 122) = x at *
  generalize madeCells #[.slice none 0 0] (l.length) = cs0 at *
  have HZ := Lib.hid hsz
  have HX0 := Lib.hid hx0
  clear hmk hsz hx0
  go_loopw [4] (fun i wr => ∃ (k : Nat) (cs : Array Value), k ≤ l.length ∧ i = .int .i64 k ∧ Row wr w.heap.size 122 cs ∧ Hid (cs.size = l.length * 1) ∧ Hid (LaidR DtR 1 (okF (w.heap.size + 1) wr) wr cs k l) ∧ Hid (w.heap.size + 1 ≤ wr.heap.size) ∧ Below w.heap.size w wr) (fun i _ => l.length - (intOf i).toNat)
  case atStart => exact ⟨0, cs0, by omega, rfl, row, Lib.hid (by rw [HZ.out]; exact (Nat.mul_one _).symm), Lib.hid (LaidR.zero _ _ _ _ _ _), Lib.hid (by rw [HX0.out]; exact Nat.le_refl _), hb0⟩
  case round =>
    obtain ⟨k, cs, hk, rfl, hrow, hcs, hlaid, hgw, hb⟩ := hrel
    by_cases hlt : k < l.length
    · obtain ⟨b, off, A0, n0, c0, -, rfl, q0, s0, -⟩ := DtR.at_ (h.below DtR.stays hb) hlt
      have hsz1 : k * 1 + 1 ≤ cs.size := by rw [hcs.out]; omega
      have hszk : l[k].sz ≤ 1048576 := by have := HS.out; have := sum_mem_le (Dt.sz) l k hlt; unfold szL at *; (try simp only at *); omega
      have HSK := Lib.hid hszk
      clear hszk
      go_wp2_with fail
      refine (lawsToData l[k] A0 n0 c0 ok _ s0 HSK.out).mono ?_
      rintro e w1 ⟨cs', rfl, hR1, hb1⟩
      obtain ⟨B0, m0, d0, rfl, t0, hcp⟩ := hR1
      have hrow1 := hrow.below hb1
      have hgw1 : w.heap.size + 1 ≤ w1.heap.size := Nat.le_trans hgw.out hb1.size
      have HGW := Lib.hid hgw1
      clear hgw1
      have hl1 := Lib.hid (hlaid.out.belowF DtR.stays hb1)
      have q : ∀ j, j < 1 → w1.cell? ⟨w.heap.size, k + j, none⟩ = some (cs[k + j]?.getD undef) := fun j hj => by
        rw [hrow1.cell, Array.getElem?_eq_getElem (by omega)]; rfl
      have z0 : w1.cell? ⟨w.heap.size, k, none⟩ = some (cs[k]?.getD undef) := q 0 (by omega)
      have f0 := hrow1.free (k)
      clear q
      have HR := Lib.hid hrow1
      clear hrow1 hrow q0
      go_wp2_with fail
      go_roundw
      case rel =>
        have y0 := ((t0.stays RwR.stays (ok' := okF (w.heap.size + 1) w1) (fun b hb' => hb'.mono hgw.out) (fun p v _ hp => hp))).setF RwR.stays (p := ⟨w.heap.size, k, none⟩) (by simp) (.slice B0 m0 d0)
        exact ⟨k + 1, _, by omega, by go_num, (HR.out).set _ _, Lib.hid (by simp [hcs.out]), Lib.hid (((hl1.out).setF DtR.stays (by simp) _).more hlt (c := [.slice B0 m0 d0]) rfl ⟨_, _, _, rfl, y0, hcp⟩ (hold1 cs k _) (fresh1 cs k _ hsz1)), Lib.hid (by simpa using HGW.out), (hb.trans (hb1.mono hb.size)).setCell (by simp) _⟩
      case measure => simp [intOf]; omega
    · obtain rfl : k = l.length := by omega
      go_wp2
      go_ret
      exact ⟨_, _, rfl, Nat.le_refl _, (sl_of_laid (ok := okF w.heap.size _) hrow ⟨Nat.le_refl _, hgw.out, fun off => hrow.free off⟩ (fun i hi hlt' => by
        obtain ⟨c', h1, h2, h3⟩ := hlaid.out i hi hlt'
        exact ⟨c', h1, DtR.stays _ _ _ _ _ _ h2 (fun b hb' => hb'.mono (Nat.le_succ _)) (fun p v _ hp => hp), h3⟩) (Nat.le_refl _)), hb⟩
set_option maxRecDepth 100000 in
set_option maxHeartbeats 1000000 in
theorem lawsToEntry (x : En) (A0 : Option Addr) (n0 c0 : Nat) (ok : Nat → Prop) (w : World) (h0 : Sl VlR 3 ok w A0 n0 x.key) (hs : x.sz ≤ 1048576) :
    Calls Tryz.prog 77 #[.agg #[.slice A0 n0 c0, .int .i64 x.id]] w (MadeR EnR x w) := by
  have hs0 : szL (fun v : Vl => v.s.size) x.key ≤ 1048576 := by have := hs; unfold En.sz at this; omega
  have HS0 := Lib.hid hs0
  clear hs0
  clear hs
  have ra := ((Row.new w 141 #[.slice A0 n0 c0, .int .i64 x.id]).alloc (.cells #[.slice none 0 0, .int .i64 0] 135)).alloc (.cells #[.slice none 0 0, .int .i64 0] 135)
  have r1 := (Row.newAt (w.alloc (.cells #[.slice A0 n0 c0, .int .i64 x.id] 141)) 135 #[.slice none 0 0, .int .i64 0] (w.heap.size + 1) (by simp)).alloc (.cells #[.slice none 0 0, .int .i64 0] 135)
  have r2 := Row.newAt ((w.alloc (.cells #[.slice A0 n0 c0, .int .i64 x.id] 141)).alloc (.cells #[.slice none 0 0, .int .i64 0] 135)) 135 #[.slice none 0 0, .int .i64 0] (w.heap.size + 1 + 1) (by simp)
  have hb0 := ((((Below.refl w.heap.size w).alloc (Nat.le_refl _) (.cells #[.slice A0 n0 c0, .int .i64 x.id] 141)).alloc (by simp) (.cells #[.slice none 0 0, .int .i64 0] 135)).alloc (by simp; omega) (.cells #[.slice none 0 0, .int .i64 0] 135))
  have hz0 : w.heap.size + 3 ≤ (((w.alloc (.cells #[.slice A0 n0 c0, .int .i64 x.id] 141)).alloc (.cells #[.slice none 0 0, .int .i64 0] 135)).alloc (.cells #[.slice none 0 0, .int .i64 0] 135)).heap.size := by simp
  go_enter Tryz.func77, Tryz.ntmps77
  go_wp2_with fail
  generalize ((w.alloc (.cells #[.slice A0 n0 c0, .int .i64 x.id] 141)).alloc (.cells #[.slice none 0 0, .int .i64 0] 135)).alloc (.cells #[.slice none 0 0, .int .i64 0] 135) = x0 at *
  refine (lawsToValL A0 n0 c0 x.key ok _ (h0.below VlR.stays hb0) HS0.out).mono ?_
  rintro e w1 ⟨B0, d0, rfl, hcp0, t0, hc0⟩
  have u0 := t0.stays VlR.stays (ok' := okF (w.heap.size + 3) w1) (fun b hb' => hb'.mono (by omega)) (fun p v _ hp => hp)
  clear t0
  have ra := ra.below hc0
  have r1 := r1.below hc0
  have r2 := r2.below hc0
  have hbx0 := hb0.trans (hc0.mono hb0.size)
  have hz1 : w.heap.size + 3 ≤ w1.heap.size := Nat.le_trans hz0 hc0.size
  obtain ⟨⟨a_0_0, a_0_1⟩, -⟩ := ra.all2
  obtain ⟨⟨b_0_0, b_0_1⟩, ⟨f_0_0, f_0_1⟩⟩ := r2.all2
  obtain ⟨⟨g_0_0, g_0_1⟩, ⟨k_0_0, k_0_1⟩⟩ := r1.all2
  have rz : Row (((((w1).setCell ⟨w.heap.size + 1 + 1, 0, none⟩ (.slice B0 n0 d0)).setCell ⟨w.heap.size + 1 + 1, 1, none⟩ (.int .i64 x.id)).setCell ⟨w.heap.size + 1, 0, none⟩ (.slice B0 n0 d0)).setCell ⟨w.heap.size + 1, 1, none⟩ (.int .i64 x.id)) (w.heap.size + 1) 135 #[.slice B0 n0 d0, .int .i64 x.id] := ((((r1).far (by simp) _).far (by simp) _).set 0 _).set 1 _
  obtain ⟨⟨z0, z1⟩, -⟩ := rz.all2
  have y0 : Sl VlR 3 (okF (w.heap.size + 3) (((((w1).setCell ⟨w.heap.size + 1 + 1, 0, none⟩ (.slice B0 n0 d0)).setCell ⟨w.heap.size + 1 + 1, 1, none⟩ (.int .i64 x.id)).setCell ⟨w.heap.size + 1, 0, none⟩ (.slice B0 n0 d0)).setCell ⟨w.heap.size + 1, 1, none⟩ (.int .i64 x.id))) (((((w1).setCell ⟨w.heap.size + 1 + 1, 0, none⟩ (.slice B0 n0 d0)).setCell ⟨w.heap.size + 1 + 1, 1, none⟩ (.int .i64 x.id)).setCell ⟨w.heap.size + 1, 0, none⟩ (.slice B0 n0 d0)).setCell ⟨w.heap.size + 1, 1, none⟩ (.int .i64 x.id)) B0 n0 x.key := ((((u0).setF VlR.stays (by simp) _).setF VlR.stays (by simp) _).setF VlR.stays (by simp) _).setF VlR.stays (by simp) _
  have hbz : Below w.heap.size w (((((w1).setCell ⟨w.heap.size + 1 + 1, 0, none⟩ (.slice B0 n0 d0)).setCell ⟨w.heap.size + 1 + 1, 1, none⟩ (.int .i64 x.id)).setCell ⟨w.heap.size + 1, 0, none⟩ (.slice B0 n0 d0)).setCell ⟨w.heap.size + 1, 1, none⟩ (.int .i64 x.id)) := ((((hbx0).setCell (by simp; try omega) _).setCell (by simp; try omega) _).setCell (by simp; try omega) _).setCell (by simp; try omega) _
  clear ra r1 r2 rz
  go_wp2_with fail
  exact bodyPost_ret (v := .agg #[.slice B0 n0 d0, .int .i64 x.id]) (by simp [results, Tryz.results77, go_sem, z0, z1]) rfl ⟨[.slice B0 n0 d0, .int .i64 x.id], rfl, ⟨_, _, _, rfl, y0.stays VlR.stays (fun b hb' => hb'.mono (by omega)) (fun p v _ hp => hp), hcp0⟩, hbz⟩
theorem infoEntryT : (Tryz.prog.info? 135).map (fun i => (i.zero, i.size, i.bytes)) = some (some (.agg #[.slice none 0 0, .int .i64 0]), 2, 32) := by kernel_rfl
set_option maxRecDepth 100000 in
set_option maxHeartbeats 1000000 in
theorem lawsToEntryL (A : Option Addr) (n c : Nat) (l : List En) (ok : Nat → Prop) (w : World) (h : Sl EnR 2 ok w A n l) (hs : szL En.sz l ≤ 1048576) :
    Calls Tryz.prog 35 #[.slice A n c] w (MadeSl EnR 2 n l w) := by
  obtain rfl : l.length = n := h.1
  have hn : l.length ≤ 1048576 := by unfold szL at hs; omega
  have HS := Lib.hid hs
  clear hs
  have hmk := fun w => mk_rows (P := Tryz.prog) Tryz.underlying47 infoEntryT (by omega) l.length hn w
  go_enter Tryz.func35, Tryz.ntmps35
  go_wp2
  have row := Row.new w 135 (madeCells #[.slice none 0 0, .int .i64 0] (l.length * 2))
  have hb0 := (Below.refl w.heap.size w).alloc (Nat.le_refl _) (.cells (madeCells #[.slice none 0 0, .int .i64 0] (l.length * 2)) 135)
  have hsz := size_madeCells #[.slice none 0 0, .int .i64 0] (l.length * 2)
  have hx0 : (w.alloc (.cells (madeCells #[.slice none 0 0, .int .i64 0] (l.length * 2)) 135)).heap.size = w.heap.size + 1 := by simp
  generalize w.alloc (.cells (madeCells #[.slice none 0 0, .int .i64 0] (l.length * 2)) 135) = x at *
  generalize madeCells #[.slice none 0 0, .int .i64 0] (l.length * 2) = cs0 at *
  have HZ := Lib.hid hsz
  have HX0 := Lib.hid hx0
  clear hmk hsz hx0
  go_loopw [4] (fun i wr => ∃ (k : Nat) (cs : Array Value), k ≤ l.length ∧ i = .int .i64 k ∧ Row wr w.heap.size 135 cs ∧ Hid (cs.size = l.length * 2) ∧ Hid (LaidR EnR 2 (okF (w.heap.size + 1) wr) wr cs k l) ∧ Hid (w.heap.size + 1 ≤ wr.heap.size) ∧ Below w.heap.size w wr) (fun i _ => l.length - (intOf i).toNat)
  case atStart => exact ⟨0, cs0, by omega, rfl, row, Lib.hid (by rw [HZ.out]), Lib.hid (LaidR.zero _ _ _ _ _ _), Lib.hid (by rw [HX0.out]; exact Nat.le_refl _), hb0⟩
  case round =>
    obtain ⟨k, cs, hk, rfl, hrow, hcs, hlaid, hgw, hb⟩ := hrel
    by_cases hlt : k < l.length
    · obtain ⟨b, off, A0, n0, c0, -, rfl, q0, q1, s0, -⟩ := EnR.at_ (h.below EnR.stays hb) hlt
      have hsz1 : k * 2 + 2 ≤ cs.size := by rw [hcs.out]; omega
      have hszk : l[k].sz ≤ 1048576 := by have := HS.out; have := sum_mem_le (En.sz) l k hlt; unfold szL at *; (try simp only at *); omega
      have HSK := Lib.hid hszk
      clear hszk
      go_wp2_with fail
      refine (lawsToEntry l[k] A0 n0 c0 ok _ s0 HSK.out).mono ?_
      rintro e w1 ⟨cs', rfl, hR1, hb1⟩
      obtain ⟨B0, m0, d0, rfl, t0, hcp⟩ := hR1
      have hrow1 := hrow.below hb1
      have hgw1 : w.heap.size + 1 ≤ w1.heap.size := Nat.le_trans hgw.out hb1.size
      have HGW := Lib.hid hgw1
      clear hgw1
      have hl1 := Lib.hid (hlaid.out.belowF EnR.stays hb1)
      have q : ∀ j, j < 2 → w1.cell? ⟨w.heap.size, k * 2 + j, none⟩ = some (cs[k * 2 + j]?.getD undef) := fun j hj => by
        rw [hrow1.cell, Array.getElem?_eq_getElem (by omega)]; rfl
      have z0 : w1.cell? ⟨w.heap.size, k * 2, none⟩ = some (cs[k * 2]?.getD undef) := q 0 (by omega)
      have z1 := q 1 (by omega)
      have f0 := hrow1.free (k * 2)
      have f1 := hrow1.free (k * 2 + 1)
      clear q
      have HR := Lib.hid hrow1
      clear hrow1 hrow q0 q1
      go_wp2_with fail
      go_roundw
      case rel =>
        have y0 := (((t0.stays VlR.stays (ok' := okF (w.heap.size + 1) w1) (fun b hb' => hb'.mono hgw.out) (fun p v _ hp => hp))).setF VlR.stays (p := ⟨w.heap.size, k * 2, none⟩) (by simp) (.slice B0 m0 d0)).setF VlR.stays (p := ⟨w.heap.size, k * 2 + 1, none⟩) (by simp) (.int .i64 l[k].id)
        exact ⟨k + 1, _, by omega, by go_num, ((HR.out).set _ _).set _ _, Lib.hid (by simp [hcs.out]), Lib.hid ((((hl1.out).setF EnR.stays (by simp) _).setF EnR.stays (by simp) _).more hlt (c := [.slice B0 m0 d0, .int .i64 l[k].id]) rfl ⟨_, _, _, rfl, y0, hcp⟩ (hold2 cs k _ _) (fresh2 cs k _ _ hsz1)), Lib.hid (by simpa using HGW.out), ((hb.trans (hb1.mono hb.size)).setCell (by simp) _).setCell (by simp) _⟩
      case measure => simp [intOf]; omega
    · obtain rfl : k = l.length := by omega
      go_wp2
      go_ret
      exact ⟨_, _, rfl, Nat.le_refl _, (sl_of_laid (ok := okF w.heap.size _) hrow ⟨Nat.le_refl _, hgw.out, fun off => hrow.free off⟩ (fun i hi hlt' => by
        obtain ⟨c', h1, h2, h3⟩ := hlaid.out i hi hlt'
        exact ⟨c', h1, EnR.stays _ _ _ _ _ _ h2 (fun b hb' => hb'.mono (Nat.le_succ _)) (fun p v _ hp => hp), h3⟩) (Nat.le_refl _)), hb⟩
def isSl : Value → Bool
  | .slice .. => true
  | _ => false
structure Kept (B E : Nat) (w w' : World) : Prop where
  os : w'.os = w.os
  tape : w'.tape = w.tape
  output : w'.output = w.output
  size : w.heap.size ≤ w'.heap.size
  block : ∀ k, k < w.heap.size → (k < B ∨ E ≤ k) → w'.heap[k]? = w.heap[k]?
  cell : ∀ p v, w.cell? p = some v → ∃ v', w'.cell? p = some v' ∧ (isSl v = true → v' = v) ∧ isSl v' = isSl v
  frozen : ∀ p : Addr, p.block < w.heap.size → w'.frozen? p = w.frozen? p
theorem Kept.refl (B E : Nat) (w : World) : Kept B E w w := ⟨rfl, rfl, rfl, Nat.le_refl _, fun _ _ _ => rfl, fun _ v h => ⟨v, h, fun _ => rfl, rfl⟩, fun _ _ => rfl⟩
theorem Kept.trans {B E : Nat} {a b c : World} (h : Kept B E a b) (k : Kept B E b c) : Kept B E a c :=
  ⟨k.os.trans h.os, k.tape.trans h.tape, k.output.trans h.output, Nat.le_trans h.size k.size, fun i hi ho => (k.block i (Nat.lt_of_lt_of_le hi h.size) ho).trans (h.block i hi ho),
   fun p v hp => by
    obtain ⟨v1, h1, h2, h3⟩ := h.cell p v hp
    obtain ⟨v2, k1, k2, k3⟩ := k.cell p v1 h1
    exact ⟨v2, k1, fun hv => by rw [k2 (by rw [h3]; exact hv), h2 hv], k3.trans h3⟩,
   fun p hp => (k.frozen p (Nat.lt_of_lt_of_le hp h.size)).trans (h.frozen p hp)⟩
theorem Kept.below {B E : Nat} {w w' : World} (h : Below w.heap.size w w') : Kept B E w w' :=
  ⟨h.os, h.tape, h.output, h.size, fun k hk _ => h.block k hk, fun p v hp => ⟨v, below_keep h p v hp, fun _ => rfl, rfl⟩, fun p hp => World.frozen?_of_block (w := w) (h.block p.block hp)⟩
theorem Kept.set {B E : Nat} {a w : World} (h : Kept B E a w) {p : Addr} {v : Value} (hc : a.cell? p = some v) (hn : isSl v = false) (hB : B ≤ p.block) (hE : p.block < E) {u : Value} (hu : isSl u = false) : Kept B E a (w.setCell p u) := by
  refine ⟨h.os, h.tape, h.output, by simpa [World.setCell] using h.size, fun k hk ho => ?_, fun q x hq => ?_, fun q hq => (frozen_setCell w p u q).trans (h.frozen q hq)⟩
  · rw [Below.heap_setCell _ _ _ _ (by omega)]
    exact h.block k hk ho
  · by_cases e : q = p
    · subst e
      rw [hc] at hq
      cases hq
      obtain ⟨v', h1, h2, h3⟩ := h.cell _ _ hc
      exact ⟨u, World.cell?_setCell_same _ _ _ h1, fun hv => absurd (hn.symm.trans hv) (by simp), by rw [hu, hn]⟩
    · obtain ⟨v', h1, h2, h3⟩ := h.cell q x hq
      exact ⟨v', (World.cell?_setCell_other _ _ _ _ (fun hh => e hh.symm)).trans h1, h2, h3⟩
theorem Kept.toBelow {B E G : Nat} {a w w' : World} (h : Below G a w) (k : Kept B E w w') (hG : G ≤ B) (ha : G ≤ w.heap.size) : Below G a w' :=
  ⟨k.os.trans h.os, k.tape.trans h.tape, k.output.trans h.output, Nat.le_trans h.size k.size, fun i hi => (k.block i (by omega) (Or.inl (by omega))).trans (h.block i hi)⟩
theorem Kept.after {B E : Nat} {a b c : World} (k : Kept B E b c) (h : Kept B E a b) : Kept B E a c := h.trans k
theorem Kept.slice {B E : Nat} {w w' : World} (k : Kept B E w w') {p : Addr} {v : Value} (h : w.cell? p = some v) (hs : isSl v = true) : w'.cell? p = some v := by
  obtain ⟨v', h1, h2, -⟩ := k.cell p v h
  rw [h1, h2 hs]
theorem Kept.far {B E : Nat} {w w' : World} (k : Kept B E w w') {p : Addr} {v : Value} (hp : p.block < B ∨ E ≤ p.block) (h : w.cell? p = some v) : w'.cell? p = some v :=
  (World.cell?_of_block (w := w) (k.block p.block (cell_lt h) hp)).trans h
theorem Sl.kept {α : Type} {R : Rd α} (hR : Stays R) {sz : Nat} {ok : Nat → Prop} {B E : Nat} {w w' : World} {A : Option Addr} {n : Nat} {ds : List α} (h : Sl R sz ok w A n ds) (hk : Kept B E w w') (ho : ∀ b, ok b → b < B ∨ E ≤ b) : Sl R sz ok w' A n ds :=
  h.stays hR (fun _ h => h) fun p v hb hp => hk.far (ho _ hb) hp
def KStays {α : Type} (R : Rd α) : Prop := ∀ (ok : Nat → Prop) (B E : Nat) (w w' : World) (cs cs' : List Value) (d : α), R ok w cs d → Kept B E w w' → cs'.length = cs.length → (∀ (j : Nat) (v : Value), cs[j]? = some v → ∃ v', cs'[j]? = some v' ∧ (isSl v = true → v' = v) ∧ isSl v' = isSl v) → R ok w' cs' d
theorem Sl.shape {α : Type} {R : Rd α} (hR : KStays R) {sz : Nat} {ok : Nat → Prop} {B E : Nat} {w w' : World} {A : Option Addr} {n : Nat} {ds : List α} (h : Sl R sz ok w A n ds) (hk : Kept B E w w') : Sl R sz ok w' A n ds :=
  ⟨h.1, fun hn => by
    obtain ⟨b, off, e, hb, hi⟩ := h.2 hn
    refine ⟨b, off, e, hb, fun i hlt => ?_⟩
    obtain ⟨cs, h1, h2, h3⟩ := hi i hlt
    have hc : ∀ (j : Nat) (v : Value), cs[j]? = some v → ((List.range sz).map fun j => (w'.cell? ⟨b, off + i * sz + j, none⟩).getD undef)[j]? = some ((w'.cell? ⟨b, off + i * sz + j, none⟩).getD undef) := fun j v hv => by
      have hj : j < sz := by obtain ⟨hj, _⟩ := List.getElem?_eq_some_iff.1 hv; omega
      simp [hj]
    refine ⟨(List.range sz).map fun j => (w'.cell? ⟨b, off + i * sz + j, none⟩).getD undef, by simp, hR _ B E _ _ _ _ _ h2 hk (by simp [h1]) fun j v hv => ?_, fun j v hv => ?_⟩
    · obtain ⟨v', k1, k2, k3⟩ := hk.cell _ _ (h3 j v hv)
      exact ⟨v', by rw [hc j v hv, k1]; rfl, k2, k3⟩
    · have hj : j < sz := by obtain ⟨hj, _⟩ := List.getElem?_eq_some_iff.1 hv; simpa using hj
      obtain ⟨v0, hv0⟩ : ∃ v0, cs[j]? = some v0 := ⟨cs[j]'(by omega), List.getElem?_eq_getElem (by omega)⟩
      obtain ⟨v', k1, -⟩ := hk.cell _ _ (h3 j v0 hv0)
      rw [hc j v0 hv0, k1] at hv
      cases hv
      exact k1⟩
def ShF (m : Nat) : Rd Nat := fun _ _ cs d => cs.length = m ∧ (∀ (j : Nat) (v : Value), cs[j]? = some v → isSl v = false) ∧ d = m
theorem ShF.keeps (m : Nat) : KStays (ShF m) := fun _ _ _ _ _ _ cs' _ ⟨h1, h2, h3⟩ _ hl hc => ⟨hl.trans h1, fun j v hv => by
  have hj : j < cs'.length := (List.getElem?_eq_some_iff.1 hv).1
  obtain ⟨v', k1, _, k3⟩ := hc j _ (List.getElem?_eq_getElem (by omega))
  rw [hv] at k1
  cases k1
  rw [k3]
  exact h2 j _ (List.getElem?_eq_getElem (by omega)), h3⟩
theorem Sl.toSh {α β : Type} {R : Rd α} {R' : Rd β} {f : α → β} {sz : Nat} {ok : Nat → Prop} {w : World} {A : Option Addr} {n : Nat} {ds : List α} (h : Sl R sz ok w A n ds) {p : α → Prop} (hR : ∀ ok w cs d, p d → R ok w cs d → R' ok w cs (f d)) (hp : ∀ d ∈ ds, p d) : Sl R' sz ok w A n (ds.map f) :=
  ⟨by simpa using h.1, fun hn => by
    obtain ⟨b, off, e, hb, hi⟩ := h.2 hn
    refine ⟨b, off, e, hb, fun i hlt => ?_⟩
    obtain ⟨cs, h1, h2, h3⟩ := hi i (by simpa using hlt)
    exact ⟨cs, h1, by simpa using hR _ _ _ _ (hp _ (List.getElem_mem (by simpa using hlt))) h2, h3⟩⟩
theorem szL_mem {α : Type} (f : α → Nat) (l : List α) (y : α) (h : y ∈ l) : f y ≤ szL f l := by
  obtain ⟨i, hi, rfl⟩ := List.mem_iff_getElem.1 h
  have := sum_mem_le f l i hi
  unfold szL
  omega
theorem sum_le_of {α : Type} {f g : α → Nat} (c : Nat) (h : ∀ x, f x ≤ c * (g x + 1)) : ∀ l : List α, (l.map f).sum ≤ c * szL g l
  | [] => by simp [szL]
  | x :: l => by
    have h1 := sum_le_of c h l
    have h2 := h x
    simp only [szL, List.map_cons, List.sum_cons, List.length_cons] at *
    have e : c * (l.length + 1 + (g x + (l.map g).sum)) = c * (l.length + (l.map g).sum) + c * (g x + 1) := by rw [← Nat.mul_add]; congr 1; omega
    omega
theorem sum_ones {α : Type} (l : List α) : (l.map fun _ => 1).sum = l.length := by
  induction l with
  | nil => rfl
  | cons x l ih => rw [List.map_cons, List.sum_cons, ih, List.length_cons]; omega
theorem sum_take_n (l : List Nat) (k : Nat) (h : k < l.length) : (l.take (k + 1)).sum = (l.take k).sum + l[k] := by
  rw [List.take_succ_eq_append_getElem h, List.sum_append]; simp
theorem sum_take_n_le (l : List Nat) (k : Nat) : (l.take k).sum ≤ l.sum := by
  have e : l.sum = (l.take k).sum + (l.drop k).sum := by rw [← List.sum_append, List.take_append_drop]
  omega
def mayMark (B E : Nat) (w : World) (ok : Nat → Prop) : Prop := ∀ b, ok b → B ≤ b ∧ b < E ∧ b < w.heap.size ∧ ∀ off, w.frozen? ⟨b, off, none⟩ = false
theorem mayMark.kept {B E B' E' : Nat} {w w' : World} {ok : Nat → Prop} (h : mayMark B E w ok) (hk : Kept B' E' w w') : mayMark B E w' ok := fun b hb => by
  obtain ⟨h1, h2, h3, h4⟩ := h b hb
  exact ⟨h1, h2, Nat.lt_of_lt_of_le h3 hk.size, fun off => (hk.frozen ⟨b, off, none⟩ h3).trans (h4 off)⟩
theorem mayMark.below {B E : Nat} {w w' : World} {ok : Nat → Prop} (h : mayMark B E w ok) (hk : Below w.heap.size w w') : mayMark B E w' ok := h.kept (Kept.below (B := 0) (E := 0) hk)
end Go.Proofs.YtemimhghhihllaaGreat
namespace Go.Proofs.YtemimhghhihllaaGreat
open Go.RowKit
def lessV (k n : Int) (s : ByteArray) (k' n' : Int) (s' : ByteArray) : Bool := decide (k < k') || (k == k' && (decide (n < n') || Op.bytesLess s.toList s'.toList))
def sameV (k n : Int) (s : ByteArray) (k' n' : Int) (s' : ByteArray) : Bool := k == k' && (n == n' && s.toList == s'.toList)
def ordV (k n : Int) (s : ByteArray) (k' n' : Int) (s' : ByteArray) : Int := if lessV k n s k' n' s' = true then -1 else if sameV k n s k' n' s' = true then 0 else 1
theorem valOk_cases {k n : Int} {s : ByteArray} (h : valOkB k n s = true) : (k = 0 ∧ n = 0 ∧ s.toList = []) ∨ (k = 1 ∧ s.toList = []) ∨ (k = 2 ∧ n = 0) := by
  unfold valOkB at h
  by_cases k0 : k = 0
  · subst k0; simp at h; exact .inl ⟨rfl, h.1, h.2⟩
  by_cases k1 : k = 1
  · subst k1; simp at h; exact .inr (.inl ⟨rfl, h.2⟩)
  by_cases k2 : k = 2
  · subst k2; simp at h; exact .inr (.inr ⟨rfl, h.1⟩)
  · simp [k0, k1, k2] at h
theorem ord_eq {k n : Int} {s : ByteArray} {k' n' : Int} {s' : ByteArray} (h : valOkB k n s = true) (h' : valOkB k' n' s' = true) :
    firstNZ (cmpI k k') (cmpI n n') (cmpS s s') = ordV k n s k' n' s' := by
  have e0 : Op.bytesLess [] [] = false := rfl
  rcases valOk_cases h with ⟨rfl, rfl, e1⟩ | ⟨rfl, e1⟩ | ⟨rfl, rfl⟩ <;> rcases valOk_cases h' with ⟨rfl, rfl, e2⟩ | ⟨rfl, e2⟩ | ⟨rfl, rfl⟩
  · simp [firstNZ, cmpI, cmpS, ordV, lessV, sameV, e1, e2, e0]
  · simp [firstNZ, cmpI, ordV, lessV]
  · simp [firstNZ, cmpI, ordV, lessV]
  · simp [firstNZ, cmpI, ordV, lessV, sameV]
  · simp only [firstNZ, cmpI, cmpS, ordV, lessV, sameV, e1, e2, e0]
    by_cases a : n < n'
    · simp [a]
    · by_cases b : n' < n
      · have c : ¬ n = n' := by omega
        simp [a, b, c]
      · have c : n = n' := by omega
        simp [c]
  · simp [firstNZ, cmpI, ordV, lessV]
  · simp [firstNZ, cmpI, ordV, lessV, sameV]
  · simp [firstNZ, cmpI, ordV, lessV, sameV]
  · simp only [firstNZ, cmpI, cmpS, ordV, lessV, sameV]
    simp
theorem ordV_of {k n : Int} {s : ByteArray} {k' n' : Int} {s' : ByteArray} (h : lessV k n s k' n' s' = false) : ordV k n s k' n' s' = if sameV k n s k' n' s' = true then 0 else 1 := by simp [ordV, h]
theorem chain2 (w : World) (o o' : Obj) : Below w.heap.size w ((w.alloc o).alloc o') := ((Below.refl _ w).alloc (Nat.le_refl _) o).alloc (by simp) o'
set_option maxHeartbeats 400000 in
theorem specL1Order (k n : Int) (s : ByteArray) (k' n' : Int) (s' : ByteArray) (w : World) :
    Calls Tryz.prog 194 #[.agg #[.int .i64 k, .int .i64 n, .string s], .agg #[.int .i64 k', .int .i64 n', .string s']] w fun e w' => e = .returned (.int .i64 (ordV k n s k' n' s')) ∧ Below w.heap.size w w' := by
  by_cases c1 : k < k'
  · go_enter Tryz.func194, Tryz.ntmps194
    go_wp2
    go_ret
    exact ⟨retI (by simp [ordV, lessV, c1]), chain2 w _ _⟩
  have d1 : decide (k < k') = false := by simpa using c1
  by_cases c2 : k = k'
  · subst c2
    by_cases c3 : n < n'
    · go_enter Tryz.func194, Tryz.ntmps194
      go_wp2
      go_ret
      exact ⟨retI (by simp [ordV, lessV, c3]), chain2 w _ _⟩
    have d3 : decide (n < n') = false := by simpa using c3
    by_cases c4 : Op.bytesLess s.toList s'.toList = true
    · go_enter Tryz.func194, Tryz.ntmps194
      go_wp2
      go_ret
      exact ⟨retI (by simp [ordV, lessV, c4]), chain2 w _ _⟩
    have d4 : Op.bytesLess s.toList s'.toList = false := by simpa using c4
    have HL := Lib.hid (show lessV k n s k n' s' = false by simp [lessV, d4]; omega)
    clear c1 c3 c4
    go_enter Tryz.func194, Tryz.ntmps194
    go_wp2
    all_goals
      go_ret
      exact ⟨retI (by rw [ordV_of HL.out]; simp [sameV, *]), chain2 w _ _⟩
  · have d2 : (k == k') = false := by simpa using c2
    go_enter Tryz.func194, Tryz.ntmps194
    go_wp2
    go_ret
    exact ⟨retI (by simp [ordV, lessV, sameV, c1, c2]), chain2 w _ _⟩
theorem Cells3.two (w : World) (k n : Int) (s : ByteArray) (k' n' : Int) (s' : ByteArray) (T : TypeId) :
    Cells3 ((w.alloc (.cells #[.int .i64 k, .int .i64 n, .string s] T)).alloc (.cells #[.int .i64 k', .int .i64 n', .string s'] T)) w.heap.size k n s ∧
    Cells3 ((w.alloc (.cells #[.int .i64 k, .int .i64 n, .string s] T)).alloc (.cells #[.int .i64 k', .int .i64 n', .string s'] T)) (w.heap.size + 1) k' n' s' := by simp [Cells3]
theorem two_below {w w' : World} {b b' : Nat} {k n : Int} {s : ByteArray} {k' n' : Int} {s' : ByteArray} (h : Cells3 w b k n s ∧ Cells3 w b' k' n' s') (hb : Below w.heap.size w w') : Cells3 w' b k n s ∧ Cells3 w' b' k' n' s' :=
  ⟨h.1.below hb, h.2.below hb⟩
def ordOk (k n : Int) (s : ByteArray) (k' n' : Int) (s' : ByteArray) : Int := if (valOkB k n s && valOkB k' n' s') = true then ordV k n s k' n' s' else 0
set_option maxHeartbeats 1000000 in
theorem implOrder (k n : Int) (s : ByteArray) (k' n' : Int) (s' : ByteArray) (w : World) :
    Calls Tryz.prog 165 #[.agg #[.int .i64 k, .int .i64 n, .string s], .agg #[.int .i64 k', .int .i64 n', .string s']] w fun e w' => e = .returned (.int .i64 (ordOk k n s k' n' s')) ∧ Below w.heap.size w w' := by
  have Q0 := Lib.hid (Cells3.two w k n s k' n' s' 93)
  have HB0 := Lib.hid (chain2 w (.cells #[.int .i64 k, .int .i64 n, .string s] 93) (.cells #[.int .i64 k', .int .i64 n', .string s'] 93))
  cases ha : valOkB k n s
  · have Ha := Lib.hid ha
    go_enter Tryz.func165, Tryz.ntmps165
    go_wp2_with fail
    refine (implValOk k n s _).mono ?_
    rintro e w1 ⟨rfl, hb1⟩
    go_wp2
    go_ret
    exact ⟨retI (by simp [ordOk, Ha.out]), HB0.out.trans (hb1.mono HB0.out.size)⟩
  cases hc : valOkB k' n' s'
  · have Hc := Lib.hid hc
    go_enter Tryz.func165, Tryz.ntmps165
    go_wp2_with fail
    refine (implValOk k n s _).mono ?_
    rintro e w1 ⟨rfl, hb1⟩
    obtain ⟨⟨c0, c1, c2⟩, ⟨d0, d1, d2⟩⟩ := two_below Q0.out hb1
    go_wp2_with fail
    refine (implValOk k' n' s' _).mono ?_
    rintro e w2 ⟨rfl, hb2⟩
    go_wp2
    go_ret
    exact ⟨retI (by simp [ordOk, Hc.out]), (HB0.out.trans (hb1.mono HB0.out.size)).trans (hb2.mono (HB0.out.trans (hb1.mono HB0.out.size)).size)⟩
  · have Ha := Lib.hid ha
    have Hc := Lib.hid hc
    go_enter Tryz.func165, Tryz.ntmps165
    go_wp2_with fail
    refine (implValOk k n s _).mono ?_
    rintro e w1 ⟨rfl, hb1⟩
    have q1 := two_below Q0.out hb1
    obtain ⟨⟨c0, c1, c2⟩, ⟨d0, d1, d2⟩⟩ := q1
    go_wp2_with fail
    refine (implValOk k' n' s' _).mono ?_
    rintro e w2 ⟨rfl, hb2⟩
    have h2 := (HB0.out.trans (hb1.mono HB0.out.size)).trans (hb2.mono (HB0.out.trans (hb1.mono HB0.out.size)).size)
    have H2 := Lib.hid h2
    obtain ⟨⟨g0, g1, g2⟩, ⟨e0, e1, e2⟩⟩ := two_below (s := s) (s' := s') ⟨⟨c0, c1, c2⟩, ⟨d0, d1, d2⟩⟩ hb2
    clear c0 c1 c2 d0 d1 d2 hb1 hb2 h2
    go_wp2_with fail
    go_region_held3 (fun w' => w'.cell? ⟨w.heap.size, 0, none⟩ = some (.int .i64 k) ∧ w'.cell? ⟨w.heap.size, 1, none⟩ = some (.int .i64 n) ∧ w'.cell? ⟨w.heap.size, 2, none⟩ = some (.string s) ∧ w'.cell? ⟨w.heap.size + 1, 0, none⟩ = some (.int .i64 k') ∧ w'.cell? ⟨w.heap.size + 1, 1, none⟩ = some (.int .i64 n') ∧ w'.cell? ⟨w.heap.size + 1, 2, none⟩ = some (.string s')) (go_keep)
      (first | (go_at_call 120; refine (cmpInt _ _ _).mono ?_; rintro e w3 ⟨rfl, rfl⟩) | (go_at_call 195; refine (cmpStr _ _ _).mono ?_; rintro e w3 ⟨rfl, rfl⟩) | (go_at_call 117; refine Calls.mono (cmpOr _ (cmpI k k') (cmpI n n') (cmpS s s') _ ?_ ?_ ?_) ?_; simp; simp; simp; rintro e w3 ⟨rfl, rfl⟩))
    go_wp2
    go_ret
    exact ⟨retI (by rw [ord_eq Ha.out Hc.out]; simp [ordOk, Ha.out, Hc.out]), by first | exact (H2.out.alloc H2.out.size _).drew | exact H2.out.drew.alloc H2.out.size _⟩
end Go.Proofs.YtemimhghhihllaaGreat
namespace Go.Proofs.YtemimhghhihllaaGreat
open Go.RowKit
def Vl.ok (v : Vl) : Bool := valOkB v.k v.n v.s
def rowB (row : List Vl) : Bool := decide (row.length ≤ 16) && row.all Vl.ok
end Go.Proofs.YtemimhghhihllaaGreat
namespace Go.Proofs.YtemimhghhihllaaGreat
open Go.RowKit
set_option maxRecDepth 100000 in
theorem implSeenOk (A : Option Addr) (n cap : Nat) (row : List Vl) (w : World) (h : Vals w A n row) (hn : n ≤ maxLen) :
    Calls Tryz.prog 121 #[.slice A n cap] w fun e w' => e = .returned (.bool (rowB row)) ∧ Below w.heap.size w w' := by
  unfold maxLen at hn
  obtain rfl : n = row.length := h.len.symm
  by_cases h16 : (16 : Int) < row.length
  · go_enter Tryz.func121, Tryz.ntmps121
    go_wp2
    go_ret
    exact ⟨retB (by simp [rowB]; omega), Below.refl _ _⟩
  have h16' : decide ((16 : Int) < row.length) = false := by simpa using h16
  go_enter Tryz.func121, Tryz.ntmps121
  go_wp2
  go_loopw [10] (fun i wr => ∃ k : Nat, k ≤ row.length ∧ i = .int .i64 k ∧ Hid ((row.take k).all Vl.ok = true) ∧ Below w.heap.size w wr) (fun i _ => row.length - (intOf i).toNat)
  case atStart => exact ⟨0, by omega, rfl, Lib.hid (by simp), Below.refl _ _⟩
  case round =>
    obtain ⟨k, hk, rfl, hall, hb⟩ := hrel
    by_cases hlt : k < row.length
    · obtain ⟨b, off, rfl, c0, c1, c2⟩ := (h.below hb).at_ hlt
      cases hv : row[k].ok
      · have HV := Lib.hid hv
        have HF := Lib.hid (show rowB row = false by
          have : row.all Vl.ok = false := List.all_eq_false.2 ⟨row[k], List.getElem_mem hlt, by simp [hv]⟩
          simp [rowB, this])
        clear hv
        go_wp2_with fail
        refine (implValOk row[k].k row[k].n row[k].s _).mono ?_
        rintro e w1 ⟨rfl, hb1⟩
        rw [show valOkB row[k].k row[k].n row[k].s = false from HV.out]
        go_wp2_with fail
        go_ret
        exact ⟨retB (by rw [HF.out]), hb.trans (((((Below.refl wr.heap.size wr).alloc (Nat.le_refl _) _).trans (hb1.mono (by simp))).mono hb.size))⟩
      · have HV := Lib.hid hv
        have hall2 := Lib.hid (show (row.take (k + 1)).all Vl.ok = true by
          rw [List.take_succ_eq_append_getElem hlt, List.all_append, hall.out]
          simp [hv])
        clear hv hall
        go_wp2_with fail
        refine (implValOk row[k].k row[k].n row[k].s _).mono ?_
        rintro e w1 ⟨rfl, hb1⟩
        rw [show valOkB row[k].k row[k].n row[k].s = true from HV.out]
        go_wp2_with fail
        go_roundw
        case rel => exact ⟨k + 1, by omega, by go_num, hall2, hb.trans (((((Below.refl wr.heap.size wr).alloc (Nat.le_refl _) _).trans (hb1.mono (by simp))).mono hb.size))⟩
        case measure => simp [intOf]; omega
    · have e : row.take k = row := List.take_of_length_le (by omega)
      have ha := hall.out
      rw [e] at ha
      have HA := Lib.hid ha
      clear hall ha e
      go_wp2
      go_ret
      exact ⟨retB (by simp [rowB, HA.out]; omega), hb⟩
end Go.Proofs.YtemimhghhihllaaGreat
namespace Go.Proofs.YtemimhghhihllaaGreat
open Go.RowKit
theorem flat_get {sz : Nat} : ∀ (l : List (List Value)) (i j : Nat) (hi : i < l.length) (hj : j < sz), (∀ c ∈ l, c.length = sz) → l.flatten[i * sz + j]? = (l[i])[j]?
  | [], i, j, hi, _, _ => by simp at hi
  | c :: cs, i, j, hi, hj, hz => by
    have hc := hz c (by simp)
    cases i with
    | zero => simp only [List.getElem_cons_zero, List.flatten_cons, Nat.zero_mul, Nat.zero_add]; rw [List.getElem?_append_left (by omega)]
    | succ i =>
      simp only [List.getElem_cons_succ]
      rw [List.flatten_cons, List.getElem?_append_right (by rw [hc, Nat.add_mul]; omega), hc, show (i + 1) * sz + j - sz = i * sz + j by rw [Nat.add_mul]; omega]
      exact flat_get cs i j (by simpa using hi) hj fun d hd => hz d (by simp [hd])
theorem flat_len {sz : Nat} : ∀ (l : List (List Value)), (∀ c ∈ l, c.length = sz) → l.flatten.length = l.length * sz
  | [], _ => by simp
  | c :: cs, h => by
    rw [List.flatten_cons, List.length_append, h c (by simp), flat_len cs fun d hd => h d (by simp [hd]), List.length_cons, Nat.add_mul]; omega
def OwnG {α : Type} (T : TypeId) (sz : Nat) (f : α → List Value) (w : World) (base : Nat) (v : Value) (xs : List α) : Prop := w.ownsRow base T sz v xs.length ((xs.map f).flatten)
section
variable {α : Type} {T : TypeId} {sz : Nat} {f : α → List Value}
theorem OwnG.nil (w : World) (base : Nat) : OwnG T sz f w base (.slice none 0 0) [] := World.ownsRow_nil _ _ _ _
theorem OwnG.below {w w' : World} {base : Nat} {v : Value} {xs : List α} (h : OwnG T sz f w base v xs) (hb : Below w.heap.size w w') : OwnG T sz f w' base v xs := by
  refine ⟨h.1, ?_⟩
  rcases h.2 with h | ⟨g, cap, cur, rfl, h1, h2, h3⟩
  · exact .inl h
  · exact .inr ⟨g, cap, cur, rfl, h1, (hb.block g (lt_of_block h2)).trans h2, h3⟩
theorem OwnG.lit (w : World) {base : Nat} (hb : base ≤ w.heap.size) : OwnG T sz f (w.alloc (.cells #[] T)) base (.slice (some ⟨w.heap.size, 0, none⟩) 0 0) ([] : List α) :=
  ⟨by simp, .inr ⟨w.heap.size, 0, #[], rfl, hb, Go.heap_alloc_last w _, Nat.le_refl _, by simp [maxLen], by simp, by simp⟩⟩
theorem OwnG.sl (hf : ∀ d, (f d).length = sz) {w : World} {base : Nat} {v : Value} {xs : List α} (h : OwnG T sz f w base v xs) : ∃ A c, v = .slice A xs.length c ∧ xs.length ≤ c ∧ c ≤ maxLen ∧ Sl (FlatR f) sz (okF base w) w A xs.length xs := by
  rcases h.2 with ⟨rfl, hn⟩ | ⟨g, cap, cur, rfl, h1, h2, h3, h4, h5, h6⟩
  · exact ⟨none, 0, by rw [hn], by omega, by simp [maxLen], rfl, fun h => by omega⟩
  · refine ⟨_, cap, rfl, h3, h4, rfl, fun hn => ⟨g, 0, rfl, ⟨h1, lt_of_block h2, fun off => by simp [World.frozen?, h2]⟩, fun i hi => ⟨f xs[i], hf _, rfl, fun j x hx => ?_⟩⟩⟩
    have hj : j < sz := by have := (List.getElem?_eq_some_iff.1 hx).1; rw [hf] at this; exact this
    rw [cell_of_row _ _ _ _ _ _ h2, Nat.zero_add]
    have hlt : i * sz + j < xs.length * sz := by have : (i + 1) * sz ≤ xs.length * sz := Nat.mul_le_mul_right _ hi; rw [Nat.add_mul] at this; omega
    have h7 := flat_get (sz := sz) (xs.map f) i j (by simpa using hi) hj (fun c hc => by obtain ⟨d, _, rfl⟩ := List.mem_map.1 hc; exact hf d)
    rw [List.getElem_map, hx, ← h6, List.getElem?_take, if_pos hlt] at h7
    rw [← Array.getElem?_toList]
    exact h7
theorem OwnG.block_lt {w : World} {base : Nat} {v : Value} {xs : List α} (h : OwnG T sz f w base v xs) : ∀ k, v.ownBlock = some k → base ≤ k ∧ k < w.heap.size := World.ownsRow.lt h
theorem OwnG.app {w w' : World} {base : Nat} {v v' : Value} {xs : List α} {x : α} {o : Obj} (h : OwnG T sz f w base v xs) (hb : base ≤ w.heap.size)
    (h' : w'.ownsRow base T sz v' (xs.length + 1) ((xs.map f).flatten ++ f x)) (hg : (w.alloc o).grownBy w' v.ownBlock) : OwnG T sz f w' base v' (xs ++ [x]) ∧ Below base w w' :=
  ⟨by unfold OwnG; rw [List.length_append, List.map_append, List.flatten_append]; simpa using h', ((Below.refl base w).alloc hb o).grown hg (by simp; omega) fun k hk => (h.block_lt k hk).1⟩
end
theorem cells_new (w : World) (l : List Value) (t : TypeId) : ∀ j u, l[j]? = some u → (w.alloc (.cells l.toArray t)).cell? ((⟨w.heap.size, 0, none⟩ : Addr).add j) = some u := by
  intro j u hj
  rw [addr_add, Nat.zero_add, cell_of_row _ _ _ _ _ _ (Go.heap_alloc_last w _)]
  simpa using hj
theorem cells_newAt (w : World) (l : List Value) (t : TypeId) {g : Nat} (hg : g = w.heap.size) : ∀ j u, l[j]? = some u → (w.alloc (.cells l.toArray t)).cell? ((⟨g, 0, none⟩ : Addr).add j) = some u := by
  subst hg
  exact cells_new w l t
def zeroVl : Vl := ⟨0, 0, ⟨#[]⟩⟩
def keyL (cols : List Int) (vals : List Vl) : List Vl := cols.map fun c => (vals[c.toNat]?).getD zeroVl
def inV (vals : List Vl) (c : Int) : Bool := decide (0 ≤ c) && decide (c < vals.length)
def knownL (l : List Vl) : Bool := l.all fun v => !(v.k == 0)
def keyOk (cols : List Int) (vals : List Vl) : Bool := rowB vals && cols.all (inV vals)
def keyOf (cols : List Int) (vals : List Vl) : List Vl := if keyOk cols vals then keyL cols vals else []
def keyFl (cols : List Int) (vals : List Vl) : Bool := keyOk cols vals && knownL (keyL cols vals)
theorem inV_nat {vals : List Vl} {c : Int} (h : inV vals c = true) : ∃ m : Nat, c = m ∧ m < vals.length := by
  simp only [inV, Bool.and_eq_true, decide_eq_true_eq] at h
  exact ⟨c.toNat, by omega, by omega⟩
theorem keyL_take {cols : List Int} {vals : List Vl} {k m : Nat} (h : k < cols.length) (hm : cols[k] = m) (hv : m < vals.length) : (keyL cols vals).take (k + 1) = (keyL cols vals).take k ++ [vals[m]] := by
  rw [List.take_succ_eq_append_getElem (by simpa [keyL] using h)]
  congr 2
  simp [keyL, hm, hv]
theorem known_take {l m : List Vl} {v : Vl} (h : m = l ++ [v]) : knownL m = (knownL l && !(v.k == 0)) := by subst h; simp [knownL]
end Go.Proofs.YtemimhghhihllaaGreat
namespace Go.Proofs.YtemimhghhihllaaGreat
open Go.RowKit
theorem Sl.drew {α : Type} {R : Rd α} (hR : Stays R) {sz : Nat} {ok : Nat → Prop} {w : World} {A : Option Addr} {n : Nat} {ds : List α} (h : Sl R sz ok w A n ds) : Sl R sz ok w.drew A n ds := h.stays hR (fun _ h => h) fun _ _ _ h => h
theorem keepE2 {w w' : World} {a0 a1 : Addr} {v0 v1 : Value} (h : w.cell? a0 = some v0 ∧ w.cell? a1 = some v1) (hb : Below w.heap.size w w') : w'.cell? a0 = some v0 ∧ w'.cell? a1 = some v1 := by
  obtain ⟨h0, h1⟩ := h
  exact ⟨(hb.cell (cell_lt h0)).trans h0, (hb.cell (cell_lt h1)).trans h1⟩
theorem keepE4 {w w' : World} {a0 a1 a2 a3 : Addr} {v0 v1 v2 v3 : Value} (h : w.cell? a0 = some v0 ∧ w.cell? a1 = some v1 ∧ w.cell? a2 = some v2 ∧ w.cell? a3 = some v3) (hb : Below w.heap.size w w') : w'.cell? a0 = some v0 ∧ w'.cell? a1 = some v1 ∧ w'.cell? a2 = some v2 ∧ w'.cell? a3 = some v3 := by
  obtain ⟨h0, h1, h2, h3⟩ := h
  exact ⟨(hb.cell (cell_lt h0)).trans h0, (hb.cell (cell_lt h1)).trans h1, (hb.cell (cell_lt h2)).trans h2, (hb.cell (cell_lt h3)).trans h3⟩
theorem keepE6 {w w' : World} {a0 a1 a2 a3 a4 a5 : Addr} {v0 v1 v2 v3 v4 v5 : Value} (h : w.cell? a0 = some v0 ∧ w.cell? a1 = some v1 ∧ w.cell? a2 = some v2 ∧ w.cell? a3 = some v3 ∧ w.cell? a4 = some v4 ∧ w.cell? a5 = some v5) (hb : Below w.heap.size w w') : w'.cell? a0 = some v0 ∧ w'.cell? a1 = some v1 ∧ w'.cell? a2 = some v2 ∧ w'.cell? a3 = some v3 ∧ w'.cell? a4 = some v4 ∧ w'.cell? a5 = some v5 := by
  obtain ⟨h0, h1, h2, h3, h4, h5⟩ := h
  exact ⟨(hb.cell (cell_lt h0)).trans h0, (hb.cell (cell_lt h1)).trans h1, (hb.cell (cell_lt h2)).trans h2, (hb.cell (cell_lt h3)).trans h3, (hb.cell (cell_lt h4)).trans h4, (hb.cell (cell_lt h5)).trans h5⟩
theorem keepE10 {w w' : World} {a0 a1 a2 a3 a4 a5 a6 a7 a8 a9 : Addr} {v0 v1 v2 v3 v4 v5 v6 v7 v8 v9 : Value} (h : w.cell? a0 = some v0 ∧ w.cell? a1 = some v1 ∧ w.cell? a2 = some v2 ∧ w.cell? a3 = some v3 ∧ w.cell? a4 = some v4 ∧ w.cell? a5 = some v5 ∧ w.cell? a6 = some v6 ∧ w.cell? a7 = some v7 ∧ w.cell? a8 = some v8 ∧ w.cell? a9 = some v9) (hb : Below w.heap.size w w') : w'.cell? a0 = some v0 ∧ w'.cell? a1 = some v1 ∧ w'.cell? a2 = some v2 ∧ w'.cell? a3 = some v3 ∧ w'.cell? a4 = some v4 ∧ w'.cell? a5 = some v5 ∧ w'.cell? a6 = some v6 ∧ w'.cell? a7 = some v7 ∧ w'.cell? a8 = some v8 ∧ w'.cell? a9 = some v9 := by
  obtain ⟨h0, h1, h2, h3, h4, h5, h6, h7, h8, h9⟩ := h
  exact ⟨(hb.cell (cell_lt h0)).trans h0, (hb.cell (cell_lt h1)).trans h1, (hb.cell (cell_lt h2)).trans h2, (hb.cell (cell_lt h3)).trans h3, (hb.cell (cell_lt h4)).trans h4, (hb.cell (cell_lt h5)).trans h5, (hb.cell (cell_lt h6)).trans h6, (hb.cell (cell_lt h7)).trans h7, (hb.cell (cell_lt h8)).trans h8, (hb.cell (cell_lt h9)).trans h9⟩
theorem keepE12 {w w' : World} {a0 a1 a2 a3 a4 a5 a6 a7 a8 a9 a10 a11 : Addr} {v0 v1 v2 v3 v4 v5 v6 v7 v8 v9 v10 v11 : Value} (h : w.cell? a0 = some v0 ∧ w.cell? a1 = some v1 ∧ w.cell? a2 = some v2 ∧ w.cell? a3 = some v3 ∧ w.cell? a4 = some v4 ∧ w.cell? a5 = some v5 ∧ w.cell? a6 = some v6 ∧ w.cell? a7 = some v7 ∧ w.cell? a8 = some v8 ∧ w.cell? a9 = some v9 ∧ w.cell? a10 = some v10 ∧ w.cell? a11 = some v11) (hb : Below w.heap.size w w') : w'.cell? a0 = some v0 ∧ w'.cell? a1 = some v1 ∧ w'.cell? a2 = some v2 ∧ w'.cell? a3 = some v3 ∧ w'.cell? a4 = some v4 ∧ w'.cell? a5 = some v5 ∧ w'.cell? a6 = some v6 ∧ w'.cell? a7 = some v7 ∧ w'.cell? a8 = some v8 ∧ w'.cell? a9 = some v9 ∧ w'.cell? a10 = some v10 ∧ w'.cell? a11 = some v11 := by
  obtain ⟨h0, h1, h2, h3, h4, h5, h6, h7, h8, h9, h10, h11⟩ := h
  exact ⟨(hb.cell (cell_lt h0)).trans h0, (hb.cell (cell_lt h1)).trans h1, (hb.cell (cell_lt h2)).trans h2, (hb.cell (cell_lt h3)).trans h3, (hb.cell (cell_lt h4)).trans h4, (hb.cell (cell_lt h5)).trans h5, (hb.cell (cell_lt h6)).trans h6, (hb.cell (cell_lt h7)).trans h7, (hb.cell (cell_lt h8)).trans h8, (hb.cell (cell_lt h9)).trans h9, (hb.cell (cell_lt h10)).trans h10, (hb.cell (cell_lt h11)).trans h11⟩
set_option maxRecDepth 100000 in
set_option maxHeartbeats 1000000 in
theorem lawsEqIntL (A A' : Option Addr) (n c c' : Nat) (l : List Int) (ok ok' : Nat → Prop) (w : World) (h : Sl IntR 1 ok w A n l) (h' : Sl IntR 1 ok' w A' n l) (hs : l.length ≤ 1048576) :
    Calls Tryz.prog 14 #[.slice A n c, .slice A' n c'] w fun e w' => e = .returned (.bool true) ∧ Below w.heap.size w w' := by
  obtain rfl : l.length = n := h.1
  have hn : l.length ≤ 1048576 := by exact hs
  have HS := Lib.hid hs
  clear hs
  go_enter Tryz.func14, Tryz.ntmps14
  go_wp2
  go_loopw [5] (fun i wr => ∃ k : Nat, k ≤ l.length ∧ i = .int .i64 k ∧ Below w.heap.size w wr) (fun i _ => l.length - (intOf i).toNat)
  case atStart => exact ⟨0, by omega, rfl, Below.refl _ _⟩
  case round =>
    obtain ⟨k, hk, rfl, hb⟩ := hrel
    by_cases hlt : k < l.length
    · obtain ⟨b, off, -, rfl, q0⟩ := IntR.at_ (h.below IntR.stays hb) hlt
      obtain ⟨b', off', -, rfl, r0⟩ := IntR.at_ (h'.below IntR.stays hb) hlt
      have i0 : (0 : Int) ≤ k := by omega
      have i1 : (k : Int) < l.length := by omega
      go_wp2_with fail
      go_region_held3 (fun w' => w'.cell? ⟨b, off + k, none⟩ = some (.int .i64 l[k]) ∧ w'.cell? ⟨b', off' + k, none⟩ = some (.int .i64 l[k]))
        (go_keep) (fail)
      go_wp2
      go_roundw
      case rel => exact ⟨k + 1, by omega, by go_num, hb.drew⟩
      case measure => simp [intOf]; omega
    · go_wp2
      go_ret
      exact ⟨rfl, hb⟩
set_option maxRecDepth 100000 in
set_option maxHeartbeats 1000000 in
theorem lawsEqTokL (A A' : Option Addr) (n c c' : Nat) (l : List Tk) (ok ok' : Nat → Prop) (w : World) (h : Sl TkR 5 ok w A n l) (h' : Sl TkR 5 ok' w A' n l) (hs : szL (fun t : Tk => t.vs.size) l ≤ 1048576) :
    Calls Tryz.prog 108 #[.slice A n c, .slice A' n c'] w fun e w' => e = .returned (.bool true) ∧ Below w.heap.size w w' := by
  obtain rfl : l.length = n := h.1
  have hn : l.length ≤ 1048576 := by unfold szL at hs; omega
  have HS := Lib.hid hs
  clear hs
  go_enter Tryz.func108, Tryz.ntmps108
  go_wp2
  go_loopw [5] (fun i wr => ∃ k : Nat, k ≤ l.length ∧ i = .int .i64 k ∧ Below w.heap.size w wr) (fun i _ => l.length - (intOf i).toNat)
  case atStart => exact ⟨0, by omega, rfl, Below.refl _ _⟩
  case round =>
    obtain ⟨k, hk, rfl, hb⟩ := hrel
    by_cases hlt : k < l.length
    · obtain ⟨b, off, -, rfl, q0, q1, q2, q3, q4⟩ := TkR.at_ (h.below TkR.stays hb) hlt
      obtain ⟨b', off', -, rfl, r0, r1, r2, r3, r4⟩ := TkR.at_ (h'.below TkR.stays hb) hlt
      have i0 : (0 : Int) ≤ k := by omega
      have i1 : (k : Int) < l.length := by omega
      go_wp2_with fail
      go_region_held3 (fun w' => w'.cell? ⟨b, off + k * 5, none⟩ = some (.int .i64 l[k].k) ∧ w'.cell? ⟨b, off + k * 5 + 1, none⟩ = some (.int .i64 l[k].c) ∧ w'.cell? ⟨b, off + k * 5 + 2, none⟩ = some (.int .i64 l[k].vk) ∧ w'.cell? ⟨b, off + k * 5 + 3, none⟩ = some (.int .i64 l[k].vn) ∧ w'.cell? ⟨b, off + k * 5 + 4, none⟩ = some (.string l[k].vs) ∧ w'.cell? ⟨b', off' + k * 5, none⟩ = some (.int .i64 l[k].k) ∧ w'.cell? ⟨b', off' + k * 5 + 1, none⟩ = some (.int .i64 l[k].c) ∧ w'.cell? ⟨b', off' + k * 5 + 2, none⟩ = some (.int .i64 l[k].vk) ∧ w'.cell? ⟨b', off' + k * 5 + 3, none⟩ = some (.int .i64 l[k].vn) ∧ w'.cell? ⟨b', off' + k * 5 + 4, none⟩ = some (.string l[k].vs))
        (first | go_keep | exact keepE10 (by assumption) hb1)
        (first | (go_at_call 159; refine (lawsEqTok l[k] _).mono ?_; rintro e w1 ⟨rfl, hb1⟩))
      go_wp2
      go_roundw
      case rel => exact ⟨k + 1, by omega, by go_num, hb.drew.trans (hb1.mono hb.size)⟩
      case measure => simp [intOf]; omega
    · go_wp2
      go_ret
      exact ⟨rfl, hb⟩
set_option maxRecDepth 100000 in
set_option maxHeartbeats 1000000 in
theorem lawsEqValL (A A' : Option Addr) (n c c' : Nat) (l : List Vl) (ok ok' : Nat → Prop) (w : World) (h : Sl VlR 3 ok w A n l) (h' : Sl VlR 3 ok' w A' n l) (hs : szL (fun v : Vl => v.s.size) l ≤ 1048576) :
    Calls Tryz.prog 17 #[.slice A n c, .slice A' n c'] w fun e w' => e = .returned (.bool true) ∧ Below w.heap.size w w' := by
  obtain rfl : l.length = n := h.1
  have hn : l.length ≤ 1048576 := by unfold szL at hs; omega
  have HS := Lib.hid hs
  clear hs
  go_enter Tryz.func17, Tryz.ntmps17
  go_wp2
  go_loopw [5] (fun i wr => ∃ k : Nat, k ≤ l.length ∧ i = .int .i64 k ∧ Below w.heap.size w wr) (fun i _ => l.length - (intOf i).toNat)
  case atStart => exact ⟨0, by omega, rfl, Below.refl _ _⟩
  case round =>
    obtain ⟨k, hk, rfl, hb⟩ := hrel
    by_cases hlt : k < l.length
    · obtain ⟨b, off, -, rfl, q0, q1, q2⟩ := VlR.at_ (h.below VlR.stays hb) hlt
      obtain ⟨b', off', -, rfl, r0, r1, r2⟩ := VlR.at_ (h'.below VlR.stays hb) hlt
      have i0 : (0 : Int) ≤ k := by omega
      have i1 : (k : Int) < l.length := by omega
      go_wp2_with fail
      go_region_held3 (fun w' => w'.cell? ⟨b, off + k * 3, none⟩ = some (.int .i64 l[k].k) ∧ w'.cell? ⟨b, off + k * 3 + 1, none⟩ = some (.int .i64 l[k].n) ∧ w'.cell? ⟨b, off + k * 3 + 2, none⟩ = some (.string l[k].s) ∧ w'.cell? ⟨b', off' + k * 3, none⟩ = some (.int .i64 l[k].k) ∧ w'.cell? ⟨b', off' + k * 3 + 1, none⟩ = some (.int .i64 l[k].n) ∧ w'.cell? ⟨b', off' + k * 3 + 2, none⟩ = some (.string l[k].s))
        (first | go_keep | exact keepE6 (by assumption) hb1)
        (first | (go_at_call 53; refine (lawsEqVal l[k].k l[k].n l[k].s _).mono ?_; rintro e w1 ⟨rfl, hb1⟩))
      go_wp2
      go_roundw
      case rel => exact ⟨k + 1, by omega, by go_num, hb.drew.trans (hb1.mono hb.size)⟩
      case measure => simp [intOf]; omega
    · go_wp2
      go_ret
      exact ⟨rfl, hb⟩
set_option maxRecDepth 100000 in
set_option maxHeartbeats 1000000 in
theorem lawsEqCol (x : Cl)  (ok ok' : Nat → Prop) (w : World)   (hs : x.sz ≤ 1048576) :
    Calls Tryz.prog 155 #[.agg #[.string x.name, .int .i64 x.kind, .bool x.nn, .int .i64 x.d.k, .int .i64 x.d.n, .string x.d.s], .agg #[.string x.name, .int .i64 x.kind, .bool x.nn, .int .i64 x.d.k, .int .i64 x.d.n, .string x.d.s]] w fun e w' => e = .returned (.bool true) ∧ Below w.heap.size w w' := by
  clear hs
  have ra := (Row.new w 172 #[.string x.name, .int .i64 x.kind, .bool x.nn, .int .i64 x.d.k, .int .i64 x.d.n, .string x.d.s]).alloc (.cells #[.string x.name, .int .i64 x.kind, .bool x.nn, .int .i64 x.d.k, .int .i64 x.d.n, .string x.d.s] 172)
  have rb := Row.newAt (w.alloc (.cells #[.string x.name, .int .i64 x.kind, .bool x.nn, .int .i64 x.d.k, .int .i64 x.d.n, .string x.d.s] 172)) 172 #[.string x.name, .int .i64 x.kind, .bool x.nn, .int .i64 x.d.k, .int .i64 x.d.n, .string x.d.s] (w.heap.size + 1) (by simp)
  have hb0 := ((Below.refl w.heap.size w).alloc (Nat.le_refl _) (.cells #[.string x.name, .int .i64 x.kind, .bool x.nn, .int .i64 x.d.k, .int .i64 x.d.n, .string x.d.s] 172)).alloc (by simp) (.cells #[.string x.name, .int .i64 x.kind, .bool x.nn, .int .i64 x.d.k, .int .i64 x.d.n, .string x.d.s] 172)
  go_enter Tryz.func155, Tryz.ntmps155
  go_wp2_with fail
  generalize (w.alloc (.cells #[.string x.name, .int .i64 x.kind, .bool x.nn, .int .i64 x.d.k, .int .i64 x.d.n, .string x.d.s] 172)).alloc (.cells #[.string x.name, .int .i64 x.kind, .bool x.nn, .int .i64 x.d.k, .int .i64 x.d.n, .string x.d.s] 172) = x0 at *
  refine (lawsEqVal _ _ _ _).mono ?_
  rintro e w1 ⟨rfl, hc0⟩
  have ra := ra.below hc0
  have rb := rb.below hc0
  have hb1 := hb0.trans (hc0.mono hb0.size)
  obtain ⟨⟨a_0_0, a_0_1, a_0_2, a_0_3, a_0_4, a_0_5⟩, -⟩ := ra.all6
  obtain ⟨⟨b_0_0, b_0_1, b_0_2, b_0_3, b_0_4, b_0_5⟩, -⟩ := rb.all6
  go_wp2_with fail
  go_ret
  exact ⟨rfl, hb1⟩
set_option maxRecDepth 100000 in
set_option maxHeartbeats 1000000 in
theorem lawsEqColL (A A' : Option Addr) (n c c' : Nat) (l : List Cl) (ok ok' : Nat → Prop) (w : World) (h : Sl ClR 6 ok w A n l) (h' : Sl ClR 6 ok' w A' n l) (hs : szL Cl.sz l ≤ 1048576) :
    Calls Tryz.prog 104 #[.slice A n c, .slice A' n c'] w fun e w' => e = .returned (.bool true) ∧ Below w.heap.size w w' := by
  obtain rfl : l.length = n := h.1
  have hn : l.length ≤ 1048576 := by unfold szL at hs; omega
  have HS := Lib.hid hs
  clear hs
  go_enter Tryz.func104, Tryz.ntmps104
  go_wp2
  go_loopw [5] (fun i wr => ∃ k : Nat, k ≤ l.length ∧ i = .int .i64 k ∧ Below w.heap.size w wr) (fun i _ => l.length - (intOf i).toNat)
  case atStart => exact ⟨0, by omega, rfl, Below.refl _ _⟩
  case round =>
    obtain ⟨k, hk, rfl, hb⟩ := hrel
    by_cases hlt : k < l.length
    · obtain ⟨b, off, -, rfl, q0, q1, q2, q3, q4, q5⟩ := ClR.at_ (h.below ClR.stays hb) hlt
      obtain ⟨b', off', -, rfl, r0, r1, r2, r3, r4, r5⟩ := ClR.at_ (h'.below ClR.stays hb) hlt
      have i0 : (0 : Int) ≤ k := by omega
      have i1 : (k : Int) < l.length := by omega
      have hszk : l[k].sz ≤ 1048576 := by have := HS.out; have := sum_mem_le (Cl.sz) l k hlt; unfold szL at *; (try simp only at *); omega
      have HSK := Lib.hid hszk
      clear hszk
      go_wp2_with fail
      go_region_held3 (fun w' => w'.cell? ⟨b, off + k * 6, none⟩ = some (.string l[k].name) ∧ w'.cell? ⟨b, off + k * 6 + 1, none⟩ = some (.int .i64 l[k].kind) ∧ w'.cell? ⟨b, off + k * 6 + 2, none⟩ = some (.bool l[k].nn) ∧ w'.cell? ⟨b, off + k * 6 + 3, none⟩ = some (.int .i64 l[k].d.k) ∧ w'.cell? ⟨b, off + k * 6 + 4, none⟩ = some (.int .i64 l[k].d.n) ∧ w'.cell? ⟨b, off + k * 6 + 5, none⟩ = some (.string l[k].d.s) ∧ w'.cell? ⟨b', off' + k * 6, none⟩ = some (.string l[k].name) ∧ w'.cell? ⟨b', off' + k * 6 + 1, none⟩ = some (.int .i64 l[k].kind) ∧ w'.cell? ⟨b', off' + k * 6 + 2, none⟩ = some (.bool l[k].nn) ∧ w'.cell? ⟨b', off' + k * 6 + 3, none⟩ = some (.int .i64 l[k].d.k) ∧ w'.cell? ⟨b', off' + k * 6 + 4, none⟩ = some (.int .i64 l[k].d.n) ∧ w'.cell? ⟨b', off' + k * 6 + 5, none⟩ = some (.string l[k].d.s))
        (first | go_keep | exact keepE12 (by assumption) hb1)
        (first | (go_at_call 155; refine (lawsEqCol l[k]  ok ok' _   HSK.out).mono ?_; rintro e w1 ⟨rfl, hb1⟩))
      go_wp2
      go_roundw
      case rel => exact ⟨k + 1, by omega, by go_num, hb.drew.trans (hb1.mono hb.size)⟩
      case measure => simp [intOf]; omega
    · go_wp2
      go_ret
      exact ⟨rfl, hb⟩
set_option maxRecDepth 100000 in
set_option maxHeartbeats 1000000 in
theorem lawsEqUnique (x : Uq) (A0 B0 : Option Addr) (n0 c0 d0 : Nat) (ok ok' : Nat → Prop) (w : World) (h0 : Sl IntR 1 ok w A0 n0 x.cols) (k0 : Sl IntR 1 ok' w B0 n0 x.cols) (hs : x.sz ≤ 1048576) :
    Calls Tryz.prog 156 #[.agg #[.slice A0 n0 c0], .agg #[.slice B0 n0 d0]] w fun e w' => e = .returned (.bool true) ∧ Below w.heap.size w w' := by
  have HS0 := Lib.hid (show x.cols.length ≤ 1048576 by have := hs; unfold Uq.sz at this; omega)
  clear hs
  have ra := (Row.new w 174 #[.slice A0 n0 c0]).alloc (.cells #[.slice B0 n0 d0] 174)
  have rb := Row.newAt (w.alloc (.cells #[.slice A0 n0 c0] 174)) 174 #[.slice B0 n0 d0] (w.heap.size + 1) (by simp)
  have hb0 := ((Below.refl w.heap.size w).alloc (Nat.le_refl _) (.cells #[.slice A0 n0 c0] 174)).alloc (by simp) (.cells #[.slice B0 n0 d0] 174)
  go_enter Tryz.func156, Tryz.ntmps156
  go_wp2_with fail
  generalize (w.alloc (.cells #[.slice A0 n0 c0] 174)).alloc (.cells #[.slice B0 n0 d0] 174) = x0 at *
  refine (lawsEqIntL A0 B0 n0 c0 d0 x.cols ok ok' _ (h0.below IntR.stays hb0) (k0.below IntR.stays hb0) HS0.out).mono ?_
  rintro e w1 ⟨rfl, hc0⟩
  have ra := ra.below hc0
  have rb := rb.below hc0
  have hb1 := hb0.trans (hc0.mono hb0.size)
  obtain ⟨a_0_0, -⟩ := ra.all1
  obtain ⟨b_0_0, -⟩ := rb.all1
  go_wp2_with fail
  go_ret
  exact ⟨rfl, hb1⟩
set_option maxRecDepth 100000 in
set_option maxHeartbeats 1000000 in
theorem lawsEqUniqueL (A A' : Option Addr) (n c c' : Nat) (l : List Uq) (ok ok' : Nat → Prop) (w : World) (h : Sl UqR 1 ok w A n l) (h' : Sl UqR 1 ok' w A' n l) (hs : szL Uq.sz l ≤ 1048576) :
    Calls Tryz.prog 105 #[.slice A n c, .slice A' n c'] w fun e w' => e = .returned (.bool true) ∧ Below w.heap.size w w' := by
  obtain rfl : l.length = n := h.1
  have hn : l.length ≤ 1048576 := by unfold szL at hs; omega
  have HS := Lib.hid hs
  clear hs
  go_enter Tryz.func105, Tryz.ntmps105
  go_wp2
  go_loopw [5] (fun i wr => ∃ k : Nat, k ≤ l.length ∧ i = .int .i64 k ∧ Below w.heap.size w wr) (fun i _ => l.length - (intOf i).toNat)
  case atStart => exact ⟨0, by omega, rfl, Below.refl _ _⟩
  case round =>
    obtain ⟨k, hk, rfl, hb⟩ := hrel
    by_cases hlt : k < l.length
    · obtain ⟨b, off, A0, n0, c0, -, rfl, q0, s0, -⟩ := UqR.at_ (h.below UqR.stays hb) hlt
      obtain ⟨b', off', B0, m0, d0, -, rfl, r0, t0, -⟩ := UqR.at_ (h'.below UqR.stays hb) hlt
      obtain rfl : n0 = m0 := s0.1.symm.trans t0.1
      have i0 : (0 : Int) ≤ k := by omega
      have i1 : (k : Int) < l.length := by omega
      have hszk : l[k].sz ≤ 1048576 := by have := HS.out; have := sum_mem_le (Uq.sz) l k hlt; unfold szL at *; (try simp only at *); omega
      have HSK := Lib.hid hszk
      clear hszk
      go_wp2_with fail
      go_region_held3 (fun w' => w'.cell? ⟨b, off + k, none⟩ = some (.slice A0 n0 c0) ∧ w'.cell? ⟨b', off' + k, none⟩ = some (.slice B0 n0 d0))
        (first | go_keep | exact keepE2 (by assumption) hb1)
        (first | (go_at_call 156; refine (lawsEqUnique l[k] A0 B0 n0 c0 d0 ok ok' _ (s0.drew IntR.stays) (t0.drew IntR.stays) HSK.out).mono ?_; rintro e w1 ⟨rfl, hb1⟩))
      go_wp2
      go_roundw
      case rel => exact ⟨k + 1, by omega, by go_num, hb.drew.trans (hb1.mono hb.size)⟩
      case measure => simp [intOf]; omega
    · go_wp2
      go_ret
      exact ⟨rfl, hb⟩
set_option maxRecDepth 100000 in
set_option maxHeartbeats 1000000 in
theorem lawsEqCheck (x : Ck) (A0 B0 : Option Addr) (n0 c0 d0 : Nat) (ok ok' : Nat → Prop) (w : World) (h0 : Sl TkR 5 ok w A0 n0 x.expr) (k0 : Sl TkR 5 ok' w B0 n0 x.expr) (hs : x.sz ≤ 1048576) :
    Calls Tryz.prog 157 #[.agg #[.slice A0 n0 c0], .agg #[.slice B0 n0 d0]] w fun e w' => e = .returned (.bool true) ∧ Below w.heap.size w w' := by
  have HS0 := Lib.hid (show szL (fun t : Tk => t.vs.size) x.expr ≤ 1048576 by have := hs; unfold Ck.sz at this; omega)
  clear hs
  have ra := (Row.new w 176 #[.slice A0 n0 c0]).alloc (.cells #[.slice B0 n0 d0] 176)
  have rb := Row.newAt (w.alloc (.cells #[.slice A0 n0 c0] 176)) 176 #[.slice B0 n0 d0] (w.heap.size + 1) (by simp)
  have hb0 := ((Below.refl w.heap.size w).alloc (Nat.le_refl _) (.cells #[.slice A0 n0 c0] 176)).alloc (by simp) (.cells #[.slice B0 n0 d0] 176)
  go_enter Tryz.func157, Tryz.ntmps157
  go_wp2_with fail
  generalize (w.alloc (.cells #[.slice A0 n0 c0] 176)).alloc (.cells #[.slice B0 n0 d0] 176) = x0 at *
  refine (lawsEqTokL A0 B0 n0 c0 d0 x.expr ok ok' _ (h0.below TkR.stays hb0) (k0.below TkR.stays hb0) HS0.out).mono ?_
  rintro e w1 ⟨rfl, hc0⟩
  have ra := ra.below hc0
  have rb := rb.below hc0
  have hb1 := hb0.trans (hc0.mono hb0.size)
  obtain ⟨a_0_0, -⟩ := ra.all1
  obtain ⟨b_0_0, -⟩ := rb.all1
  go_wp2_with fail
  go_ret
  exact ⟨rfl, hb1⟩
set_option maxRecDepth 100000 in
set_option maxHeartbeats 1000000 in
theorem lawsEqCheckL (A A' : Option Addr) (n c c' : Nat) (l : List Ck) (ok ok' : Nat → Prop) (w : World) (h : Sl CkR 1 ok w A n l) (h' : Sl CkR 1 ok' w A' n l) (hs : szL Ck.sz l ≤ 1048576) :
    Calls Tryz.prog 106 #[.slice A n c, .slice A' n c'] w fun e w' => e = .returned (.bool true) ∧ Below w.heap.size w w' := by
  obtain rfl : l.length = n := h.1
  have hn : l.length ≤ 1048576 := by unfold szL at hs; omega
  have HS := Lib.hid hs
  clear hs
  go_enter Tryz.func106, Tryz.ntmps106
  go_wp2
  go_loopw [5] (fun i wr => ∃ k : Nat, k ≤ l.length ∧ i = .int .i64 k ∧ Below w.heap.size w wr) (fun i _ => l.length - (intOf i).toNat)
  case atStart => exact ⟨0, by omega, rfl, Below.refl _ _⟩
  case round =>
    obtain ⟨k, hk, rfl, hb⟩ := hrel
    by_cases hlt : k < l.length
    · obtain ⟨b, off, A0, n0, c0, -, rfl, q0, s0, -⟩ := CkR.at_ (h.below CkR.stays hb) hlt
      obtain ⟨b', off', B0, m0, d0, -, rfl, r0, t0, -⟩ := CkR.at_ (h'.below CkR.stays hb) hlt
      obtain rfl : n0 = m0 := s0.1.symm.trans t0.1
      have i0 : (0 : Int) ≤ k := by omega
      have i1 : (k : Int) < l.length := by omega
      have hszk : l[k].sz ≤ 1048576 := by have := HS.out; have := sum_mem_le (Ck.sz) l k hlt; unfold szL at *; (try simp only at *); omega
      have HSK := Lib.hid hszk
      clear hszk
      go_wp2_with fail
      go_region_held3 (fun w' => w'.cell? ⟨b, off + k, none⟩ = some (.slice A0 n0 c0) ∧ w'.cell? ⟨b', off' + k, none⟩ = some (.slice B0 n0 d0))
        (first | go_keep | exact keepE2 (by assumption) hb1)
        (first | (go_at_call 157; refine (lawsEqCheck l[k] A0 B0 n0 c0 d0 ok ok' _ (s0.drew TkR.stays) (t0.drew TkR.stays) HSK.out).mono ?_; rintro e w1 ⟨rfl, hb1⟩))
      go_wp2
      go_roundw
      case rel => exact ⟨k + 1, by omega, by go_num, hb.drew.trans (hb1.mono hb.size)⟩
      case measure => simp [intOf]; omega
    · go_wp2
      go_ret
      exact ⟨rfl, hb⟩
set_option maxRecDepth 100000 in
set_option maxHeartbeats 1000000 in
theorem lawsEqFk (x : Fk) (A0 B0 : Option Addr) (n0 c0 d0 : Nat) (ok ok' : Nat → Prop) (w : World) (h0 : Sl IntR 1 ok w A0 n0 x.cols) (k0 : Sl IntR 1 ok' w B0 n0 x.cols) (hs : x.sz ≤ 1048576) :
    Calls Tryz.prog 158 #[.agg #[.slice A0 n0 c0, .string x.table, .int .i64 x.del, .int .i64 x.upd, .bool x.dfr], .agg #[.slice B0 n0 d0, .string x.table, .int .i64 x.del, .int .i64 x.upd, .bool x.dfr]] w fun e w' => e = .returned (.bool true) ∧ Below w.heap.size w w' := by
  have HS0 := Lib.hid (show x.cols.length ≤ 1048576 by have := hs; unfold Fk.sz at this; omega)
  clear hs
  have ra := (Row.new w 178 #[.slice A0 n0 c0, .string x.table, .int .i64 x.del, .int .i64 x.upd, .bool x.dfr]).alloc (.cells #[.slice B0 n0 d0, .string x.table, .int .i64 x.del, .int .i64 x.upd, .bool x.dfr] 178)
  have rb := Row.newAt (w.alloc (.cells #[.slice A0 n0 c0, .string x.table, .int .i64 x.del, .int .i64 x.upd, .bool x.dfr] 178)) 178 #[.slice B0 n0 d0, .string x.table, .int .i64 x.del, .int .i64 x.upd, .bool x.dfr] (w.heap.size + 1) (by simp)
  have hb0 := ((Below.refl w.heap.size w).alloc (Nat.le_refl _) (.cells #[.slice A0 n0 c0, .string x.table, .int .i64 x.del, .int .i64 x.upd, .bool x.dfr] 178)).alloc (by simp) (.cells #[.slice B0 n0 d0, .string x.table, .int .i64 x.del, .int .i64 x.upd, .bool x.dfr] 178)
  go_enter Tryz.func158, Tryz.ntmps158
  go_wp2_with fail
  generalize (w.alloc (.cells #[.slice A0 n0 c0, .string x.table, .int .i64 x.del, .int .i64 x.upd, .bool x.dfr] 178)).alloc (.cells #[.slice B0 n0 d0, .string x.table, .int .i64 x.del, .int .i64 x.upd, .bool x.dfr] 178) = x0 at *
  refine (lawsEqIntL A0 B0 n0 c0 d0 x.cols ok ok' _ (h0.below IntR.stays hb0) (k0.below IntR.stays hb0) HS0.out).mono ?_
  rintro e w1 ⟨rfl, hc0⟩
  have ra := ra.below hc0
  have rb := rb.below hc0
  have hb1 := hb0.trans (hc0.mono hb0.size)
  obtain ⟨⟨a_0_0, a_0_1, a_0_2, a_0_3, a_0_4⟩, -⟩ := ra.five
  obtain ⟨⟨b_0_0, b_0_1, b_0_2, b_0_3, b_0_4⟩, -⟩ := rb.five
  go_wp2_with fail
  go_ret
  exact ⟨rfl, hb1⟩
set_option maxRecDepth 100000 in
set_option maxHeartbeats 1000000 in
theorem lawsEqFkL (A A' : Option Addr) (n c c' : Nat) (l : List Fk) (ok ok' : Nat → Prop) (w : World) (h : Sl FkR 5 ok w A n l) (h' : Sl FkR 5 ok' w A' n l) (hs : szL Fk.sz l ≤ 1048576) :
    Calls Tryz.prog 107 #[.slice A n c, .slice A' n c'] w fun e w' => e = .returned (.bool true) ∧ Below w.heap.size w w' := by
  obtain rfl : l.length = n := h.1
  have hn : l.length ≤ 1048576 := by unfold szL at hs; omega
  have HS := Lib.hid hs
  clear hs
  go_enter Tryz.func107, Tryz.ntmps107
  go_wp2
  go_loopw [5] (fun i wr => ∃ k : Nat, k ≤ l.length ∧ i = .int .i64 k ∧ Below w.heap.size w wr) (fun i _ => l.length - (intOf i).toNat)
  case atStart => exact ⟨0, by omega, rfl, Below.refl _ _⟩
  case round =>
    obtain ⟨k, hk, rfl, hb⟩ := hrel
    by_cases hlt : k < l.length
    · obtain ⟨b, off, A0, n0, c0, -, rfl, q0, q1, q2, q3, q4, s0, -⟩ := FkR.at_ (h.below FkR.stays hb) hlt
      obtain ⟨b', off', B0, m0, d0, -, rfl, r0, r1, r2, r3, r4, t0, -⟩ := FkR.at_ (h'.below FkR.stays hb) hlt
      obtain rfl : n0 = m0 := s0.1.symm.trans t0.1
      have i0 : (0 : Int) ≤ k := by omega
      have i1 : (k : Int) < l.length := by omega
      have hszk : l[k].sz ≤ 1048576 := by have := HS.out; have := sum_mem_le (Fk.sz) l k hlt; unfold szL at *; (try simp only at *); omega
      have HSK := Lib.hid hszk
      clear hszk
      go_wp2_with fail
      go_region_held3 (fun w' => w'.cell? ⟨b, off + k * 5, none⟩ = some (.slice A0 n0 c0) ∧ w'.cell? ⟨b, off + k * 5 + 1, none⟩ = some (.string l[k].table) ∧ w'.cell? ⟨b, off + k * 5 + 2, none⟩ = some (.int .i64 l[k].del) ∧ w'.cell? ⟨b, off + k * 5 + 3, none⟩ = some (.int .i64 l[k].upd) ∧ w'.cell? ⟨b, off + k * 5 + 4, none⟩ = some (.bool l[k].dfr) ∧ w'.cell? ⟨b', off' + k * 5, none⟩ = some (.slice B0 n0 d0) ∧ w'.cell? ⟨b', off' + k * 5 + 1, none⟩ = some (.string l[k].table) ∧ w'.cell? ⟨b', off' + k * 5 + 2, none⟩ = some (.int .i64 l[k].del) ∧ w'.cell? ⟨b', off' + k * 5 + 3, none⟩ = some (.int .i64 l[k].upd) ∧ w'.cell? ⟨b', off' + k * 5 + 4, none⟩ = some (.bool l[k].dfr))
        (first | go_keep | exact keepE10 (by assumption) hb1)
        (first | (go_at_call 158; refine (lawsEqFk l[k] A0 B0 n0 c0 d0 ok ok' _ (s0.drew IntR.stays) (t0.drew IntR.stays) HSK.out).mono ?_; rintro e w1 ⟨rfl, hb1⟩))
      go_wp2
      go_roundw
      case rel => exact ⟨k + 1, by omega, by go_num, hb.drew.trans (hb1.mono hb.size)⟩
      case measure => simp [intOf]; omega
    · go_wp2
      go_ret
      exact ⟨rfl, hb⟩
set_option maxRecDepth 100000 in
set_option maxHeartbeats 1000000 in
theorem lawsEqTable (x : Tb) (A1 B1 : Option Addr) (n1 c1 d1 : Nat) (A2 B2 : Option Addr) (n2 c2 d2 : Nat) (A3 B3 : Option Addr) (n3 c3 d3 : Nat) (A4 B4 : Option Addr) (n4 c4 d4 : Nat) (A5 B5 : Option Addr) (n5 c5 d5 : Nat) (ok ok' : Nat → Prop) (w : World) (h1 : Sl ClR 6 ok w A1 n1 x.cols) (h2 : Sl IntR 1 ok w A2 n2 x.key) (h3 : Sl UqR 1 ok w A3 n3 x.uniqs) (h4 : Sl CkR 1 ok w A4 n4 x.checks) (h5 : Sl FkR 5 ok w A5 n5 x.fks) (k1 : Sl ClR 6 ok' w B1 n1 x.cols) (k2 : Sl IntR 1 ok' w B2 n2 x.key) (k3 : Sl UqR 1 ok' w B3 n3 x.uniqs) (k4 : Sl CkR 1 ok' w B4 n4 x.checks) (k5 : Sl FkR 5 ok' w B5 n5 x.fks) (hs : x.sz ≤ 1048576) :
    Calls Tryz.prog 51 #[.agg #[.string x.name, .slice A1 n1 c1, .slice A2 n2 c2, .slice A3 n3 c3, .slice A4 n4 c4, .slice A5 n5 c5], .agg #[.string x.name, .slice B1 n1 d1, .slice B2 n2 d2, .slice B3 n3 d3, .slice B4 n4 d4, .slice B5 n5 d5]] w fun e w' => e = .returned (.bool true) ∧ Below w.heap.size w w' := by
  have HS1 := Lib.hid (show szL Cl.sz x.cols ≤ 1048576 by have := hs; unfold Tb.sz at this; omega)
  have HS2 := Lib.hid (show x.key.length ≤ 1048576 by have := hs; unfold Tb.sz at this; omega)
  have HS3 := Lib.hid (show szL Uq.sz x.uniqs ≤ 1048576 by have := hs; unfold Tb.sz at this; omega)
  have HS4 := Lib.hid (show szL Ck.sz x.checks ≤ 1048576 by have := hs; unfold Tb.sz at this; omega)
  have HS5 := Lib.hid (show szL Fk.sz x.fks ≤ 1048576 by have := hs; unfold Tb.sz at this; omega)
  clear hs
  have ra := (Row.new w 86 #[.string x.name, .slice A1 n1 c1, .slice A2 n2 c2, .slice A3 n3 c3, .slice A4 n4 c4, .slice A5 n5 c5]).alloc (.cells #[.string x.name, .slice B1 n1 d1, .slice B2 n2 d2, .slice B3 n3 d3, .slice B4 n4 d4, .slice B5 n5 d5] 86)
  have rb := Row.newAt (w.alloc (.cells #[.string x.name, .slice A1 n1 c1, .slice A2 n2 c2, .slice A3 n3 c3, .slice A4 n4 c4, .slice A5 n5 c5] 86)) 86 #[.string x.name, .slice B1 n1 d1, .slice B2 n2 d2, .slice B3 n3 d3, .slice B4 n4 d4, .slice B5 n5 d5] (w.heap.size + 1) (by simp)
  have hb0 := ((Below.refl w.heap.size w).alloc (Nat.le_refl _) (.cells #[.string x.name, .slice A1 n1 c1, .slice A2 n2 c2, .slice A3 n3 c3, .slice A4 n4 c4, .slice A5 n5 c5] 86)).alloc (by simp) (.cells #[.string x.name, .slice B1 n1 d1, .slice B2 n2 d2, .slice B3 n3 d3, .slice B4 n4 d4, .slice B5 n5 d5] 86)
  go_enter Tryz.func51, Tryz.ntmps51
  go_wp2_with fail
  generalize (w.alloc (.cells #[.string x.name, .slice A1 n1 c1, .slice A2 n2 c2, .slice A3 n3 c3, .slice A4 n4 c4, .slice A5 n5 c5] 86)).alloc (.cells #[.string x.name, .slice B1 n1 d1, .slice B2 n2 d2, .slice B3 n3 d3, .slice B4 n4 d4, .slice B5 n5 d5] 86) = x0 at *
  refine (lawsEqColL A1 B1 n1 c1 d1 x.cols ok ok' _ (h1.below ClR.stays hb0) (k1.below ClR.stays hb0) HS1.out).mono ?_
  rintro e w1 ⟨rfl, hc0⟩
  have ra := ra.below hc0
  have rb := rb.below hc0
  have hb1 := hb0.trans (hc0.mono hb0.size)
  obtain ⟨⟨a_0_0, a_0_1, a_0_2, a_0_3, a_0_4, a_0_5⟩, -⟩ := ra.all6
  obtain ⟨⟨b_0_0, b_0_1, b_0_2, b_0_3, b_0_4, b_0_5⟩, -⟩ := rb.all6
  go_wp2_with fail
  refine (lawsEqIntL A2 B2 n2 c2 d2 x.key ok ok' _ (h2.below IntR.stays hb1) (k2.below IntR.stays hb1) HS2.out).mono ?_
  rintro e w2 ⟨rfl, hc1⟩
  have ra := ra.below hc1
  have rb := rb.below hc1
  have hb2 := hb1.trans (hc1.mono hb1.size)
  obtain ⟨⟨a_1_0, a_1_1, a_1_2, a_1_3, a_1_4, a_1_5⟩, -⟩ := ra.all6
  obtain ⟨⟨b_1_0, b_1_1, b_1_2, b_1_3, b_1_4, b_1_5⟩, -⟩ := rb.all6
  go_wp2_with fail
  refine (lawsEqUniqueL A3 B3 n3 c3 d3 x.uniqs ok ok' _ (h3.below UqR.stays hb2) (k3.below UqR.stays hb2) HS3.out).mono ?_
  rintro e w3 ⟨rfl, hc2⟩
  have ra := ra.below hc2
  have rb := rb.below hc2
  have hb3 := hb2.trans (hc2.mono hb2.size)
  obtain ⟨⟨a_2_0, a_2_1, a_2_2, a_2_3, a_2_4, a_2_5⟩, -⟩ := ra.all6
  obtain ⟨⟨b_2_0, b_2_1, b_2_2, b_2_3, b_2_4, b_2_5⟩, -⟩ := rb.all6
  go_wp2_with fail
  refine (lawsEqCheckL A4 B4 n4 c4 d4 x.checks ok ok' _ (h4.below CkR.stays hb3) (k4.below CkR.stays hb3) HS4.out).mono ?_
  rintro e w4 ⟨rfl, hc3⟩
  have ra := ra.below hc3
  have rb := rb.below hc3
  have hb4 := hb3.trans (hc3.mono hb3.size)
  obtain ⟨⟨a_3_0, a_3_1, a_3_2, a_3_3, a_3_4, a_3_5⟩, -⟩ := ra.all6
  obtain ⟨⟨b_3_0, b_3_1, b_3_2, b_3_3, b_3_4, b_3_5⟩, -⟩ := rb.all6
  go_wp2_with fail
  refine (lawsEqFkL A5 B5 n5 c5 d5 x.fks ok ok' _ (h5.below FkR.stays hb4) (k5.below FkR.stays hb4) HS5.out).mono ?_
  rintro e w5 ⟨rfl, hc4⟩
  have ra := ra.below hc4
  have rb := rb.below hc4
  have hb5 := hb4.trans (hc4.mono hb4.size)
  obtain ⟨⟨a_4_0, a_4_1, a_4_2, a_4_3, a_4_4, a_4_5⟩, -⟩ := ra.all6
  obtain ⟨⟨b_4_0, b_4_1, b_4_2, b_4_3, b_4_4, b_4_5⟩, -⟩ := rb.all6
  go_wp2_with fail
  go_ret
  exact ⟨rfl, hb5⟩
set_option maxRecDepth 100000 in
set_option maxHeartbeats 1000000 in
theorem lawsEqTableL (A A' : Option Addr) (n c c' : Nat) (l : List Tb) (ok ok' : Nat → Prop) (w : World) (h : Sl TbR 6 ok w A n l) (h' : Sl TbR 6 ok' w A' n l) (hs : szL Tb.sz l ≤ 1048576) :
    Calls Tryz.prog 15 #[.slice A n c, .slice A' n c'] w fun e w' => e = .returned (.bool true) ∧ Below w.heap.size w w' := by
  obtain rfl : l.length = n := h.1
  have hn : l.length ≤ 1048576 := by unfold szL at hs; omega
  have HS := Lib.hid hs
  clear hs
  go_enter Tryz.func15, Tryz.ntmps15
  go_wp2
  go_loopw [5] (fun i wr => ∃ k : Nat, k ≤ l.length ∧ i = .int .i64 k ∧ Below w.heap.size w wr) (fun i _ => l.length - (intOf i).toNat)
  case atStart => exact ⟨0, by omega, rfl, Below.refl _ _⟩
  case round =>
    obtain ⟨k, hk, rfl, hb⟩ := hrel
    by_cases hlt : k < l.length
    · obtain ⟨b, off, A1, n1, c1, A2, n2, c2, A3, n3, c3, A4, n4, c4, A5, n5, c5, -, rfl, q0, q1, q2, q3, q4, q5, s1, s2, s3, s4, s5, -⟩ := TbR.at_ (h.below TbR.stays hb) hlt
      obtain ⟨b', off', B1, m1, d1, B2, m2, d2, B3, m3, d3, B4, m4, d4, B5, m5, d5, -, rfl, r0, r1, r2, r3, r4, r5, t1, t2, t3, t4, t5, -⟩ := TbR.at_ (h'.below TbR.stays hb) hlt
      obtain ⟨rfl, rfl, rfl, rfl, rfl⟩ : n1 = m1 ∧ n2 = m2 ∧ n3 = m3 ∧ n4 = m4 ∧ n5 = m5 := ⟨s1.1.symm.trans t1.1, s2.1.symm.trans t2.1, s3.1.symm.trans t3.1, s4.1.symm.trans t4.1, s5.1.symm.trans t5.1⟩
      have i0 : (0 : Int) ≤ k := by omega
      have i1 : (k : Int) < l.length := by omega
      have hszk : l[k].sz ≤ 1048576 := by have := HS.out; have := sum_mem_le (Tb.sz) l k hlt; unfold szL at *; (try simp only at *); omega
      have HSK := Lib.hid hszk
      clear hszk
      go_wp2_with fail
      go_region_held3 (fun w' => w'.cell? ⟨b, off + k * 6, none⟩ = some (.string l[k].name) ∧ w'.cell? ⟨b, off + k * 6 + 1, none⟩ = some (.slice A1 n1 c1) ∧ w'.cell? ⟨b, off + k * 6 + 2, none⟩ = some (.slice A2 n2 c2) ∧ w'.cell? ⟨b, off + k * 6 + 3, none⟩ = some (.slice A3 n3 c3) ∧ w'.cell? ⟨b, off + k * 6 + 4, none⟩ = some (.slice A4 n4 c4) ∧ w'.cell? ⟨b, off + k * 6 + 5, none⟩ = some (.slice A5 n5 c5) ∧ w'.cell? ⟨b', off' + k * 6, none⟩ = some (.string l[k].name) ∧ w'.cell? ⟨b', off' + k * 6 + 1, none⟩ = some (.slice B1 n1 d1) ∧ w'.cell? ⟨b', off' + k * 6 + 2, none⟩ = some (.slice B2 n2 d2) ∧ w'.cell? ⟨b', off' + k * 6 + 3, none⟩ = some (.slice B3 n3 d3) ∧ w'.cell? ⟨b', off' + k * 6 + 4, none⟩ = some (.slice B4 n4 d4) ∧ w'.cell? ⟨b', off' + k * 6 + 5, none⟩ = some (.slice B5 n5 d5))
        (first | go_keep | exact keepE12 (by assumption) hb1)
        (first | (go_at_call 51; refine (lawsEqTable l[k] A1 B1 n1 c1 d1 A2 B2 n2 c2 d2 A3 B3 n3 c3 d3 A4 B4 n4 c4 d4 A5 B5 n5 c5 d5 ok ok' _ (s1.drew ClR.stays) (s2.drew IntR.stays) (s3.drew UqR.stays) (s4.drew CkR.stays) (s5.drew FkR.stays) (t1.drew ClR.stays) (t2.drew IntR.stays) (t3.drew UqR.stays) (t4.drew CkR.stays) (t5.drew FkR.stays) HSK.out).mono ?_; rintro e w1 ⟨rfl, hb1⟩))
      go_wp2
      go_roundw
      case rel => exact ⟨k + 1, by omega, by go_num, hb.drew.trans (hb1.mono hb.size)⟩
      case measure => simp [intOf]; omega
    · go_wp2
      go_ret
      exact ⟨rfl, hb⟩
set_option maxRecDepth 100000 in
set_option maxHeartbeats 1000000 in
theorem lawsEqRow (x : Rw) (A1 B1 : Option Addr) (n1 c1 d1 : Nat) (ok ok' : Nat → Prop) (w : World) (h1 : Sl VlR 3 ok w A1 n1 x.vals) (k1 : Sl VlR 3 ok' w B1 n1 x.vals) (hs : x.sz ≤ 1048576) :
    Calls Tryz.prog 171 #[.agg #[.int .i64 x.id, .slice A1 n1 c1], .agg #[.int .i64 x.id, .slice B1 n1 d1]] w fun e w' => e = .returned (.bool true) ∧ Below w.heap.size w w' := by
  have HS1 := Lib.hid (show szL (fun v : Vl => v.s.size) x.vals ≤ 1048576 by have := hs; unfold Rw.sz at this; omega)
  clear hs
  have ra := (Row.new w 130 #[.int .i64 x.id, .slice A1 n1 c1]).alloc (.cells #[.int .i64 x.id, .slice B1 n1 d1] 130)
  have rb := Row.newAt (w.alloc (.cells #[.int .i64 x.id, .slice A1 n1 c1] 130)) 130 #[.int .i64 x.id, .slice B1 n1 d1] (w.heap.size + 1) (by simp)
  have hb0 := ((Below.refl w.heap.size w).alloc (Nat.le_refl _) (.cells #[.int .i64 x.id, .slice A1 n1 c1] 130)).alloc (by simp) (.cells #[.int .i64 x.id, .slice B1 n1 d1] 130)
  go_enter Tryz.func171, Tryz.ntmps171
  go_wp2_with fail
  generalize (w.alloc (.cells #[.int .i64 x.id, .slice A1 n1 c1] 130)).alloc (.cells #[.int .i64 x.id, .slice B1 n1 d1] 130) = x0 at *
  refine (lawsEqValL A1 B1 n1 c1 d1 x.vals ok ok' _ (h1.below VlR.stays hb0) (k1.below VlR.stays hb0) HS1.out).mono ?_
  rintro e w1 ⟨rfl, hc0⟩
  have ra := ra.below hc0
  have rb := rb.below hc0
  have hb1 := hb0.trans (hc0.mono hb0.size)
  obtain ⟨⟨a_0_0, a_0_1⟩, -⟩ := ra.all2
  obtain ⟨⟨b_0_0, b_0_1⟩, -⟩ := rb.all2
  go_wp2_with fail
  go_ret
  exact ⟨rfl, hb1⟩
set_option maxRecDepth 100000 in
set_option maxHeartbeats 1000000 in
theorem lawsEqRowL (A A' : Option Addr) (n c c' : Nat) (l : List Rw) (ok ok' : Nat → Prop) (w : World) (h : Sl RwR 2 ok w A n l) (h' : Sl RwR 2 ok' w A' n l) (hs : szL Rw.sz l ≤ 1048576) :
    Calls Tryz.prog 124 #[.slice A n c, .slice A' n c'] w fun e w' => e = .returned (.bool true) ∧ Below w.heap.size w w' := by
  obtain rfl : l.length = n := h.1
  have hn : l.length ≤ 1048576 := by unfold szL at hs; omega
  have HS := Lib.hid hs
  clear hs
  go_enter Tryz.func124, Tryz.ntmps124
  go_wp2
  go_loopw [5] (fun i wr => ∃ k : Nat, k ≤ l.length ∧ i = .int .i64 k ∧ Below w.heap.size w wr) (fun i _ => l.length - (intOf i).toNat)
  case atStart => exact ⟨0, by omega, rfl, Below.refl _ _⟩
  case round =>
    obtain ⟨k, hk, rfl, hb⟩ := hrel
    by_cases hlt : k < l.length
    · obtain ⟨b, off, A1, n1, c1, -, rfl, q0, q1, s1, -⟩ := RwR.at_ (h.below RwR.stays hb) hlt
      obtain ⟨b', off', B1, m1, d1, -, rfl, r0, r1, t1, -⟩ := RwR.at_ (h'.below RwR.stays hb) hlt
      obtain rfl : n1 = m1 := s1.1.symm.trans t1.1
      have i0 : (0 : Int) ≤ k := by omega
      have i1 : (k : Int) < l.length := by omega
      have hszk : l[k].sz ≤ 1048576 := by have := HS.out; have := sum_mem_le (Rw.sz) l k hlt; unfold szL at *; (try simp only at *); omega
      have HSK := Lib.hid hszk
      clear hszk
      go_wp2_with fail
      go_region_held3 (fun w' => w'.cell? ⟨b, off + k * 2, none⟩ = some (.int .i64 l[k].id) ∧ w'.cell? ⟨b, off + k * 2 + 1, none⟩ = some (.slice A1 n1 c1) ∧ w'.cell? ⟨b', off' + k * 2, none⟩ = some (.int .i64 l[k].id) ∧ w'.cell? ⟨b', off' + k * 2 + 1, none⟩ = some (.slice B1 n1 d1))
        (first | go_keep | exact keepE4 (by assumption) hb1)
        (first | (go_at_call 171; refine (lawsEqRow l[k] A1 B1 n1 c1 d1 ok ok' _ (s1.drew VlR.stays) (t1.drew VlR.stays) HSK.out).mono ?_; rintro e w1 ⟨rfl, hb1⟩))
      go_wp2
      go_roundw
      case rel => exact ⟨k + 1, by omega, by go_num, hb.drew.trans (hb1.mono hb.size)⟩
      case measure => simp [intOf]; omega
    · go_wp2
      go_ret
      exact ⟨rfl, hb⟩
set_option maxRecDepth 100000 in
set_option maxHeartbeats 1000000 in
theorem lawsEqData (x : Dt) (A0 B0 : Option Addr) (n0 c0 d0 : Nat) (ok ok' : Nat → Prop) (w : World) (h0 : Sl RwR 2 ok w A0 n0 x.rows) (k0 : Sl RwR 2 ok' w B0 n0 x.rows) (hs : x.sz ≤ 1048576) :
    Calls Tryz.prog 72 #[.agg #[.slice A0 n0 c0], .agg #[.slice B0 n0 d0]] w fun e w' => e = .returned (.bool true) ∧ Below w.heap.size w w' := by
  have HS0 := Lib.hid (show szL Rw.sz x.rows ≤ 1048576 by have := hs; unfold Dt.sz at this; omega)
  clear hs
  have ra := (Row.new w 122 #[.slice A0 n0 c0]).alloc (.cells #[.slice B0 n0 d0] 122)
  have rb := Row.newAt (w.alloc (.cells #[.slice A0 n0 c0] 122)) 122 #[.slice B0 n0 d0] (w.heap.size + 1) (by simp)
  have hb0 := ((Below.refl w.heap.size w).alloc (Nat.le_refl _) (.cells #[.slice A0 n0 c0] 122)).alloc (by simp) (.cells #[.slice B0 n0 d0] 122)
  go_enter Tryz.func72, Tryz.ntmps72
  go_wp2_with fail
  generalize (w.alloc (.cells #[.slice A0 n0 c0] 122)).alloc (.cells #[.slice B0 n0 d0] 122) = x0 at *
  refine (lawsEqRowL A0 B0 n0 c0 d0 x.rows ok ok' _ (h0.below RwR.stays hb0) (k0.below RwR.stays hb0) HS0.out).mono ?_
  rintro e w1 ⟨rfl, hc0⟩
  have ra := ra.below hc0
  have rb := rb.below hc0
  have hb1 := hb0.trans (hc0.mono hb0.size)
  obtain ⟨a_0_0, -⟩ := ra.all1
  obtain ⟨b_0_0, -⟩ := rb.all1
  go_wp2_with fail
  go_ret
  exact ⟨rfl, hb1⟩
set_option maxRecDepth 100000 in
set_option maxHeartbeats 1000000 in
theorem lawsEqDataL (A A' : Option Addr) (n c c' : Nat) (l : List Dt) (ok ok' : Nat → Prop) (w : World) (h : Sl DtR 1 ok w A n l) (h' : Sl DtR 1 ok' w A' n l) (hs : szL Dt.sz l ≤ 1048576) :
    Calls Tryz.prog 29 #[.slice A n c, .slice A' n c'] w fun e w' => e = .returned (.bool true) ∧ Below w.heap.size w w' := by
  obtain rfl : l.length = n := h.1
  have hn : l.length ≤ 1048576 := by unfold szL at hs; omega
  have HS := Lib.hid hs
  clear hs
  go_enter Tryz.func29, Tryz.ntmps29
  go_wp2
  go_loopw [5] (fun i wr => ∃ k : Nat, k ≤ l.length ∧ i = .int .i64 k ∧ Below w.heap.size w wr) (fun i _ => l.length - (intOf i).toNat)
  case atStart => exact ⟨0, by omega, rfl, Below.refl _ _⟩
  case round =>
    obtain ⟨k, hk, rfl, hb⟩ := hrel
    by_cases hlt : k < l.length
    · obtain ⟨b, off, A0, n0, c0, -, rfl, q0, s0, -⟩ := DtR.at_ (h.below DtR.stays hb) hlt
      obtain ⟨b', off', B0, m0, d0, -, rfl, r0, t0, -⟩ := DtR.at_ (h'.below DtR.stays hb) hlt
      obtain rfl : n0 = m0 := s0.1.symm.trans t0.1
      have i0 : (0 : Int) ≤ k := by omega
      have i1 : (k : Int) < l.length := by omega
      have hszk : l[k].sz ≤ 1048576 := by have := HS.out; have := sum_mem_le (Dt.sz) l k hlt; unfold szL at *; (try simp only at *); omega
      have HSK := Lib.hid hszk
      clear hszk
      go_wp2_with fail
      go_region_held3 (fun w' => w'.cell? ⟨b, off + k, none⟩ = some (.slice A0 n0 c0) ∧ w'.cell? ⟨b', off' + k, none⟩ = some (.slice B0 n0 d0))
        (first | go_keep | exact keepE2 (by assumption) hb1)
        (first | (go_at_call 72; refine (lawsEqData l[k] A0 B0 n0 c0 d0 ok ok' _ (s0.drew RwR.stays) (t0.drew RwR.stays) HSK.out).mono ?_; rintro e w1 ⟨rfl, hb1⟩))
      go_wp2
      go_roundw
      case rel => exact ⟨k + 1, by omega, by go_num, hb.drew.trans (hb1.mono hb.size)⟩
      case measure => simp [intOf]; omega
    · go_wp2
      go_ret
      exact ⟨rfl, hb⟩
set_option maxRecDepth 100000 in
set_option maxHeartbeats 1000000 in
theorem lawsEqEntry (x : En) (A0 B0 : Option Addr) (n0 c0 d0 : Nat) (ok ok' : Nat → Prop) (w : World) (h0 : Sl VlR 3 ok w A0 n0 x.key) (k0 : Sl VlR 3 ok' w B0 n0 x.key) (hs : x.sz ≤ 1048576) :
    Calls Tryz.prog 71 #[.agg #[.slice A0 n0 c0, .int .i64 x.id], .agg #[.slice B0 n0 d0, .int .i64 x.id]] w fun e w' => e = .returned (.bool true) ∧ Below w.heap.size w w' := by
  have HS0 := Lib.hid (show szL (fun v : Vl => v.s.size) x.key ≤ 1048576 by have := hs; unfold En.sz at this; omega)
  clear hs
  have ra := (Row.new w 135 #[.slice A0 n0 c0, .int .i64 x.id]).alloc (.cells #[.slice B0 n0 d0, .int .i64 x.id] 135)
  have rb := Row.newAt (w.alloc (.cells #[.slice A0 n0 c0, .int .i64 x.id] 135)) 135 #[.slice B0 n0 d0, .int .i64 x.id] (w.heap.size + 1) (by simp)
  have hb0 := ((Below.refl w.heap.size w).alloc (Nat.le_refl _) (.cells #[.slice A0 n0 c0, .int .i64 x.id] 135)).alloc (by simp) (.cells #[.slice B0 n0 d0, .int .i64 x.id] 135)
  go_enter Tryz.func71, Tryz.ntmps71
  go_wp2_with fail
  generalize (w.alloc (.cells #[.slice A0 n0 c0, .int .i64 x.id] 135)).alloc (.cells #[.slice B0 n0 d0, .int .i64 x.id] 135) = x0 at *
  refine (lawsEqValL A0 B0 n0 c0 d0 x.key ok ok' _ (h0.below VlR.stays hb0) (k0.below VlR.stays hb0) HS0.out).mono ?_
  rintro e w1 ⟨rfl, hc0⟩
  have ra := ra.below hc0
  have rb := rb.below hc0
  have hb1 := hb0.trans (hc0.mono hb0.size)
  obtain ⟨⟨a_0_0, a_0_1⟩, -⟩ := ra.all2
  obtain ⟨⟨b_0_0, b_0_1⟩, -⟩ := rb.all2
  go_wp2_with fail
  go_ret
  exact ⟨rfl, hb1⟩
set_option maxRecDepth 100000 in
set_option maxHeartbeats 1000000 in
theorem lawsEqEntryL (A A' : Option Addr) (n c c' : Nat) (l : List En) (ok ok' : Nat → Prop) (w : World) (h : Sl EnR 2 ok w A n l) (h' : Sl EnR 2 ok' w A' n l) (hs : szL En.sz l ≤ 1048576) :
    Calls Tryz.prog 28 #[.slice A n c, .slice A' n c'] w fun e w' => e = .returned (.bool true) ∧ Below w.heap.size w w' := by
  obtain rfl : l.length = n := h.1
  have hn : l.length ≤ 1048576 := by unfold szL at hs; omega
  have HS := Lib.hid hs
  clear hs
  go_enter Tryz.func28, Tryz.ntmps28
  go_wp2
  go_loopw [5] (fun i wr => ∃ k : Nat, k ≤ l.length ∧ i = .int .i64 k ∧ Below w.heap.size w wr) (fun i _ => l.length - (intOf i).toNat)
  case atStart => exact ⟨0, by omega, rfl, Below.refl _ _⟩
  case round =>
    obtain ⟨k, hk, rfl, hb⟩ := hrel
    by_cases hlt : k < l.length
    · obtain ⟨b, off, A0, n0, c0, -, rfl, q0, q1, s0, -⟩ := EnR.at_ (h.below EnR.stays hb) hlt
      obtain ⟨b', off', B0, m0, d0, -, rfl, r0, r1, t0, -⟩ := EnR.at_ (h'.below EnR.stays hb) hlt
      obtain rfl : n0 = m0 := s0.1.symm.trans t0.1
      have i0 : (0 : Int) ≤ k := by omega
      have i1 : (k : Int) < l.length := by omega
      have hszk : l[k].sz ≤ 1048576 := by have := HS.out; have := sum_mem_le (En.sz) l k hlt; unfold szL at *; (try simp only at *); omega
      have HSK := Lib.hid hszk
      clear hszk
      go_wp2_with fail
      go_region_held3 (fun w' => w'.cell? ⟨b, off + k * 2, none⟩ = some (.slice A0 n0 c0) ∧ w'.cell? ⟨b, off + k * 2 + 1, none⟩ = some (.int .i64 l[k].id) ∧ w'.cell? ⟨b', off' + k * 2, none⟩ = some (.slice B0 n0 d0) ∧ w'.cell? ⟨b', off' + k * 2 + 1, none⟩ = some (.int .i64 l[k].id))
        (first | go_keep | exact keepE4 (by assumption) hb1)
        (first | (go_at_call 71; refine (lawsEqEntry l[k] A0 B0 n0 c0 d0 ok ok' _ (s0.drew VlR.stays) (t0.drew VlR.stays) HSK.out).mono ?_; rintro e w1 ⟨rfl, hb1⟩))
      go_wp2
      go_roundw
      case rel => exact ⟨k + 1, by omega, by go_num, hb.drew.trans (hb1.mono hb.size)⟩
      case measure => simp [intOf]; omega
    · go_wp2
      go_ret
      exact ⟨rfl, hb⟩
end Go.Proofs.YtemimhghhihllaaGreat
namespace Go.Proofs.YtemimhghhihllaaGreat
open Go.RowKit Go.Maps
def atGo (s : ByteArray) : List ByteArray → Nat → Int
  | [], _ => -1
  | x :: xs, i => if (x.toList == s.toList) = true then (i : Int) else atGo s xs (i + 1)
def atN (names : List ByteArray) (s : ByteArray) : Int := atGo s names 0
theorem atGo_snoc (s x : ByteArray) : ∀ (l : List ByteArray) (i : Nat), atGo s (l ++ [x]) i = if atGo s l i = -1 then (if (x.toList == s.toList) = true then ((i + l.length : Nat) : Int) else -1) else atGo s l i
  | [], i => by simp [atGo]
  | y :: ys, i => by
    cases hb : (y.toList == s.toList)
    · simp only [List.cons_append, atGo, hb, Bool.false_eq_true, if_false]
      rw [atGo_snoc s x ys (i + 1), show i + 1 + ys.length = i + (y :: ys).length by simp; omega]
    · simp only [List.cons_append, atGo, hb, if_true]
      rw [if_neg (by omega)]
theorem atGo_rng (s : ByteArray) : ∀ (l : List ByteArray) (i : Nat), atGo s l i = -1 ∨ ((i : Int) ≤ atGo s l i ∧ atGo s l i < i + l.length)
  | [], i => .inl rfl
  | y :: ys, i => by
    cases hb : (y.toList == s.toList)
    · simp only [atGo, hb, Bool.false_eq_true, if_false]
      rcases atGo_rng s ys (i + 1) with h1 | h1
      · exact .inl h1
      · right; simp at h1 ⊢; omega
    · simp only [atGo, hb, if_true]
      right; simp; omega
theorem atN_snoc (l : List ByteArray) (s x : ByteArray) : atN (l ++ [x]) s = if atN l s = -1 then (if (x.toList == s.toList) = true then (l.length : Int) else -1) else atN l s := by
  unfold atN; rw [atGo_snoc]; simp
theorem atN_rng (l : List ByteArray) (s : ByteArray) : atN l s = -1 ∨ (0 ≤ atN l s ∧ atN l s < l.length) := by
  rcases atGo_rng s l 0 with h | h
  · exact .inl h
  · right; unfold atN; simpa using h
def cntGo (seen : List ByteArray) : List ByteArray → Nat
  | [] => 0
  | x :: xs => (if atN seen x = -1 then 1 else 0) + cntGo (seen ++ [x]) xs
theorem cntGo_snoc (x : ByteArray) : ∀ (l seen : List ByteArray), cntGo seen (l ++ [x]) = cntGo seen l + (if atN (seen ++ l) x = -1 then 1 else 0)
  | [], seen => by simp [cntGo]
  | y :: ys, seen => by
    simp only [List.cons_append, cntGo, cntGo_snoc x ys (seen ++ [y]), List.append_assoc, List.nil_append]
    omega
def uniqGo (seen : List ByteArray) : List ByteArray → Bool
  | [] => true
  | x :: xs => decide (atN seen x = -1) && uniqGo (seen ++ [x]) xs
theorem cntGo_le : ∀ (l seen : List ByteArray), cntGo seen l ≤ l.length
  | [], _ => Nat.le_refl _
  | x :: xs, seen => by
    have := cntGo_le xs (seen ++ [x])
    simp only [cntGo, List.length_cons]
    split <;> omega
theorem cntGo_uniq : ∀ (l seen : List ByteArray), (cntGo seen l == l.length) = uniqGo seen l
  | [], _ => rfl
  | x :: xs, seen => by
    have h1 := cntGo_le xs (seen ++ [x])
    have h2 := cntGo_uniq xs (seen ++ [x])
    simp only [cntGo, uniqGo, List.length_cons, ← h2]
    by_cases h : atN seen x = -1
    · rw [if_pos h, decide_eq_true h, Bool.true_and, Bool.eq_iff_iff]; simp; omega
    · rw [if_neg h, decide_eq_false h, Bool.false_and]; simp; omega
def keyS (s : ByteArray) : Lit := .string s.data.toList
def PlacesIn (w : World) (b : Nat) (names : List ByteArray) : Prop := ∃ D : DataW Unit, w.ownsMap Tryz.prog 9 (plainElem Tryz.prog 2) b names.length D ∧ Tidy D ∧
  (∀ s : ByteArray, Maps.has D (keyS s) = decide (atN names s ≠ -1)) ∧ (∀ s : ByteArray, atN names s ≠ -1 → D.atKey (keyS s) (.lit (.int .i64 0)) = .lit (.int .i64 (atN names s))) ∧ Maps.size D = cntGo [] names
theorem keyS_key (s : ByteArray) : WideAt.IsKeyLit (keyS s) := by first | trivial | (simp [keyS, WideAt.IsKeyLit]) | (unfold keyS WideAt.IsKeyLit; trivial)
theorem keyS_of (s : ByteArray) (hs : s.size ≤ maxLen) : Go.keyOf Tryz.prog 9 (.string s) = some (keyS s) := Go.WideMaps.keyOf_string_mk Tryz.underlying9 hs
theorem lawS : Keyed Tryz.prog 9 := string_keyed Tryz.underlying9
theorem zeroI (w : World) : (zeroValue 2).run Tryz.prog w = .ok (.int .i64 0) w := by kernel_rfl
theorem keyS_eq {s x : ByteArray} : keyS x = keyS s ↔ (x.toList == s.toList) = true := by
  rw [ByteArray.toList_eq, ByteArray.toList_eq]
  simp [keyS]
theorem PlacesIn.made (w : World) : PlacesIn (w.alloc (.map #[] 0)) w.heap.size [] :=
  ⟨.map [], World.ownsMap_made _ _ _ _, tidy_empty, fun s => by simp [Maps.has, atN, atGo], fun s h => absurd rfl h, rfl⟩
theorem PlacesIn.kept {w w' : World} {b : Nat} {names : List ByteArray} {row : Option Nat} (h : PlacesIn w b names) (hg : w.grownBy w' row) (hne : some b ≠ row) : PlacesIn w' b names := by
  obtain ⟨D, h1, h2, h3, h4, h5⟩ := h
  exact ⟨D, h1.kept hg hne, h2, h3, h4, h5⟩
theorem PlacesIn.alloc {w : World} {b : Nat} {names : List ByteArray} (h : PlacesIn w b names) (o : Obj) : PlacesIn (w.alloc o) b names := h.kept (World.grownBy_alloc w o none) (by simp)
theorem PlacesIn.drew {w : World} {b : Nat} {names : List ByteArray} (h : PlacesIn w b names) : PlacesIn w.drew b names := h
theorem places_more {w' : World} {b : Nat} {names : List ByteArray} {s : ByteArray} {D : DataW Unit} (hno : atN names s = -1) (h1 : w'.ownsMap Tryz.prog 9 (plainElem Tryz.prog 2) b (names.length + 1) (D.put (keyS s) (.lit (.int .i64 names.length)))) (h2 : Tidy D)
    (h3 : ∀ s : ByteArray, Maps.has D (keyS s) = decide (atN names s ≠ -1)) (h4 : ∀ s : ByteArray, atN names s ≠ -1 → D.atKey (keyS s) (.lit (.int .i64 0)) = .lit (.int .i64 (atN names s))) (h5 : Maps.size D = cntGo [] names) : PlacesIn w' b (names ++ [s]) := by
  refine ⟨_, by simpa using h1, h2.put (keyS_key s) _, fun u => ?_, fun u hu => ?_, by
    rw [Maps.size_put h2, h3 s, decide_eq_false (by simp [hno]), cntGo_snoc, List.nil_append, if_pos hno, ← h5]; rfl⟩
  · rw [atN_snoc]
    by_cases e : keyS u = keyS s
    · rw [e, Maps.has_put_same h2.isMap (keyS_key s)]
      have e2 : (s.toList == u.toList) = true := keyS_eq.1 e.symm
      by_cases hu : atN names u = -1
      · rw [if_pos hu, if_pos e2]; simp
      · rw [if_neg hu]; simp [hu]
    · rw [Maps.has_put_other e, h3]
      have e2 : ¬ (s.toList == u.toList) = true := fun h => e (keyS_eq.2 h).symm
      by_cases hu : atN names u = -1
      · rw [if_pos hu, if_neg e2]; simp [hu]
      · rw [if_neg hu]
  · rw [atN_snoc] at hu ⊢
    by_cases e : keyS u = keyS s
    · have e2 : (s.toList == u.toList) = true := keyS_eq.1 e.symm
      have hu2 : atN names u = -1 := by
        have e3 : s.toList = u.toList := by simpa using e2
        have : atN names u = atN names s := by
          have hh : ∀ (l : List ByteArray) (i : Nat), atGo u l i = atGo s l i := by
            intro l
            induction l with
            | nil => intro i; rfl
            | cons y ys ih => intro i; simp only [atGo, e3, ih]
          exact hh _ _
        rw [this]; exact hno
      rw [if_pos hu2, if_pos e2, e, Maps.atKey_put_same h2.isMap (keyS_key s)]
    · have e2 : ¬ (s.toList == u.toList) = true := fun h => e (keyS_eq.2 h).symm
      by_cases hu2 : atN names u = -1
      · rw [if_pos hu2, if_neg e2] at hu; exact absurd rfl hu
      · rw [if_neg hu2] at hu ⊢
        rw [Maps.atKey_put_other e]
        exact h4 u hu2
theorem places_same {w : World} {b : Nat} {names : List ByteArray} {s : ByteArray} (hyes : atN names s ≠ -1) (h : PlacesIn w b names) : PlacesIn w b (names ++ [s]) := by
  obtain ⟨D, h1, h2, h3, h4, h5⟩ := h
  have key : ∀ u, atN (names ++ [s]) u = atN names u := fun u => by
    rw [atN_snoc]
    by_cases hu : atN names u = -1
    · rw [if_pos hu]
      by_cases e : (s.toList == u.toList) = true
      · exfalso
        have e3 : s.toList = u.toList := by simpa using e
        have hh : ∀ (l : List ByteArray) (i : Nat), atGo u l i = atGo s l i := by
          intro l
          induction l with
          | nil => intro i; rfl
          | cons y ys ih => intro i; simp only [atGo, e3, ih]
        exact hyes ((hh names 0).symm.trans hu)
      · rw [if_neg e, hu]
    · rw [if_neg hu]
  exact ⟨D, h1.mono (by simp), h2, fun u => by rw [key]; exact h3 u, fun u hu => by rw [key] at hu ⊢; exact h4 u hu, by rw [cntGo_snoc, List.nil_append, if_neg hyes, Nat.add_zero]; exact h5⟩
theorem implAddFirst (b : Nat) (names : List ByteArray) (s : ByteArray) (w : World) (h : PlacesIn w b names) (hs : s.size ≤ maxLen) (hn : names.length ≤ 1048576) :
    Calls Tryz.prog 186 #[.map (some b), .string s, .int .i64 names.length] w fun e w' => e = .returned (.tuple #[]) ∧ PlacesIn w' b (names ++ [s]) ∧ w.grownBy w' (some b) := by
  obtain ⟨D, h1, h2, h3, h4, h5⟩ := h
  have wf : (Lit.int .i64 (names.length : Int)).wf = true := WalkArith.wf_i64 (by omega)
  have hval := plainElem_int (H := Unit) Tryz.underlying2 wf
  by_cases hno : atN names s = -1
  · have hh := h3 s
    rw [decide_eq_false (by simp [hno])] at hh
    have HH := Lib.hid hh
    have HN := Lib.hid hno
    have H3 := Lib.hid h3
    have H4 := Lib.hid h4
    have H5 := Lib.hid h5
    clear hh hno h3 h4 h5
    go_enter Tryz.func186, Tryz.ntmps186
    go_wp2_with (first
      | (at_lookup; refine wpList_lookup_own_ok_int _ rfl _ _ 227 rfl 9 2 .i64 lawS Tryz.underlying227 Tryz.underlying2 (zeroI _) b names.length D rfl h1 _ _ rfl (keyS_of s hs) ?_; intro c hat hwc; rw [HH.out])
      | (at_mapUpdate; refine wpList_mapUpdate_own _ rfl _ _ _ 227 rfl 9 2 lawS Tryz.underlying227 _ b names.length D rfl h1 (by unfold maxLen; omega) _ _ _ rfl rfl (keyS_of s hs) _ [] hval ?_; intro w1 hown1 hgrow1))
    go_end0
    exact ⟨rfl, places_more HN.out hown1 h2 H3.out H4.out H5.out, hgrow1⟩
  · have hh := h3 s
    rw [decide_eq_true hno] at hh
    have HH := Lib.hid hh
    have HP := Lib.hid (places_same hno ⟨D, h1, h2, h3, h4, h5⟩)
    clear hh hno h3 h4 h5
    go_enter Tryz.func186, Tryz.ntmps186
    go_wp2_with (first
      | (at_lookup; refine wpList_lookup_own_ok_int _ rfl _ _ 227 rfl 9 2 .i64 lawS Tryz.underlying227 Tryz.underlying2 (zeroI _) b names.length D rfl h1 _ _ rfl (keyS_of s hs) ?_; intro c hat hwc; rw [HH.out]))
    go_end0
    exact ⟨rfl, HP.out, ⟨rfl, rfl, rfl, Nat.le_refl _, fun _ _ _ => rfl⟩⟩
end Go.Proofs.YtemimhghhihllaaGreat
