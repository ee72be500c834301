/-
  Several texts in one: what the proof leans on, part 1.
-/
import Derived.Test.YtlpfpcnafejkoaaRows
import Derived.WalkKit
import Derived.ProofKit
import Derived.OpenShut
import Derived.ShutString
import Derived.ChangeOld
import Derived.Below
import Derived.Lib.SmallJoins
import Derived.Lib.Hide
import Derived.Deep.QuietTactic
import Derived.BigQuiet
import Derived.WalkSpells
import Derived.WalkLawsBesides
import Derived.Deep.Slices
import Derived.Deep.WholeRow
import Derived.Laws.StructEq
import Derived.Deep.RegionHeld3
import Derived.Stop.Asserts
import Derived.Deep.RegionWith
import Derived.Deep.LoopGhost
import Derived.Laws.IdiomStrings
import Derived.Maps.AppendAt
import Derived.Lib.SliceRun
import Derived.Maps.Own
import Derived.Maps.OwnOps
import Derived.Maps.OwnSet
import Derived.IntWalk
set_option linter.unusedVariables false
set_option linter.unusedSimpArgs false
namespace Go.Proofs.Ytlpfpcnafejkoaa
theorem pz0 {α : Type _} {l : List α} {i : Nat} (h : i < l.toArray.size) : l.toArray[i] = l[i] := rfl
theorem pz1 {α : Type _} (a : α) (l : List α) (h : 0 < (a :: l).length) : (a :: l)[0] = a := rfl
theorem pz2 {α : Type _} (a : α) (l : List α) (i : Nat) (h : i + 1 < (a :: l).length) : (a :: l)[i + 1] = l[i]'(Nat.lt_of_succ_lt_succ h) := rfl
theorem pz3 {α : Type _} (l : List α) (i : Nat) (a : α) : l.toArray.setIfInBounds i a = (l.set i a).toArray := List.setIfInBounds_toArray l i a
theorem pz4 {α : Type _} {x : α} {l : List α} {a : α} : (x :: l).set 0 a = a :: l := rfl
theorem pz5 {α : Type _} {x : α} {l : List α} {i : Nat} {a : α} : (x :: l).set (i + 1) a = x :: l.set i a := rfl
end Go.Proofs.Ytlpfpcnafejkoaa
namespace Go.Proofs.Ytlpfpcnafejkoaa
open Go.ChangeShapes Go.WideShapes Go.ChangeAt Go.RowKit Go.Joins
theorem own : ownKnob Try.prog.godebug = none := by kernel_rfl
theorem laidOut : laidOutB Try.prog = true := by kernel_rfl
def IsVal (k n : Int) (s : ByteArray) : Prop := (Lit.int .i64 k).wf = true ∧ (Lit.int .i64 n).wf = true ∧ s.size ≤ maxLen
end Go.Proofs.Ytlpfpcnafejkoaa
namespace Go.Proofs.Ytlpfpcnafejkoaa
open Go.RowKit
theorem cell_lt {w : World} {p : Addr} {v : Value} (h : w.cell? p = some v) : p.block < w.heap.size := by
  by_cases hb : p.block < w.heap.size
  · exact hb
  · simp [World.cell?, Array.getElem?_eq_none (Nat.le_of_not_lt hb)] at h
theorem retB {a b : Bool} (h : a = b) : Ending.returned (.bool a) = .returned (.bool b) := by rw [h]
theorem retI {k : IntKind} {a b : Int} (h : a = b) : Ending.returned (.int k a) = .returned (.int k b) := by rw [h]
end Go.Proofs.Ytlpfpcnafejkoaa
namespace Go.Proofs.Ytlpfpcnafejkoaa
open Go.ChangeShapes Go.WideShapes Go.ChangeAt Go.RowKit Go.Joins Go.Deep
def Cellz (w : World) (sz : Nat) (A : Option Addr) (n : Nat) (xss : List (List Value)) : Prop :=
  xss.length = n ∧ (∀ c ∈ xss, c.length = sz) ∧
  (0 < n → ∃ b off, A = some ⟨b, off, none⟩ ∧ ∀ (i : Nat) (h : i < xss.length) (j : Nat) (h' : j < (xss[i]).length), w.cell? ⟨b, off + (i * sz + j), none⟩ = some (xss[i])[j])
theorem Cellz.keep {w w' : World} {sz : Nat} {A : Option Addr} {n : Nat} {xss : List (List Value)} (h : Cellz w sz A n xss) (hk : ∀ p v, w.cell? p = some v → w'.cell? p = some v) : Cellz w' sz A n xss :=
  ⟨h.1, h.2.1, fun hn => by
    obtain ⟨b, off, e, hc⟩ := h.2.2 hn
    exact ⟨b, off, e, fun i hi j hj => hk _ _ (hc i hi j hj)⟩⟩
theorem Cellz.below {w w' : World} {sz : Nat} {A : Option Addr} {n : Nat} {xss : List (List Value)} (h : Cellz w sz A n xss) (hb : Below w.heap.size w w') : Cellz w' sz A n xss :=
  h.keep fun _ _ hp => (hb.cell (cell_lt hp)).trans hp
theorem addr_add (b off i : Nat) : (⟨b, off, none⟩ : Addr).add i = ⟨b, off + i, none⟩ := by
  unfold Addr.add; split
  · subst_vars; rfl
  · rfl
theorem cellz_of_trod {H : Type} {enc : TypeId × Value → H} {P : Program} {W : World} {fuel : Nat} {t e : TypeId} {sz : Nat} {a : Option Addr} {len cap : Nat} {x : DataW H × List MemPlace}
    (ht : P.underlying t = some (.slice e)) (hC : P.cellsOf e = sz) (h0 : 0 < sz)
    (h : DataW.trod enc P W 0 (fun _ => true) true fuel t [.slice a len cap] = some x) :
    ∃ xss, Cellz W sz a len xss ∧ len ≤ maxLen ∧ ∀ c ∈ xss, ∃ n y, DataW.trod enc P W 0 (fun _ => true) true n e c = some y := by
  rcases open_slice ht h with ⟨hcs, _⟩ | ⟨ad, l, c, m, n, D, Pl, hcs, _, hl, hm, hmm, _, hi⟩
  · simp at hcs
    obtain ⟨rfl, rfl, rfl⟩ := hcs
    exact ⟨[], ⟨rfl, by simp, fun h => absurd h (by omega)⟩, by omega, by simp⟩
  · simp at hcs
    obtain ⟨rfl, rfl, rfl⟩ := hcs
    rw [hC] at hi
    simp at hmm
    have hch : ∀ i, ∃ cs', i < len → W.cells? 0 (ad.add (i * sz)) sz = some cs' ∧ ∃ n y, DataW.trod enc P W 0 (fun _ => true) true n e cs' = some y := by
      intro i
      by_cases hlt : i < len
      · obtain ⟨cs', h1, h2⟩ := hi i (by omega)
        exact ⟨cs', fun _ => ⟨h1, _, _, h2⟩⟩
      · exact ⟨[], fun h => absurd h hlt⟩
    obtain ⟨f, hf⟩ := Classical.axiomOfChoice hch
    refine ⟨(List.range len).map f, ⟨by simp, ?_, ?_⟩, by omega, ?_⟩
    · intro c hc
      simp only [List.mem_map, List.mem_range] at hc
      obtain ⟨i, hi, rfl⟩ := hc
      exact (World.cells?_some (hf i hi).1).2.1
    · intro hn
      obtain ⟨b, off, spot⟩ := ad
      have hspot : spot = none := by
        obtain ⟨_, hcl, hat⟩ := World.cells?_some (hf 0 hn).1
        have h1 := hat 0 h0
        rw [List.getElem?_eq_getElem (by omega)] at h1
        have := World.cell?_spot h1
        simpa [Addr.add] using this
      subst hspot
      refine ⟨b, off, rfl, fun i hi j hj => ?_⟩
      simp only [List.length_map, List.length_range] at hi
      simp only [List.getElem_map, List.getElem_range] at hj ⊢
      obtain ⟨_, hcl, hat⟩ := World.cells?_some (hf i hi).1
      have h1 := hat j (by omega)
      rw [List.getElem?_eq_getElem hj, addr_add, addr_add] at h1
      rw [← h1, Nat.add_assoc]
    · intro c hc
      simp only [List.mem_map, List.mem_range] at hc
      obtain ⟨i, hi, rfl⟩ := hc
      exact (hf i hi).2
theorem val_of_trod {H : Type} {enc : TypeId × Value → H} {P : Program} {W : World} {fuel : Nat} {t : TypeId} {f0 f1 f2 : Field} {cs : List Value} {x : DataW H × List MemPlace}
    (hs : P.underlying t = some (.struct #[f0, f1, f2])) (hC : P.cellsOf t = 3) (o : f0.offset = 0 ∧ f1.offset = 1 ∧ f2.offset = 2) (hc0 : P.cellsOf f0.type = 1) (hc1 : P.cellsOf f1.type = 1) (hc2 : P.cellsOf f2.type = 1)
    (h0 : P.underlying f0.type = some (.int .i64)) (h1 : P.underlying f1.type = some (.int .i64)) (h2 : P.underlying f2.type = some .string)
    (h : DataW.trod enc P W 0 (fun _ => true) true fuel t cs = some x) :
    ∃ k n s, cs = [.int .i64 k, .int .i64 n, .string s] ∧ IsVal k n s := by
  obtain ⟨xs, n, _, _, hl, hlen, hf⟩ := DataW.trod_struct hs h
  rw [hC] at hl
  match cs, hl, xs, hlen with
  | [c0, c1, c2], _, [y0, y1, y2], _ =>
    have g0 := hf 0 f0 rfl
    have g1 := hf 1 f1 rfl
    have g2 := hf 2 f2 rfl
    rw [o.1, hc0] at g0
    rw [o.2.1, hc1] at g1
    rw [o.2.2, hc2] at g2
    simp at g0 g1 g2
    obtain ⟨k, q0, -, wk⟩ := DataW.trod_int h0 g0
    obtain ⟨n, q1, -, wn⟩ := DataW.trod_int h1 g1
    obtain ⟨s, q2, -, ws⟩ := DataW.trod_string h2 g2
    simp at q0 q1 q2
    subst q0 q1 q2
    exact ⟨k, n, s, rfl, wk, wn, ws⟩
def Row (w : World) (g : Nat) (T : TypeId) (cs : Array Value) : Prop := w.heap[g]? = some (.cells cs T (0, 0))
theorem Row.set {w : World} {g : Nat} {T : TypeId} {cs : Array Value} (h : Row w g T cs) (i : Nat) (v : Value) : Row (w.setCell ⟨g, i, none⟩ v) g T (cs.setIfInBounds i v) := by
  unfold Row at h ⊢
  simp [World.setCell, Array.getElem?_modify, h]
theorem Row.cell {w : World} {g : Nat} {T : TypeId} {cs : Array Value} (h : Row w g T cs) (i : Nat) : w.cell? ⟨g, i, none⟩ = cs[i]? := cell_of_row w g i cs T (0, 0) h
theorem Row.free {w : World} {g : Nat} {T : TypeId} {cs : Array Value} (h : Row w g T cs) (i : Nat) : w.frozen? ⟨g, i, none⟩ = false := by
  unfold Row at h
  simp [World.frozen?, h]
theorem Row.below {w w' : World} {g : Nat} {T : TypeId} {cs : Array Value} (h : Row w g T cs) (hb : Below w.heap.size w w') : Row w' g T cs := (hb.block g (lt_of_block h)).trans h
theorem Row.new (w : World) (T : TypeId) (cs : Array Value) : Row (w.alloc (.cells cs T)) w.heap.size T cs := Go.heap_alloc_last w _
theorem Row.alloc {w : World} {g : Nat} {T : TypeId} {cs : Array Value} (h : Row w g T cs) (o : Obj) : Row (w.alloc o) g T cs := (Below.heap_alloc w o g (lt_of_block h)).trans h
theorem Row.drew {w : World} {g : Nat} {T : TypeId} {cs : Array Value} (h : Row w g T cs) : Row w.drew g T cs := h
theorem Row.far {w : World} {g : Nat} {T : TypeId} {cs : Array Value} (h : Row w g T cs) {p : Addr} (hp : g ≠ p.block) (v : Value) : Row (w.setCell p v) g T cs := (Below.heap_setCell w p v g hp).trans h
theorem Row.newAt (w : World) (T : TypeId) (cs : Array Value) (g : Nat) (hg : w.heap.size = g) : Row (w.alloc (.cells cs T)) g T cs := hg ▸ Row.new w T cs
abbrev Rd (α : Type) := (Nat → Prop) → World → List Value → α → Prop
def Sl {α : Type} (R : Rd α) (sz : Nat) (ok : Nat → Prop) (w : World) (A : Option Addr) (n : Nat) (ds : List α) : Prop :=
  ds.length = n ∧ (0 < n → ∃ b off, A = some ⟨b, off, none⟩ ∧ ok b ∧ ∀ (i : Nat) (h : i < ds.length), ∃ cs : List Value, cs.length = sz ∧ R ok w cs ds[i] ∧ ∀ (j : Nat) (v : Value), cs[j]? = some v → w.cell? ⟨b, off + i * sz + j, none⟩ = some v)
def Stays {α : Type} (R : Rd α) : Prop := ∀ (ok ok' : Nat → Prop) (w w' : World) (cs : List Value) (d : α), R ok w cs d → (∀ b, ok b → ok' b) → (∀ p v, ok p.block → w.cell? p = some v → w'.cell? p = some v) → R ok' w' cs d
theorem Sl.stays {α : Type} {R : Rd α} (hR : Stays R) {sz : Nat} {ok ok' : Nat → Prop} {w w' : World} {A : Option Addr} {n : Nat} {ds : List α} (h : Sl R sz ok w A n ds) (ho : ∀ b, ok b → ok' b) (hk : ∀ p v, ok p.block → w.cell? p = some v → w'.cell? p = some v) : Sl R sz ok' w' A n ds :=
  ⟨h.1, fun hn => by
    obtain ⟨b, off, e, hb, hi⟩ := h.2 hn
    refine ⟨b, off, e, ho b hb, fun i hlt => ?_⟩
    obtain ⟨cs, h1, h2, h3⟩ := hi i hlt
    exact ⟨cs, h1, hR _ _ _ _ _ _ h2 ho hk, fun j v hv => hk _ _ hb (h3 j v hv)⟩⟩
theorem below_keep {w w' : World} (hb : Below w.heap.size w w') : ∀ p v, w.cell? p = some v → w'.cell? p = some v := fun _ _ hp => (hb.cell (cell_lt hp)).trans hp
theorem Sl.below {α : Type} {R : Rd α} (hR : Stays R) {sz : Nat} {ok : Nat → Prop} {w w' : World} {A : Option Addr} {n : Nat} {ds : List α} (h : Sl R sz ok w A n ds) (hb : Below w.heap.size w w') : Sl R sz ok w' A n ds :=
  h.stays hR (fun _ h => h) fun p v _ hp => below_keep hb p v hp
def FlatR {α : Type} (f : α → List Value) : Rd α := fun _ _ cs d => cs = f d
theorem FlatR.stays {α : Type} (f : α → List Value) : Stays (FlatR f) := fun _ _ _ _ _ _ h _ _ => h
theorem Sl.cellz {α : Type} {f : α → List Value} {sz : Nat} {ok : Nat → Prop} {w : World} {A : Option Addr} {n : Nat} {ds : List α} (hf : ∀ d, (f d).length = sz) (h : Sl (FlatR f) sz ok w A n ds) : Cellz w sz A n (ds.map f) := by
  refine ⟨by simpa using h.1, fun c hc => by obtain ⟨d, _, rfl⟩ := List.mem_map.1 hc; exact hf d, fun hn => ?_⟩
  obtain ⟨b, off, e, hb, hi⟩ := h.2 hn
  refine ⟨b, off, e, fun i hlt j hj => ?_⟩
  obtain ⟨cs, h1, h2, h3⟩ := hi i (by simpa using hlt)
  have e2 : (ds.map f)[i] = cs := by rw [List.getElem_map]; exact h2.symm
  rw [← Nat.add_assoc]
  exact h3 j _ (by rw [List.getElem?_eq_some_iff]; exact ⟨by rw [e2] at hj; exact hj, by simp only [e2]⟩)
def LaidR {α : Type} (R : Rd α) (sz : Nat) (ok : Nat → Prop) (w : World) (cs : Array Value) (k : Nat) (ds : List α) : Prop :=
  ∀ (i : Nat) (h : i < ds.length), i < k → ∃ c : List Value, c.length = sz ∧ R ok w c ds[i] ∧ ∀ (j : Nat) (v : Value), c[j]? = some v → cs[i * sz + j]? = some v
theorem LaidR.zero {α : Type} (R : Rd α) (sz : Nat) (ok : Nat → Prop) (w : World) (cs : Array Value) (ds : List α) : LaidR R sz ok w cs 0 ds := fun _ _ h => by omega
theorem LaidR.more {α : Type} {R : Rd α} {sz : Nat} {ok : Nat → Prop} {w : World} {cs cs' : Array Value} {k : Nat} {ds : List α} (h : LaidR R sz ok w cs k ds) (hk : k < ds.length) {c : List Value} (hc : c.length = sz) (hr : R ok w c ds[k])
    (hold : ∀ m, m < k * sz → cs'[m]? = cs[m]?) (hnew : ∀ (j : Nat) (v : Value), c[j]? = some v → cs'[k * sz + j]? = some v) : LaidR R sz ok w cs' (k + 1) ds := fun i hi hlt => by
  by_cases e : i = k
  · subst e
    exact ⟨c, hc, hr, hnew⟩
  · obtain ⟨c', h1, h2, h3⟩ := h i hi (by omega)
    refine ⟨c', h1, h2, fun j v hv => ?_⟩
    have hj : j < sz := by obtain ⟨hj, _⟩ := List.getElem?_eq_some_iff.1 hv; omega
    rw [hold _ ?_]
    · exact h3 j v hv
    · have : (i + 1) * sz ≤ k * sz := Nat.mul_le_mul_right _ (by omega)
      rw [Nat.add_mul] at this
      omega
theorem sl_of_laid {α : Type} {R : Rd α} {sz : Nat} {ok : Nat → Prop} {w : World} {g : Nat} {T : TypeId} {cs : Array Value} {k : Nat} {ds : List α} (hr : Row w g T cs) (hg : ok g) (h : LaidR R sz ok w cs k ds) (hk : ds.length ≤ k) : Sl R sz ok w (some ⟨g, 0, none⟩) ds.length ds :=
  ⟨rfl, fun _ => ⟨g, 0, rfl, hg, fun i hi => by
    obtain ⟨c, h1, h2, h3⟩ := h i hi (by omega)
    refine ⟨c, h1, h2, fun j v hv => ?_⟩
    rw [Nat.zero_add, hr.cell]
    exact h3 j v hv⟩⟩
theorem list_of_rel {α β : Type} {r : β → α → Prop} {q : α → Prop} : ∀ xss : List β, (∀ c ∈ xss, ∃ d, r c d ∧ q d) → ∃ ds : List α, ds.length = xss.length ∧ (∀ (i : Nat) (h : i < xss.length) (h' : i < ds.length), r xss[i] ds[i]) ∧ ∀ d ∈ ds, q d
  | [], _ => ⟨[], rfl, fun i h => absurd h (by simp), by simp⟩
  | c :: cs, h => by
    obtain ⟨d, hr, hq⟩ := h c (by simp)
    obtain ⟨ds, h1, h2, h3⟩ := list_of_rel cs fun c' hc => h c' (by simp [hc])
    refine ⟨d :: ds, by simp [h1], fun i hi hi' => ?_, by simpa using ⟨hq, h3⟩⟩
    cases i with
    | zero => exact hr
    | succ i => exact h2 i (by simpa using hi) (by simpa using hi')
theorem sl_of_trod {α : Type} {R : Rd α} {q : α → Prop} {H : Type} {enc : TypeId × Value → H} {P : Program} {W : World} {fuel : Nat} {t e : TypeId} {sz : Nat} {a : Option Addr} {len cap : Nat} {x : DataW H × List MemPlace}
    (ht : P.underlying t = some (.slice e)) (hC : P.cellsOf e = sz) (h0 : 0 < sz) (hR : ∀ n c y, DataW.trod enc P W 0 (fun _ => true) true n e c = some y → ∃ d, R (fun _ => True) W c d ∧ q d)
    (h : DataW.trod enc P W 0 (fun _ => true) true fuel t [.slice a len cap] = some x) :
    ∃ ds, Sl R sz (fun _ => True) W a len ds ∧ ds.length ≤ maxLen ∧ ∀ d ∈ ds, q d := by
  obtain ⟨xss, ⟨hl, hz, hc⟩, hm, hr⟩ := cellz_of_trod (sz := sz) ht hC h0 h
  obtain ⟨ds, h1, h2, h3⟩ := list_of_rel (r := fun c d => R (fun _ => True) W c d) (q := q) xss fun c hc => by
    obtain ⟨n, y, hy⟩ := hr c hc
    exact hR _ _ _ hy
  refine ⟨ds, ⟨by omega, fun hn => ?_⟩, by omega, h3⟩
  obtain ⟨b, off, e, hi⟩ := hc hn
  refine ⟨b, off, e, trivial, fun i hlt => ⟨xss[i], hz _ (List.getElem_mem (by omega)), h2 i (by omega) hlt, fun j v hv => ?_⟩⟩
  obtain ⟨hj, hv'⟩ := List.getElem?_eq_some_iff.1 hv
  rw [Nat.add_assoc, hi i (by omega) j hj, hv']
end Go.Proofs.Ytlpfpcnafejkoaa
namespace Go.Proofs.Ytlpfpcnafejkoaa
open Go.RowKit
def valOkB (k n : Int) (s : ByteArray) : Bool :=
  if k = 0 then n == 0 && s.toList.isEmpty else if k = 1 then decide (-1000000000 ≤ n) && decide (n ≤ 1000000000) && s.toList.isEmpty else if k = 2 then n == 0 && decide ((s.size : Int) ≤ 12) else false
theorem specIn (n lo hi : Int) (w : World) :
    Calls Try.prog 49 #[.int .i64 n, .int .i64 lo, .int .i64 hi] w fun e w' => e = .returned (.bool (decide (lo ≤ n) && decide (n ≤ hi))) ∧ w = w' := by
  by_cases h : lo ≤ n
  · go_enter Try.func49, Try.ntmps49
    go_wp2
    go_ret
    exact ⟨retB (by simp [h]), rfl⟩
  · have h' : decide (lo ≤ n) = false := by simpa using h
    go_enter Try.func49, Try.ntmps49
    go_wp2
    go_ret
    exact ⟨retB (by simp), rfl⟩
theorem specValOk (k n : Int) (s : ByteArray) (w : World) :
    Calls Try.prog 61 #[.agg #[.int .i64 k, .int .i64 n, .string s]] w fun e w' => e = .returned (.bool (valOkB k n s)) ∧ Below w.heap.size w w' := by
  have hb := fun o => (Below.refl w.heap.size w).alloc (Nat.le_refl _) o
  have HB := Lib.hid hb
  clear hb
  by_cases k0 : k = 0
  · subst k0
    go_enter Try.func61, Try.ntmps61
    go_wp2
    all_goals
      go_ret
      exact ⟨retB (by simp [valOkB, *]), HB.out _⟩
  have d0 : (k == 0) = false := by simpa using k0
  by_cases k1 : k = 1
  · subst k1
    by_cases h : (decide (-1000000000 ≤ n) && decide (n ≤ 1000000000)) = true
    · go_enter Try.func61, Try.ntmps61
      go_wp2_with (go_at_call 49; refine (specIn _ _ _ _).mono ?_; rintro e w' ⟨rfl, rfl⟩)
      go_ret
      exact ⟨retB (by simp [valOkB] at h ⊢; simp [h]), HB.out _⟩
    · have h' : (decide (-1000000000 ≤ n) && decide (n ≤ 1000000000)) = false := by simpa using h
      go_enter Try.func61, Try.ntmps61
      go_wp2_with (go_at_call 49; refine (specIn _ _ _ _).mono ?_; rintro e w' ⟨rfl, rfl⟩)
      go_ret
      exact ⟨retB (by simp [valOkB, h']), HB.out _⟩
  have d1 : (k == 1) = false := by simpa using k1
  by_cases k2 : k = 2
  · subst k2
    by_cases h : n = 0
    · subst h
      go_enter Try.func61, Try.ntmps61
      go_wp2
      go_ret
      exact ⟨retB (by simp [valOkB]), HB.out _⟩
    · have h' : (n == 0) = false := by simpa using h
      go_enter Try.func61, Try.ntmps61
      go_wp2
      go_ret
      exact ⟨retB (by simp [valOkB, h']), HB.out _⟩
  · have d2 : (k == 2) = false := by simpa using k2
    go_enter Try.func61, Try.ntmps61
    go_wp2
    go_ret
    exact ⟨retB (by simp [valOkB, k0, k1, k2]), HB.out _⟩
theorem as_num_num (v : Value) (w : World) : (Instr.typeAssert (.iface 104 v) 97 104 true).run Try.prog w = .ok (.tuple #[v, .bool true]) w := by kernel_rfl
theorem as_str_num (v : Value) (w : World) : (Instr.typeAssert (.iface 105 v) 97 104 true).run Try.prog w = .ok (.tuple #[.int .i64 0, .bool false]) w := by kernel_rfl
theorem as_str_str (v : Value) (w : World) : (Instr.typeAssert (.iface 105 v) 97 105 true).run Try.prog w = .ok (.tuple #[v, .bool true]) w := by kernel_rfl
theorem as_not_num (v : Value) (w : World) : (Instr.typeAssert (.iface 103 v) 97 104 true).run Try.prog w = .ok (.tuple #[.int .i64 0, .bool false]) w := by kernel_rfl
theorem as_not_str (v : Value) (w : World) : (Instr.typeAssert (.iface 103 v) 97 105 true).run Try.prog w = .ok (.tuple #[.string ByteArray.empty, .bool false]) w := by kernel_rfl
theorem implValOfNum (n : Int) (w : World) :
    Calls Try.prog 76 #[.iface 104 (.int .i64 n)] w fun e w' => e = .returned (.agg #[.int .i64 1, .int .i64 n, .string ⟨#[]⟩]) ∧ Below w.heap.size w w' := by
  have as1 := as_num_num
  go_enter Try.func76, Try.ntmps76
  go_wp2
  exact bodyPost_ret (v := .agg #[.int .i64 1, .int .i64 n, .string ⟨#[]⟩]) (by simp [results, Try.results76, go_sem]) rfl ⟨rfl, (Below.refl _ _).alloc (Nat.le_refl _) _⟩
theorem implValOfStr (s : ByteArray) (w : World) :
    Calls Try.prog 76 #[.iface 105 (.string s)] w fun e w' => e = .returned (.agg #[.int .i64 2, .int .i64 0, .string s]) ∧ Below w.heap.size w w' := by
  have as1 := as_str_num
  have as2 := as_str_str
  go_enter Try.func76, Try.ntmps76
  go_wp2
  exact bodyPost_ret (v := .agg #[.int .i64 2, .int .i64 0, .string s]) (by simp [results, Try.results76, go_sem]) rfl ⟨rfl, (Below.refl _ _).alloc (Nat.le_refl _) _⟩
theorem implValOfNot (w : World) :
    Calls Try.prog 76 #[.iface 103 (.agg #[])] w fun e w' => e = .returned (.agg #[.int .i64 0, .int .i64 0, .string ⟨#[]⟩]) ∧ Below w.heap.size w w' := by
  have as1 := as_not_num
  have as2 := as_not_str
  go_enter Try.func76, Try.ntmps76
  go_wp2
  exact bodyPost_ret (v := .agg #[.int .i64 0, .int .i64 0, .string ⟨#[]⟩]) (by simp [results, Try.results76, go_sem]) rfl ⟨rfl, (Below.refl _ _).alloc (Nat.le_refl _) _⟩
theorem rightOfNot (w : World) : (method 226 103 (.agg #[]) "loop.example/g00570/impl.right").run Try.prog w = .ok (94, .agg #[]) w := by kernel_rfl
theorem rightOfNum (n : Int) (w : World) : (method 226 104 (.int .i64 n) "loop.example/g00570/impl.right").run Try.prog w = .ok (96, .int .i64 n) w := by kernel_rfl
theorem rightOfStr (s : ByteArray) (w : World) : (method 226 105 (.string s) "loop.example/g00570/impl.right").run Try.prog w = .ok (98, .string s) w := by kernel_rfl
theorem rightNot (w : World) : Calls Try.prog 94 #[.agg #[]] w fun e w' => e = .returned (.bool true) ∧ Below w.heap.size w w' := by
  go_enter Try.func94, Try.ntmps94
  go_wp2
  go_ret
  first | exact ⟨rfl, Below.refl _ _⟩ | exact ⟨rfl, (Below.refl _ _).alloc (Nat.le_refl _) _⟩
theorem rightNum (n : Int) (w : World) : Calls Try.prog 96 #[.int .i64 n] w fun e w' => e = .returned (.bool (decide (-1000000000 ≤ n) && decide (n ≤ 1000000000))) ∧ w = w' := by
  by_cases h : -1000000000 ≤ n
  · go_enter Try.func96, Try.ntmps96
    go_wp2
    go_ret
    exact ⟨retB (by simp [h]), rfl⟩
  · have h' : decide (-1000000000 ≤ n) = false := by simpa using h
    go_enter Try.func96, Try.ntmps96
    go_wp2
    go_ret
    exact ⟨retB (by simp), rfl⟩
theorem rightStr (s : ByteArray) (w : World) : Calls Try.prog 98 #[.string s] w fun e w' => e = .returned (.bool (decide ((s.size : Int) ≤ 12))) ∧ w = w' := by
  go_enter Try.func98, Try.ntmps98
  go_wp2
  go_ret
  exact ⟨rfl, rfl⟩
def Cells3 (w : World) (b : Nat) (k n : Int) (s : ByteArray) : Prop := w.cell? ⟨b, 0, none⟩ = some (.int .i64 k) ∧ w.cell? ⟨b, 1, none⟩ = some (.int .i64 n) ∧ w.cell? ⟨b, 2, none⟩ = some (.string s)
theorem Cells3.below {w w' : World} {b : Nat} {k n : Int} {s : ByteArray} (h : Cells3 w b k n s) (hb : Below w.heap.size w w') : Cells3 w' b k n s :=
  ⟨(hb.cell (cell_lt h.1)).trans h.1, (hb.cell (cell_lt h.2.1)).trans h.2.1, (hb.cell (cell_lt h.2.2)).trans h.2.2⟩
def heldV (k n : Int) (s : ByteArray) : Value := if k = 0 then .iface 103 (.agg #[]) else if k = 1 then .iface 104 (.int .i64 n) else .iface 105 (.string s)
theorem chain1 (w : World) (o : Obj) {w1 : World} (hb : Below (w.alloc o).drew.heap.size (w.alloc o).drew w1) : Below w.heap.size w w1 :=
  (((Below.refl _ w).alloc (Nat.le_refl _) o).drew).trans (hb.mono (by simp))
theorem boxed {w w1 : World} {k n : Int} {s : ByteArray} {T : TypeId} (hb : Below (w.alloc (.cells #[.int .i64 k, .int .i64 n, .string s] T)).drew.heap.size (w.alloc (.cells #[.int .i64 k, .int .i64 n, .string s] T)).drew w1) :
    w1.cell? ⟨w.heap.size, 0, none⟩ = some (.int .i64 k) ∧ w1.cell? ⟨w.heap.size, 1, none⟩ = some (.int .i64 n) ∧ w1.cell? ⟨w.heap.size, 2, none⟩ = some (.string s) := by
  refine ⟨?_, ?_, ?_⟩ <;> (rw [hb.cell (by simp)]; simp)
def HeldOk (k n : Int) (s : ByteArray) (w : World) (e : Ending) (w' : World) : Prop := e = .returned (.tuple #[heldV k n s, .bool true]) ∧ Below w.heap.size w w'
def HeldNo (w : World) (e : Ending) (w' : World) : Prop := e = .returned (.tuple #[.nilIface, .bool false]) ∧ Below w.heap.size w w'
set_option maxRecDepth 100000 in
set_option maxHeartbeats 1000000 in
theorem held0yes (s : ByteArray) (w : World) (hs : s.toList = []) :
    Calls Try.prog 73 #[.agg #[.int .i64 0, .int .i64 0, .string s]] w (HeldOk 0 0 s w) := by
  have hm := rightOfNot
  go_enter Try.func73, Try.ntmps73
  go_wp2_with fail
  go_region_held3 (fun w' => w'.cell? ⟨w.heap.size, 0, none⟩ = some (.int .i64 0) ∧ w'.cell? ⟨w.heap.size, 1, none⟩ = some (.int .i64 0) ∧ w'.cell? ⟨w.heap.size, 2, none⟩ = some (.string s)) (first | go_keep | (refine ⟨?_, ?_, ?_⟩ <;> (rw [hb.cell (by simp)]; simp)) | (refine ⟨?_, ?_, ?_⟩ <;> (rw [hb2.cell (by have := hb.size; simp at this; simp; omega), hb.cell (by simp)]; simp)))
    (first | (go_at_call 76; refine (implValOfNot _).mono ?_; rintro e w1 ⟨rfl, hb⟩) | (go_at_call 94; refine (rightNot _).mono ?_; rintro e w2 ⟨rfl, hb2⟩))
  go_wp2
  go_ret2
  exact ⟨rfl, (chain1 w _ hb).trans (hb2.mono (by have := hb.size; simp at this; omega))⟩
set_option maxRecDepth 100000 in
set_option maxHeartbeats 1000000 in
theorem held0n (n : Int) (s : ByteArray) (w : World) (hn : ¬ n = 0) :
    Calls Try.prog 73 #[.agg #[.int .i64 0, .int .i64 n, .string s]] w (HeldNo w) := by
  have e1 : (0 == n) = false := by simp; omega
  go_enter Try.func73, Try.ntmps73
  go_wp2_with fail
  first | (go_region_with ((go_at_call 76; refine (implValOfNot _).mono ?_; rintro e w1 ⟨rfl, hb⟩; obtain ⟨r0, r1, r2⟩ := boxed hb))) | fail
  all_goals
    go_wp2
    go_ret2
    exact ⟨rfl, chain1 w _ hb⟩
set_option maxRecDepth 100000 in
set_option maxHeartbeats 1000000 in
theorem held0s (n : Int) (s : ByteArray) (w : World) (hs : ¬ s.toList = []) :
    Calls Try.prog 73 #[.agg #[.int .i64 0, .int .i64 n, .string s]] w (HeldNo w) := by
  by_cases hn : n = 0
  · subst hn
    have e1 : (([] : List UInt8) == s.toList) = false := by simpa using hs
    go_enter Try.func73, Try.ntmps73
    go_wp2_with fail
    first | (go_region_with ((go_at_call 76; refine (implValOfNot _).mono ?_; rintro e w1 ⟨rfl, hb⟩; obtain ⟨r0, r1, r2⟩ := boxed hb))) | fail
    all_goals
      go_wp2
      go_ret2
      exact ⟨rfl, chain1 w _ hb⟩
  · exact held0n n s w hn
set_option maxRecDepth 100000 in
set_option maxHeartbeats 1000000 in
theorem held1yes (n : Int) (s : ByteArray) (w : World) (hs : s.toList = []) (h : (decide (-1000000000 ≤ n) && decide (n ≤ 1000000000)) = true) :
    Calls Try.prog 73 #[.agg #[.int .i64 1, .int .i64 n, .string s]] w (HeldOk 1 n s w) := by
  have hm := rightOfNum n
  go_enter Try.func73, Try.ntmps73
  go_wp2_with fail
  go_region_held3 (fun w' => w'.cell? ⟨w.heap.size, 0, none⟩ = some (.int .i64 1) ∧ w'.cell? ⟨w.heap.size, 1, none⟩ = some (.int .i64 n) ∧ w'.cell? ⟨w.heap.size, 2, none⟩ = some (.string s)) (first | go_keep | (refine ⟨?_, ?_, ?_⟩ <;> (rw [hb.cell (by simp)]; simp)) | (refine ⟨?_, ?_, ?_⟩ <;> (rw [hb2.cell (by have := hb.size; simp at this; simp; omega), hb.cell (by simp)]; simp)))
    (first | (go_at_call 76; refine (implValOfNum _ _).mono ?_; rintro e w1 ⟨rfl, hb⟩) | (go_at_call 96; refine (rightNum _ _).mono ?_; rintro e w2 ⟨rfl, rfl⟩))
  go_wp2
  go_ret2
  exact ⟨rfl, chain1 w _ hb⟩
set_option maxRecDepth 100000 in
set_option maxHeartbeats 1000000 in
theorem held1no (n : Int) (s : ByteArray) (w : World) (hs : s.toList = []) (h : (decide (-1000000000 ≤ n) && decide (n ≤ 1000000000)) = false) :
    Calls Try.prog 73 #[.agg #[.int .i64 1, .int .i64 n, .string s]] w (HeldNo w) := by
  have hm := rightOfNum n
  go_enter Try.func73, Try.ntmps73
  go_wp2_with fail
  go_region_held3 (fun w' => w'.cell? ⟨w.heap.size, 0, none⟩ = some (.int .i64 1) ∧ w'.cell? ⟨w.heap.size, 1, none⟩ = some (.int .i64 n) ∧ w'.cell? ⟨w.heap.size, 2, none⟩ = some (.string s)) (first | go_keep | (refine ⟨?_, ?_, ?_⟩ <;> (rw [hb.cell (by simp)]; simp)) | (refine ⟨?_, ?_, ?_⟩ <;> (rw [hb2.cell (by have := hb.size; simp at this; simp; omega), hb.cell (by simp)]; simp)))
    (first | (go_at_call 76; refine (implValOfNum _ _).mono ?_; rintro e w1 ⟨rfl, hb⟩) | (go_at_call 96; refine (rightNum _ _).mono ?_; rintro e w2 ⟨rfl, rfl⟩))
  go_wp2
  go_ret2
  exact ⟨rfl, chain1 w _ hb⟩
set_option maxRecDepth 100000 in
set_option maxHeartbeats 1000000 in
theorem held1s (n : Int) (s : ByteArray) (w : World) (hs : ¬ s.toList = []) :
    Calls Try.prog 73 #[.agg #[.int .i64 1, .int .i64 n, .string s]] w (HeldNo w) := by
  have e1 : (([] : List UInt8) == s.toList) = false := by simpa using hs
  go_enter Try.func73, Try.ntmps73
  go_wp2_with fail
  first | (go_region_with ((go_at_call 76; refine (implValOfNum _ _).mono ?_; rintro e w1 ⟨rfl, hb⟩; obtain ⟨r0, r1, r2⟩ := boxed hb))) | fail
  all_goals
    go_wp2
    go_ret2
    exact ⟨rfl, chain1 w _ hb⟩
set_option maxRecDepth 100000 in
set_option maxHeartbeats 1000000 in
theorem held2yes (s : ByteArray) (w : World) (h : decide ((s.size : Int) ≤ 12) = true) :
    Calls Try.prog 73 #[.agg #[.int .i64 2, .int .i64 0, .string s]] w (HeldOk 2 0 s w) := by
  have hm := rightOfStr s
  go_enter Try.func73, Try.ntmps73
  go_wp2_with fail
  go_region_held3 (fun w' => w'.cell? ⟨w.heap.size, 0, none⟩ = some (.int .i64 2) ∧ w'.cell? ⟨w.heap.size, 1, none⟩ = some (.int .i64 0) ∧ w'.cell? ⟨w.heap.size, 2, none⟩ = some (.string s)) (first | go_keep | (refine ⟨?_, ?_, ?_⟩ <;> (rw [hb.cell (by simp)]; simp)) | (refine ⟨?_, ?_, ?_⟩ <;> (rw [hb2.cell (by have := hb.size; simp at this; simp; omega), hb.cell (by simp)]; simp)))
    (first | (go_at_call 76; refine (implValOfStr _ _).mono ?_; rintro e w1 ⟨rfl, hb⟩) | (go_at_call 98; refine (rightStr _ _).mono ?_; rintro e w2 ⟨rfl, rfl⟩))
  go_wp2
  go_ret2
  exact ⟨rfl, chain1 w _ hb⟩
set_option maxRecDepth 100000 in
set_option maxHeartbeats 1000000 in
theorem held2no (s : ByteArray) (w : World) (h : decide ((s.size : Int) ≤ 12) = false) :
    Calls Try.prog 73 #[.agg #[.int .i64 2, .int .i64 0, .string s]] w (HeldNo w) := by
  have hm := rightOfStr s
  go_enter Try.func73, Try.ntmps73
  go_wp2_with fail
  go_region_held3 (fun w' => w'.cell? ⟨w.heap.size, 0, none⟩ = some (.int .i64 2) ∧ w'.cell? ⟨w.heap.size, 1, none⟩ = some (.int .i64 0) ∧ w'.cell? ⟨w.heap.size, 2, none⟩ = some (.string s)) (first | go_keep | (refine ⟨?_, ?_, ?_⟩ <;> (rw [hb.cell (by simp)]; simp)) | (refine ⟨?_, ?_, ?_⟩ <;> (rw [hb2.cell (by have := hb.size; simp at this; simp; omega), hb.cell (by simp)]; simp)))
    (first | (go_at_call 76; refine (implValOfStr _ _).mono ?_; rintro e w1 ⟨rfl, hb⟩) | (go_at_call 98; refine (rightStr _ _).mono ?_; rintro e w2 ⟨rfl, rfl⟩))
  go_wp2
  go_ret2
  exact ⟨rfl, chain1 w _ hb⟩
set_option maxRecDepth 100000 in
set_option maxHeartbeats 1000000 in
theorem held2n (n : Int) (s : ByteArray) (w : World) (hn : ¬ n = 0) :
    Calls Try.prog 73 #[.agg #[.int .i64 2, .int .i64 n, .string s]] w (HeldNo w) := by
  have e1 : (0 == n) = false := by simp; omega
  go_enter Try.func73, Try.ntmps73
  go_wp2_with fail
  first | (go_region_with ((go_at_call 76; refine (implValOfStr _ _).mono ?_; rintro e w1 ⟨rfl, hb⟩; obtain ⟨r0, r1, r2⟩ := boxed hb))) | fail
  all_goals
    go_wp2
    go_ret2
    exact ⟨rfl, chain1 w _ hb⟩
theorem heldElse (k n : Int) (s : ByteArray) (w : World) (k0 : (k == 0) = false) (k1 : (k == 1) = false) (k2 : (k == 2) = false) :
    Calls Try.prog 73 #[.agg #[.int .i64 k, .int .i64 n, .string s]] w (HeldNo w) := by
  go_enter Try.func73, Try.ntmps73
  go_wp2
  go_ret2
  exact ⟨rfl, (Below.refl _ _).alloc (Nat.le_refl _) _⟩
theorem heldYes (k n : Int) (s : ByteArray) (w : World) (h : valOkB k n s = true) :
    Calls Try.prog 73 #[.agg #[.int .i64 k, .int .i64 n, .string s]] w (HeldOk k n s w) := by
  unfold valOkB at h
  by_cases k0 : k = 0
  · subst k0
    simp at h
    obtain ⟨rfl, hs⟩ := h
    exact held0yes s w hs
  by_cases k1 : k = 1
  · subst k1
    simp at h
    exact held1yes n s w h.2 (by simpa using h.1)
  by_cases k2 : k = 2
  · subst k2
    simp at h
    obtain ⟨rfl, hs⟩ := h
    exact held2yes s w (by simpa using hs)
  · simp [k0, k1, k2] at h
theorem heldNo (k n : Int) (s : ByteArray) (w : World) (h : valOkB k n s = false) :
    Calls Try.prog 73 #[.agg #[.int .i64 k, .int .i64 n, .string s]] w (HeldNo w) := by
  unfold valOkB at h
  by_cases k0 : k = 0
  · subst k0
    by_cases hs : s.toList = []
    · by_cases hn : n = 0
      · simp [hs, hn] at h
      · exact held0n n s w hn
    · exact held0s n s w hs
  by_cases k1 : k = 1
  · subst k1
    by_cases hs : s.toList = []
    · refine held1no n s w hs ?_
      simpa [hs] using h
    · exact held1s n s w hs
  by_cases k2 : k = 2
  · subst k2
    by_cases hn : n = 0
    · subst hn
      refine held2no s w ?_
      simpa using h
    · exact held2n n s w hn
  · exact heldElse k n s w (by simpa using k0) (by simpa using k1) (by simpa using k2)
theorem implValOk (k n : Int) (s : ByteArray) (w : World) :
    Calls Try.prog 67 #[.agg #[.int .i64 k, .int .i64 n, .string s]] w fun e w' => e = .returned (.bool (valOkB k n s)) ∧ Below w.heap.size w w' := by
  have hb0 := (Below.refl w.heap.size w).alloc (Nat.le_refl _) (.cells #[.int .i64 k, .int .i64 n, .string s] 57)
  cases h : valOkB k n s
  · have H := Lib.hid h; clear h
    go_enter Try.func67, Try.ntmps67
    go_wp2_with fail
    refine (heldNo k n s _ H.out).mono ?_
    rintro e w1 ⟨rfl, hb⟩
    go_wp2
    go_ret
    exact ⟨rfl, hb0.trans (hb.mono (by simp))⟩
  · have H := Lib.hid h; clear h
    go_enter Try.func67, Try.ntmps67
    go_wp2_with fail
    refine (heldYes k n s _ H.out).mono ?_
    rintro e w1 ⟨rfl, hb⟩
    go_wp2
    go_ret
    exact ⟨rfl, hb0.trans (hb.mono (by simp))⟩
def cmpI (x y : Int) : Int := if x < y then -1 else if y < x then 1 else 0
def cmpS (x y : ByteArray) : Int := if Op.bytesLess x.toList y.toList = true then -1 else if x.toList = y.toList then 0 else 1
def firstNZ (x y z : Int) : Int := if x ≠ 0 then x else if y ≠ 0 then y else z
theorem cmpInt (x y : Int) (w : World) :
    Calls Try.prog 66 #[.int .i64 x, .int .i64 y] w fun e w' => e = .returned (.int .i64 (cmpI x y)) ∧ w = w' := by
  unfold cmpI
  by_cases h : x < y
  · rw [if_pos h]
    go_enter Try.func66, Try.ntmps66
    go_wp2
    go_ret
    exact ⟨rfl, rfl⟩
  by_cases h2 : y < x
  · rw [if_neg h, if_pos h2]
    have hd : decide (x < y) = false := by simpa using h
    go_enter Try.func66, Try.ntmps66
    go_wp2
    go_ret
    exact ⟨rfl, rfl⟩
  · rw [if_neg h, if_neg h2]
    have hd : decide (x < y) = false := by simpa using h
    have hd2 : decide (y < x) = false := by simpa using h2
    go_enter Try.func66, Try.ntmps66
    go_wp2
    go_ret
    exact ⟨rfl, rfl⟩
theorem cmpStr (x y : ByteArray) (w : World) :
    Calls Try.prog 75 #[.string x, .string y] w fun e w' => e = .returned (.int .i64 (cmpS x y)) ∧ w = w' := by
  unfold cmpS
  by_cases h : Op.bytesLess x.toList y.toList = true
  · rw [if_pos h]
    go_enter Try.func75, Try.ntmps75
    go_wp2
    go_ret
    exact ⟨rfl, rfl⟩
  have h' : Op.bytesLess x.toList y.toList = false := by simpa using h
  by_cases h2 : x.toList = y.toList
  · rw [if_neg h, if_pos h2]
    have h3 : (x.toList == y.toList) = true := by simpa using h2
    clear h h2
    go_enter Try.func75, Try.ntmps75
    go_wp2
    go_ret
    exact ⟨rfl, rfl⟩
  · rw [if_neg h, if_neg h2]
    have h3 : (x.toList == y.toList) = false := by simpa using h2
    clear h
    go_enter Try.func75, Try.ntmps75
    go_wp2
    go_ret
    exact ⟨rfl, rfl⟩
set_option maxHeartbeats 1000000 in
theorem cmpOr (b : Nat) (x y z : Int) (w : World) (h0 : w.cell? ⟨b, 0, none⟩ = some (.int .i64 x)) (h1 : w.cell? ⟨b, 1, none⟩ = some (.int .i64 y)) (h2 : w.cell? ⟨b, 2, none⟩ = some (.int .i64 z)) :
    Calls Try.prog 63 #[.slice (some ⟨b, 0, none⟩) 3 3] w fun e w' => e = .returned (.int .i64 (firstNZ x y z)) ∧ w = w' := by
  by_cases hx : x = 0
  · subst hx
    by_cases hy : y = 0
    · subst hy
      by_cases hz : z = 0
      · subst hz
        rw [show firstNZ 0 0 0 = 0 by decide]
        go_enter Try.func63, Try.ntmps63
        go_wp2
        refine wp_loop_rounds 4 ?_
        rw [rounds_succ]
        go_wp2
        rw [rounds_succ]
        go_wp2
        rw [rounds_succ]
        go_wp2
        rw [rounds_succ]
        go_wp2
        go_ret
        exact ⟨rfl, rfl⟩
      · rw [show firstNZ 0 0 z = z by simp [firstNZ]]
        have hz' : (z != 0) = true := by simpa using hz
        go_enter Try.func63, Try.ntmps63
        go_wp2
        refine wp_loop_rounds 4 ?_
        rw [rounds_succ]
        go_wp2
        rw [rounds_succ]
        go_wp2
        rw [rounds_succ]
        go_wp2
        go_ret
        exact ⟨rfl, rfl⟩
    · rw [show firstNZ 0 y z = y by simp [firstNZ, hy]]
      have hy' : (y != 0) = true := by simpa using hy
      go_enter Try.func63, Try.ntmps63
      go_wp2
      refine wp_loop_rounds 4 ?_
      rw [rounds_succ]
      go_wp2
      rw [rounds_succ]
      go_wp2
      go_ret
      exact ⟨rfl, rfl⟩
  · rw [show firstNZ x y z = x by simp [firstNZ, hx]]
    have hx' : (x != 0) = true := by simpa using hx
    go_enter Try.func63, Try.ntmps63
    go_wp2
    refine wp_loop_rounds 4 ?_
    rw [rounds_succ]
    go_wp2
    go_ret
    exact ⟨rfl, rfl⟩
def szN (left : Int) (s : ByteArray) : Int := if left - s.size < 0 then -1 else left - s.size
theorem lawsSzVal (k n : Int) (s : ByteArray) (left : Int) (w : World) (h0 : 0 ≤ left) (h1 : left ≤ 1048576) (hs : s.size ≤ maxLen) :
    Calls Try.prog 47 #[.agg #[.int .i64 k, .int .i64 n, .string s], .int .i64 left] w fun e w' => e = .returned (.int .i64 (szN left s)) ∧ Below w.heap.size w w' := by
  unfold maxLen at hs
  unfold szN
  by_cases h : left - s.size < 0
  · rw [if_pos h]
    go_enter Try.func47, Try.ntmps47
    go_wp2
    go_ret
    exact ⟨rfl, (Below.refl _ _).alloc (Nat.le_refl _) _⟩
  · rw [if_neg h]
    have h' : decide (left - (s.size : Int) < 0) = false := by simpa using h
    go_enter Try.func47, Try.ntmps47
    go_wp2
    go_ret
    exact ⟨rfl, (Below.refl _ _).alloc (Nat.le_refl _) _⟩
set_option maxHeartbeats 400000 in
theorem lawsToVal (k n : Int) (s : ByteArray) (w : World) :
    Calls Try.prog 52 #[.agg #[.int .i64 k, .int .i64 n, .string s]] w fun e w' => e = .returned (.agg #[.int .i64 k, .int .i64 n, .string s]) ∧ Below w.heap.size w w' := by
  go_enter Try.func52, Try.ntmps52
  go_wp2
  exact bodyPost_ret (v := .agg #[.int .i64 k, .int .i64 n, .string s]) (by simp [results, Try.results52, go_sem]) rfl
    ⟨rfl, (((Below.refl _ _).alloc (Nat.le_refl _) _).alloc (by simp) _).alloc (by simp; omega) _⟩
structure Vl where
  k : Int
  n : Int
  s : ByteArray
end Go.Proofs.Ytlpfpcnafejkoaa
namespace Go.Proofs.Ytlpfpcnafejkoaa
open Go.RowKit
theorem mk_rows {P : Program} {t e : TypeId} {sz bs : Nat} {z : Value} (ht : P.underlying t = some (.slice e)) (hi : (P.info? e).map (fun i => (i.zero, i.size, i.bytes)) = some (some z, sz, bs)) (hbs : bs ≤ 100000) (n : Nat) (hn : n ≤ 1048576) (w : World) :
    (Instr.makeSlice t (.int .i64 (n : Int)) (.int .i64 (n : Int))).run P w = .ok (.slice (some ⟨w.heap.size, 0, none⟩) n n) (w.alloc (.cells (madeCells z.cells (n * sz)) e)) := by
  obtain ⟨i, h1, h2, h3, h4⟩ := info_parts hi
  have hb : (i.bytes : Int) * n ≤ 281474976710656 := by
    rw [h4]
    have h5 : bs * n ≤ 100000 * 1048576 := Nat.mul_le_mul hbs hn
    have h6 : ((bs * n : Nat) : Int) ≤ 104857600000 := by omega
    rw [Int.natCast_mul] at h6
    omega
  have hr := run_make (P := P) w t e i z ht h1 h2 .i64 .i64 n n (by omega) (by omega) hb (by omega)
  simp only [Int.toNat_natCast, h3] at hr
  exact hr
theorem lawsEqVal (k n : Int) (s : ByteArray) (w : World) :
    Calls Try.prog 59 #[.agg #[.int .i64 k, .int .i64 n, .string s], .agg #[.int .i64 k, .int .i64 n, .string s]] w fun e w' => e = .returned (.bool true) ∧ Below w.heap.size w w' := by
  go_enter Try.func59, Try.ntmps59
  go_wp2
  go_ret
  exact ⟨rfl, ((Below.refl _ _).alloc (Nat.le_refl _) _).alloc (by simp) _⟩
def szR (left : Int) (n : Nat) : Int := if left < n then -1 else left - n
theorem szR_cases (l : Int) (k : Nat) (_h0 : 0 ≤ l) : (l < k ∧ Hid (szR l k = -1)) ∨ (∃ l' : Int, Hid (szR l k = l') ∧ Hid (l' = l - k) ∧ 0 ≤ l' ∧ l' ≤ l ∧ (k : Int) ≤ l) := by
  by_cases h : l < k
  · exact .inl ⟨h, Lib.hid (if_pos h)⟩
  · exact .inr ⟨l - k, Lib.hid (if_neg h), Lib.hid rfl, by omega, by omega, by omega⟩
theorem szR_no {l : Int} {k : Nat} (h : l < k) : (-1 : Int) = szR l k := by unfold szR; rw [if_pos h]
theorem szR_yes {l m : Int} {k : Nat} (h0 : 0 ≤ m) (h : m = l - k) : m = szR l k := by unfold szR; rw [if_neg (by omega)]; exact h
def szL {α : Type} (f : α → Nat) (l : List α) : Nat := l.length + (l.map f).sum
theorem sum_take {α : Type} (f : α → Nat) (l : List α) (k : Nat) (h : k < l.length) : ((l.take (k + 1)).map f).sum = ((l.take k).map f).sum + f l[k] := by
  rw [List.take_succ_eq_append_getElem h, List.map_append, List.sum_append]; simp
theorem sum_take_le {α : Type} (f : α → Nat) (l : List α) (k : Nat) : ((l.take k).map f).sum ≤ (l.map f).sum := by
  have e : (l.map f).sum = ((l.take k).map f).sum + ((l.drop k).map f).sum := by rw [← List.sum_append, ← List.map_append, List.take_append_drop]
  omega
theorem sum_mem_le {α : Type} (f : α → Nat) (l : List α) (k : Nat) (h : k < l.length) : f l[k] ≤ (l.map f).sum := by
  have := sum_take f l k h
  have := sum_take_le f l (k + 1)
  omega
def Vl.cells (v : Vl) : List Value := [.int .i64 v.k, .int .i64 v.n, .string v.s]
def Vals (w : World) (A : Option Addr) (n : Nat) (vs : List Vl) : Prop := Cellz w 3 A n (vs.map Vl.cells)
theorem Vals.len {w : World} {A : Option Addr} {n : Nat} {vs : List Vl} (h : Vals w A n vs) : vs.length = n := by simpa using h.1
theorem Vals.below {w w' : World} {A : Option Addr} {n : Nat} {vs : List Vl} (h : Vals w A n vs) (hb : Below w.heap.size w w') : Vals w' A n vs := Cellz.below h hb
theorem Vals.at_ {w : World} {A : Option Addr} {n : Nat} {vs : List Vl} (h : Vals w A n vs) {i : Nat} (hi : i < vs.length) :
    ∃ b off, A = some ⟨b, off, none⟩ ∧ w.cell? ⟨b, off + i * 3, none⟩ = some (.int .i64 vs[i].k) ∧ w.cell? ⟨b, off + i * 3 + 1, none⟩ = some (.int .i64 vs[i].n) ∧ w.cell? ⟨b, off + i * 3 + 2, none⟩ = some (.string vs[i].s) := by
  have hl := h.len
  obtain ⟨b, off, rfl, hc⟩ := h.2.2 (by omega)
  have hi' : i < (vs.map Vl.cells).length := by simpa using hi
  have g : ∀ j v, vs[i].cells[j]? = some v → w.cell? ⟨b, off + i * 3 + j, none⟩ = some v := by
    intro j v hv
    have e : (vs.map Vl.cells)[i] = vs[i].cells := by simp
    obtain ⟨hj, hv'⟩ := List.getElem?_eq_some_iff.1 hv
    have := hc i hi' j (by rw [e]; exact hj)
    rw [Nat.add_assoc, this]
    simp only [e, hv']
  exact ⟨b, off, rfl, g 0 _ rfl, g 1 _ rfl, g 2 _ rfl⟩
end Go.Proofs.Ytlpfpcnafejkoaa
namespace Go.Proofs.Ytlpfpcnafejkoaa
open Go.RowKit
def VlR : Rd Vl := FlatR Vl.cells
theorem VlR.stays : Stays VlR := FlatR.stays _
structure En where
  key : List Vl
  id : Int
def EnR : Rd En := fun ok w cs x => ∃ (A0 : Option Addr) (n0 c0 : Nat), cs = [.slice A0 n0 c0, .int .i64 x.id] ∧ Sl VlR 3 ok w A0 n0 x.key ∧ (n0 ≤ c0)
theorem EnR.stays : Stays EnR := fun _ _ _ _ _ _ ⟨A0, n0, c0, e, h0, hcp⟩ ho hk => ⟨A0, n0, c0, e, h0.stays VlR.stays ho hk, hcp⟩
def En.sz (x : En) : Nat := szL (fun v : Vl => v.s.size) x.key
def En.wf (x : En) : Prop := (x.key.length ≤ maxLen ∧ ∀ v ∈ x.key, v.s.size ≤ maxLen)
theorem Row.all2 {w : World} {g : Nat} {T : TypeId} {a0 a1 : Value} (h : Row w g T #[a0, a1]) :
    (w.cell? ⟨g, 0, none⟩ = some a0 ∧ w.cell? ⟨g, 1, none⟩ = some a1) ∧ (w.frozen? ⟨g, 0, none⟩ = false ∧ w.frozen? ⟨g, 1, none⟩ = false) :=
  ⟨⟨h.cell 0, h.cell 1⟩, ⟨h.free 0, h.free 1⟩⟩
theorem VlR.at_ {ok : Nat → Prop} {w : World} {A : Option Addr} {n : Nat} {ds : List Vl} (h : Sl VlR 3 ok w A n ds) {i : Nat} (hi : i < ds.length) :
    ∃ (b off : Nat), ok b ∧ A = some ⟨b, off, none⟩ ∧ w.cell? ⟨b, off + i * 3, none⟩ = some (.int .i64 ds[i].k) ∧ w.cell? ⟨b, off + i * 3 + 1, none⟩ = some (.int .i64 ds[i].n) ∧ w.cell? ⟨b, off + i * 3 + 2, none⟩ = some (.string ds[i].s) := by
  have hl := h.1
  obtain ⟨b, off, rfl, hb, hc⟩ := h.2 (by omega)
  obtain ⟨cs, -, hR, g⟩ := hc i hi
  have e : cs = _ := hR
  subst e
  exact ⟨b, off, hb, rfl, g 0 _ rfl, g 1 _ rfl, g 2 _ rfl⟩
theorem EnR.at_ {ok : Nat → Prop} {w : World} {A : Option Addr} {n : Nat} {ds : List En} (h : Sl EnR 2 ok w A n ds) {i : Nat} (hi : i < ds.length) :
    ∃ (b off : Nat) (A0 : Option Addr) (n0 c0 : Nat), ok b ∧ A = some ⟨b, off, none⟩ ∧ w.cell? ⟨b, off + i * 2, none⟩ = some (.slice A0 n0 c0) ∧ w.cell? ⟨b, off + i * 2 + 1, none⟩ = some (.int .i64 ds[i].id) ∧ Sl VlR 3 ok w A0 n0 ds[i].key ∧ (n0 ≤ c0) := by
  have hl := h.1
  obtain ⟨b, off, rfl, hb, hc⟩ := h.2 (by omega)
  obtain ⟨cs, -, hR, g⟩ := hc i hi
  obtain ⟨A0, n0, c0, rfl, h0, hcp⟩ := hR
  exact ⟨b, off, A0, n0, c0, hb, rfl, g 0 _ rfl, g 1 _ rfl, h0, hcp⟩
def okF (G : Nat) (w : World) : Nat → Prop := fun b => G ≤ b ∧ b < w.heap.size ∧ ∀ off, w.frozen? ⟨b, off, none⟩ = false
theorem frozen_setCell (w : World) (p : Addr) (v : Value) (a : Addr) : (w.setCell p v).frozen? a = w.frozen? a := by
  unfold World.frozen? World.setCell
  by_cases e : p.block = a.block
  · simp only [Array.getElem?_modify, if_pos e]
    cases h : w.heap[a.block]? with
    | none => rfl
    | some o => cases o <;> rfl
  · simp only [Array.getElem?_modify, if_neg e]
theorem okF.mono {G G' : Nat} {w : World} {b : Nat} (h : okF G w b) (hG : G' ≤ G) : okF G' w b := ⟨Nat.le_trans hG h.1, h.2⟩
theorem okF.below {G : Nat} {w w' : World} (hb : Below w.heap.size w w') {b : Nat} (h : okF G w b) : okF G w' b :=
  ⟨h.1, Nat.lt_of_lt_of_le h.2.1 hb.size, fun off => (World.frozen?_of_block (w := w) (hb.block b h.2.1)).trans (h.2.2 off)⟩
theorem okF.set {G : Nat} {w : World} {b : Nat} (h : okF G w b) (p : Addr) (v : Value) : okF G (w.setCell p v) b :=
  ⟨h.1, by simpa [World.setCell] using h.2.1, fun off => (frozen_setCell w p v _).trans (h.2.2 off)⟩
theorem Sl.setF {α : Type} {R : Rd α} (hR : Stays R) {sz G : Nat} {w : World} {A : Option Addr} {n : Nat} {ds : List α} (h : Sl R sz (okF G w) w A n ds) {p : Addr} (hp : p.block < G) (v : Value) : Sl R sz (okF G (w.setCell p v)) (w.setCell p v) A n ds :=
  h.stays hR (fun _ h => h.set p v) fun q u hq hu => (World.cell?_of_block (w := w) (a := q) (Below.heap_setCell w p v q.block (by have := hq.1; omega))).trans hu
theorem LaidR.belowF {α : Type} {R : Rd α} (hR : Stays R) {sz G : Nat} {w w' : World} {cs : Array Value} {k : Nat} {ds : List α} (h : LaidR R sz (okF G w) w cs k ds) (hb : Below w.heap.size w w') : LaidR R sz (okF G w') w' cs k ds := fun i hi hlt => by
  obtain ⟨c, h1, h2, h3⟩ := h i hi hlt
  exact ⟨c, h1, hR _ _ _ _ _ _ h2 (fun _ h => h.below hb) (fun p v _ hp => below_keep hb p v hp), h3⟩
theorem LaidR.setF {α : Type} {R : Rd α} (hR : Stays R) {sz G : Nat} {w : World} {cs : Array Value} {k : Nat} {ds : List α} (h : LaidR R sz (okF G w) w cs k ds) {p : Addr} (hp : p.block < G) (v : Value) : LaidR R sz (okF G (w.setCell p v)) (w.setCell p v) cs k ds := fun i hi hlt => by
  obtain ⟨c, h1, h2, h3⟩ := h i hi hlt
  exact ⟨c, h1, hR _ _ _ _ _ _ h2 (fun _ h => h.set p v) (fun q u hq hu => (World.cell?_of_block (w := w) (a := q) (Below.heap_setCell w p v q.block (by have := hq.1; omega))).trans hu), h3⟩
def MadeSl {α : Type} (R : Rd α) (sz n : Nat) (ds : List α) (w : World) (e : Ending) (w' : World) : Prop := ∃ A c, e = .returned (.slice A n c) ∧ n ≤ c ∧ Sl R sz (okF w.heap.size w') w' A n ds ∧ Below w.heap.size w w'
def MadeR {α : Type} (R : Rd α) (d : α) (w : World) (e : Ending) (w' : World) : Prop := ∃ cs : List Value, e = .returned (.agg cs.toArray) ∧ R (okF w.heap.size w') w' cs d ∧ Below w.heap.size w w'
theorem hold2 (cs : Array Value) (k : Nat) (v0 v1 : Value) : ∀ m, m < k * 2 → ((cs.setIfInBounds (k * 2) v0).setIfInBounds (k * 2 + 1) v1)[m]? = cs[m]? := by
  intro m hm
  simp only [Array.getElem?_setIfInBounds, Array.size_setIfInBounds]
  rw [if_neg (by omega)]; rw [if_neg (by omega)]
theorem fresh2 (cs : Array Value) (k : Nat) (v0 v1 : Value) (hs : k * 2 + 2 ≤ cs.size) : ∀ (j : Nat) (v : Value), [v0, v1][j]? = some v → ((cs.setIfInBounds (k * 2) v0).setIfInBounds (k * 2 + 1) v1)[k * 2 + j]? = some v := by
  intro j v hj
  have hlt : j < 2 := by obtain ⟨h, _⟩ := List.getElem?_eq_some_iff.1 hj; simpa using h
  have : j = 0 ∨ j = 1 := by omega
  rcases this with rfl | rfl <;> simp at hj <;> subst hj <;> simp [Array.getElem?_setIfInBounds] <;> omega
theorem hold3 (cs : Array Value) (k : Nat) (v0 v1 v2 : Value) : ∀ m, m < k * 3 → (((cs.setIfInBounds (k * 3) v0).setIfInBounds (k * 3 + 1) v1).setIfInBounds (k * 3 + 2) v2)[m]? = cs[m]? := by
  intro m hm
  simp only [Array.getElem?_setIfInBounds, Array.size_setIfInBounds]
  rw [if_neg (by omega)]; rw [if_neg (by omega)]; rw [if_neg (by omega)]
theorem fresh3 (cs : Array Value) (k : Nat) (v0 v1 v2 : Value) (hs : k * 3 + 3 ≤ cs.size) : ∀ (j : Nat) (v : Value), [v0, v1, v2][j]? = some v → (((cs.setIfInBounds (k * 3) v0).setIfInBounds (k * 3 + 1) v1).setIfInBounds (k * 3 + 2) v2)[k * 3 + j]? = some v := by
  intro j v hj
  have hlt : j < 3 := by obtain ⟨h, _⟩ := List.getElem?_eq_some_iff.1 hj; simpa using h
  have : j = 0 ∨ j = 1 ∨ j = 2 := by omega
  rcases this with rfl | rfl | rfl <;> simp at hj <;> subst hj <;> simp [Array.getElem?_setIfInBounds] <;> omega
theorem infoValT : (Try.prog.info? 57).map (fun i => (i.zero, i.size, i.bytes)) = some (some (.agg #[.int .i64 0, .int .i64 0, .string ⟨#[]⟩]), 3, 32) := by kernel_rfl
set_option maxRecDepth 100000 in
set_option maxHeartbeats 1000000 in
theorem lawsToValL (A : Option Addr) (n c : Nat) (l : List Vl) (ok : Nat → Prop) (w : World) (h : Sl VlR 3 ok w A n l) (hs : szL (fun v : Vl => v.s.size) l ≤ 1048576) :
    Calls Try.prog 37 #[.slice A n c] w (MadeSl VlR 3 n l w) := by
  obtain rfl : l.length = n := h.1
  have hn : l.length ≤ 1048576 := by unfold szL at hs; omega
  have HS := Lib.hid hs
  clear hs
  have hmk := fun w => mk_rows (P := Try.prog) Try.underlying40 infoValT (by omega) l.length hn w
  go_enter Try.func37, Try.ntmps37
  go_wp2
  have row := Row.new w 57 (madeCells #[.int .i64 0, .int .i64 0, .string ⟨#[]⟩] (l.length * 3))
  have hb0 := (Below.refl w.heap.size w).alloc (Nat.le_refl _) (.cells (madeCells #[.int .i64 0, .int .i64 0, .string ⟨#[]⟩] (l.length * 3)) 57)
  have hsz := size_madeCells #[.int .i64 0, .int .i64 0, .string ⟨#[]⟩] (l.length * 3)
  have hx0 : (w.alloc (.cells (madeCells #[.int .i64 0, .int .i64 0, .string ⟨#[]⟩] (l.length * 3)) 57)).heap.size = w.heap.size + 1 := by simp
  generalize w.alloc (.cells (madeCells #[.int .i64 0, .int .i64 0, .string ⟨#[]⟩] (l.length * 3)) 57) = x at *
  generalize madeCells #[.int .i64 0, .int .i64 0, .string ⟨#[]⟩] (l.length * 3) = cs0 at *
  have HZ := Lib.hid hsz
  have HX0 := Lib.hid hx0
  clear hmk hsz hx0
  go_loopw [4] (fun i wr => ∃ (k : Nat) (cs : Array Value), k ≤ l.length ∧ i = .int .i64 k ∧ Row wr w.heap.size 57 cs ∧ Hid (cs.size = l.length * 3) ∧ Hid (LaidR VlR 3 (okF (w.heap.size + 1) wr) wr cs k l) ∧ Hid (w.heap.size + 1 ≤ wr.heap.size) ∧ Below w.heap.size w wr) (fun i _ => l.length - (intOf i).toNat)
  case atStart => exact ⟨0, cs0, by omega, rfl, row, Lib.hid (by rw [HZ.out]), Lib.hid (LaidR.zero _ _ _ _ _ _), Lib.hid (by rw [HX0.out]; exact Nat.le_refl _), hb0⟩
  case round =>
    obtain ⟨k, cs, hk, rfl, hrow, hcs, hlaid, hgw, hb⟩ := hrel
    by_cases hlt : k < l.length
    · obtain ⟨b, off, -, rfl, q0, q1, q2⟩ := VlR.at_ (h.below VlR.stays hb) hlt
      have hsz1 : k * 3 + 3 ≤ cs.size := by rw [hcs.out]; omega
      have hszk : l[k].s.size ≤ 1048576 := by have := HS.out; have := sum_mem_le (fun v : Vl => v.s.size) l k hlt; unfold szL at *; (try simp only at *); omega
      have HSK := Lib.hid hszk
      clear hszk
      go_wp2_with fail
      refine (lawsToVal l[k].k l[k].n l[k].s _).mono ?_
      rintro e w1 ⟨rfl, hb1⟩
      have hrow1 := hrow.below hb1
      have hgw1 : w.heap.size + 1 ≤ w1.heap.size := Nat.le_trans hgw.out hb1.size
      have HGW := Lib.hid hgw1
      clear hgw1
      have hl1 := Lib.hid (hlaid.out.belowF VlR.stays hb1)
      have q : ∀ j, j < 3 → w1.cell? ⟨w.heap.size, k * 3 + j, none⟩ = some (cs[k * 3 + j]?.getD undef) := fun j hj => by
        rw [hrow1.cell, Array.getElem?_eq_getElem (by omega)]; rfl
      have z0 : w1.cell? ⟨w.heap.size, k * 3, none⟩ = some (cs[k * 3]?.getD undef) := q 0 (by omega)
      have z1 := q 1 (by omega)
      have z2 := q 2 (by omega)
      have f0 := hrow1.free (k * 3)
      have f1 := hrow1.free (k * 3 + 1)
      have f2 := hrow1.free (k * 3 + 2)
      clear q
      have HR := Lib.hid hrow1
      clear hrow1 hrow q0 q1 q2
      go_wp2_with fail
      go_roundw
      case rel =>
        exact ⟨k + 1, _, by omega, by go_num, (((HR.out).set _ _).set _ _).set _ _, Lib.hid (by simp [hcs.out]), Lib.hid (((((hl1.out).setF VlR.stays (by simp) _).setF VlR.stays (by simp) _).setF VlR.stays (by simp) _).more hlt (c := [.int .i64 l[k].k, .int .i64 l[k].n, .string l[k].s]) rfl rfl (hold3 cs k _ _ _) (fresh3 cs k _ _ _ hsz1)), Lib.hid (by simpa using HGW.out), (((hb.trans (hb1.mono hb.size)).setCell (by simp) _).setCell (by simp) _).setCell (by simp) _⟩
      case measure => simp [intOf]; omega
    · obtain rfl : k = l.length := by omega
      go_wp2
      go_ret
      exact ⟨_, _, rfl, Nat.le_refl _, (sl_of_laid (ok := okF w.heap.size _) hrow ⟨Nat.le_refl _, hgw.out, fun off => hrow.free off⟩ (fun i hi hlt' => by
        obtain ⟨c', h1, h2, h3⟩ := hlaid.out i hi hlt'
        exact ⟨c', h1, VlR.stays _ _ _ _ _ _ h2 (fun b hb' => hb'.mono (Nat.le_succ _)) (fun p v _ hp => hp), h3⟩) (Nat.le_refl _)), hb⟩
set_option maxRecDepth 100000 in
set_option maxHeartbeats 1000000 in
theorem lawsToEntry (x : En) (A0 : Option Addr) (n0 c0 : Nat) (ok : Nat → Prop) (w : World) (h0 : Sl VlR 3 ok w A0 n0 x.key) (hs : x.sz ≤ 1048576) :
    Calls Try.prog 17 #[.agg #[.slice A0 n0 c0, .int .i64 x.id]] w (MadeR EnR x w) := by
  have hs0 : szL (fun v : Vl => v.s.size) x.key ≤ 1048576 := by have := hs; unfold En.sz at this; omega
  have HS0 := Lib.hid hs0
  clear hs0
  clear hs
  have ra := ((Row.new w 33 #[.slice A0 n0 c0, .int .i64 x.id]).alloc (.cells #[.slice none 0 0, .int .i64 0] 42)).alloc (.cells #[.slice none 0 0, .int .i64 0] 42)
  have r1 := (Row.newAt (w.alloc (.cells #[.slice A0 n0 c0, .int .i64 x.id] 33)) 42 #[.slice none 0 0, .int .i64 0] (w.heap.size + 1) (by simp)).alloc (.cells #[.slice none 0 0, .int .i64 0] 42)
  have r2 := Row.newAt ((w.alloc (.cells #[.slice A0 n0 c0, .int .i64 x.id] 33)).alloc (.cells #[.slice none 0 0, .int .i64 0] 42)) 42 #[.slice none 0 0, .int .i64 0] (w.heap.size + 1 + 1) (by simp)
  have hb0 := ((((Below.refl w.heap.size w).alloc (Nat.le_refl _) (.cells #[.slice A0 n0 c0, .int .i64 x.id] 33)).alloc (by simp) (.cells #[.slice none 0 0, .int .i64 0] 42)).alloc (by simp; omega) (.cells #[.slice none 0 0, .int .i64 0] 42))
  have hz0 : w.heap.size + 3 ≤ (((w.alloc (.cells #[.slice A0 n0 c0, .int .i64 x.id] 33)).alloc (.cells #[.slice none 0 0, .int .i64 0] 42)).alloc (.cells #[.slice none 0 0, .int .i64 0] 42)).heap.size := by simp
  go_enter Try.func17, Try.ntmps17
  go_wp2_with fail
  generalize ((w.alloc (.cells #[.slice A0 n0 c0, .int .i64 x.id] 33)).alloc (.cells #[.slice none 0 0, .int .i64 0] 42)).alloc (.cells #[.slice none 0 0, .int .i64 0] 42) = x0 at *
  refine (lawsToValL A0 n0 c0 x.key ok _ (h0.below VlR.stays hb0) HS0.out).mono ?_
  rintro e w1 ⟨B0, d0, rfl, hcp0, t0, hc0⟩
  have u0 := t0.stays VlR.stays (ok' := okF (w.heap.size + 3) w1) (fun b hb' => hb'.mono (by omega)) (fun p v _ hp => hp)
  clear t0
  have ra := ra.below hc0
  have r1 := r1.below hc0
  have r2 := r2.below hc0
  have hbx0 := hb0.trans (hc0.mono hb0.size)
  have hz1 : w.heap.size + 3 ≤ w1.heap.size := Nat.le_trans hz0 hc0.size
  obtain ⟨⟨a_0_0, a_0_1⟩, -⟩ := ra.all2
  obtain ⟨⟨b_0_0, b_0_1⟩, ⟨f_0_0, f_0_1⟩⟩ := r2.all2
  obtain ⟨⟨g_0_0, g_0_1⟩, ⟨k_0_0, k_0_1⟩⟩ := r1.all2
  have rz : Row (((((w1).setCell ⟨w.heap.size + 1 + 1, 0, none⟩ (.slice B0 n0 d0)).setCell ⟨w.heap.size + 1 + 1, 1, none⟩ (.int .i64 x.id)).setCell ⟨w.heap.size + 1, 0, none⟩ (.slice B0 n0 d0)).setCell ⟨w.heap.size + 1, 1, none⟩ (.int .i64 x.id)) (w.heap.size + 1) 42 #[.slice B0 n0 d0, .int .i64 x.id] := ((((r1).far (by simp) _).far (by simp) _).set 0 _).set 1 _
  obtain ⟨⟨z0, z1⟩, -⟩ := rz.all2
  have y0 : Sl VlR 3 (okF (w.heap.size + 3) (((((w1).setCell ⟨w.heap.size + 1 + 1, 0, none⟩ (.slice B0 n0 d0)).setCell ⟨w.heap.size + 1 + 1, 1, none⟩ (.int .i64 x.id)).setCell ⟨w.heap.size + 1, 0, none⟩ (.slice B0 n0 d0)).setCell ⟨w.heap.size + 1, 1, none⟩ (.int .i64 x.id))) (((((w1).setCell ⟨w.heap.size + 1 + 1, 0, none⟩ (.slice B0 n0 d0)).setCell ⟨w.heap.size + 1 + 1, 1, none⟩ (.int .i64 x.id)).setCell ⟨w.heap.size + 1, 0, none⟩ (.slice B0 n0 d0)).setCell ⟨w.heap.size + 1, 1, none⟩ (.int .i64 x.id)) B0 n0 x.key := ((((u0).setF VlR.stays (by simp) _).setF VlR.stays (by simp) _).setF VlR.stays (by simp) _).setF VlR.stays (by simp) _
  have hbz : Below w.heap.size w (((((w1).setCell ⟨w.heap.size + 1 + 1, 0, none⟩ (.slice B0 n0 d0)).setCell ⟨w.heap.size + 1 + 1, 1, none⟩ (.int .i64 x.id)).setCell ⟨w.heap.size + 1, 0, none⟩ (.slice B0 n0 d0)).setCell ⟨w.heap.size + 1, 1, none⟩ (.int .i64 x.id)) := ((((hbx0).setCell (by simp; try omega) _).setCell (by simp; try omega) _).setCell (by simp; try omega) _).setCell (by simp; try omega) _
  clear ra r1 r2 rz
  go_wp2_with fail
  exact bodyPost_ret (v := .agg #[.slice B0 n0 d0, .int .i64 x.id]) (by simp [results, Try.results17, go_sem, z0, z1]) rfl ⟨[.slice B0 n0 d0, .int .i64 x.id], rfl, ⟨_, _, _, rfl, y0.stays VlR.stays (fun b hb' => hb'.mono (by omega)) (fun p v _ hp => hp), hcp0⟩, hbz⟩
theorem infoEntryT : (Try.prog.info? 42).map (fun i => (i.zero, i.size, i.bytes)) = some (some (.agg #[.slice none 0 0, .int .i64 0]), 2, 32) := by kernel_rfl
set_option maxRecDepth 100000 in
set_option maxHeartbeats 1000000 in
theorem lawsToEntryL (A : Option Addr) (n c : Nat) (l : List En) (ok : Nat → Prop) (w : World) (h : Sl EnR 2 ok w A n l) (hs : szL En.sz l ≤ 1048576) :
    Calls Try.prog 16 #[.slice A n c] w (MadeSl EnR 2 n l w) := by
  obtain rfl : l.length = n := h.1
  have hn : l.length ≤ 1048576 := by unfold szL at hs; omega
  have HS := Lib.hid hs
  clear hs
  have hmk := fun w => mk_rows (P := Try.prog) Try.underlying36 infoEntryT (by omega) l.length hn w
  go_enter Try.func16, Try.ntmps16
  go_wp2
  have row := Row.new w 42 (madeCells #[.slice none 0 0, .int .i64 0] (l.length * 2))
  have hb0 := (Below.refl w.heap.size w).alloc (Nat.le_refl _) (.cells (madeCells #[.slice none 0 0, .int .i64 0] (l.length * 2)) 42)
  have hsz := size_madeCells #[.slice none 0 0, .int .i64 0] (l.length * 2)
  have hx0 : (w.alloc (.cells (madeCells #[.slice none 0 0, .int .i64 0] (l.length * 2)) 42)).heap.size = w.heap.size + 1 := by simp
  generalize w.alloc (.cells (madeCells #[.slice none 0 0, .int .i64 0] (l.length * 2)) 42) = x at *
  generalize madeCells #[.slice none 0 0, .int .i64 0] (l.length * 2) = cs0 at *
  have HZ := Lib.hid hsz
  have HX0 := Lib.hid hx0
  clear hmk hsz hx0
  go_loopw [4] (fun i wr => ∃ (k : Nat) (cs : Array Value), k ≤ l.length ∧ i = .int .i64 k ∧ Row wr w.heap.size 42 cs ∧ Hid (cs.size = l.length * 2) ∧ Hid (LaidR EnR 2 (okF (w.heap.size + 1) wr) wr cs k l) ∧ Hid (w.heap.size + 1 ≤ wr.heap.size) ∧ Below w.heap.size w wr) (fun i _ => l.length - (intOf i).toNat)
  case atStart => exact ⟨0, cs0, by omega, rfl, row, Lib.hid (by rw [HZ.out]), Lib.hid (LaidR.zero _ _ _ _ _ _), Lib.hid (by rw [HX0.out]; exact Nat.le_refl _), hb0⟩
  case round =>
    obtain ⟨k, cs, hk, rfl, hrow, hcs, hlaid, hgw, hb⟩ := hrel
    by_cases hlt : k < l.length
    · obtain ⟨b, off, A0, n0, c0, -, rfl, q0, q1, s0, -⟩ := EnR.at_ (h.below EnR.stays hb) hlt
      have hsz1 : k * 2 + 2 ≤ cs.size := by rw [hcs.out]; omega
      have hszk : l[k].sz ≤ 1048576 := by have := HS.out; have := sum_mem_le (En.sz) l k hlt; unfold szL at *; (try simp only at *); omega
      have HSK := Lib.hid hszk
      clear hszk
      go_wp2_with fail
      refine (lawsToEntry l[k] A0 n0 c0 ok _ s0 HSK.out).mono ?_
      rintro e w1 ⟨cs', rfl, hR1, hb1⟩
      obtain ⟨B0, m0, d0, rfl, t0, hcp⟩ := hR1
      have hrow1 := hrow.below hb1
      have hgw1 : w.heap.size + 1 ≤ w1.heap.size := Nat.le_trans hgw.out hb1.size
      have HGW := Lib.hid hgw1
      clear hgw1
      have hl1 := Lib.hid (hlaid.out.belowF EnR.stays hb1)
      have q : ∀ j, j < 2 → w1.cell? ⟨w.heap.size, k * 2 + j, none⟩ = some (cs[k * 2 + j]?.getD undef) := fun j hj => by
        rw [hrow1.cell, Array.getElem?_eq_getElem (by omega)]; rfl
      have z0 : w1.cell? ⟨w.heap.size, k * 2, none⟩ = some (cs[k * 2]?.getD undef) := q 0 (by omega)
      have z1 := q 1 (by omega)
      have f0 := hrow1.free (k * 2)
      have f1 := hrow1.free (k * 2 + 1)
      clear q
      have HR := Lib.hid hrow1
      clear hrow1 hrow q0 q1
      go_wp2_with fail
      go_roundw
      case rel =>
        have y0 := (((t0.stays VlR.stays (ok' := okF (w.heap.size + 1) w1) (fun b hb' => hb'.mono hgw.out) (fun p v _ hp => hp))).setF VlR.stays (p := ⟨w.heap.size, k * 2, none⟩) (by simp) (.slice B0 m0 d0)).setF VlR.stays (p := ⟨w.heap.size, k * 2 + 1, none⟩) (by simp) (.int .i64 l[k].id)
        exact ⟨k + 1, _, by omega, by go_num, ((HR.out).set _ _).set _ _, Lib.hid (by simp [hcs.out]), Lib.hid ((((hl1.out).setF EnR.stays (by simp) _).setF EnR.stays (by simp) _).more hlt (c := [.slice B0 m0 d0, .int .i64 l[k].id]) rfl ⟨_, _, _, rfl, y0, hcp⟩ (hold2 cs k _ _) (fresh2 cs k _ _ hsz1)), Lib.hid (by simpa using HGW.out), ((hb.trans (hb1.mono hb.size)).setCell (by simp) _).setCell (by simp) _⟩
      case measure => simp [intOf]; omega
    · obtain rfl : k = l.length := by omega
      go_wp2
      go_ret
      exact ⟨_, _, rfl, Nat.le_refl _, (sl_of_laid (ok := okF w.heap.size _) hrow ⟨Nat.le_refl _, hgw.out, fun off => hrow.free off⟩ (fun i hi hlt' => by
        obtain ⟨c', h1, h2, h3⟩ := hlaid.out i hi hlt'
        exact ⟨c', h1, EnR.stays _ _ _ _ _ _ h2 (fun b hb' => hb'.mono (Nat.le_succ _)) (fun p v _ hp => hp), h3⟩) (Nat.le_refl _)), hb⟩
def isSl : Value → Bool
  | .slice .. => true
  | _ => false
structure Kept (B E : Nat) (w w' : World) : Prop where
  os : w'.os = w.os
  tape : w'.tape = w.tape
  output : w'.output = w.output
  size : w.heap.size ≤ w'.heap.size
  block : ∀ k, k < w.heap.size → (k < B ∨ E ≤ k) → w'.heap[k]? = w.heap[k]?
  cell : ∀ p v, w.cell? p = some v → ∃ v', w'.cell? p = some v' ∧ (isSl v = true → v' = v) ∧ isSl v' = isSl v
  frozen : ∀ p : Addr, p.block < w.heap.size → w'.frozen? p = w.frozen? p
theorem Kept.refl (B E : Nat) (w : World) : Kept B E w w := ⟨rfl, rfl, rfl, Nat.le_refl _, fun _ _ _ => rfl, fun _ v h => ⟨v, h, fun _ => rfl, rfl⟩, fun _ _ => rfl⟩
theorem Kept.trans {B E : Nat} {a b c : World} (h : Kept B E a b) (k : Kept B E b c) : Kept B E a c :=
  ⟨k.os.trans h.os, k.tape.trans h.tape, k.output.trans h.output, Nat.le_trans h.size k.size, fun i hi ho => (k.block i (Nat.lt_of_lt_of_le hi h.size) ho).trans (h.block i hi ho),
   fun p v hp => by
    obtain ⟨v1, h1, h2, h3⟩ := h.cell p v hp
    obtain ⟨v2, k1, k2, k3⟩ := k.cell p v1 h1
    exact ⟨v2, k1, fun hv => by rw [k2 (by rw [h3]; exact hv), h2 hv], k3.trans h3⟩,
   fun p hp => (k.frozen p (Nat.lt_of_lt_of_le hp h.size)).trans (h.frozen p hp)⟩
theorem Kept.below {B E : Nat} {w w' : World} (h : Below w.heap.size w w') : Kept B E w w' :=
  ⟨h.os, h.tape, h.output, h.size, fun k hk _ => h.block k hk, fun p v hp => ⟨v, below_keep h p v hp, fun _ => rfl, rfl⟩, fun p hp => World.frozen?_of_block (w := w) (h.block p.block hp)⟩
theorem Kept.set {B E : Nat} {a w : World} (h : Kept B E a w) {p : Addr} {v : Value} (hc : a.cell? p = some v) (hn : isSl v = false) (hB : B ≤ p.block) (hE : p.block < E) {u : Value} (hu : isSl u = false) : Kept B E a (w.setCell p u) := by
  refine ⟨h.os, h.tape, h.output, by simpa [World.setCell] using h.size, fun k hk ho => ?_, fun q x hq => ?_, fun q hq => (frozen_setCell w p u q).trans (h.frozen q hq)⟩
  · rw [Below.heap_setCell _ _ _ _ (by omega)]
    exact h.block k hk ho
  · by_cases e : q = p
    · subst e
      rw [hc] at hq
      cases hq
      obtain ⟨v', h1, h2, h3⟩ := h.cell _ _ hc
      exact ⟨u, World.cell?_setCell_same _ _ _ h1, fun hv => absurd (hn.symm.trans hv) (by simp), by rw [hu, hn]⟩
    · obtain ⟨v', h1, h2, h3⟩ := h.cell q x hq
      exact ⟨v', (World.cell?_setCell_other _ _ _ _ (fun hh => e hh.symm)).trans h1, h2, h3⟩
theorem Kept.toBelow {B E G : Nat} {a w w' : World} (h : Below G a w) (k : Kept B E w w') (hG : G ≤ B) (ha : G ≤ w.heap.size) : Below G a w' :=
  ⟨k.os.trans h.os, k.tape.trans h.tape, k.output.trans h.output, Nat.le_trans h.size k.size, fun i hi => (k.block i (by omega) (Or.inl (by omega))).trans (h.block i hi)⟩
theorem Kept.after {B E : Nat} {a b c : World} (k : Kept B E b c) (h : Kept B E a b) : Kept B E a c := h.trans k
theorem Kept.slice {B E : Nat} {w w' : World} (k : Kept B E w w') {p : Addr} {v : Value} (h : w.cell? p = some v) (hs : isSl v = true) : w'.cell? p = some v := by
  obtain ⟨v', h1, h2, -⟩ := k.cell p v h
  rw [h1, h2 hs]
theorem Kept.far {B E : Nat} {w w' : World} (k : Kept B E w w') {p : Addr} {v : Value} (hp : p.block < B ∨ E ≤ p.block) (h : w.cell? p = some v) : w'.cell? p = some v :=
  (World.cell?_of_block (w := w) (k.block p.block (cell_lt h) hp)).trans h
theorem Sl.kept {α : Type} {R : Rd α} (hR : Stays R) {sz : Nat} {ok : Nat → Prop} {B E : Nat} {w w' : World} {A : Option Addr} {n : Nat} {ds : List α} (h : Sl R sz ok w A n ds) (hk : Kept B E w w') (ho : ∀ b, ok b → b < B ∨ E ≤ b) : Sl R sz ok w' A n ds :=
  h.stays hR (fun _ h => h) fun p v hb hp => hk.far (ho _ hb) hp
def KStays {α : Type} (R : Rd α) : Prop := ∀ (ok : Nat → Prop) (B E : Nat) (w w' : World) (cs cs' : List Value) (d : α), R ok w cs d → Kept B E w w' → cs'.length = cs.length → (∀ (j : Nat) (v : Value), cs[j]? = some v → ∃ v', cs'[j]? = some v' ∧ (isSl v = true → v' = v) ∧ isSl v' = isSl v) → R ok w' cs' d
theorem Sl.shape {α : Type} {R : Rd α} (hR : KStays R) {sz : Nat} {ok : Nat → Prop} {B E : Nat} {w w' : World} {A : Option Addr} {n : Nat} {ds : List α} (h : Sl R sz ok w A n ds) (hk : Kept B E w w') : Sl R sz ok w' A n ds :=
  ⟨h.1, fun hn => by
    obtain ⟨b, off, e, hb, hi⟩ := h.2 hn
    refine ⟨b, off, e, hb, fun i hlt => ?_⟩
    obtain ⟨cs, h1, h2, h3⟩ := hi i hlt
    have hc : ∀ (j : Nat) (v : Value), cs[j]? = some v → ((List.range sz).map fun j => (w'.cell? ⟨b, off + i * sz + j, none⟩).getD undef)[j]? = some ((w'.cell? ⟨b, off + i * sz + j, none⟩).getD undef) := fun j v hv => by
      have hj : j < sz := by obtain ⟨hj, _⟩ := List.getElem?_eq_some_iff.1 hv; omega
      simp [hj]
    refine ⟨(List.range sz).map fun j => (w'.cell? ⟨b, off + i * sz + j, none⟩).getD undef, by simp, hR _ B E _ _ _ _ _ h2 hk (by simp [h1]) fun j v hv => ?_, fun j v hv => ?_⟩
    · obtain ⟨v', k1, k2, k3⟩ := hk.cell _ _ (h3 j v hv)
      exact ⟨v', by rw [hc j v hv, k1]; rfl, k2, k3⟩
    · have hj : j < sz := by obtain ⟨hj, _⟩ := List.getElem?_eq_some_iff.1 hv; simpa using hj
      obtain ⟨v0, hv0⟩ : ∃ v0, cs[j]? = some v0 := ⟨cs[j]'(by omega), List.getElem?_eq_getElem (by omega)⟩
      obtain ⟨v', k1, -⟩ := hk.cell _ _ (h3 j v0 hv0)
      rw [hc j v0 hv0, k1] at hv
      cases hv
      exact k1⟩
def ShF (m : Nat) : Rd Nat := fun _ _ cs d => cs.length = m ∧ (∀ (j : Nat) (v : Value), cs[j]? = some v → isSl v = false) ∧ d = m
theorem ShF.keeps (m : Nat) : KStays (ShF m) := fun _ _ _ _ _ _ cs' _ ⟨h1, h2, h3⟩ _ hl hc => ⟨hl.trans h1, fun j v hv => by
  have hj : j < cs'.length := (List.getElem?_eq_some_iff.1 hv).1
  obtain ⟨v', k1, _, k3⟩ := hc j _ (List.getElem?_eq_getElem (by omega))
  rw [hv] at k1
  cases k1
  rw [k3]
  exact h2 j _ (List.getElem?_eq_getElem (by omega)), h3⟩
theorem Sl.toSh {α β : Type} {R : Rd α} {R' : Rd β} {f : α → β} {sz : Nat} {ok : Nat → Prop} {w : World} {A : Option Addr} {n : Nat} {ds : List α} (h : Sl R sz ok w A n ds) {p : α → Prop} (hR : ∀ ok w cs d, p d → R ok w cs d → R' ok w cs (f d)) (hp : ∀ d ∈ ds, p d) : Sl R' sz ok w A n (ds.map f) :=
  ⟨by simpa using h.1, fun hn => by
    obtain ⟨b, off, e, hb, hi⟩ := h.2 hn
    refine ⟨b, off, e, hb, fun i hlt => ?_⟩
    obtain ⟨cs, h1, h2, h3⟩ := hi i (by simpa using hlt)
    exact ⟨cs, h1, by simpa using hR _ _ _ _ (hp _ (List.getElem_mem (by simpa using hlt))) h2, h3⟩⟩
theorem szL_mem {α : Type} (f : α → Nat) (l : List α) (y : α) (h : y ∈ l) : f y ≤ szL f l := by
  obtain ⟨i, hi, rfl⟩ := List.mem_iff_getElem.1 h
  have := sum_mem_le f l i hi
  unfold szL
  omega
theorem sum_le_of {α : Type} {f g : α → Nat} (c : Nat) (h : ∀ x, f x ≤ c * (g x + 1)) : ∀ l : List α, (l.map f).sum ≤ c * szL g l
  | [] => by simp [szL]
  | x :: l => by
    have h1 := sum_le_of c h l
    have h2 := h x
    simp only [szL, List.map_cons, List.sum_cons, List.length_cons] at *
    have e : c * (l.length + 1 + (g x + (l.map g).sum)) = c * (l.length + (l.map g).sum) + c * (g x + 1) := by rw [← Nat.mul_add]; congr 1; omega
    omega
theorem sum_take_n (l : List Nat) (k : Nat) (h : k < l.length) : (l.take (k + 1)).sum = (l.take k).sum + l[k] := by
  rw [List.take_succ_eq_append_getElem h, List.sum_append]; simp
theorem sum_take_n_le (l : List Nat) (k : Nat) : (l.take k).sum ≤ l.sum := by
  have e : l.sum = (l.take k).sum + (l.drop k).sum := by rw [← List.sum_append, List.take_append_drop]
  omega
def mayMark (B E : Nat) (w : World) (ok : Nat → Prop) : Prop := ∀ b, ok b → B ≤ b ∧ b < E ∧ b < w.heap.size ∧ ∀ off, w.frozen? ⟨b, off, none⟩ = false
theorem mayMark.kept {B E B' E' : Nat} {w w' : World} {ok : Nat → Prop} (h : mayMark B E w ok) (hk : Kept B' E' w w') : mayMark B E w' ok := fun b hb => by
  obtain ⟨h1, h2, h3, h4⟩ := h b hb
  exact ⟨h1, h2, Nat.lt_of_lt_of_le h3 hk.size, fun off => (hk.frozen ⟨b, off, none⟩ h3).trans (h4 off)⟩
theorem mayMark.below {B E : Nat} {w w' : World} {ok : Nat → Prop} (h : mayMark B E w ok) (hk : Below w.heap.size w w') : mayMark B E w' ok := h.kept (Kept.below (B := 0) (E := 0) hk)
def digB (k : Nat) : ByteArray := ⟨#[UInt8.ofNat (48 + k % 10)]⟩
def mtFin : Nat → Nat → ByteArray → ByteArray
  | 0, _, out => ⟨#[109]⟩ ++ out
  | f + 1, k, out => if k = 0 then ⟨#[109]⟩ ++ out else mtFin f (k / 10) (digB k ++ out)
def mtx (k : Nat) : ByteArray := if k = 0 then ⟨#[109, 48]⟩ else mtFin k k ⟨#[]⟩
theorem mtFin_zero (f : Nat) (out : ByteArray) : mtFin f 0 out = ⟨#[109]⟩ ++ out := by cases f <;> simp [mtFin]
theorem mtFin_step (f k : Nat) (out : ByteArray) (h : 0 < k) : mtFin (f + 1) k out = mtFin f (k / 10) (digB k ++ out) := by
  rw [mtFin, if_neg (by omega)]
theorem digB_run (j : Nat) (w : World) :
    (convert 85 9 (.slice (some ⟨w.heap.size, 0, none⟩) 1 1)).run Try.prog (w.alloc (.cells #[.int .u8 (48 + (j : Int) % 10)] 5)) = .ok (.string (digB j)) (w.alloc (.cells #[.int .u8 (48 + (j : Int) % 10)] 5)) := by
  refine run_convert_bytes_back _ _ _ 5 ⟨w.heap.size, 0, none⟩ 1 [UInt8.ofNat (48 + j % 10)] Try.underlying85 Try.underlying5 Try.underlying9 fun i hi => ?_
  have e : i = 0 := by simpa using hi
  subst e
  have e2 : (UInt8.ofNat (48 + j % 10)).toNat = 48 + j % 10 := by rw [UInt8.toNat_ofNat']; omega
  simp [Addr.add, World.cell?_alloc_mark]
  omega
def MtRel (k : Nat) (w : World) (m o : Value) (wr : World) : Prop := ∃ (f j : Nat) (out : ByteArray), m = .int .i64 j ∧ o = .string out ∧ j ≤ f ∧ out.size + f ≤ k ∧ Hid (mtFin k k ⟨#[]⟩ = mtFin f j out) ∧ Below w.heap.size w wr
theorem digB_size (j : Nat) : (digB j).size = 1 := rfl
set_option maxRecDepth 100000 in
set_option maxHeartbeats 1000000 in
theorem lawsMarkText (k : Nat) (w : World) (hk : k ≤ 1073741824) {x : Int} (hx : x = k) :
    Calls Try.prog 46 #[.int .i64 x] w fun e w' => e = .returned (.string (mtx k)) ∧ Below w.heap.size w w' := by
  subst hx
  by_cases h0 : k = 0
  · subst h0
    go_enter Try.func46, Try.ntmps46
    go_wp2_with fail
    go_ret
    exact ⟨rfl, Below.refl _ _⟩
  have hpos : ¬ ((k : Int) ≤ 0) := by omega
  go_enter Try.func46, Try.ntmps46
  go_wp2_with fail
  go_loopw [0, 3] (MtRel k w) (fun m _ _ => (intOf m).toNat)
  case atStart => exact ⟨k, k, ⟨#[]⟩, rfl, rfl, Nat.le_refl _, by simp [ByteArray.size], Lib.hid rfl, Below.refl _ _⟩
  case round =>
    obtain ⟨f, j, out, rfl, rfl, hj, ho, hm, hb⟩ := hrel
    by_cases hlt : 0 < j
    · obtain ⟨f, rfl⟩ : ∃ g, f = g + 1 := ⟨f - 1, by omega⟩
      have hm2 := hm.out
      rw [mtFin_step _ _ _ hlt] at hm2
      have HM := Lib.hid hm2
      clear hm hm2
      have d0 : (0 : Int) < j := by omega
      have hcv := digB_run j wr
      have hc1 : (digB j).size + out.size ≤ 9223372036854775807 := by rw [digB_size]; omega
      have hc2 : ¬ 9223372036854775807 < (digB j).size + out.size := by omega
      have hba := hb.alloc hb.size (.cells #[.int .u8 (48 + (j : Int) % 10)] 5)
      go_wp2_with fail
      go_roundw
      case rel => exact ⟨f, j / 10, digB j ++ out, by go_num, rfl, by omega, by rw [ByteArray.size_append, digB_size]; omega, HM, hba⟩
      case measure => simp [intOf]; omega
    · have e : j = 0 := by omega
      have hm2 := hm.out
      rw [e, mtFin_zero] at hm2
      have HM := Lib.hid (show mtx k = ⟨#[109]⟩ ++ out by rw [mtx, if_neg h0]; exact hm2)
      have d0 : ¬ ((0 : Int) < j) := by omega
      have hc1 : (⟨#[109]⟩ : ByteArray).size + out.size ≤ 9223372036854775807 := by show 1 + out.size ≤ _; omega
      have hc2 : 1 + out.size ≤ 9223372036854775807 := by omega
      clear hm hm2 e
      go_wp2_with fail
      go_ret
      exact ⟨by rw [HM.out]; rfl, hb⟩
theorem Vl.toSh : ∀ (ok : Nat → Prop) (w : World) (cs : List Value) (x : Vl), True → VlR ok w cs x → ShF 3 ok w cs ((fun _ : Vl => 3) x) := fun _ _ cs x _ h => by
  have e : cs = _ := h
  subst e
  refine ⟨rfl, fun j v hv => ?_, rfl⟩
  have hj : j < 3 := (List.getElem?_eq_some_iff.1 hv).1
  have : j = 0 ∨ j = 1 ∨ j = 2 := by omega
  rcases this with rfl | rfl | rfl <;> (obtain rfl := Option.some.inj hv; rfl)
def EnSh : Rd Nat := fun ok w cs d => ∃ (A0 : Option Addr) (n0 c0 : Nat) (m0 : List Nat) (u1 : Value), cs = [.slice A0 n0 c0, u1] ∧ (isSl u1 = false) ∧ Sl (ShF 3) 3 ok w A0 n0 m0 ∧ (n0 ≤ 1048576) ∧ d = 1 + m0.sum
theorem EnSh.keeps : KStays EnSh := by
  intro ok B E w w' cs cs' d hR hk hl hc
  obtain ⟨A0, n0, c0, m0, u1, rfl, g1, h0, hcp, hd⟩ := hR
  match cs', hl with
  | [x0, x1], _ =>
    obtain ⟨y0, e0, s0, t0⟩ := hc 0 _ rfl
    obtain rfl : x0 = y0 := Option.some.inj e0
    obtain ⟨y1, e1, s1, t1⟩ := hc 1 _ rfl
    obtain rfl : x1 = y1 := Option.some.inj e1
    obtain rfl := s0 rfl
    exact ⟨A0, n0, c0, m0, x1, rfl, t1.trans g1, h0.shape (ShF.keeps 3) hk, hcp, hd⟩
def En.cnt (x : En) : Nat := 1 + (x.key.map (fun _ : Vl => 3)).sum
theorem En.toSh : ∀ (ok : Nat → Prop) (w : World) (cs : List Value) (x : En), x.sz ≤ 1048576 → EnR ok w cs x → EnSh ok w cs x.cnt := fun _ _ _ x hs ⟨A0, n0, c0, e, h0, _⟩ =>
  ⟨A0, n0, c0, _, _, e, rfl, h0.toSh Vl.toSh (fun _ _ => trivial), (by have h1 := h0.1; unfold En.sz at hs; (try simp only [szL] at hs); omega), rfl⟩
theorem En.cnt_le (x : En) : x.cnt ≤ 6 * (x.sz + 1) := by
  unfold En.cnt En.sz
  have z0 := sum_le_of (f := (fun _ : Vl => 3)) (g := fun v : Vl => v.s.size) 6 (fun _ => by omega) x.key
  omega
set_option maxRecDepth 100000 in
set_option maxHeartbeats 1000000 in
theorem marksValL (A : Option Addr) (n c : Nat) (ms : List Nat) (ok : Nat → Prop) (B E k : Nat) (w : World) (h : Sl (ShF 3) 3 ok w A n ms) (hm : mayMark B E w ok) (hk : k + ms.sum ≤ 1073741824) (hn : n ≤ 1048576) {x : Int} (hx : x = k) :
    Calls Try.prog 31 #[.slice A n c, .int .i64 x] w fun e w' => e = .returned (.int .i64 ((k + ms.sum : Nat) : Int)) ∧ Kept B E w w' := by
  obtain rfl : ms.length = n := h.1
  subst hx
  go_enter Try.func31, Try.ntmps31
  go_wp2_with fail
  go_loopw [1, 5] (fun m i wr => ∃ (j t : Nat), j ≤ ms.length ∧ i = .int .i64 j ∧ m = .int .i64 ((k + t : Nat) : Int) ∧ Hid ((ms.take j).sum = t) ∧ Kept B E w wr) (fun _ i _ => ms.length - (intOf i).toNat)
  case atStart => exact ⟨0, 0, by omega, rfl, by simp, Lib.hid (by simp), Kept.refl _ _ _⟩
  case round =>
    obtain ⟨i, t, hi, rfl, rfl, ht, hK⟩ := hrel
    by_cases hlt : i < ms.length
    · have hsh := h.shape (ShF.keeps 3) hK
      have hmm := hm.kept hK
      obtain ⟨b, off, rfl, hob, hcs⟩ := hsh.2 (by omega)
      obtain ⟨cs, hcl, hR, hg⟩ := hcs i hlt
      have hst := sum_take_n ms i hlt
      have hsl := sum_take_n_le ms (i + 1)
      rw [ht.out] at hst
      obtain ⟨hB, hE, -, hfr⟩ := hmm b hob
      obtain ⟨u0, u1, u2, rfl⟩ : ∃ u0 u1 u2, cs = [u0, u1, u2] := by
        have h0 := hR.1
        match cs, h0 with
        | [x0, x1, x2], _ => exact ⟨x0, x1, x2, rfl⟩
      have g0 : isSl u0 = false := hR.2.1 0 _ rfl
      have g1 : isSl u1 = false := hR.2.1 1 _ rfl
      have g2 : isSl u2 = false := hR.2.1 2 _ rfl
      have hd : ms[i] = 3 := hR.2.2
      have q0 : wr.cell? ⟨b, off + i * 3, none⟩ = some (u0) := hg 0 _ rfl
      have q1 : wr.cell? ⟨b, off + i * 3 + 1, none⟩ = some (u1) := hg 1 _ rfl
      have q2 : wr.cell? ⟨b, off + i * 3 + 2, none⟩ = some (u2) := hg 2 _ rfl
      have hle : k + t + (3) ≤ 1073741824 := by omega
      have HD := Lib.hid hd
      have HST := Lib.hid hst
      clear hd hst hsl
      have f0 := hfr (off + i * 3)
      have f1 := hfr (off + i * 3 + 1)
      have f2 := hfr (off + i * 3 + 2)
      have Q0 := Lib.hid q0
      have Q1 := Lib.hid q1
      have Q2 := Lib.hid q2
      have G0 := Lib.hid g0
      have G1 := Lib.hid g1
      have G2 := Lib.hid g2
      have HB := Lib.hid hB
      have HE := Lib.hid hE
      have HR := Lib.hid hfr
      have HO := Lib.hid hob
      clear hsh hcs hg hR hB hE hfr g0 g1 g2
      have HMM := Lib.hid hmm
      clear hmm
      go_wp2_with fail
      refine (lawsMarkText (k + t + 2) _ (by omega) (by omega)).mono ?_
      rintro e w1 ⟨rfl, hb1⟩
      have hk1 : Kept B E wr w1 := by refine (Kept.below hb1).after ?_; refine Kept.set ?_ Q1.out G1.out HB.out HE.out rfl; refine Kept.set ?_ Q0.out G0.out HB.out HE.out rfl; exact Kept.refl B E wr
      obtain ⟨v1_0, z1_0, -, -⟩ := hk1.cell _ _ Q0.out
      have k1_0 := (HMM.out.kept hk1 b HO.out).2.2.2 (off + i * 3)
      obtain ⟨v1_1, z1_1, -, -⟩ := hk1.cell _ _ Q1.out
      have k1_1 := (HMM.out.kept hk1 b HO.out).2.2.2 (off + i * 3 + 1)
      obtain ⟨v1_2, z1_2, -, -⟩ := hk1.cell _ _ Q2.out
      have k1_2 := (HMM.out.kept hk1 b HO.out).2.2.2 (off + i * 3 + 2)
      clear q0 q1 q2 f0 f1 f2
      go_wp2_with fail
      go_roundw
      case rel => exact ⟨i + 1, t + ms[i], by omega, by go_num, by rw [HD.out]; go_num, Lib.hid HST.out, hK.trans (by refine Kept.set ?_ Q2.out G2.out HB.out HE.out rfl; exact hk1)⟩
      case measure => simp [intOf]; omega
    · obtain rfl : i = ms.length := by omega
      have e := ht.out
      rw [List.take_of_length_le (Nat.le_refl _)] at e
      have HT := Lib.hid e
      clear e ht
      go_wp2_with fail
      go_ret
      exact ⟨retI (by rw [HT.out]), hK⟩
set_option maxRecDepth 100000 in
set_option maxHeartbeats 1000000 in
theorem marksEntryL (A : Option Addr) (n c : Nat) (ms : List Nat) (ok : Nat → Prop) (B E k : Nat) (w : World) (h : Sl EnSh 2 ok w A n ms) (hm : mayMark B E w ok) (hk : k + ms.sum ≤ 1073741824) (hn : n ≤ 1048576) {x : Int} (hx : x = k) :
    Calls Try.prog 21 #[.slice A n c, .int .i64 x] w fun e w' => e = .returned (.int .i64 ((k + ms.sum : Nat) : Int)) ∧ Kept B E w w' := by
  obtain rfl : ms.length = n := h.1
  subst hx
  go_enter Try.func21, Try.ntmps21
  go_wp2_with fail
  go_loopw [1, 5] (fun m i wr => ∃ (j t : Nat), j ≤ ms.length ∧ i = .int .i64 j ∧ m = .int .i64 ((k + t : Nat) : Int) ∧ Hid ((ms.take j).sum = t) ∧ Kept B E w wr) (fun _ i _ => ms.length - (intOf i).toNat)
  case atStart => exact ⟨0, 0, by omega, rfl, by simp, Lib.hid (by simp), Kept.refl _ _ _⟩
  case round =>
    obtain ⟨i, t, hi, rfl, rfl, ht, hK⟩ := hrel
    by_cases hlt : i < ms.length
    · have hsh := h.shape EnSh.keeps hK
      have hmm := hm.kept hK
      obtain ⟨b, off, rfl, hob, hcs⟩ := hsh.2 (by omega)
      obtain ⟨cs, hcl, hR, hg⟩ := hcs i hlt
      have hst := sum_take_n ms i hlt
      have hsl := sum_take_n_le ms (i + 1)
      rw [ht.out] at hst
      obtain ⟨hB, hE, -, hfr⟩ := hmm b hob
      obtain ⟨A0, n0, c0, m0, u1, rfl, g1, h0, hcp, hd⟩ := hR
      have q0 : wr.cell? ⟨b, off + i * 2, none⟩ = some (.slice A0 n0 c0) := hg 0 _ rfl
      have q1 : wr.cell? ⟨b, off + i * 2 + 1, none⟩ = some (u1) := hg 1 _ rfl
      have hle : k + t + (1 + m0.sum) ≤ 1073741824 := by omega
      have HD := Lib.hid hd
      have HST := Lib.hid hst
      clear hd hst hsl
      have f1 := hfr (off + i * 2 + 1)
      have Q0 := Lib.hid q0
      have Q1 := Lib.hid q1
      have G1 := Lib.hid g1
      have HB := Lib.hid hB
      have HE := Lib.hid hE
      have HR := Lib.hid hfr
      have HO := Lib.hid hob
      have HN0 := Lib.hid (hcp)
      clear hcp
      clear hsh hcs hg hB hE hfr g1
      have HMM := Lib.hid hmm
      clear hmm
      go_wp2_with fail
      refine (marksValL A0 n0 c0 m0 ok B E (k + t) _ (h0.shape (ShF.keeps 3) (by exact Kept.refl B E wr)) (HMM.out.kept (by exact Kept.refl B E wr)) (by omega) HN0.out (by omega)).mono ?_
      rintro e w1 ⟨rfl, hb1⟩
      have hk1 : Kept B E wr w1 := by refine hb1.after ?_; exact Kept.refl B E wr
      have z1_0 := hk1.slice Q0.out rfl
      obtain ⟨v1_1, z1_1, -, -⟩ := hk1.cell _ _ Q1.out
      have k1_1 := (HMM.out.kept hk1 b HO.out).2.2.2 (off + i * 2 + 1)
      clear q0 q1 f1
      go_wp2_with fail
      go_roundw
      case rel => exact ⟨i + 1, t + ms[i], by omega, by go_num, by rw [HD.out]; go_num, Lib.hid HST.out, hK.trans (by refine Kept.set ?_ Q1.out G1.out HB.out HE.out rfl; exact hk1)⟩
      case measure => simp [intOf]; omega
    · obtain rfl : i = ms.length := by omega
      have e := ht.out
      rw [List.take_of_length_le (Nat.le_refl _)] at e
      have HT := Lib.hid e
      clear e ht
      go_wp2_with fail
      go_ret
      exact ⟨retI (by rw [HT.out]), hK⟩
def Mk (f : Nat → Value) (w : World) (A : Option Addr) (m : Nat) : Prop := 0 < m → ∃ b off, A = some ⟨b, off, none⟩ ∧ ∀ j, j < m → w.cell? ⟨b, off + j, none⟩ = some (f j)
def KM (f : Nat → Value) (b off B E : Nat) (wr W : World) (m : Nat) : Prop := Kept B E wr W ∧ ∀ j, j < m → W.cell? ⟨b, off + j, none⟩ = some (f j)
theorem KM.set {f : Nat → Value} {b off B E : Nat} {wr W : World} {m : Nat} (h : KM f b off B E wr W m) {p : Addr} {u v : Value} (hp : p = ⟨b, off + m, none⟩) (hc : wr.cell? p = some u) (hn : isSl u = false) (hB : B ≤ p.block) (hE : p.block < E) (hv : isSl v = false) (hf : v = f m) : KM f b off B E wr (W.setCell p v) (m + 1) := by
  refine ⟨Kept.set h.1 hc hn hB hE hv, fun j hj => ?_⟩
  obtain ⟨u', h1, -⟩ := h.1.cell p u hc
  subst hp
  by_cases e : j = m
  · subst e
    rw [World.cell?_setCell_same _ _ _ h1, hf]
  · rw [World.cell?_setCell_other _ _ _ _ (by intro hh; simp only [Addr.mk.injEq] at hh; omega)]
    exact h.2 j (by omega)
theorem KM.below {f : Nat → Value} {b off B E : Nat} {wr W W' : World} {m : Nat} (hb : Below W.heap.size W W') (h : KM f b off B E wr W m) : KM f b off B E wr W' m := ⟨h.1.trans (Kept.below hb), fun j hj => below_keep hb _ _ (h.2 j hj)⟩
theorem KM.close {f : Nat → Value} {b off B E : Nat} {w wr W : World} {m m' : Nat} (h : KM f b off B E wr W m') (hK : Kept B E w wr) (e : m = m') : Hid (Mk f W (some ⟨b, off, none⟩) m) ∧ Kept B E w W := ⟨fun _ => ⟨b, off, rfl, fun j hj => h.2 j (by omega)⟩, hK.trans h.1⟩
theorem KM.start {f : Nat → Value} {b off B E : Nat} {w wr : World} {m : Nat} (h : ∀ j, j < m → wr.cell? ⟨b, off + j, none⟩ = some (f j)) : KM f b off B E wr wr m := ⟨Kept.refl _ _ _, h⟩
theorem Mk.below {f : Nat → Value} {w w' : World} {A : Option Addr} {m : Nat} (h : Mk f w A m) (hb : Below w.heap.size w w') : Mk f w' A m := fun hm => by
  obtain ⟨b, off, e, hc⟩ := h hm
  exact ⟨b, off, e, fun j hj => below_keep hb _ _ (hc j hj)⟩
def mkXVal (k j : Nat) : Value := if j % 3 = 2 then .string (mtx (k + j)) else .int .i64 ((k + j : Nat) : Int)
theorem mkXVal_0 (k i : Nat) : mkXVal k (i * 3 + 0) = .int .i64 ((k + (i * 3 + 0) : Nat) : Int) := by unfold mkXVal; rw [if_neg (by omega)]
theorem mkXVal_1 (k i : Nat) : mkXVal k (i * 3 + 1) = .int .i64 ((k + (i * 3 + 1) : Nat) : Int) := by unfold mkXVal; rw [if_neg (by omega)]
theorem mkXVal_2 (k i : Nat) : mkXVal k (i * 3 + 2) = .string (mtx (k + (i * 3 + 2))) := by unfold mkXVal; rw [if_pos (by omega)]
set_option maxRecDepth 100000 in
set_option maxHeartbeats 1000000 in
theorem marksXValL (A : Option Addr) (n c : Nat) (ms : List Nat) (ok : Nat → Prop) (B E k : Nat) (w : World) (h : Sl (ShF 3) 3 ok w A n ms) (hm : mayMark B E w ok) (hk : k + n * 3 ≤ 1073741824) (hn : n ≤ 1048576) {x : Int} (hx : x = k) :
    Calls Try.prog 31 #[.slice A n c, .int .i64 x] w fun e w' => e = .returned (.int .i64 ((k + n * 3 : Nat) : Int)) ∧ Kept B E w w' ∧ Mk (mkXVal k) w' A (n * 3) := by
  obtain rfl : ms.length = n := h.1
  subst hx
  go_enter Try.func31, Try.ntmps31
  go_wp2_with fail
  go_loopw [1, 5] (fun m i wr => ∃ (j : Nat), j ≤ ms.length ∧ i = .int .i64 j ∧ m = .int .i64 ((k + j * 3 : Nat) : Int) ∧ Hid (Mk (mkXVal k) wr A (j * 3)) ∧ Kept B E w wr) (fun _ i _ => ms.length - (intOf i).toNat)
  case atStart => exact ⟨0, by omega, rfl, by simp, Lib.hid (fun h => by omega), Kept.refl _ _ _⟩
  case round =>
    obtain ⟨i, hi, rfl, rfl, hM, hK⟩ := hrel
    by_cases hlt : i < ms.length
    · have hsh := h.shape (ShF.keeps 3) hK
      have hmm := hm.kept hK
      obtain ⟨b, off, rfl, hob, hcs⟩ := hsh.2 (by omega)
      obtain ⟨cs, hcl, hR, hg⟩ := hcs i hlt
      have hM0 : ∀ j, j < i * 3 → wr.cell? ⟨b, off + j, none⟩ = some (mkXVal k j) := fun j hj => by
        obtain ⟨b', off', e, hc⟩ := hM.out (by omega)
        cases e
        exact hc j hj
      obtain ⟨hB, hE, -, hfr⟩ := hmm b hob
      obtain ⟨u0, u1, u2, rfl⟩ : ∃ u0 u1 u2, cs = [u0, u1, u2] := by
        have h0 := hR.1
        match cs, h0 with
        | [x0, x1, x2], _ => exact ⟨x0, x1, x2, rfl⟩
      have g0 : isSl u0 = false := hR.2.1 0 _ rfl
      have g1 : isSl u1 = false := hR.2.1 1 _ rfl
      have g2 : isSl u2 = false := hR.2.1 2 _ rfl
      have q0 : wr.cell? ⟨b, off + i * 3, none⟩ = some (u0) := hg 0 _ rfl
      have q1 : wr.cell? ⟨b, off + i * 3 + 1, none⟩ = some (u1) := hg 1 _ rfl
      have q2 : wr.cell? ⟨b, off + i * 3 + 2, none⟩ = some (u2) := hg 2 _ rfl
      have f0 := hfr (off + i * 3)
      have f1 := hfr (off + i * 3 + 1)
      have f2 := hfr (off + i * 3 + 2)
      have Q0 := Lib.hid q0
      have Q1 := Lib.hid q1
      have Q2 := Lib.hid q2
      have G0 := Lib.hid g0
      have G1 := Lib.hid g1
      have G2 := Lib.hid g2
      have HB := Lib.hid hB
      have HE := Lib.hid hE
      have HR := Lib.hid hfr
      have HO := Lib.hid hob
      have HM0 := Lib.hid hM0
      have HMM := Lib.hid hmm
      have hle : k + i * 3 + 3 ≤ 1073741824 := by omega
      clear hsh hcs hg hR hB hE hfr hmm hM0 hM g0 g1 g2
      go_wp2_with fail
      refine (lawsMarkText (k + (i * 3 + 2)) _ (by omega) (by omega)).mono ?_
      rintro e w1 ⟨rfl, hb1⟩
      have hk1 : KM (mkXVal k) b off B E wr w1 (i * 3 + 2) := by refine KM.below hb1 ?_; refine KM.set (m := i * 3 + 1) ?_ (by simp [Nat.add_assoc]) Q1.out G1.out HB.out HE.out rfl (by rw [mkXVal_1]; exact congrArg (Value.int .i64) (by omega)); refine KM.set (m := i * 3 + 0) ?_ (by simp [Nat.add_assoc]) Q0.out G0.out HB.out HE.out rfl (by rw [mkXVal_0]; exact congrArg (Value.int .i64) (by omega)); exact KM.start (w := wr) HM0.out
      obtain ⟨v1_0, z1_0, -, -⟩ := hk1.1.cell _ _ Q0.out
      have k1_0 := (HMM.out.kept hk1.1 b HO.out).2.2.2 (off + i * 3)
      obtain ⟨v1_1, z1_1, -, -⟩ := hk1.1.cell _ _ Q1.out
      have k1_1 := (HMM.out.kept hk1.1 b HO.out).2.2.2 (off + i * 3 + 1)
      obtain ⟨v1_2, z1_2, -, -⟩ := hk1.1.cell _ _ Q2.out
      have k1_2 := (HMM.out.kept hk1.1 b HO.out).2.2.2 (off + i * 3 + 2)
      have HK1 := Lib.hid hk1
      clear hk1 q0 f0 q1 f1 q2 f2
      go_wp2_with fail
      go_roundw
      case rel =>
        refine ⟨i + 1, by omega, by go_num, by exact congrArg (Value.int .i64) (by omega), ?_⟩
        refine KM.close (m' := i * 3 + 2 + 1) ?_ hK (by omega)
        refine KM.set (m := i * 3 + 2) ?_ (by simp [Nat.add_assoc]) Q2.out G2.out HB.out HE.out rfl (by first | (rw [mkXVal_2]; done) | (rw [mkXVal_2]; congr 2; omega)); exact HK1.out
      case measure => simp [intOf]; omega
    · obtain rfl : i = ms.length := by omega
      go_wp2_with fail
      go_ret
      exact ⟨rfl, hK, hM.out⟩
set_option maxRecDepth 100000 in
set_option maxHeartbeats 1000000 in
theorem heldXValL (A : Option Addr) (n c k : Nat) (w : World) (h : Mk (mkXVal k) w A (n * 3)) (hk : k + n * 3 ≤ 1073741824) (hn : n ≤ 1048576) {x : Int} (hx : x = k) :
    Calls Try.prog 32 #[.slice A n c, .int .i64 x] w fun e w' => e = .returned (.int .i64 ((k + n * 3 : Nat) : Int)) ∧ Below w.heap.size w w' := by
  subst hx
  have HH := Lib.hid h
  clear h
  go_enter Try.func32, Try.ntmps32
  go_wp2_with fail
  go_loopw [1, 5] (fun m i wr => ∃ (j : Nat), j ≤ n ∧ i = .int .i64 j ∧ m = .int .i64 ((k + j * 3 : Nat) : Int) ∧ Below w.heap.size w wr) (fun _ i _ => n - (intOf i).toNat)
  case atStart => exact ⟨0, by omega, rfl, by simp, Below.refl _ _⟩
  case round =>
    obtain ⟨i, hi, rfl, rfl, hb⟩ := hrel
    by_cases hlt : i < n
    · obtain ⟨b, off, rfl, hc⟩ := (HH.out.below hb) (by omega)
      have hle : k + i * 3 + 3 ≤ 1073741824 := by omega
      have q0 : wr.cell? ⟨b, off + i * 3, none⟩ = some (.int .i64 ((k + (i * 3 + 0) : Nat) : Int)) := by have := hc (i * 3 + 0) (by omega); rwa [mkXVal_0] at this
      have q1 : wr.cell? ⟨b, off + i * 3 + 1, none⟩ = some (.int .i64 ((k + (i * 3 + 1) : Nat) : Int)) := by have := hc (i * 3 + 1) (by omega); rwa [mkXVal_1, ← Nat.add_assoc] at this
      have q2 : wr.cell? ⟨b, off + i * 3 + 2, none⟩ = some (.string (mtx (k + (i * 3 + 2)))) := by have := hc (i * 3 + 2) (by omega); rwa [mkXVal_2, ← Nat.add_assoc] at this
      have i0 : (0 : Int) ≤ i := by omega
      have i1 : (i : Int) < n := by omega
      have Q0 := Lib.hid q0
      have Q1 := Lib.hid q1
      have Q2 := Lib.hid q2
      clear hc
      go_wp2_with fail
      go_region_held3 (fun w' => w'.cell? ⟨b, off + i * 3 + 2, none⟩ = some (.string (mtx (k + (i * 3 + 2)))))
        (first | go_keep | exact below_keep hb1 _ _ (by assumption))
        (first | (go_at_call 46; refine (lawsMarkText (k + (i * 3 + 2)) _ (by omega) (by omega)).mono ?_; rintro e w1 ⟨rfl, hb1⟩))
      go_wp2_with fail
      go_roundw
      case rel => exact ⟨i + 1, by omega, by go_num, by exact congrArg (Value.int .i64) (by omega), hb.drew.trans (hb1.mono hb.size)⟩
      case measure => simp [intOf]; omega
    · obtain rfl : i = n := by omega
      go_wp2_with fail
      go_ret
      exact ⟨rfl, hb⟩
structure KeptL (bs : List Nat) (w w' : World) : Prop where
  os : w'.os = w.os
  tape : w'.tape = w.tape
  output : w'.output = w.output
  size : w.heap.size ≤ w'.heap.size
  block : ∀ k, k < w.heap.size → k ∉ bs → w'.heap[k]? = w.heap[k]?
  frozen : ∀ p : Addr, p.block < w.heap.size → w'.frozen? p = w.frozen? p
theorem KeptL.refl (bs : List Nat) (w : World) : KeptL bs w w := ⟨rfl, rfl, rfl, Nat.le_refl _, fun _ _ _ => rfl, fun _ _ => rfl⟩
theorem KeptL.trans {bs : List Nat} {a b c : World} (h : KeptL bs a b) (k : KeptL bs b c) : KeptL bs a c :=
  ⟨k.os.trans h.os, k.tape.trans h.tape, k.output.trans h.output, Nat.le_trans h.size k.size, fun i hi ho => (k.block i (Nat.lt_of_lt_of_le hi h.size) ho).trans (h.block i hi ho),
   fun p hp => (k.frozen p (Nat.lt_of_lt_of_le hp h.size)).trans (h.frozen p hp)⟩
theorem KeptL.mono {bs cs : List Nat} {a b : World} (h : KeptL bs a b) (hc : ∀ x ∈ bs, x ∈ cs) : KeptL cs a b :=
  ⟨h.os, h.tape, h.output, h.size, fun k hk ho => h.block k hk fun hh => ho (hc _ hh), h.frozen⟩
theorem KeptL.below {bs : List Nat} {w w' : World} (h : Below w.heap.size w w') : KeptL bs w w' :=
  ⟨h.os, h.tape, h.output, h.size, fun k hk _ => h.block k hk, fun p hp => World.frozen?_of_block (w := w) (h.block p.block hp)⟩
theorem KeptL.of {b : Nat} {w w' : World} (h : Kept b (b + 1) w w') : KeptL [b] w w' :=
  ⟨h.os, h.tape, h.output, h.size, fun k hk ho => h.block k hk (by rw [List.mem_singleton] at ho; omega), h.frozen⟩
theorem KeptL.of0 {bs : List Nat} {w w' : World} (h : Kept 0 0 w w') : KeptL bs w w' :=
  ⟨h.os, h.tape, h.output, h.size, fun k hk _ => h.block k hk (Or.inr (Nat.zero_le _)), h.frozen⟩
theorem KeptL.far {bs : List Nat} {w w' : World} (h : KeptL bs w w') {p : Addr} {v : Value} (hp : p.block ∉ bs) (hc : w.cell? p = some v) : w'.cell? p = some v :=
  (World.cell?_of_block (w := w) (h.block p.block (cell_lt hc) hp)).trans hc
theorem KeptL.set {bs : List Nat} {a w : World} (h : KeptL bs a w) {p : Addr} {u : Value} (hp : p.block ∈ bs) : KeptL bs a (w.setCell p u) :=
  ⟨h.os, h.tape, h.output, by simpa [World.setCell] using h.size, fun k hk ho => by
    rw [Below.heap_setCell _ _ _ _ (fun hh => ho (by rw [hh]; exact hp))]
    exact h.block k hk ho, fun q hq => (frozen_setCell w p u q).trans (h.frozen q hq)⟩
theorem KeptL.toBelow {bs : List Nat} {G : Nat} {a w w' : World} (h : Below G a w) (k : KeptL bs w w') (hG : ∀ b ∈ bs, G ≤ b) (ha : G ≤ w.heap.size) : Below G a w' :=
  ⟨k.os.trans h.os, k.tape.trans h.tape, k.output.trans h.output, Nat.le_trans h.size k.size, fun i hi => (k.block i (by omega) (fun hh => by have := hG i hh; omega)).trans (h.block i hi)⟩
def FlS (sz : Nat) (w : World) (A : Option Addr) (n : Nat) (bs : List Nat) : Prop :=
  bs.length ≤ 1 ∧ n ≤ 1048576 ∧ (∀ b ∈ bs, b < w.heap.size ∧ ∀ off, w.frozen? ⟨b, off, none⟩ = false) ∧ ∃ ms, Sl (ShF sz) sz (· ∈ bs) w A n ms
theorem ShF.stays (m : Nat) : Stays (ShF m) := fun _ _ _ _ _ _ h _ _ => h
theorem FlS.stay {sz : Nat} {w w' : World} {A : Option Addr} {n : Nat} {bs bs' : List Nat} (h : FlS sz w A n bs) (k : KeptL bs' w w') (hd : ∀ x ∈ bs, x ∉ bs') : FlS sz w' A n bs := by
  obtain ⟨h1, h2, h3, ms, h4⟩ := h
  exact ⟨h1, h2, fun b hb => ⟨Nat.lt_of_lt_of_le (h3 b hb).1 k.size, fun off => (k.frozen ⟨b, off, none⟩ (h3 b hb).1).trans ((h3 b hb).2 off)⟩, ms,
    h4.stays (ShF.stays sz) (fun _ h => h) fun p v hb hp => k.far (hd _ hb) hp⟩
def FlH (f : Nat → Nat → Value) (sz : Nat) (w : World) (k : Nat) (A : Option Addr) (n : Nat) (bs : List Nat) : Prop :=
  n ≤ 1048576 ∧ (0 < n * sz → ∃ b off, A = some ⟨b, off, none⟩ ∧ b ∈ bs ∧ ∀ j, j < n * sz → w.cell? ⟨b, off + j, none⟩ = some (f k j))
theorem FlH.mk {f : Nat → Nat → Value} {sz : Nat} {w : World} {k : Nat} {A : Option Addr} {n : Nat} {bs : List Nat} (h : FlH f sz w k A n bs) : Mk (f k) w A (n * sz) := fun hn => by
  obtain ⟨b, off, e, -, hc⟩ := h.2 hn
  exact ⟨b, off, e, hc⟩
theorem FlH.stay {f : Nat → Nat → Value} {sz : Nat} {w w' : World} {k : Nat} {A : Option Addr} {n : Nat} {bs bs' : List Nat} (h : FlH f sz w k A n bs) (kk : KeptL bs' w w') (hd : ∀ x ∈ bs, x ∉ bs') : FlH f sz w' k A n bs :=
  ⟨h.1, fun hn => by
    obtain ⟨b, off, e, hb, hc⟩ := h.2 hn
    exact ⟨b, off, e, hb, fun j hj => kk.far (hd b hb) (hc j hj)⟩⟩
theorem FlS.pick {sz : Nat} {w : World} {A : Option Addr} {n : Nat} {bs : List Nat} (h : FlS sz w A n bs) (f : Nat → Nat → Value) (k : Nat) :
    n ≤ 1048576 ∧ ∃ B E ms, Sl (ShF sz) sz (· ∈ bs) w A n ms ∧ mayMark B E w (· ∈ bs) ∧ (∀ w', Kept B E w w' → KeptL bs w w') ∧ ∀ w', Mk (f k) w' A (n * sz) → FlH f sz w' k A n bs := by
  obtain ⟨h1, h2, h3, ms, h4⟩ := h
  have hF : ∀ w', Mk (f k) w' A (n * sz) → FlH f sz w' k A n bs := fun w' hM => ⟨h2, fun hn => by
    obtain ⟨b, off, e, hc⟩ := hM hn
    obtain ⟨b', off', e', hb, -⟩ := h4.2 (Nat.pos_of_mul_pos_right hn)
    obtain ⟨rfl, rfl⟩ : b' = b ∧ off' = off := by rw [e] at e'; cases e'; exact ⟨rfl, rfl⟩
    exact ⟨b', off', e, hb, hc⟩⟩
  refine ⟨h2, ?_⟩
  match bs, h1 with
  | [], _ => exact ⟨0, 0, ms, h4, (fun b hb => by simp at hb), fun w' hk => KeptL.of0 hk, hF⟩
  | [b], _ => exact ⟨b, b + 1, ms, h4, (fun x hx => by
      obtain rfl : x = b := by simpa using hx
      exact ⟨Nat.le_refl _, by omega, (h3 x (by simp)).1, (h3 x (by simp)).2⟩), fun w' hk => KeptL.of hk, hF⟩
def cellsAt (w : World) (b o : Nat) (cs : List Value) : Prop := ∀ (t : Nat) (v : Value), cs[t]? = some v → w.cell? ⟨b, o + t, none⟩ = some v
abbrev ElS := World → List Value → Nat → List Nat → Prop
abbrev ElH := World → Nat → List Value → Nat → List Nat → Prop
def StayS (S : ElS) : Prop := ∀ (w w' : World) (cs : List Value) (cnt : Nat) (bs bs' : List Nat), S w cs cnt bs → KeptL bs' w w' → (∀ x ∈ bs, x ∉ bs') → S w' cs cnt bs
def StayH (H : ElH) : Prop := ∀ (w w' : World) (k : Nat) (cs : List Value) (cnt : Nat) (bs bs' : List Nat), H w k cs cnt bs → KeptL bs' w w' → (∀ x ∈ bs, x ∉ bs') → H w' k cs cnt bs
structure NS (S : ElS) (sz : Nat) (w : World) (b off n : Nat) (cnts : List Nat) (bss : List (List Nat)) : Prop where
  l1 : cnts.length = n
  l2 : bss.length = n
  nodup : (b :: bss.flatten).Nodup
  lt : b < w.heap.size
  fr : ∀ o, w.frozen? ⟨b, o, none⟩ = false
  el : ∀ i, i < n → ∃ cs, cs.length = sz ∧ S w cs (cnts.getD i 0) (bss.getD i []) ∧ cellsAt w b (off + i * sz) cs
def ShL (S : ElS) (sz : Nat) (w : World) (A : Option Addr) (n : Nat) (cnts : List Nat) (bs : List Nat) : Prop :=
  n ≤ 1048576 ∧ (n = 0 ∧ cnts = [] ∧ bs = [] ∨ ∃ b off bss, A = some ⟨b, off, none⟩ ∧ bs = b :: bss.flatten ∧ NS S sz w b off n cnts bss)
structure NH (H : ElH) (sz : Nat) (w : World) (k b off n : Nat) (cnts : List Nat) (bss : List (List Nat)) : Prop where
  l1 : cnts.length = n
  l2 : bss.length = n
  el : ∀ i, i < n → ∃ cs, cs.length = sz ∧ H w (k + (cnts.take i).sum) cs (cnts.getD i 0) (bss.getD i []) ∧ cellsAt w b (off + i * sz) cs
def HdL (H : ElH) (sz : Nat) (w : World) (k : Nat) (A : Option Addr) (n : Nat) (cnts : List Nat) (bs : List Nat) : Prop :=
  n ≤ 1048576 ∧ (n = 0 ∧ cnts = [] ∧ bs = [] ∨ ∃ b off bss, A = some ⟨b, off, none⟩ ∧ bs = b :: bss.flatten ∧ NH H sz w k b off n cnts bss)
theorem mem_flatten_getD {bss : List (List Nat)} {i x : Nat} (h : x ∈ bss.getD i []) : x ∈ bss.flatten := by
  by_cases hi : i < bss.length
  · rw [List.getD_eq_getElem?_getD, List.getElem?_eq_getElem hi] at h
    exact List.mem_flatten.2 ⟨bss[i], List.getElem_mem hi, h⟩
  · rw [List.getD_eq_getElem?_getD, List.getElem?_eq_none (by omega)] at h
    simp at h
theorem apart {b : Nat} {bss : List (List Nat)} (h : (b :: bss.flatten).Nodup) {i j x : Nat} (hx : x ∈ bss.getD i []) (hj : x ∈ bss.getD j []) : i = j := by
  have hi : i < bss.length := by
    rcases Nat.lt_or_ge i bss.length with h1 | h1
    · exact h1
    · rw [List.getD_eq_getElem?_getD, List.getElem?_eq_none h1] at hx; simp at hx
  have hjl : j < bss.length := by
    rcases Nat.lt_or_ge j bss.length with h1 | h1
    · exact h1
    · rw [List.getD_eq_getElem?_getD, List.getElem?_eq_none h1] at hj; simp at hj
  rw [List.getD_eq_getElem?_getD, List.getElem?_eq_getElem hi] at hx
  rw [List.getD_eq_getElem?_getD, List.getElem?_eq_getElem hjl] at hj
  have hp := (List.pairwise_iff_getElem.1 (List.pairwise_flatten.1 (List.nodup_cons.1 h).2).2)
  rcases Nat.lt_trichotomy i j with h1 | h1 | h1
  · exact absurd rfl (hp i j hi hjl h1 x hx x hj)
  · exact h1
  · exact absurd rfl (hp j i hjl hi h1 x hj x hx)
theorem apart0 {b : Nat} {bss : List (List Nat)} (h : (b :: bss.flatten).Nodup) {i x : Nat} (hx : x ∈ bss.getD i []) : x ≠ b := fun e => (List.nodup_cons.1 h).1 (e ▸ mem_flatten_getD hx)
theorem mem_take_flatten {bss : List (List Nat)} {i x : Nat} (h : x ∈ (bss.take i).flatten) : ∃ j, j < i ∧ x ∈ bss.getD j [] := by
  obtain ⟨l, hl, hx⟩ := List.mem_flatten.1 h
  obtain ⟨j, hj, rfl⟩ := List.mem_iff_getElem.1 hl
  simp only [List.length_take] at hj
  refine ⟨j, by omega, ?_⟩
  rw [List.getElem_take] at hx
  rw [List.getD_eq_getElem?_getD, List.getElem?_eq_getElem (by omega)]
  exact hx
theorem sum_take_getD (l : List Nat) (k : Nat) (h : k < l.length) : (l.take (k + 1)).sum = (l.take k).sum + l.getD k 0 := by
  rw [sum_take_n l k h, List.getD_eq_getElem?_getD, List.getElem?_eq_getElem h]; rfl
theorem take_le_sum (l : List Nat) (k : Nat) : (l.take k).sum ≤ l.sum := sum_take_n_le l k
structure NI (H : ElH) (sz : Nat) (w : World) (b off k n : Nat) (cnts : List Nat) (bss : List (List Nat)) (i : Nat) (wr : World) : Prop where
  kept : KeptL (b :: (bss.take i).flatten) w wr
  same : ∀ o, off + i * sz ≤ o → wr.cell? ⟨b, o, none⟩ = w.cell? ⟨b, o, none⟩
  done : ∀ j, j < i → ∃ cs, cs.length = sz ∧ H wr (k + (cnts.take j).sum) cs (cnts.getD j 0) (bss.getD j []) ∧ cellsAt wr b (off + j * sz) cs
theorem NI.start (H : ElH) (sz : Nat) (w : World) (b off k n : Nat) (cnts : List Nat) (bss : List (List Nat)) : NI H sz w b off k n cnts bss 0 w := ⟨KeptL.refl _ _, fun _ _ => rfl, fun j hj => by omega⟩
theorem NI.elem {S : ElS} {H : ElH} (hS : StayS S) {sz : Nat} {w : World} {b off k n : Nat} {cnts : List Nat} {bss : List (List Nat)} (hs : NS S sz w b off n cnts bss) {i : Nat} {wr : World} (h : NI H sz w b off k n cnts bss i wr) (hi : i < n) :
    b < wr.heap.size ∧ (∀ o, wr.frozen? ⟨b, o, none⟩ = false) ∧ ∃ cs, cs.length = sz ∧ S wr cs (cnts.getD i 0) (bss.getD i []) ∧ cellsAt wr b (off + i * sz) cs := by
  refine ⟨Nat.lt_of_lt_of_le hs.lt h.kept.size, fun o => (h.kept.frozen ⟨b, o, none⟩ hs.lt).trans (hs.fr o), ?_⟩
  obtain ⟨cs, h1, h2, h3⟩ := hs.el i hi
  refine ⟨cs, h1, hS _ _ _ _ _ _ h2 h.kept fun x hx hh => ?_, fun t v hv => (h.same _ (by omega)).trans (h3 t v hv)⟩
  rcases List.mem_cons.1 hh with e | e
  · exact apart0 hs.nodup hx e
  · obtain ⟨j, hj, hxj⟩ := mem_take_flatten e
    have := apart hs.nodup hx hxj
    omega
theorem NI.step {H : ElH} (hH : StayH H) {sz : Nat} {w : World} {b off k n : Nat} {cnts : List Nat} {bss : List (List Nat)} (hl : bss.length = n) (hn : (b :: bss.flatten).Nodup) {i : Nat} {wr W : World} (h : NI H sz w b off k n cnts bss i wr) (hi : i < n)
    (hk : KeptL (b :: bss.getD i []) wr W) (hs : ∀ o, (o < off + i * sz ∨ off + (i + 1) * sz ≤ o) → ∀ v, wr.cell? ⟨b, o, none⟩ = v → W.cell? ⟨b, o, none⟩ = v) (cs : List Value) (hc : cs.length = sz) (hM : H W (k + (cnts.take i).sum) cs (cnts.getD i 0) (bss.getD i [])) (hcs : cellsAt W b (off + i * sz) cs) :
    NI H sz w b off k n cnts bss (i + 1) W := by
  have hsub : ∀ x ∈ bss.getD i [], x ∈ (bss.take (i + 1)).flatten := fun x hx => by
    have hi' : i < bss.length := by omega
    rw [List.getD_eq_getElem?_getD, List.getElem?_eq_getElem hi'] at hx
    exact List.mem_flatten.2 ⟨bss[i], List.mem_iff_getElem.2 ⟨i, by simp; omega, by simp⟩, hx⟩
  have hsub2 : ∀ x ∈ (bss.take i).flatten, x ∈ (bss.take (i + 1)).flatten := fun x hx => by
    rw [List.take_succ_eq_append_getElem (by omega), List.flatten_append]
    exact List.mem_append_left _ hx
  refine ⟨(h.kept.mono fun x hx => ?_).trans (hk.mono fun x hx => ?_), fun o ho => ?_, fun j hj => ?_⟩
  · rcases List.mem_cons.1 hx with e | e
    · exact e ▸ List.mem_cons_self ..
    · exact List.mem_cons_of_mem _ (hsub2 x e)
  · rcases List.mem_cons.1 hx with e | e
    · exact e ▸ List.mem_cons_self ..
    · exact List.mem_cons_of_mem _ (hsub x e)
  · have e : (i + 1) * sz = i * sz + sz := Nat.succ_mul i sz
    exact (hs o (Or.inr ho) _ rfl).trans (h.same o (by omega))
  · by_cases e : j = i
    · subst e
      exact ⟨cs, hc, hM, hcs⟩
    · obtain ⟨cs', h1, h2, h3⟩ := h.done j (by omega)
      refine ⟨cs', h1, hH _ _ _ _ _ _ _ h2 hk fun x hx hh => ?_, fun t v hv => hs _ (Or.inl ?_) _ (h3 t v hv)⟩
      · rcases List.mem_cons.1 hh with e' | e'
        · exact apart0 hn hx e'
        · exact e (apart hn hx e')
      · have ht : t < sz := by have := (List.getElem?_eq_some_iff.1 hv).1; omega
        have : (j + 1) * sz ≤ i * sz := Nat.mul_le_mul_right sz (by omega)
        rw [Nat.succ_mul] at this
        omega
theorem NI.finish {H : ElH} {sz : Nat} {w : World} {b off k n : Nat} {cnts : List Nat} {bss : List (List Nat)} (hl1 : cnts.length = n) (hl : bss.length = n) {wr : World} (h : NI H sz w b off k n cnts bss n wr) : KeptL (b :: bss.flatten) w wr ∧ NH H sz wr k b off n cnts bss := by
  refine ⟨?_, hl1, hl, h.done⟩
  have := h.kept
  rwa [List.take_of_length_le (by omega)] at this
theorem ShL.stay {S : ElS} (hS : StayS S) {sz : Nat} {w w' : World} {A : Option Addr} {n : Nat} {cnts bs bs' : List Nat} (h : ShL S sz w A n cnts bs) (hk : KeptL bs' w w') (hd : ∀ x ∈ bs, x ∉ bs') : ShL S sz w' A n cnts bs := by
  refine ⟨h.1, ?_⟩
  rcases h.2 with h0 | ⟨b, off, bss, rfl, rfl, hs⟩
  · exact Or.inl h0
  · refine Or.inr ⟨b, off, bss, rfl, rfl, hs.l1, hs.l2, hs.nodup, Nat.lt_of_lt_of_le hs.lt hk.size, fun o => (hk.frozen ⟨b, o, none⟩ hs.lt).trans (hs.fr o), fun i hi => ?_⟩
    obtain ⟨cs, h1, h2, h3⟩ := hs.el i hi
    exact ⟨cs, h1, hS _ _ _ _ _ _ h2 hk fun x hx => hd x (List.mem_cons_of_mem _ (mem_flatten_getD hx)), fun t v hv => hk.far (hd b (List.mem_cons_self ..)) (h3 t v hv)⟩
theorem HdL.stay {H : ElH} (hH : StayH H) {sz : Nat} {w w' : World} {k : Nat} {A : Option Addr} {n : Nat} {cnts bs bs' : List Nat} (h : HdL H sz w k A n cnts bs) (hk : KeptL bs' w w') (hd : ∀ x ∈ bs, x ∉ bs') : HdL H sz w' k A n cnts bs := by
  refine ⟨h.1, ?_⟩
  rcases h.2 with h0 | ⟨b, off, bss, rfl, rfl, hs⟩
  · exact Or.inl h0
  · refine Or.inr ⟨b, off, bss, rfl, rfl, hs.l1, hs.l2, fun i hi => ?_⟩
    obtain ⟨cs, h1, h2, h3⟩ := hs.el i hi
    exact ⟨cs, h1, hH _ _ _ _ _ _ _ h2 hk fun x hx => hd x (List.mem_cons_of_mem _ (mem_flatten_getD hx)), fun t v hv => hk.far (hd b (List.mem_cons_self ..)) (h3 t v hv)⟩
theorem HdL.below {H : ElH} (hH : StayH H) {sz : Nat} {w w' : World} {k : Nat} {A : Option Addr} {n : Nat} {cnts bs : List Nat} (h : HdL H sz w k A n cnts bs) (hk : Below w.heap.size w w') : HdL H sz w' k A n cnts bs :=
  h.stay hH (bs' := []) (KeptL.below hk) fun _ _ => List.not_mem_nil
structure NM (b lo hi : Nat) (bs : List Nat) (wr W : World) : Prop where
  kept : KeptL (b :: bs) wr W
  same : ∀ o, (o < lo ∨ hi ≤ o) → ∀ v, wr.cell? ⟨b, o, none⟩ = v → W.cell? ⟨b, o, none⟩ = v
theorem NM.refl (b lo hi : Nat) (bs : List Nat) (w : World) : NM b lo hi bs w w := ⟨KeptL.refl _ _, fun _ _ _ h => h⟩
theorem NM.turn {b lo hi : Nat} {bs l : List Nat} {wr W W' : World} (hb : b < wr.heap.size) (h : NM b lo hi bs wr W) (hk : KeptL l W W') (hl : ∀ x ∈ l, x ∈ bs) (hn : b ∉ bs) : NM b lo hi bs wr W' :=
  ⟨h.kept.trans (hk.mono fun x hx => List.mem_cons_of_mem _ (hl x hx)), fun o ho v hv => (World.cell?_of_block (w := W) (hk.block b (Nat.lt_of_lt_of_le hb h.kept.size) fun hh => hn (hl b hh))).trans (h.same o ho v hv)⟩
theorem NM.set {b lo hi : Nat} {bs : List Nat} {wr W : World} (h : NM b lo hi bs wr W) {p : Addr} {u : Value} {o : Nat} (hp : p = ⟨b, o, none⟩) (h1 : lo ≤ o) (h2 : o < hi) : NM b lo hi bs wr (W.setCell p u) := by
  subst hp
  exact ⟨h.kept.set (List.mem_cons_self ..), fun o' ho v hv => (World.cell?_setCell_other _ _ _ _ (by intro hh; simp only [Addr.mk.injEq] at hh; omega)).trans (h.same o' ho v hv)⟩
theorem ShL.walk {S : ElS} {H : ElH} (hS : StayS S) (hH : StayH H) {sz : Nat} {w : World} {A : Option Addr} {n : Nat} {cnts bs : List Nat} (h : ShL S sz w A n cnts bs) (k : Nat) :
    cnts.length = n ∧ ∃ P : Nat → World → Prop, P 0 w ∧
      (∀ i wr, i < n → P i wr → ∃ b off bs' cs, A = some ⟨b, off, none⟩ ∧ (∀ o, wr.frozen? ⟨b, o, none⟩ = false) ∧ b < wr.heap.size ∧ cs.length = sz ∧ S wr cs (cnts.getD i 0) bs' ∧ cellsAt wr b (off + i * sz) cs ∧ b ∉ bs' ∧
        ∀ W cs', NM b (off + i * sz) (off + (i + 1) * sz) bs' wr W → cs'.length = sz → H W (k + (cnts.take i).sum) cs' (cnts.getD i 0) bs' → cellsAt W b (off + i * sz) cs' → P (i + 1) W) ∧
      (∀ wr, P n wr → KeptL bs w wr ∧ HdL H sz wr k A n cnts bs) := by
  rcases h.2 with ⟨rfl, rfl, rfl⟩ | ⟨b, off, bss, rfl, rfl, hs⟩
  · exact ⟨rfl, fun _ wr => wr = w, rfl, fun i wr hi => by omega, fun wr e => by subst e; exact ⟨KeptL.refl _ _, Nat.zero_le _, Or.inl ⟨rfl, rfl, rfl⟩⟩⟩
  · refine ⟨hs.l1, NI H sz w b off k n cnts bss, NI.start .., fun i wr hi hI => ?_, fun wr hI => ?_⟩
    · obtain ⟨h1, h2, cs, h3, h4, h5⟩ := hI.elem hS hs hi
      exact ⟨b, off, bss.getD i [], cs, rfl, h2, h1, h3, h4, h5, fun hb => apart0 hs.nodup hb rfl, fun W cs' hk hc hM hcs => NI.step hH hs.l2 hs.nodup hI hi hk.kept hk.same cs' hc hM hcs⟩
    · obtain ⟨h1, h2⟩ := NI.finish hs.l1 hs.l2 hI
      exact ⟨h1, h.1, Or.inr ⟨b, off, bss, rfl, rfl, h2⟩⟩
theorem HdL.elem {H : ElH} {sz : Nat} {w : World} {k : Nat} {A : Option Addr} {n : Nat} {cnts bs : List Nat} (h : HdL H sz w k A n cnts bs) {i : Nat} (hi : i < n) :
    ∃ b off bs' cs, A = some ⟨b, off, none⟩ ∧ cs.length = sz ∧ H w (k + (cnts.take i).sum) cs (cnts.getD i 0) bs' ∧ cellsAt w b (off + i * sz) cs := by
  rcases h.2 with h0 | ⟨b, off, bss, rfl, rfl, hs⟩
  · omega
  · obtain ⟨cs, h1, h2, h3⟩ := hs.el i hi
    exact ⟨b, off, _, cs, rfl, h1, h2, h3⟩
theorem HdL.len {H : ElH} {sz : Nat} {w : World} {k : Nat} {A : Option Addr} {n : Nat} {cnts bs : List Nat} (h : HdL H sz w k A n cnts bs) : cnts.length = n := by
  rcases h.2 with ⟨rfl, rfl, -⟩ | ⟨b, off, bss, rfl, rfl, hs⟩
  · rfl
  · exact hs.l1
theorem sums_step {cnts : List Nat} {i n : Nat} (hl : cnts.length = n) (hi : i < n) : (cnts.take (i + 1)).sum = (cnts.take i).sum + cnts.getD i 0 ∧ (cnts.take i).sum + cnts.getD i 0 ≤ cnts.sum := by
  have h1 := sum_take_getD cnts i (by omega)
  have h2 := take_le_sum cnts (i + 1)
  omega
theorem sums_all {cnts : List Nat} {n : Nat} (hl : cnts.length = n) : (cnts.take n).sum = cnts.sum := by rw [List.take_of_length_le (by omega)]
theorem marksOVal (A : Option Addr) (n c k : Nat) (bs : List Nat) (w : World) (h : FlS 3 w A n bs) (hk : k + n * 3 ≤ 1073741824) {x : Int} (hx : x = k) :
    Calls Try.prog 31 #[.slice A n c, .int .i64 x] w fun e w' => e = .returned (.int .i64 ((k + n * 3 : Nat) : Int)) ∧ KeptL bs w w' ∧ FlH mkXVal 3 w' k A n bs := by
  obtain ⟨hn, B, E, ms, h1, h2, h3, h4⟩ := h.pick mkXVal k
  exact (marksXValL A n c ms _ B E k w h1 h2 hk hn hx).mono (fun e w' ⟨he, hK, hM⟩ => ⟨he, h3 w' hK, h4 w' hM⟩)
theorem heldOVal (A : Option Addr) (n c k : Nat) (bs : List Nat) (w : World) (h : FlH mkXVal 3 w k A n bs) (hk : k + n * 3 ≤ 1073741824) {x : Int} (hx : x = k) :
    Calls Try.prog 32 #[.slice A n c, .int .i64 x] w fun e w' => e = .returned (.int .i64 ((k + n * 3 : Nat) : Int)) ∧ Below w.heap.size w w' :=
  heldXValL A n c k w h.mk hk h.1 hx
def EnS : ElS := fun w cs cnt bs => ∃ A n c x, cs = [.slice A n c, .int .i64 x] ∧ cnt = n * 3 + 1 ∧ FlS 3 w A n bs
def EnH : ElH := fun w k cs cnt bs => ∃ A n c, cs = [.slice A n c, .int .i64 ((k + n * 3 : Nat) : Int)] ∧ cnt = n * 3 + 1 ∧ FlH mkXVal 3 w k A n bs
theorem EnS.stay : StayS EnS := fun w w' cs cnt bs bs' ⟨A, n, c, x, e, e', h⟩ hk hd => ⟨A, n, c, x, e, e', h.stay hk hd⟩
theorem EnH.stay : StayH EnH := fun w w' k cs cnt bs bs' ⟨A, n, c, e, e', h⟩ hk hd => ⟨A, n, c, e, e', h.stay hk hd⟩
set_option maxRecDepth 100000 in
set_option maxHeartbeats 1000000 in
theorem marksOEntL (A : Option Addr) (n c : Nat) (cnts bs : List Nat) (k : Nat) (w : World) (h : ShL EnS 2 w A n cnts bs) (hk : k + cnts.sum ≤ 1073741824) {x : Int} (hx : x = k) :
    Calls Try.prog 21 #[.slice A n c, .int .i64 x] w fun e w' => e = .returned (.int .i64 ((k + cnts.sum : Nat) : Int)) ∧ KeptL bs w w' ∧ HdL EnH 2 w' k A n cnts bs := by
  have hn := h.1
  obtain ⟨hl, P, hP0, hP, hPn⟩ := h.walk EnS.stay EnH.stay k
  subst hx
  clear h
  go_enter Try.func21, Try.ntmps21
  go_wp2_with fail
  go_loopw [1, 5] (fun m i wr => ∃ (j : Nat), j ≤ n ∧ i = .int .i64 j ∧ m = .int .i64 ((k + (cnts.take j).sum : Nat) : Int) ∧ Hid (P j wr)) (fun _ i _ => n - (intOf i).toNat)
  case atStart => exact ⟨0, by omega, rfl, by simp, Lib.hid hP0⟩
  case round =>
    obtain ⟨i, hi, rfl, rfl, hI⟩ := hrel
    by_cases hlt : i < n
    · obtain ⟨b, off, bs', cs, rfl, hfr, hbs, hcl, ⟨A', n', c', x', rfl, hcn, hS⟩, hat, hb, hnext⟩ := hP i wr hlt hI.out
      have q0 : wr.cell? ⟨b, off + i * 2, none⟩ = some (.slice A' n' c') := hat 0 _ rfl
      have q1 : wr.cell? ⟨b, off + i * 2 + 1, none⟩ = some (.int .i64 x') := hat 1 _ rfl
      obtain ⟨hs1, hs2⟩ := sums_step hl hlt
      have HN := Lib.hid hnext
      have HF := Lib.hid hfr
      generalize hkk : (cnts.take i).sum = s at *
      generalize hcc : cnts.getD i 0 = cn at *
      subst hcn
      have i0 : (0 : Int) ≤ i := by omega
      have i1 : (i : Int) < n := by omega
      clear hnext hfr hat hP hPn hI
      go_wp2_with fail
      refine (marksOVal A' n' c' (k + s) bs' _ hS (by omega) (by simp)).mono ?_
      rintro e w1 ⟨rfl, hk1, hM1⟩
      have q0' := Lib.hid (hk1.far hb q0)
      have q1' := hk1.far hb q1
      have f1 := (hk1.frozen ⟨b, off + i * 2 + 1, none⟩ hbs).trans (HF.out _)
      have HM := Lib.hid hM1
      have HK := Lib.hid hk1
      have hle : k + s + (n' * 3 + 1) ≤ 1073741824 := by omega
      clear q0 q1 hk1 hM1
      go_wp2_with fail
      go_roundw
      case rel =>
        refine ⟨i + 1, by omega, by go_num, by rw [hs1]; exact congrArg (Value.int .i64) (by omega), Lib.hid ?_⟩
        refine HN.out _ [.slice A' n' c', .int .i64 ((k + s + n' * 3 : Nat) : Int)] (NM.set (o := off + i * 2 + 1) (NM.turn hbs (NM.refl _ _ _ _ _) HK.out (fun _ h => h) hb) rfl (by omega) (by omega)) rfl ⟨A', n', c', rfl, rfl, HM.out.stay (KeptL.set (bs := [b]) (KeptL.refl _ _) (List.mem_cons_self ..)) fun x hx hh => hb ((List.mem_singleton.1 hh) ▸ hx)⟩ ?_
        intro t v hv
        match t, hv with
        | 0, hv => cases hv; exact (World.cell?_setCell_other _ _ _ _ (by intro hh; simp only [Addr.mk.injEq] at hh; omega)).trans q0'.out
        | 1, hv => cases hv; exact World.cell?_setCell_same _ _ _ q1'
      case measure => simp [intOf]; omega
    · obtain rfl : i = n := by omega
      have hR := hPn _ hI.out
      rw [sums_all hl]
      go_wp2_with fail
      go_ret
      exact ⟨rfl, hR.1, hR.2⟩
set_option maxRecDepth 100000 in
set_option maxHeartbeats 1000000 in
theorem heldOEntL (A : Option Addr) (n c : Nat) (cnts bs : List Nat) (k : Nat) (w : World) (h : HdL EnH 2 w k A n cnts bs) (hk : k + cnts.sum ≤ 1073741824) {x : Int} (hx : x = k) :
    Calls Try.prog 23 #[.slice A n c, .int .i64 x] w fun e w' => e = .returned (.int .i64 ((k + cnts.sum : Nat) : Int)) ∧ Below w.heap.size w w' := by
  have hn := h.1
  have hl := h.len
  subst hx
  have HH := Lib.hid h
  clear h
  go_enter Try.func23, Try.ntmps23
  go_wp2_with fail
  go_loopw [1, 5] (fun m i wr => ∃ (j : Nat), j ≤ n ∧ i = .int .i64 j ∧ m = .int .i64 ((k + (cnts.take j).sum : Nat) : Int) ∧ Below w.heap.size w wr) (fun _ i _ => n - (intOf i).toNat)
  case atStart => exact ⟨0, by omega, rfl, by simp, Below.refl _ _⟩
  case round =>
    obtain ⟨i, hi, rfl, rfl, hb⟩ := hrel
    by_cases hlt : i < n
    · obtain ⟨b, off, bs', cs, rfl, hcl, ⟨A', n', c', rfl, hcn, hS⟩, hat⟩ := (HH.out.below EnH.stay hb).elem hlt
      have q0 : wr.cell? ⟨b, off + i * 2, none⟩ = some (.slice A' n' c') := hat 0 _ rfl
      have q1 : wr.cell? ⟨b, off + i * 2 + 1, none⟩ = some (.int .i64 ((k + (cnts.take i).sum + n' * 3 : Nat) : Int)) := hat 1 _ rfl
      obtain ⟨hs1, hs2⟩ := sums_step hl hlt
      generalize hkk : (cnts.take i).sum = s at *
      generalize hcc : cnts.getD i 0 = cn at *
      subst hcn
      have i0 : (0 : Int) ≤ i := by omega
      have i1 : (i : Int) < n := by omega
      clear hat
      go_wp2_with fail
      refine (heldOVal A' n' c' (k + s) bs' _ hS (by omega) (by simp)).mono ?_
      rintro e w1 ⟨rfl, hb1⟩
      have q1' := below_keep hb1 _ _ q1
      have hle : k + s + (n' * 3 + 1) ≤ 1073741824 := by omega
      have h0 : ¬ (((k + s + n' * 3 : Nat) : Int) < 0) := by omega
      clear q0 q1
      go_wp2_with fail
      go_roundw
      case rel => exact ⟨i + 1, by omega, by go_num, by rw [hs1]; exact congrArg (Value.int .i64) (by omega), hb.trans (hb1.mono hb.size)⟩
      case measure => simp [intOf]; omega
    · obtain rfl : i = n := by omega
      rw [sums_all hl]
      go_wp2_with fail
      go_ret
      exact ⟨rfl, hb⟩
end Go.Proofs.Ytlpfpcnafejkoaa
namespace Go.Proofs.Ytlpfpcnafejkoaa
open Go.RowKit
def lessV (k n : Int) (s : ByteArray) (k' n' : Int) (s' : ByteArray) : Bool := decide (k < k') || (k == k' && (decide (n < n') || Op.bytesLess s.toList s'.toList))
def sameV (k n : Int) (s : ByteArray) (k' n' : Int) (s' : ByteArray) : Bool := k == k' && (n == n' && s.toList == s'.toList)
def ordV (k n : Int) (s : ByteArray) (k' n' : Int) (s' : ByteArray) : Int := if lessV k n s k' n' s' = true then -1 else if sameV k n s k' n' s' = true then 0 else 1
theorem valOk_cases {k n : Int} {s : ByteArray} (h : valOkB k n s = true) : (k = 0 ∧ n = 0 ∧ s.toList = []) ∨ (k = 1 ∧ s.toList = []) ∨ (k = 2 ∧ n = 0) := by
  unfold valOkB at h
  by_cases k0 : k = 0
  · subst k0; simp at h; exact .inl ⟨rfl, h.1, h.2⟩
  by_cases k1 : k = 1
  · subst k1; simp at h; exact .inr (.inl ⟨rfl, h.2⟩)
  by_cases k2 : k = 2
  · subst k2; simp at h; exact .inr (.inr ⟨rfl, h.1⟩)
  · simp [k0, k1, k2] at h
theorem ord_eq {k n : Int} {s : ByteArray} {k' n' : Int} {s' : ByteArray} (h : valOkB k n s = true) (h' : valOkB k' n' s' = true) :
    firstNZ (cmpI k k') (cmpI n n') (cmpS s s') = ordV k n s k' n' s' := by
  have e0 : Op.bytesLess [] [] = false := rfl
  rcases valOk_cases h with ⟨rfl, rfl, e1⟩ | ⟨rfl, e1⟩ | ⟨rfl, rfl⟩ <;> rcases valOk_cases h' with ⟨rfl, rfl, e2⟩ | ⟨rfl, e2⟩ | ⟨rfl, rfl⟩
  · simp [firstNZ, cmpI, cmpS, ordV, lessV, sameV, e1, e2, e0]
  · simp [firstNZ, cmpI, ordV, lessV]
  · simp [firstNZ, cmpI, ordV, lessV]
  · simp [firstNZ, cmpI, ordV, lessV, sameV]
  · simp only [firstNZ, cmpI, cmpS, ordV, lessV, sameV, e1, e2, e0]
    by_cases a : n < n'
    · simp [a]
    · by_cases b : n' < n
      · have c : ¬ n = n' := by omega
        simp [a, b, c]
      · have c : n = n' := by omega
        simp [c]
  · simp [firstNZ, cmpI, ordV, lessV]
  · simp [firstNZ, cmpI, ordV, lessV, sameV]
  · simp [firstNZ, cmpI, ordV, lessV, sameV]
  · simp only [firstNZ, cmpI, cmpS, ordV, lessV, sameV]
    simp
theorem ordV_of {k n : Int} {s : ByteArray} {k' n' : Int} {s' : ByteArray} (h : lessV k n s k' n' s' = false) : ordV k n s k' n' s' = if sameV k n s k' n' s' = true then 0 else 1 := by simp [ordV, h]
theorem chain2 (w : World) (o o' : Obj) : Below w.heap.size w ((w.alloc o).alloc o') := ((Below.refl _ w).alloc (Nat.le_refl _) o).alloc (by simp) o'
set_option maxHeartbeats 400000 in
theorem specL1Order (k n : Int) (s : ByteArray) (k' n' : Int) (s' : ByteArray) (w : World) :
    Calls Try.prog 62 #[.agg #[.int .i64 k, .int .i64 n, .string s], .agg #[.int .i64 k', .int .i64 n', .string s']] w fun e w' => e = .returned (.int .i64 (ordV k n s k' n' s')) ∧ Below w.heap.size w w' := by
  by_cases c1 : k < k'
  · go_enter Try.func62, Try.ntmps62
    go_wp2
    go_ret
    exact ⟨retI (by simp [ordV, lessV, c1]), chain2 w _ _⟩
  have d1 : decide (k < k') = false := by simpa using c1
  by_cases c2 : k = k'
  · subst c2
    by_cases c3 : n < n'
    · go_enter Try.func62, Try.ntmps62
      go_wp2
      go_ret
      exact ⟨retI (by simp [ordV, lessV, c3]), chain2 w _ _⟩
    have d3 : decide (n < n') = false := by simpa using c3
    by_cases c4 : Op.bytesLess s.toList s'.toList = true
    · go_enter Try.func62, Try.ntmps62
      go_wp2
      go_ret
      exact ⟨retI (by simp [ordV, lessV, c4]), chain2 w _ _⟩
    have d4 : Op.bytesLess s.toList s'.toList = false := by simpa using c4
    have HL := Lib.hid (show lessV k n s k n' s' = false by simp [lessV, d4]; omega)
    clear c1 c3 c4
    go_enter Try.func62, Try.ntmps62
    go_wp2
    all_goals
      go_ret
      exact ⟨retI (by rw [ordV_of HL.out]; simp [sameV, *]), chain2 w _ _⟩
  · have d2 : (k == k') = false := by simpa using c2
    go_enter Try.func62, Try.ntmps62
    go_wp2
    go_ret
    exact ⟨retI (by simp [ordV, lessV, sameV, c1, c2]), chain2 w _ _⟩
theorem Cells3.two (w : World) (k n : Int) (s : ByteArray) (k' n' : Int) (s' : ByteArray) (T : TypeId) :
    Cells3 ((w.alloc (.cells #[.int .i64 k, .int .i64 n, .string s] T)).alloc (.cells #[.int .i64 k', .int .i64 n', .string s'] T)) w.heap.size k n s ∧
    Cells3 ((w.alloc (.cells #[.int .i64 k, .int .i64 n, .string s] T)).alloc (.cells #[.int .i64 k', .int .i64 n', .string s'] T)) (w.heap.size + 1) k' n' s' := by simp [Cells3]
theorem two_below {w w' : World} {b b' : Nat} {k n : Int} {s : ByteArray} {k' n' : Int} {s' : ByteArray} (h : Cells3 w b k n s ∧ Cells3 w b' k' n' s') (hb : Below w.heap.size w w') : Cells3 w' b k n s ∧ Cells3 w' b' k' n' s' :=
  ⟨h.1.below hb, h.2.below hb⟩
theorem keep6 {w w' : World} {a0 a1 a2 a3 a4 a5 : Addr} {v0 v1 v2 v3 v4 v5 : Value} (h : w.cell? a0 = some v0 ∧ w.cell? a1 = some v1 ∧ w.cell? a2 = some v2 ∧ w.cell? a3 = some v3 ∧ w.cell? a4 = some v4 ∧ w.cell? a5 = some v5) (hb : Below w.heap.size w w') : w'.cell? a0 = some v0 ∧ w'.cell? a1 = some v1 ∧ w'.cell? a2 = some v2 ∧ w'.cell? a3 = some v3 ∧ w'.cell? a4 = some v4 ∧ w'.cell? a5 = some v5 := by
  obtain ⟨h0, h1, h2, h3, h4, h5⟩ := h
  exact ⟨(hb.cell (cell_lt h0)).trans h0, (hb.cell (cell_lt h1)).trans h1, (hb.cell (cell_lt h2)).trans h2, (hb.cell (cell_lt h3)).trans h3, (hb.cell (cell_lt h4)).trans h4, (hb.cell (cell_lt h5)).trans h5⟩
def ordOk (k n : Int) (s : ByteArray) (k' n' : Int) (s' : ByteArray) : Int := if (valOkB k n s && valOkB k' n' s') = true then ordV k n s k' n' s' else 0
set_option maxHeartbeats 1000000 in
theorem implOrder (k n : Int) (s : ByteArray) (k' n' : Int) (s' : ByteArray) (w : World) :
    Calls Try.prog 71 #[.agg #[.int .i64 k, .int .i64 n, .string s], .agg #[.int .i64 k', .int .i64 n', .string s']] w fun e w' => e = .returned (.int .i64 (ordOk k n s k' n' s')) ∧ Below w.heap.size w w' := by
  have Q0 := Lib.hid (Cells3.two w k n s k' n' s' 57)
  have HB0 := Lib.hid (chain2 w (.cells #[.int .i64 k, .int .i64 n, .string s] 57) (.cells #[.int .i64 k', .int .i64 n', .string s'] 57))
  cases ha : valOkB k n s
  · have Ha := Lib.hid ha
    go_enter Try.func71, Try.ntmps71
    go_wp2_with fail
    refine (implValOk k n s _).mono ?_
    rintro e w1 ⟨rfl, hb1⟩
    go_wp2
    go_ret
    exact ⟨retI (by simp [ordOk, Ha.out]), HB0.out.trans (hb1.mono HB0.out.size)⟩
  cases hc : valOkB k' n' s'
  · have Hc := Lib.hid hc
    go_enter Try.func71, Try.ntmps71
    go_wp2_with fail
    refine (implValOk k n s _).mono ?_
    rintro e w1 ⟨rfl, hb1⟩
    obtain ⟨⟨c0, c1, c2⟩, ⟨d0, d1, d2⟩⟩ := two_below Q0.out hb1
    go_wp2_with fail
    refine (implValOk k' n' s' _).mono ?_
    rintro e w2 ⟨rfl, hb2⟩
    go_wp2
    go_ret
    exact ⟨retI (by simp [ordOk, Hc.out]), (HB0.out.trans (hb1.mono HB0.out.size)).trans (hb2.mono (HB0.out.trans (hb1.mono HB0.out.size)).size)⟩
  · have Ha := Lib.hid ha
    have Hc := Lib.hid hc
    go_enter Try.func71, Try.ntmps71
    go_wp2_with fail
    refine (implValOk k n s _).mono ?_
    rintro e w1 ⟨rfl, hb1⟩
    have q1 := two_below Q0.out hb1
    obtain ⟨⟨c0, c1, c2⟩, ⟨d0, d1, d2⟩⟩ := q1
    go_wp2_with fail
    refine (implValOk k' n' s' _).mono ?_
    rintro e w2 ⟨rfl, hb2⟩
    have h2 := (HB0.out.trans (hb1.mono HB0.out.size)).trans (hb2.mono (HB0.out.trans (hb1.mono HB0.out.size)).size)
    have H2 := Lib.hid h2
    obtain ⟨⟨g0, g1, g2⟩, ⟨e0, e1, e2⟩⟩ := two_below (s := s) (s' := s') ⟨⟨c0, c1, c2⟩, ⟨d0, d1, d2⟩⟩ hb2
    clear c0 c1 c2 d0 d1 d2 hb1 hb2 h2
    go_wp2_with fail
    go_region_held3 (fun w' => w'.cell? ⟨w.heap.size, 0, none⟩ = some (.int .i64 k) ∧ w'.cell? ⟨w.heap.size, 1, none⟩ = some (.int .i64 n) ∧ w'.cell? ⟨w.heap.size, 2, none⟩ = some (.string s) ∧ w'.cell? ⟨w.heap.size + 1, 0, none⟩ = some (.int .i64 k') ∧ w'.cell? ⟨w.heap.size + 1, 1, none⟩ = some (.int .i64 n') ∧ w'.cell? ⟨w.heap.size + 1, 2, none⟩ = some (.string s')) (go_keep)
      (first | (go_at_call 66; refine (cmpInt _ _ _).mono ?_; rintro e w3 ⟨rfl, rfl⟩) | (go_at_call 75; refine (cmpStr _ _ _).mono ?_; rintro e w3 ⟨rfl, rfl⟩) | (go_at_call 63; refine Calls.mono (cmpOr _ (cmpI k k') (cmpI n n') (cmpS s s') _ ?_ ?_ ?_) ?_; simp; simp; simp; rintro e w3 ⟨rfl, rfl⟩))
    go_wp2
    go_ret
    exact ⟨retI (by rw [ord_eq Ha.out Hc.out]; simp [ordOk, Ha.out, Hc.out]), by first | exact (H2.out.alloc H2.out.size _).drew | exact H2.out.drew.alloc H2.out.size _⟩
end Go.Proofs.Ytlpfpcnafejkoaa
namespace Go.Proofs.Ytlpfpcnafejkoaa
open Go.RowKit
def Vl.ok (v : Vl) : Bool := valOkB v.k v.n v.s
def rowB (row : List Vl) : Bool := decide (row.length ≤ 16) && row.all Vl.ok
end Go.Proofs.Ytlpfpcnafejkoaa
namespace Go.Proofs.Ytlpfpcnafejkoaa
open Go.RowKit
set_option maxRecDepth 100000 in
theorem implSeenOk (A : Option Addr) (n cap : Nat) (row : List Vl) (w : World) (h : Vals w A n row) (hn : n ≤ maxLen) :
    Calls Try.prog 55 #[.slice A n cap] w fun e w' => e = .returned (.bool (rowB row)) ∧ Below w.heap.size w w' := by
  unfold maxLen at hn
  obtain rfl : n = row.length := h.len.symm
  by_cases h16 : (16 : Int) < row.length
  · go_enter Try.func55, Try.ntmps55
    go_wp2
    go_ret
    exact ⟨retB (by simp [rowB]; omega), Below.refl _ _⟩
  have h16' : decide ((16 : Int) < row.length) = false := by simpa using h16
  go_enter Try.func55, Try.ntmps55
  go_wp2
  go_loopw [10] (fun i wr => ∃ k : Nat, k ≤ row.length ∧ i = .int .i64 k ∧ Hid ((row.take k).all Vl.ok = true) ∧ Below w.heap.size w wr) (fun i _ => row.length - (intOf i).toNat)
  case atStart => exact ⟨0, by omega, rfl, Lib.hid (by simp), Below.refl _ _⟩
  case round =>
    obtain ⟨k, hk, rfl, hall, hb⟩ := hrel
    by_cases hlt : k < row.length
    · obtain ⟨b, off, rfl, c0, c1, c2⟩ := (h.below hb).at_ hlt
      cases hv : row[k].ok
      · have HV := Lib.hid hv
        have HF := Lib.hid (show rowB row = false by
          have : row.all Vl.ok = false := List.all_eq_false.2 ⟨row[k], List.getElem_mem hlt, by simp [hv]⟩
          simp [rowB, this])
        clear hv
        go_wp2_with fail
        refine (implValOk row[k].k row[k].n row[k].s _).mono ?_
        rintro e w1 ⟨rfl, hb1⟩
        rw [show valOkB row[k].k row[k].n row[k].s = false from HV.out]
        go_wp2_with fail
        go_ret
        exact ⟨retB (by rw [HF.out]), hb.trans (((((Below.refl wr.heap.size wr).alloc (Nat.le_refl _) _).trans (hb1.mono (by simp))).mono hb.size))⟩
      · have HV := Lib.hid hv
        have hall2 := Lib.hid (show (row.take (k + 1)).all Vl.ok = true by
          rw [List.take_succ_eq_append_getElem hlt, List.all_append, hall.out]
          simp [hv])
        clear hv hall
        go_wp2_with fail
        refine (implValOk row[k].k row[k].n row[k].s _).mono ?_
        rintro e w1 ⟨rfl, hb1⟩
        rw [show valOkB row[k].k row[k].n row[k].s = true from HV.out]
        go_wp2_with fail
        go_roundw
        case rel => exact ⟨k + 1, by omega, by go_num, hall2, hb.trans (((((Below.refl wr.heap.size wr).alloc (Nat.le_refl _) _).trans (hb1.mono (by simp))).mono hb.size))⟩
        case measure => simp [intOf]; omega
    · have e : row.take k = row := List.take_of_length_le (by omega)
      have ha := hall.out
      rw [e] at ha
      have HA := Lib.hid ha
      clear hall ha e
      go_wp2
      go_ret
      exact ⟨retB (by simp [rowB, HA.out]; omega), hb⟩
set_option maxRecDepth 100000 in
theorem specVals (A : Option Addr) (n cap : Nat) (row : List Vl) (w : World) (h : Vals w A n row) (hn : n ≤ maxLen) :
    Calls Try.prog 48 #[.slice A n cap] w fun e w' => e = .returned (.bool (rowB row)) ∧ Below w.heap.size w w' := by
  unfold maxLen at hn
  obtain rfl : n = row.length := h.len.symm
  go_enter Try.func48, Try.ntmps48
  go_wp2
  go_loopw [3] (fun i wr => ∃ k : Nat, k ≤ row.length ∧ i = .int .i64 k ∧ Hid ((row.take k).all Vl.ok = true) ∧ Below w.heap.size w wr) (fun i _ => row.length - (intOf i).toNat)
  case atStart => exact ⟨0, by omega, rfl, Lib.hid (by simp), Below.refl _ _⟩
  case round =>
    obtain ⟨k, hk, rfl, hall, hb⟩ := hrel
    by_cases hlt : k < row.length
    · obtain ⟨b, off, rfl, c0, c1, c2⟩ := (h.below hb).at_ hlt
      cases hv : row[k].ok
      · have HV := Lib.hid hv
        have HF := Lib.hid (show rowB row = false by
          have : row.all Vl.ok = false := List.all_eq_false.2 ⟨row[k], List.getElem_mem hlt, by simp [hv]⟩
          simp [rowB, this])
        clear hv
        go_wp2_with fail
        refine (specValOk row[k].k row[k].n row[k].s _).mono ?_
        rintro e w1 ⟨rfl, hb1⟩
        rw [show valOkB row[k].k row[k].n row[k].s = false from HV.out]
        go_wp2_with fail
        go_ret
        exact ⟨retB (by rw [HF.out]), hb.trans (hb1.mono hb.size)⟩
      · have HV := Lib.hid hv
        have hall2 := Lib.hid (show (row.take (k + 1)).all Vl.ok = true by
          rw [List.take_succ_eq_append_getElem hlt, List.all_append, hall.out]
          simp [hv])
        clear hv hall
        go_wp2_with fail
        refine (specValOk row[k].k row[k].n row[k].s _).mono ?_
        rintro e w1 ⟨rfl, hb1⟩
        rw [show valOkB row[k].k row[k].n row[k].s = true from HV.out]
        go_wp2_with fail
        go_roundw
        case rel => exact ⟨k + 1, by omega, by go_num, hall2, hb.trans (hb1.mono hb.size)⟩
        case measure => simp [intOf]; omega
    · have e : row.take k = row := List.take_of_length_le (by omega)
      have ha := hall.out
      rw [e] at ha
      have HA := Lib.hid ha
      clear hall ha e
      go_wp2
      go_ret
      exact ⟨retB (by simp [rowB, HA.out]; omega), hb⟩
end Go.Proofs.Ytlpfpcnafejkoaa
namespace Go.Proofs.Ytlpfpcnafejkoaa
open Go.RowKit
theorem flat_get {sz : Nat} : ∀ (l : List (List Value)) (i j : Nat) (hi : i < l.length) (hj : j < sz), (∀ c ∈ l, c.length = sz) → l.flatten[i * sz + j]? = (l[i])[j]?
  | [], i, j, hi, _, _ => by simp at hi
  | c :: cs, i, j, hi, hj, hz => by
    have hc := hz c (by simp)
    cases i with
    | zero => simp only [List.getElem_cons_zero, List.flatten_cons, Nat.zero_mul, Nat.zero_add]; rw [List.getElem?_append_left (by omega)]
    | succ i =>
      simp only [List.getElem_cons_succ]
      rw [List.flatten_cons, List.getElem?_append_right (by rw [hc, Nat.add_mul]; omega), hc, show (i + 1) * sz + j - sz = i * sz + j by rw [Nat.add_mul]; omega]
      exact flat_get cs i j (by simpa using hi) hj fun d hd => hz d (by simp [hd])
theorem flat_len {sz : Nat} : ∀ (l : List (List Value)), (∀ c ∈ l, c.length = sz) → l.flatten.length = l.length * sz
  | [], _ => by simp
  | c :: cs, h => by
    rw [List.flatten_cons, List.length_append, h c (by simp), flat_len cs fun d hd => h d (by simp [hd]), List.length_cons, Nat.add_mul]; omega
def OwnG {α : Type} (T : TypeId) (sz : Nat) (f : α → List Value) (w : World) (base : Nat) (v : Value) (xs : List α) : Prop := w.ownsRow base T sz v xs.length ((xs.map f).flatten)
section
variable {α : Type} {T : TypeId} {sz : Nat} {f : α → List Value}
theorem OwnG.nil (w : World) (base : Nat) : OwnG T sz f w base (.slice none 0 0) [] := World.ownsRow_nil _ _ _ _
theorem OwnG.below {w w' : World} {base : Nat} {v : Value} {xs : List α} (h : OwnG T sz f w base v xs) (hb : Below w.heap.size w w') : OwnG T sz f w' base v xs := by
  refine ⟨h.1, ?_⟩
  rcases h.2 with h | ⟨g, cap, cur, rfl, h1, h2, h3⟩
  · exact .inl h
  · exact .inr ⟨g, cap, cur, rfl, h1, (hb.block g (lt_of_block h2)).trans h2, h3⟩
theorem OwnG.lit (w : World) {base : Nat} (hb : base ≤ w.heap.size) : OwnG T sz f (w.alloc (.cells #[] T)) base (.slice (some ⟨w.heap.size, 0, none⟩) 0 0) ([] : List α) :=
  ⟨by simp, .inr ⟨w.heap.size, 0, #[], rfl, hb, Go.heap_alloc_last w _, Nat.le_refl _, by simp [maxLen], by simp, by simp⟩⟩
theorem OwnG.sl (hf : ∀ d, (f d).length = sz) {w : World} {base : Nat} {v : Value} {xs : List α} (h : OwnG T sz f w base v xs) : ∃ A c, v = .slice A xs.length c ∧ xs.length ≤ c ∧ c ≤ maxLen ∧ Sl (FlatR f) sz (okF base w) w A xs.length xs := by
  rcases h.2 with ⟨rfl, hn⟩ | ⟨g, cap, cur, rfl, h1, h2, h3, h4, h5, h6⟩
  · exact ⟨none, 0, by rw [hn], by omega, by simp [maxLen], rfl, fun h => by omega⟩
  · refine ⟨_, cap, rfl, h3, h4, rfl, fun hn => ⟨g, 0, rfl, ⟨h1, lt_of_block h2, fun off => by simp [World.frozen?, h2]⟩, fun i hi => ⟨f xs[i], hf _, rfl, fun j x hx => ?_⟩⟩⟩
    have hj : j < sz := by have := (List.getElem?_eq_some_iff.1 hx).1; rw [hf] at this; exact this
    rw [cell_of_row _ _ _ _ _ _ h2, Nat.zero_add]
    have hlt : i * sz + j < xs.length * sz := by have : (i + 1) * sz ≤ xs.length * sz := Nat.mul_le_mul_right _ hi; rw [Nat.add_mul] at this; omega
    have h7 := flat_get (sz := sz) (xs.map f) i j (by simpa using hi) hj (fun c hc => by obtain ⟨d, _, rfl⟩ := List.mem_map.1 hc; exact hf d)
    rw [List.getElem_map, hx, ← h6, List.getElem?_take, if_pos hlt] at h7
    rw [← Array.getElem?_toList]
    exact h7
theorem OwnG.block_lt {w : World} {base : Nat} {v : Value} {xs : List α} (h : OwnG T sz f w base v xs) : ∀ k, v.ownBlock = some k → base ≤ k ∧ k < w.heap.size := World.ownsRow.lt h
end
theorem cells_new (w : World) (l : List Value) (t : TypeId) : ∀ j u, l[j]? = some u → (w.alloc (.cells l.toArray t)).cell? ((⟨w.heap.size, 0, none⟩ : Addr).add j) = some u := by
  intro j u hj
  rw [addr_add, Nat.zero_add, cell_of_row _ _ _ _ _ _ (Go.heap_alloc_last w _)]
  simpa using hj
theorem cells_newAt (w : World) (l : List Value) (t : TypeId) {g : Nat} (hg : g = w.heap.size) : ∀ j u, l[j]? = some u → (w.alloc (.cells l.toArray t)).cell? ((⟨g, 0, none⟩ : Addr).add j) = some u := by
  subst hg
  exact cells_new w l t
end Go.Proofs.Ytlpfpcnafejkoaa
namespace Go.Proofs.Ytlpfpcnafejkoaa
open Go.RowKit
def entC (vs : List Value) (es : List En) : List Value := (List.zipWith (fun v (e : En) => [v, .int .i64 e.id]) vs es).flatten
def OwnK (w : World) (base : Nat) (v : Value) (xs : List Vl) : Prop := OwnG 57 3 Vl.cells w base v xs
def blk (v : Value) : List Nat := v.ownBlock.toList
structure OwnE0 (w : World) (base : Nat) (v : Value) (es : List En) (vs : List Value) : Prop where
  len : vs.length = es.length
  row : w.ownsRow base 42 2 v es.length (entC vs es)
  key : ∀ i (h : i < es.length) (h' : i < vs.length), OwnK w base vs[i] es[i].key
  apart : (vs.flatMap blk).Nodup
def OwnE (w : World) (base : Nat) (v : Value) (es : List En) : Prop := ∃ vs, OwnE0 w base v es vs
theorem OwnE.nil (w : World) (base : Nat) : OwnE w base (.slice none 0 0) [] := ⟨[], rfl, World.ownsRow_nil _ _ _ _, fun i h => by simp at h, by simp⟩
theorem OwnE.lit (w : World) {base : Nat} (hb : base ≤ w.heap.size) : OwnE (w.alloc (.cells #[] 42)) base (.slice (some ⟨w.heap.size, 0, none⟩) 0 0) [] :=
  ⟨[], rfl, ⟨by simp [entC], .inr ⟨w.heap.size, 0, #[], rfl, hb, Go.heap_alloc_last w _, Nat.le_refl _, by simp [maxLen], by simp, by simp [entC]⟩⟩, fun i h => by simp at h, by simp⟩
theorem ownsRow_below {w w' : World} {base : Nat} {T : TypeId} {sz : Nat} {v : Value} {n : Nat} {xs : List Value} (h : w.ownsRow base T sz v n xs) (hb : Below w.heap.size w w') : w'.ownsRow base T sz v n xs := by
  refine ⟨h.1, ?_⟩
  rcases h.2 with h | ⟨g, cap, cur, rfl, h1, h2, h3⟩
  · exact .inl h
  · exact .inr ⟨g, cap, cur, rfl, h1, (hb.block g (lt_of_block h2)).trans h2, h3⟩
theorem OwnE.below {w w' : World} {base : Nat} {v : Value} {es : List En} (h : OwnE w base v es) (hb : Below w.heap.size w w') : OwnE w' base v es := by
  obtain ⟨vs, h⟩ := h
  exact ⟨vs, h.len, ownsRow_below h.row hb, fun i hi hi' => OwnG.below (h.key i hi hi') hb, h.apart⟩
theorem OwnK.ne {w : World} {base base' : Nat} {v k : Value} {n : Nat} {cs : List Value} {xs : List Vl} (h : w.ownsRow base 42 2 v n cs) (hk : OwnK w base' k xs) : k.ownBlock = none ∨ k.ownBlock ≠ v.ownBlock := by
  rcases hk.2 with ⟨rfl, -⟩ | ⟨g, cap, cur, rfl, h1, h2, -⟩
  · exact Or.inl rfl
  · refine Or.inr fun e => ?_
    rcases h.2 with ⟨rfl, -⟩ | ⟨g', cap', cur', rfl, k1, k2, -⟩
    · simp [Value.ownBlock] at e
    · simp [Value.ownBlock] at e
      subst e
      rw [h2] at k2
      injection k2 with k2
      injection k2 with _ k3
      exact absurd k3 (by decide)
theorem OwnE0.app {w w' : World} {base : Nat} {v v' k : Value} {es : List En} {vs : List Value} {x : En} {o : Obj} (h : OwnE0 w base v es vs) (hb : base ≤ w.heap.size) (hk : OwnK w base k x.key) (hn : ∀ b ∈ blk k, b ∉ vs.flatMap blk)
    (h' : w'.ownsRow base 42 2 v' (es.length + 1) (entC vs es ++ [k, .int .i64 x.id])) (hg : (w.alloc o).grownBy w' v.ownBlock) : OwnE0 w' base v' (es ++ [x]) (vs ++ [k]) := by
  have hz : entC (vs ++ [k]) (es ++ [x]) = entC vs es ++ [k, .int .i64 x.id] := by
    unfold entC
    rw [List.zipWith_append h.len]
    simp
  have hkk : ∀ (u : Value) (xs : List Vl), OwnK w base u xs → OwnK w' base u xs := fun u xs hu => World.ownsRow.kept (World.ownsRow.alloc hu o) hg (OwnK.ne h.row hu)
  refine ⟨by simp [h.len], by rw [List.length_append, hz]; exact h', fun i hi hi' => ?_, ?_⟩
  · by_cases e : i < es.length
    · have e' : i < vs.length := by rw [h.len]; exact e
      rw [List.getElem_append_left e, List.getElem_append_left e']
      exact hkk _ _ (h.key i e e')
    · simp only [List.length_append, List.length_cons, List.length_nil] at hi
      obtain rfl : i = es.length := by omega
      rw [List.getElem_append_right (Nat.le_refl _), List.getElem_append_right (Nat.le_of_eq h.len)]
      simpa using hkk _ _ hk
  · rw [List.flatMap_append]
    refine List.nodup_append.2 ⟨h.apart, ?_, fun a ha b hb => ?_⟩
    · have hs : ∀ a : Option Nat, a.toList.Nodup := fun a => by cases a <;> simp
      simpa [blk] using hs k.ownBlock
    · rintro rfl
      exact hn a (by simpa using hb) ha
end Go.Proofs.Ytlpfpcnafejkoaa
namespace Go.Proofs.Ytlpfpcnafejkoaa
open Go.RowKit
theorem infoValC : (Try.prog.info? 57).map (fun i => (i.zero, i.size, i.bytes)) = some (some (.agg #[.int .i64 0, .int .i64 0, .string ⟨#[]⟩]), 3, 32) := by kernel_rfl
section
variable {P : Program} {w : World}
theorem run_append_own_0 (base : Nat) (t ty e : TypeId) (i : TypeInfo) (size : Nat) (ht : P.underlying t = some (.slice e)) (hi : P.info? e = some i)
    (v : Value) (n : Nat) (xs : List Value) (hown : w.ownsRow base e size v n xs) (c : Nat) :
    (Builtin.append_ #[t, t] ty #[v, .slice none 0 c]).run P w = .ok v w := by
  rcases hown.2 with ⟨rfl, rfl⟩ | ⟨g, cap, cur, rfl, _, _, hnc, _⟩
  · simp [Builtin.append_, run_underlying ht, sizeOf, typeInfo, hi, Builtin.lenOf, Builtin.firstCells]
  · simp [Builtin.append_, run_underlying ht, sizeOf, typeInfo, hi, Builtin.lenOf, Builtin.firstCells, hnc, storeCells]
theorem wpList_append_own_0 {ops : Array Oper} {rest : List Oper} {o : Oper} {a : Act} {Q : Exit → Act → World → Prop} (hgd : o.guard = none) (s x : Operand) (t : TypeId)
    (ho : o.op = .call { callee := .builtin .append, args := #[s, x], argTypes := #[t, t] })
    (base : Nat) (e : TypeId) (i : TypeInfo) (size : Nat) (ht : P.underlying t = some (.slice e)) (hi : P.info? e = some i)
    (v : Value) (n : Nat) (xs : List Value) (hs : a.eval s = v) (hown : w.ownsRow base e size v n xs) (c : Nat) (hx : a.eval x = .slice none 0 c)
    (h : wpList P ops Q rest (a.put o.dst v) w) : wpList P ops Q (o :: rest) a w := by
  refine wpList_plain hgd fun K hK => ?_
  have hrun := run_append_own_0 (P := P) (w := w) base t o.type e i size ht hi v n xs hown c
  unfold Oper.wp
  simp [execOp, ho, resolve, invoke, builtin, hs, hx, hrun, Result.andThen]
  exact hK _ _ h
end
theorem Sl.flat_cells {α : Type} {f : α → List Value} {sz : Nat} (hz : 0 < sz) (hf : ∀ d, (f d).length = sz) {ok : Nat → Prop} {w : World} {ad : Addr} {n : Nat} {xs : List α} (h : Sl (FlatR f) sz ok w (some ad) n xs) :
    ∀ j u, ((xs.map f).flatten)[j]? = some u → w.cell? (ad.add j) = some u := fun j u hj => by
  have hl := flat_len (sz := sz) (xs.map f) (fun c hc => by obtain ⟨d, _, rfl⟩ := List.mem_map.1 hc; exact hf d)
  have hjl := (List.getElem?_eq_some_iff.1 hj).1
  rw [hl, List.length_map] at hjl
  have hlen := h.1
  obtain ⟨b, off, e, hb, hi⟩ := h.2 (by rcases Nat.eq_zero_or_pos n with h0 | h0; · rw [hlen, h0] at hjl; omega
                                        · exact h0)
  cases e
  have hdiv : j / sz < xs.length := Nat.div_lt_of_lt_mul (by rw [Nat.mul_comm]; exact hjl)
  have hmod : j % sz < sz := Nat.mod_lt _ hz
  have hj' : j / sz * sz + j % sz = j := by rw [Nat.mul_comm]; exact Nat.div_add_mod j sz
  obtain ⟨cs, h1, h2, h3⟩ := hi (j / sz) hdiv
  cases h2
  have := flat_get (sz := sz) (xs.map f) (j / sz) (j % sz) (by simpa using hdiv) hmod (fun c hc => by obtain ⟨d, _, rfl⟩ := List.mem_map.1 hc; exact hf d)
  rw [hj', hj, List.getElem_map] at this
  have := h3 (j % sz) u this.symm
  rw [addr_add, ← hj', ← Nat.add_assoc]
  exact this
theorem vl_one (xs : List Vl) : ∀ u ∈ (xs.map Vl.cells).flatten, u.oneCell' = true := fun u hu => by
  obtain ⟨l, hl, hu⟩ := List.mem_flatten.1 hu
  obtain ⟨t, -, rfl⟩ := List.mem_map.1 hl
  simp [Vl.cells] at hu
  rcases hu with rfl | rfl | rfl <;> rfl
theorem vl_flat (xs : List Vl) : ((xs.map Vl.cells).flatten).length = xs.length * 3 := by
  rw [flat_len (sz := 3) _ (fun c hc => by obtain ⟨t, -, rfl⟩ := List.mem_map.1 hc; rfl), List.length_map]
set_option maxRecDepth 100000 in
set_option maxHeartbeats 1000000 in
theorem specCopyVals (A : Option Addr) (n c : Nat) (xs : List Vl) (ok : Nat → Prop) (w : World) (h : Sl VlR 3 ok w A n xs) (hl : n ≤ 1073741824) :
    Calls Try.prog 27 #[.slice A n c] w fun e w' => ∃ v', e = .returned v' ∧ OwnK w' w.heap.size v' xs ∧ Below w.heap.size w w' := by
  obtain ⟨i0, hi, hz0, hz1, hz2⟩ := info_parts infoValC
  have H1 := Lib.hid hi
  have H2 := Lib.hid hz0
  have H3 := Lib.hid hz1
  have H4 := Lib.hid hz2
  clear hi hz0 hz1 hz2
  have HO0 := Lib.hid (OwnG.lit (T := 57) (sz := 3) (f := Vl.cells) w (Nat.le_refl w.heap.size))
  have hb0 := (Below.refl w.heap.size w).alloc (Nat.le_refl _) (.cells #[] 57)
  have h0 := h.below VlR.stays hb0
  obtain rfl : xs.length = n := h.1
  go_enter Try.func27, Try.ntmps27
  cases A with
  | none =>
    have hn : xs.length = 0 := by
      rcases Nat.eq_zero_or_pos xs.length with h | h
      · exact h
      · obtain ⟨b, off, e, -⟩ := h0.2 h
        cases e
    obtain rfl : xs = [] := List.length_eq_zero_iff.1 hn
    simp only [List.length_nil] at *
    go_wp2_with (at_builtin; refine wpList_append_own_0 rfl _ _ 40 rfl w.heap.size 57 i0 3 Try.underlying40 H1.out _ _ _ rfl HO0.out _ rfl ?_)
    go_ret
    exact ⟨_, rfl, HO0.out, hb0⟩
  | some ad =>
    have HX := Lib.hid (Sl.flat_cells (f := Vl.cells) (sz := 3) (by decide) (fun _ => rfl) h0)
    clear h0
    go_wp2_with (at_builtin; refine wpList_append_own _ rfl _ _ 40 rfl w.heap.size 57 i0 (.agg #[.int .i64 0, .int .i64 0, .string ⟨#[]⟩]) 3 32 Try.underlying40 H1.out H2.out H3.out H4.out rfl (by decide) _ _ _ rfl HO0.out ad xs.length c ((xs.map Vl.cells).flatten) rfl ?c0 ?c1 ?c2 ?c3 ?c4 ?c5 ?_)
    case c0 => exact vl_flat xs
    case c1 => exact HX.out
    case c2 => exact vl_one xs
    case c3 => unfold maxLen; simp; omega
    case c4 => simp; omega
    case c5 => simp
    intro v9 w9 hown9 hgrow9 _
    go_wp2_with fail
    go_ret
    refine ⟨_, rfl, ?_, ?_⟩
    · unfold OwnK OwnG; simpa using hown9
    · exact ((Below.refl w.heap.size w).alloc (Nat.le_refl _) _).grown hgrow9 (by simp) (by intro k hk; simp [Value.ownBlock] at hk; omega)
theorem OwnK.mono {w : World} {base base' : Nat} {v : Value} {xs : List Vl} (h : OwnK w base v xs) (hb : base' ≤ base) : OwnK w base' v xs := by
  refine ⟨h.1, ?_⟩
  rcases h.2 with h | ⟨g, cap, cur, rfl, h1, h2⟩
  · exact .inl h
  · exact .inr ⟨g, cap, cur, rfl, Nat.le_trans hb h1, h2⟩
theorem OwnK.shape {w : World} {base : Nat} {v : Value} {xs : List Vl} (h : OwnK w base v xs) : ∃ A c, v = .slice A xs.length c := by
  rcases h.2 with ⟨rfl, hn⟩ | ⟨g, cap, cur, rfl, -⟩
  · exact ⟨none, 0, by rw [hn]⟩
  · exact ⟨_, _, rfl⟩
theorem OwnK.one {w : World} {base : Nat} {v : Value} {xs : List Vl} (h : OwnK w base v xs) : v.oneCell' = true := by
  rcases h.2 with ⟨rfl, -⟩ | ⟨g, cap, cur, rfl, -⟩ <;> rfl
end Go.Proofs.Ytlpfpcnafejkoaa
namespace Go.Proofs.Ytlpfpcnafejkoaa
open Go.RowKit
theorem entC_at (vs : List Value) (es : List En) (hl : vs.length = es.length) (i : Nat) (hi : i < es.length) (hi' : i < vs.length) (t : Nat) (ht : t < 2) : (entC vs es)[i * 2 + t]? = [vs[i], .int .i64 es[i].id][t]? := by
  unfold entC
  rw [flat_get (sz := 2) _ i t (by rw [List.length_zipWith]; omega) ht (fun c hc => by
    obtain ⟨j, hj, rfl⟩ := List.mem_iff_getElem.1 hc
    rw [List.getElem_zipWith]; rfl), List.getElem_zipWith]
theorem OwnE0.cells {w : World} {base : Nat} {v : Value} {es : List En} {vs : List Value} (h : OwnE0 w base v es vs) :
    (v = .slice none 0 0 ∧ es = []) ∨ ∃ g c, v = .slice (some ⟨g, 0, none⟩) es.length c ∧ es.length ≤ c ∧ c ≤ maxLen ∧ base ≤ g ∧ g < w.heap.size ∧ (∀ off, w.frozen? ⟨g, off, none⟩ = false) ∧ ∀ i (hi : i < es.length) (hi' : i < vs.length), cellsAt w g (0 + i * 2) [vs[i], .int .i64 es[i].id] := by
  rcases h.row.2 with ⟨rfl, hn⟩ | ⟨g, cap, cur, rfl, h1, h2, h3, h4, h5, h6⟩
  · exact Or.inl ⟨rfl, List.length_eq_zero_iff.1 hn⟩
  · refine Or.inr ⟨g, cap, rfl, h3, h4, h1, lt_of_block h2, fun off => by simp [World.frozen?, h2], fun i hi hi' t u hu => ?_⟩
    have ht : t < 2 := by have := (List.getElem?_eq_some_iff.1 hu).1; simpa using this
    have h7 := entC_at vs es h.len i hi hi' t ht
    rw [hu, ← h6, List.getElem?_take, if_pos (by omega)] at h7
    rw [cell_of_row _ _ _ _ _ _ h2, Nat.zero_add, ← Array.getElem?_toList]
    exact h7
theorem OwnE.sl {w : World} {base : Nat} {v : Value} {es : List En} (h : OwnE w base v es) : ∃ A c, v = .slice A es.length c ∧ es.length ≤ c ∧ c ≤ maxLen ∧ Sl EnR 2 (okF base w) w A es.length es := by
  obtain ⟨vs, h⟩ := h
  rcases h.cells with ⟨rfl, rfl⟩ | ⟨g, c, rfl, h1, h2, h3, h4, h5, h6⟩
  · exact ⟨none, 0, rfl, Nat.le_refl _, by simp [maxLen], rfl, fun hn => by simp at hn⟩
  · refine ⟨_, c, rfl, h1, h2, rfl, fun hn => ⟨g, 0, rfl, ⟨h3, h4, h5⟩, fun i hi => ?_⟩⟩
    have hi' : i < vs.length := by rw [h.len]; exact hi
    obtain ⟨A', c', e, k1, k2, k3⟩ := OwnG.sl (f := Vl.cells) (sz := 3) (fun _ => rfl) (h.key i hi hi')
    have h7 := h6 i hi hi'
    rw [e] at h7
    exact ⟨_, rfl, ⟨A', _, c', rfl, k3, k1⟩, h7⟩
def En.marks (e : En) : Nat := e.key.length * 3 + 1
theorem OwnK.fls {w : World} {base : Nat} {v : Value} {xs : List Vl} (h : OwnK w base v xs) (hn : xs.length ≤ 1048576) : ∃ A c, v = .slice A xs.length c ∧ FlS 3 w A xs.length (blk v) := by
  obtain ⟨A, c, rfl, k1, k2, k3⟩ := OwnG.sl (f := Vl.cells) (sz := 3) (fun _ => rfl) h
  refine ⟨A, c, rfl, ?_, hn, fun b hb => ?_, xs.map fun _ => 3, ?_⟩
  · cases A <;> simp [blk, Value.ownBlock]
  · cases A with
    | none => simp [blk, Value.ownBlock] at hb
    | some a =>
      rcases h.2 with ⟨e, -⟩ | ⟨g, cap, cur, e, h1, h2, -⟩
      · cases e
      · cases e
        obtain rfl : b = g := by simpa [blk, Value.ownBlock] using hb
        exact ⟨lt_of_block h2, fun off => by simp [World.frozen?, h2]⟩
  · have k4 : Sl VlR 3 (· ∈ blk (.slice A xs.length c)) w A xs.length xs := ⟨rfl, fun hn => by
      obtain ⟨b, off, e, -, hi⟩ := k3.2 hn
      subst e
      exact ⟨b, off, rfl, by simp [blk, Value.ownBlock], fun i hlt => hi i hlt⟩⟩
    exact Sl.toSh k4 Vl.toSh fun _ _ => trivial
theorem OwnE.sh {w : World} {base : Nat} {v : Value} {es : List En} (h : OwnE w base v es) (hn : es.length ≤ 1048576) (hk : ∀ e ∈ es, e.key.length ≤ 1048576) :
    ∃ A c bs, v = .slice A es.length c ∧ ShL EnS 2 w A es.length (es.map En.marks) bs ∧ ∀ b ∈ bs, base ≤ b := by
  obtain ⟨vs, h⟩ := h
  rcases h.cells with ⟨rfl, rfl⟩ | ⟨g, c, rfl, h1, h2, h3, h4, h5, h6⟩
  · exact ⟨none, 0, [], rfl, ⟨hn, Or.inl ⟨rfl, rfl, rfl⟩⟩, fun b hb => by simp at hb⟩
  · have hg : g ∉ vs.flatMap blk := fun hh => by
      obtain ⟨u, hu, hbu⟩ := List.mem_flatMap.1 hh
      obtain ⟨i, hi, rfl⟩ := List.mem_iff_getElem.1 hu
      have := OwnK.ne h.row (h.key i (by rw [← h.len]; exact hi) hi)
      have hb' : vs[i].ownBlock = some g := by simpa [blk] using hbu
      rcases this with e | e
      · rw [e] at hb'; cases hb'
      · exact e hb'
    refine ⟨_, c, g :: vs.flatMap blk, rfl, ⟨hn, Or.inr ⟨g, 0, vs.map blk, rfl, rfl, by simp, by simp [h.len], List.nodup_cons.2 ⟨hg, h.apart⟩, h4, h5, fun i hi => ?_⟩⟩, fun b hb => ?_⟩
    · have hi' : i < vs.length := by rw [h.len]; exact hi
      obtain ⟨A', c', e, k1⟩ := OwnK.fls (h.key i hi hi') (hk _ (List.getElem_mem hi))
      have h7 := h6 i hi hi'
      refine ⟨_, rfl, ⟨A', es[i].key.length, c', es[i].id, ?_, ?_, ?_⟩, h7⟩
      · rw [e]
      · rw [List.getD_eq_getElem?_getD, List.getElem?_map, List.getElem?_eq_getElem hi]; rfl
      · rw [List.getD_eq_getElem?_getD, List.getElem?_map, List.getElem?_eq_getElem hi']
        exact k1
    · rcases List.mem_cons.1 hb with rfl | hb
      · exact h3
      · obtain ⟨u, hu, hbu⟩ := List.mem_flatMap.1 hb
        obtain ⟨i, hi, rfl⟩ := List.mem_iff_getElem.1 hu
        exact (OwnG.block_lt (h.key i (by rw [← h.len]; exact hi) hi) b (by simpa [blk] using hbu)).1
set_option maxRecDepth 100000 in
set_option maxHeartbeats 1000000 in
theorem implCloneVals (A : Option Addr) (n c : Nat) (xs : List Vl) (ok : Nat → Prop) (w : World) (h : Sl VlR 3 ok w A n xs) (hl : n ≤ 1073741824) :
    Calls Try.prog 29 #[.slice A n c] w fun e w' => ∃ v', e = .returned v' ∧ OwnK w' w.heap.size v' xs ∧ Below w.heap.size w w' := by
  obtain ⟨i0, hi, hz0, hz1, hz2⟩ := info_parts infoValC
  have H1 := Lib.hid hi
  have H2 := Lib.hid hz0
  have H3 := Lib.hid hz1
  have H4 := Lib.hid hz2
  clear hi hz0 hz1 hz2
  have HO0 := Lib.hid (OwnG.lit (T := 57) (sz := 3) (f := Vl.cells) w (Nat.le_refl w.heap.size))
  have hb0 := (Below.refl w.heap.size w).alloc (Nat.le_refl _) (.cells #[] 57)
  have h0 := h.below VlR.stays hb0
  have q22 : ∀ (w : World) (a : Option Addr) (n c n' c' : Nat), (binOp .eql 40 (.slice a n c) (.slice none n' c')).run Try.prog w = .ok (.bool a.isNone) w := fun w a n c n' c' => Lib.run_eql_slice_nil w _ _ a n c n' c' Try.underlying40
  obtain rfl : xs.length = n := h.1
  cases A with
  | none =>
    have hn : xs.length = 0 := by
      rcases Nat.eq_zero_or_pos xs.length with h | h
      · exact h
      · obtain ⟨b, off, e, -⟩ := h0.2 h
        cases e
    obtain rfl : xs = [] := List.length_eq_zero_iff.1 hn
    simp only [List.length_nil] at *
    go_enter Try.func29, Try.ntmps29
    go_wp2_with fail
    go_ret
    exact ⟨_, rfl, OwnG.nil _ _, Below.refl _ _⟩
  | some ad =>
    have HX := Lib.hid (Sl.flat_cells (f := Vl.cells) (sz := 3) (by decide) (fun _ => rfl) h0)
    clear h0
    go_enter Try.func29, Try.ntmps29
    go_wp2_with (at_builtin; refine wpList_append_own _ rfl _ _ 40 rfl w.heap.size 57 i0 (.agg #[.int .i64 0, .int .i64 0, .string ⟨#[]⟩]) 3 32 Try.underlying40 H1.out H2.out H3.out H4.out rfl (by decide) _ _ _ rfl HO0.out ad xs.length c ((xs.map Vl.cells).flatten) rfl ?c0 ?c1 ?c2 ?c3 ?c4 ?c5 ?_)
    case c0 => exact vl_flat xs
    case c1 => exact HX.out
    case c2 => exact vl_one xs
    case c3 => unfold maxLen; simp; omega
    case c4 => simp; omega
    case c5 => simp
    intro v9 w9 hown9 hgrow9 _
    go_wp2_with fail
    go_ret
    refine ⟨_, rfl, ?_, ?_⟩
    · unfold OwnK OwnG; simpa using hown9
    · exact ((Below.refl w.heap.size w).alloc (Nat.le_refl _) _).grown hgrow9 (by simp) (by intro k hk; simp [Value.ownBlock] at hk; omega)
theorem bl_irrefl : ∀ x : List UInt8, Op.bytesLess x x = false
  | [] => rfl
  | a :: x => by simp [Op.bytesLess, bl_irrefl x]
theorem bl_total : ∀ x y : List UInt8, Op.bytesLess x y = true ∨ x = y ∨ Op.bytesLess y x = true
  | [], [] => .inr (.inl rfl)
  | [], _ :: _ => .inl rfl
  | _ :: _, [] => .inr (.inr rfl)
  | a :: x, b :: y => by
    by_cases h : a < b
    · exact .inl (by simp [Op.bytesLess, h])
    by_cases h' : b < a
    · exact .inr (.inr (by simp [Op.bytesLess, h']))
    have e : a = b := by
      apply UInt8.toNat_inj.1
      rw [UInt8.lt_iff_toNat_lt] at h h'
      omega
    subst e
    rcases bl_total x y with k | k | k
    · exact .inl (by simp [Op.bytesLess, k])
    · exact .inr (.inl (by rw [k]))
    · exact .inr (.inr (by simp [Op.bytesLess, k]))
theorem bl_trans : ∀ x y z : List UInt8, Op.bytesLess x y = true → Op.bytesLess y z = true → Op.bytesLess x z = true
  | _, [], _, h, _ => by simp [Op.bytesLess] at h
  | _, _ :: _, [], _, h => by simp [Op.bytesLess] at h
  | [], _ :: _, _ :: _, _, _ => rfl
  | a :: x, b :: y, c :: z, h, k => by
    simp only [Op.bytesLess, Bool.or_eq_true, decide_eq_true_eq, Bool.and_eq_true, beq_iff_eq] at h k ⊢
    rcases h with h | ⟨rfl, h⟩ <;> rcases k with k | ⟨rfl, k⟩
    · left; rw [UInt8.lt_iff_toNat_lt] at *; omega
    · left; exact h
    · left; exact k
    · right; exact ⟨rfl, bl_trans x y z h k⟩
theorem bl_asymm {x y : List UInt8} (h : Op.bytesLess x y = true) : Op.bytesLess y x = false := by
  cases k : Op.bytesLess y x
  · rfl
  · have := bl_trans _ _ _ h k
    rw [bl_irrefl] at this
    exact this.symm
theorem cmpS_cases (x y : ByteArray) : (cmpS x y = -1 ∧ Op.bytesLess x.toList y.toList = true) ∨ (cmpS x y = 0 ∧ x.toList = y.toList) ∨ (cmpS x y = 1 ∧ Op.bytesLess y.toList x.toList = true) := by
  unfold cmpS
  rcases bl_total x.toList y.toList with h | h | h
  · left; simp [h]
  · right; left; rw [h, bl_irrefl]; simp
  · right; right
    have k := bl_asymm h
    have e : ¬ x.toList = y.toList := fun e => by rw [e, bl_irrefl] at h; cases h
    simp [h, k, e]
theorem cmpS_neg (x y : ByteArray) : cmpS y x = -cmpS x y := by
  rcases cmpS_cases x y with ⟨h, h'⟩ | ⟨h, h'⟩ | ⟨h, h'⟩ <;> rcases cmpS_cases y x with ⟨k, k'⟩ | ⟨k, k'⟩ | ⟨k, k'⟩
  · have := bl_asymm h'; rw [k'] at this; cases this
  · rw [k', bl_irrefl] at h'; cases h'
  · omega
  · rw [h', bl_irrefl] at k'; cases k'
  · omega
  · rw [h', bl_irrefl] at k'; cases k'
  · omega
  · rw [k', bl_irrefl] at h'; cases h'
  · have := bl_asymm h'; rw [k'] at this; cases this
theorem cmpS_le {x y z : ByteArray} (h : cmpS x y ≤ 0) (k : cmpS y z ≤ 0) : cmpS x z ≤ 0 ∧ (cmpS x z = 0 → cmpS x y = 0 ∧ cmpS y z = 0) := by
  rcases cmpS_cases x y with ⟨h1, h'⟩ | ⟨h1, h'⟩ | ⟨h1, h'⟩
  · have g : Op.bytesLess x.toList z.toList = true := by
      rcases cmpS_cases y z with ⟨k1, k'⟩ | ⟨k1, k'⟩ | ⟨k1, k'⟩
      · exact bl_trans _ _ _ h' k'
      · rw [← k']; exact h'
      · omega
    have e : cmpS x z = -1 := by simp [cmpS, g]
    omega
  · have e : cmpS x z = cmpS y z := by simp [cmpS, h']
    omega
  · omega
theorem cmpI_neg (x y : Int) : cmpI y x = -cmpI x y := by unfold cmpI; repeat' split <;> omega
theorem cmpI_cases (x y : Int) : (cmpI x y = -1 ∧ x < y) ∨ (cmpI x y = 0 ∧ x = y) ∨ (cmpI x y = 1 ∧ y < x) := by unfold cmpI; repeat' split <;> omega
theorem ordOk_neg (k n : Int) (s : ByteArray) (k' n' : Int) (s' : ByteArray) : ordOk k' n' s' k n s = -ordOk k n s k' n' s' := by
  unfold ordOk
  cases h : valOkB k n s
  · simp
  cases h' : valOkB k' n' s'
  · simp
  simp only [Bool.and_self, if_true]
  rw [← ord_eq h h', ← ord_eq h' h, cmpI_neg k k', cmpI_neg n n', cmpS_neg s s']
  unfold firstNZ; repeat' split <;> omega
theorem ordOk_bd (k n : Int) (s : ByteArray) (k' n' : Int) (s' : ByteArray) : -1 ≤ ordOk k n s k' n' s' ∧ ordOk k n s k' n' s' ≤ 1 := by
  unfold ordOk ordV; split <;> (try split) <;> (try split) <;> omega
theorem ordOk_le {k n : Int} {s : ByteArray} {k' n' : Int} {s' : ByteArray} {k2 n2 : Int} {s2 : ByteArray} (h : valOkB k n s = true) (h' : valOkB k' n' s' = true) (h2 : valOkB k2 n2 s2 = true)
    (a : ordOk k n s k' n' s' ≤ 0) (b : ordOk k' n' s' k2 n2 s2 ≤ 0) : ordOk k n s k2 n2 s2 ≤ 0 := by
  unfold ordOk at *
  simp only [h, h', h2, Bool.and_self, if_true] at a b ⊢
  rw [← ord_eq h h'] at a
  rw [← ord_eq h' h2] at b
  rw [← ord_eq h h2]
  unfold firstNZ at *
  rcases cmpI_cases k k' with ⟨x, x'⟩ | ⟨x, x'⟩ | ⟨x, x'⟩ <;> rcases cmpI_cases k' k2 with ⟨y, y'⟩ | ⟨y, y'⟩ | ⟨y, y'⟩ <;> rcases cmpI_cases k k2 with ⟨z, z'⟩ | ⟨z, z'⟩ | ⟨z, z'⟩ <;> simp [x, y, z] at a b ⊢ <;> try omega
  rcases cmpI_cases n n' with ⟨x, x'⟩ | ⟨x, x'⟩ | ⟨x, x'⟩ <;> rcases cmpI_cases n' n2 with ⟨y, y'⟩ | ⟨y, y'⟩ | ⟨y, y'⟩ <;> rcases cmpI_cases n n2 with ⟨z, z'⟩ | ⟨z, z'⟩ | ⟨z, z'⟩ <;> simp [x, y, z] at a b ⊢ <;> try omega
  exact (cmpS_le a b).1
def ordX (x y : Vl) : Int := ordOk x.k x.n x.s y.k y.n y.s
def ordL : List Vl → List Vl → Int
  | [], [] => 0
  | [], _ :: _ => -1
  | _ :: _, [] => 1
  | x :: a, y :: b => if ordX x y = 0 then ordL a b else ordX x y
def ordE (a b : En) : Int := if ordL a.key b.key = 0 then cmpI a.id b.id else ordL a.key b.key
def entryB (e : En) : Bool := decide (1 ≤ e.key.length) && (rowB e.key && (decide (1 ≤ e.id) && decide (e.id ≤ 1000000000)))
def wideOf (l : List En) : Nat := ((l[0]?).map fun e => e.key.length).getD 0
def entW (n : Nat) (e : En) : Bool := entryB e && decide (e.key.length = n)
def upB (l : List En) (i : Nat) : Bool := match l[i]?, l[i + 1]? with
  | some a, some b => decide (ordE a b < 0)
  | _, _ => true
def risesB (l : List En) : Bool := (List.range l.length).all (upB l)
def entriesB (l : List En) : Bool := decide (l.length ≤ 120) && (l.all (entW (wideOf l)) && risesB l)
theorem ordX_bd (x y : Vl) : -1 ≤ ordX x y ∧ ordX x y ≤ 1 := ordOk_bd _ _ _ _ _ _
theorem ordX_neg (x y : Vl) : ordX y x = -ordX x y := ordOk_neg _ _ _ _ _ _
theorem ordL_bd : ∀ a b : List Vl, -1 ≤ ordL a b ∧ ordL a b ≤ 1
  | [], [] => by simp [ordL]
  | [], _ :: _ => by simp [ordL]
  | _ :: _, [] => by simp [ordL]
  | x :: a, y :: b => by
    unfold ordL
    split
    · exact ordL_bd a b
    · exact ordX_bd x y
theorem ordL_at {a b : List Vl} {k : Nat} (h : k < a.length) (h' : k < b.length) : ordL (a.drop k) (b.drop k) = if ordX a[k] b[k] = 0 then ordL (a.drop (k + 1)) (b.drop (k + 1)) else ordX a[k] b[k] := by
  rw [List.drop_eq_getElem_cons h, List.drop_eq_getElem_cons h']; rfl
theorem ordL_end {a b : List Vl} {k : Nat} (h : k < a.length) (h' : b.length ≤ k) : ordL (a.drop k) (b.drop k) = 1 := by
  rw [List.drop_eq_getElem_cons h, List.drop_of_length_le h']; rfl
theorem ordL_off {a b : List Vl} {k : Nat} (h : a.length ≤ k) (h' : k < b.length) : ordL (a.drop k) (b.drop k) = -1 := by
  rw [List.drop_of_length_le h, List.drop_eq_getElem_cons h']; rfl
theorem ordL_both {a b : List Vl} {k : Nat} (h : a.length ≤ k) (h' : b.length ≤ k) : ordL (a.drop k) (b.drop k) = 0 := by
  rw [List.drop_of_length_le h, List.drop_of_length_le h']; rfl
theorem upB_at {l : List En} {i : Nat} (h : i + 1 < l.length) : upB l i = decide (ordE l[i] l[i + 1] < 0) := by
  unfold upB
  rw [List.getElem?_eq_getElem (by omega), List.getElem?_eq_getElem h]
theorem upB_last {l : List En} {i : Nat} (h : l.length ≤ i + 1) : upB l i = true := by
  unfold upB
  rw [List.getElem?_eq_none h]
  split
  · next h1 h2 => cases h2
  · rfl
theorem all_take_succE {α : Type} (f : α → Bool) (l : List α) (k : Nat) (h : k < l.length) : (l.take (k + 1)).all f = ((l.take k).all f && f l[k]) := by
  rw [List.take_succ_eq_append_getElem h, List.all_append]; simp
theorem range_all_succ (f : Nat → Bool) (k : Nat) : (List.range (k + 1)).all f = ((List.range k).all f && f k) := by
  rw [List.range_succ, List.all_append]; simp
theorem rises_no {l : List En} {i : Nat} (h : i + 1 < l.length) (hn : ¬ ordE l[i] l[i + 1] < 0) : risesB l = false := by
  unfold risesB
  rw [List.all_eq_false]
  exact ⟨i, List.mem_range.2 (by omega), by rw [upB_at h, decide_eq_false hn]; simp⟩
theorem rises_yes {l : List En} {k : Nat} (h : (List.range k).all (upB l) = true) (hk : l.length ≤ k + 1) : risesB l = true := by
  unfold risesB
  rw [List.all_eq_true] at h ⊢
  intro i hi
  rw [List.mem_range] at hi
  by_cases e : i < k
  · exact h i (List.mem_range.2 e)
  · exact upB_last (by omega)
theorem entriesB_no {l : List En} {k : Nat} (h : k < l.length) (hf : entW (wideOf l) l[k] = false) : entriesB l = false := by
  unfold entriesB
  rw [List.all_eq_false.2 ⟨l[k], List.getElem_mem h, by simp [hf]⟩]
  simp
theorem entriesB_in {l : List En} (h : entriesB l = true) : l.length ≤ 120 ∧ (∀ e ∈ l, entryB e = true ∧ e.key.length = wideOf l) ∧ risesB l = true := by
  unfold entriesB at h
  simp only [Bool.and_eq_true, decide_eq_true_eq, List.all_eq_true, entW] at h
  exact ⟨h.1, h.2.1, h.2.2⟩
theorem wideOf_at {l : List En} (h : 0 < l.length) : wideOf l = l[0].key.length := by
  unfold wideOf
  rw [List.getElem?_eq_getElem h]; rfl
end Go.Proofs.Ytlpfpcnafejkoaa
namespace Go.Proofs.Ytlpfpcnafejkoaa
open Go.RowKit Go.Maps
set_option maxHeartbeats 1000000 in
theorem implOrderOf (x y : Vl) (w : World) :
    Calls Try.prog 65 #[.agg #[.int .i64 x.k, .int .i64 x.n, .string x.s], .agg #[.int .i64 y.k, .int .i64 y.n, .string y.s]] w fun e w' => e = .returned (.int .i64 (ordX x y)) ∧ Below w.heap.size w w' := by
  have hb0 := chain2 w (.cells #[.int .i64 x.k, .int .i64 x.n, .string x.s] 57) (.cells #[.int .i64 y.k, .int .i64 y.n, .string y.s] 57)
  have HB := Lib.hid hb0
  clear hb0
  go_enter Try.func65, Try.ntmps65
  go_wp2_with fail
  refine (implOrder x.k x.n x.s y.k y.n y.s _).mono ?_
  rintro e w1 ⟨rfl, hb1⟩
  go_wp2_with fail
  go_ret
  exact ⟨rfl, HB.out.trans (hb1.mono HB.out.size)⟩
set_option maxRecDepth 100000 in
set_option maxHeartbeats 2000000 in
theorem implCmpVals (A B : Option Addr) (n m c d : Nat) (a b : List Vl) (ok ok' : Nat → Prop) (w : World) (ha : Sl VlR 3 ok w A n a) (hb : Sl VlR 3 ok' w B m b) (hn : n ≤ 1048576) (hm : m ≤ 1048576) :
    Calls Try.prog 64 #[.slice A n c, .slice B m d, .func (.func 65) #[] #[]] w fun e w' => e = .returned (.int .i64 (ordL a b)) ∧ Below w.heap.size w w' := by
  obtain rfl : a.length = n := ha.1
  obtain rfl : b.length = m := hb.1
  go_enter Try.func64, Try.ntmps64
  go_wp2_with fail
  go_loopw [13] (fun i wr => ∃ k : Nat, k ≤ a.length ∧ i = .int .i64 k ∧ Hid (k ≤ b.length) ∧ Hid (ordL (a.drop k) (b.drop k) = ordL a b) ∧ Below w.heap.size w wr) (fun i _ => a.length - (intOf i).toNat)
  case atStart => exact ⟨0, by omega, rfl, Lib.hid (by omega), Lib.hid (by simp), Below.refl _ _⟩
  case round =>
    obtain ⟨k, hk, rfl, hkb, hord, hbw⟩ := hrel
    by_cases hlt : k < a.length
    · obtain ⟨b1, o1, -, rfl, q0, q1, q2⟩ := VlR.at_ (ha.below VlR.stays hbw) hlt
      have i0 : (0 : Int) ≤ k := by omega
      have i1 : (k : Int) < a.length := by omega
      have hx1 := hbw.alloc hbw.size (.cells #[.int .i64 a[k].k, .int .i64 a[k].n, .string a[k].s] 57)
      by_cases hl2 : k < b.length
      case neg =>
        have z : decide ((b.length : Int) ≤ k) = true := decide_eq_true (by omega)
        have z' : decide (b.length ≤ k) = true := decide_eq_true (by omega)
        have HR := Lib.hid (show ordL a b = 1 by rw [← hord.out]; exact ordL_end hlt (by omega))
        clear hord
        go_wp2_with fail
        go_ret
        exact ⟨retI HR.out.symm, hx1⟩
      have z : decide ((b.length : Int) ≤ k) = false := decide_eq_false (by omega)
      have z' : decide (b.length ≤ k) = false := decide_eq_false (by omega)
      obtain ⟨b2, o2, -, rfl, r0, r1, r2⟩ := VlR.at_ (hb.below VlR.stays hx1) hl2
      have i2 : (k : Int) < b.length := by omega
      have HB2 := Lib.hid (hx1.alloc hx1.size (.cells #[.int .i64 b[k].k, .int .i64 b[k].n, .string b[k].s] 57))
      have HO := Lib.hid (hord.out.symm.trans (ordL_at hlt hl2))
      clear hord hx1
      go_wp2_with fail
      refine (implOrderOf a[k] b[k] _).mono ?_
      rintro e w3 ⟨rfl, hb3⟩
      have hz := HB2.out.trans (hb3.mono HB2.out.size)
      by_cases h0 : ordX a[k] b[k] = 0
      · have z0 : (ordX a[k] b[k] != 0) = false := by simpa using h0
        have HA := Lib.hid (show ordL (a.drop (k + 1)) (b.drop (k + 1)) = ordL a b by rw [HO.out, if_pos h0])
        clear h0
        go_wp2_with fail
        go_roundw
        case rel => exact ⟨k + 1, by omega, by go_num, Lib.hid (by omega), HA, hz⟩
        case measure => simp [intOf]; omega
      · have z0 : (ordX a[k] b[k] != 0) = true := by simpa using h0
        have HA := Lib.hid (show ordL a b = ordX a[k] b[k] by rw [HO.out, if_neg h0])
        clear h0
        go_wp2_with fail
        go_ret
        exact ⟨retI HA.out.symm, hz⟩
    · obtain rfl : k = a.length := by omega
      by_cases hl2 : a.length < b.length
      · have z : decide (a.length < b.length) = true := decide_eq_true hl2
        have HR := Lib.hid (show ordL a b = -1 by rw [← hord.out]; exact ordL_off (Nat.le_refl _) hl2)
        clear hord
        go_wp2_with fail
        go_ret
        exact ⟨retI HR.out.symm, hbw⟩
      · have z : decide (a.length < b.length) = false := decide_eq_false hl2
        have HR := Lib.hid (show ordL a b = 0 by rw [← hord.out]; exact ordL_both (Nat.le_refl _) (by omega))
        clear hord
        go_wp2_with fail
        go_ret
        exact ⟨retI HR.out.symm, hbw⟩
def first2 (x y : Int) : Int := if x = 0 then y else x
set_option maxHeartbeats 1000000 in
theorem cmpOr2 (b : Nat) (x y : Int) (w : World) (h0 : w.cell? ⟨b, 0, none⟩ = some (.int .i64 x)) (h1 : w.cell? ⟨b, 1, none⟩ = some (.int .i64 y)) :
    Calls Try.prog 63 #[.slice (some ⟨b, 0, none⟩) 2 2] w fun e w' => e = .returned (.int .i64 (first2 x y)) ∧ w = w' := by
  by_cases hx : x = 0
  · subst hx
    by_cases hy : y = 0
    · subst hy
      rw [show first2 0 0 = 0 by decide]
      go_enter Try.func63, Try.ntmps63
      go_wp2
      refine wp_loop_rounds 4 ?_
      rw [rounds_succ]
      go_wp2
      rw [rounds_succ]
      go_wp2
      rw [rounds_succ]
      go_wp2
      go_ret
      exact ⟨rfl, rfl⟩
    · rw [show first2 0 y = y by simp [first2]]
      have hy' : (y != 0) = true := by simpa using hy
      go_enter Try.func63, Try.ntmps63
      go_wp2
      refine wp_loop_rounds 4 ?_
      rw [rounds_succ]
      go_wp2
      rw [rounds_succ]
      go_wp2
      go_ret
      exact ⟨rfl, rfl⟩
  · rw [show first2 x y = x by simp [first2, hx]]
    have hx' : (x != 0) = true := by simpa using hx
    go_enter Try.func63, Try.ntmps63
    go_wp2
    refine wp_loop_rounds 4 ?_
    rw [rounds_succ]
    go_wp2
    go_ret
    exact ⟨rfl, rfl⟩
end Go.Proofs.Ytlpfpcnafejkoaa
namespace Go.Proofs.Ytlpfpcnafejkoaa
open Go.RowKit Go.Maps
theorem run_store_fnE (P : Program) (w : World) (a : Addr) (m : Mode) (f : Fn) (x y : Array Value) : (store a (.func f x y) m).run P w = stored P w a (.func f x y) m := run_store P w a _ m rfl
attribute [local go_sem] run_store_fnE
theorem two_rows (w : World) (T : TypeId) (cs cs' : Array Value) : Row ((w.alloc (.cells cs T)).alloc (.cells cs' T)) w.heap.size T cs ∧ Row ((w.alloc (.cells cs T)).alloc (.cells cs' T)) (w.heap.size + 1) T cs' :=
  ⟨(Row.new w T cs).alloc _, Row.newAt (w.alloc (.cells cs T)) T cs' (w.heap.size + 1) (by simp)⟩
theorem keepC4 {w w' : World} {p q r s : Addr} {a b c d : Value} (h : w.cell? p = some a ∧ w.cell? q = some b ∧ w.cell? r = some c ∧ w.cell? s = some d) (hb : Below w.heap.size w w') : w'.cell? p = some a ∧ w'.cell? q = some b ∧ w'.cell? r = some c ∧ w'.cell? s = some d :=
  ⟨below_keep hb _ _ h.1, below_keep hb _ _ h.2.1, below_keep hb _ _ h.2.2.1, below_keep hb _ _ h.2.2.2⟩
theorem keepC3 {w w' : World} {p q r : Addr} {a b c : Value} (h : w.cell? p = some a ∧ w.cell? q = some b ∧ w.cell? r = some c) (hb : Below w.heap.size w w') : w'.cell? p = some a ∧ w'.cell? q = some b ∧ w'.cell? r = some c :=
  ⟨below_keep hb _ _ h.1, below_keep hb _ _ h.2.1, below_keep hb _ _ h.2.2⟩
theorem keepC5 {w w' : World} {p q r s t : Addr} {a b c d e : Value} (h : w.cell? p = some a ∧ w.cell? q = some b ∧ w.cell? r = some c ∧ w.cell? s = some d ∧ w.cell? t = some e) (hb : Below w.heap.size w w') : w'.cell? p = some a ∧ w'.cell? q = some b ∧ w'.cell? r = some c ∧ w'.cell? s = some d ∧ w'.cell? t = some e :=
  ⟨below_keep hb _ _ h.1, below_keep hb _ _ h.2.1, below_keep hb _ _ h.2.2.1, below_keep hb _ _ h.2.2.2.1, below_keep hb _ _ h.2.2.2.2⟩
theorem keepC8 {w w' : World} {p q r s t u v x : Addr} {a b c d e f g h' : Value} (h : w.cell? p = some a ∧ w.cell? q = some b ∧ w.cell? r = some c ∧ w.cell? s = some d ∧ w.cell? t = some e ∧ w.cell? u = some f ∧ w.cell? v = some g ∧ w.cell? x = some h') (hb : Below w.heap.size w w') : w'.cell? p = some a ∧ w'.cell? q = some b ∧ w'.cell? r = some c ∧ w'.cell? s = some d ∧ w'.cell? t = some e ∧ w'.cell? u = some f ∧ w'.cell? v = some g ∧ w'.cell? x = some h' :=
  ⟨below_keep hb _ _ h.1, below_keep hb _ _ h.2.1, below_keep hb _ _ h.2.2.1, below_keep hb _ _ h.2.2.2.1, below_keep hb _ _ h.2.2.2.2.1, below_keep hb _ _ h.2.2.2.2.2.1, below_keep hb _ _ h.2.2.2.2.2.2.1, below_keep hb _ _ h.2.2.2.2.2.2.2⟩
set_option maxRecDepth 100000 in
set_option maxHeartbeats 2000000 in
theorem implOrderEntries (x y : En) (A B : Option Addr) (n c m d : Nat) (ok ok' : Nat → Prop) (w : World) (ha : Sl VlR 3 ok w A n x.key) (hb : Sl VlR 3 ok' w B m y.key) (hn : n ≤ 1048576) (hm : m ≤ 1048576) :
    Calls Try.prog 53 #[.agg #[.slice A n c, .int .i64 x.id], .agg #[.slice B m d, .int .i64 y.id]] w fun e w' => e = .returned (.int .i64 (ordE x y)) ∧ Below w.heap.size w w' := by
  have hb0 := chain2 w (.cells #[.slice A n c, .int .i64 x.id] 42) (.cells #[.slice B m d, .int .i64 y.id] 42)
  have hr := two_rows w 42 #[.slice A n c, .int .i64 x.id] #[.slice B m d, .int .i64 y.id]
  obtain ⟨⟨k0, k1⟩, -⟩ := hr.1.all2
  obtain ⟨⟨g0, g1⟩, -⟩ := hr.2.all2
  have HA := Lib.hid (Sl.below VlR.stays (ha.below VlR.stays hb0) (Below.refl _ _).drew)
  have HC := Lib.hid (Sl.below VlR.stays (hb.below VlR.stays hb0) (Below.refl _ _).drew)
  have HB := Lib.hid hb0
  clear hb0 hr ha hb
  go_enter Try.func53, Try.ntmps53
  go_wp2_with fail
  generalize (w.alloc (.cells #[.slice A n c, .int .i64 x.id] 42)).alloc (.cells #[.slice B m d, .int .i64 y.id] 42) = z0 at *
  go_region_held3 (fun w' => w'.cell? ⟨w.heap.size, 0, none⟩ = some (.slice A n c) ∧ w'.cell? ⟨w.heap.size, 1, none⟩ = some (.int .i64 x.id) ∧ w'.cell? ⟨w.heap.size + 1, 0, none⟩ = some (.slice B m d) ∧ w'.cell? ⟨w.heap.size + 1, 1, none⟩ = some (.int .i64 y.id))
    (first | go_keep | exact keepC4 (by assumption) hq3)
    (first | (go_at_call 66; refine (cmpInt _ _ _).mono ?_; rintro e w3 ⟨rfl, rfl⟩) | (go_at_call 64; refine (implCmpVals A B n m c d x.key y.key _ _ _ HA.out HC.out hn hm).mono ?_; rintro e w3 ⟨rfl, hq3⟩) | (go_at_call 63; refine Calls.mono (cmpOr2 _ (ordL x.key y.key) (cmpI x.id y.id) _ ?_ ?_) ?_; simp; simp; rintro e w4 ⟨rfl, rfl⟩))
  have hz := HB.out.drew.trans (hq3.mono HB.out.drew.size)
  go_wp2
  go_ret
  exact ⟨rfl, by first | exact hz.alloc hz.size _ | exact (hz.alloc hz.size _).drew⟩
set_option maxRecDepth 100000 in
set_option maxHeartbeats 2000000 in
theorem implRises (b : Nat) (A : Option Addr) (n c : Nat) (l : List En) (ok : Nat → Prop) (w : World) (h0 : w.cell? ⟨b, 0, none⟩ = some (.slice A n c)) (h1 : w.cell? ⟨b, 1, none⟩ = some (.func (.func 53) #[] #[]))
    (h : Sl EnR 2 ok w A n l) (hn : n ≤ 1048576) (hk : ∀ e ∈ l, e.key.length ≤ 1048576) :
    Calls Try.prog 54 #[.pointer (some ⟨b, 0, none⟩)] w fun e w' => e = .returned (.bool (risesB l)) ∧ Below w.heap.size w w' := by
  obtain rfl : l.length = n := h.1
  have HK := Lib.hid hk
  have H0 := Lib.hid h0
  have H1 := Lib.hid h1
  clear hk h0 h1
  go_enter Try.func54, Try.ntmps54
  go_wp2_with fail
  go_loopw [3] (fun i wr => ∃ j : Nat, i = .int .i64 ((j : Int) + 1) ∧ Hid (j ≤ l.length) ∧ Hid ((List.range j).all (upB l) = true) ∧ Below w.heap.size w wr) (fun i _ => l.length + 1 - (intOf i).toNat)
  case atStart => exact ⟨0, rfl, Lib.hid (by omega), Lib.hid (by simp), Below.refl _ _⟩
  case round =>
    obtain ⟨j, rfl, hjl, hall, hbw⟩ := hrel
    have k0 := below_keep hbw _ _ H0.out
    have k1 := below_keep hbw _ _ H1.out
    by_cases hlt : j + 1 < l.length
    · have hsl := h.below EnR.stays hbw
      obtain ⟨b1, o1, A1, n1, c1, -, rfl, q0, q1, s1, -⟩ := EnR.at_ hsl (i := j) (by omega)
      obtain ⟨b2, o2, A2, n2, c2, -, e2, r0, r1, s2, -⟩ := EnR.at_ hsl (i := j + 1) hlt
      obtain ⟨rfl, rfl⟩ : b1 = b2 ∧ o1 = o2 := by simpa using e2
      obtain rfl : l[j].key.length = n1 := s1.1
      obtain rfl : l[j + 1].key.length = n2 := s2.1
      have z : decide ((j : Int) + 1 < l.length) = true := decide_eq_true (by omega)
      have a0 : (0 : Int) ≤ j := by omega
      have a1 : (j : Int) < l.length := by omega
      have b0 : (0 : Int) ≤ (j : Int) + 1 := by omega
      have b1' : (j : Int) + 1 < l.length := by omega
      have t0 : IntKind.i64.wrap ((j : Int) + 1 - 1) = j := by rw [IntWalk.i64_in _ (by omega)]; omega
      have t1 : ((j : Int) + 1).toNat = j + 1 := by omega
      have t2 : IntKind.i64.wrap (j : Int) = j := IntWalk.i64_in _ (by omega)
      have HX := Lib.hid (implOrderEntries l[j] l[j + 1] A1 A2 l[j].key.length c1 l[j + 1].key.length c2 _ _ wr.drew (Sl.below VlR.stays s1 (Below.refl _ _).drew) (Sl.below VlR.stays s2 (Below.refl _ _).drew) (HK.out _ (List.getElem_mem _)) (HK.out _ (List.getElem_mem _)))
      have HNO := Lib.hid (fun hh => rises_no (l := l) hlt hh)
      have HYES := Lib.hid (show ordE l[j] l[j + 1] < 0 → (List.range (j + 1)).all (upB l) = true from fun hh => by rw [range_all_succ, hall.out, upB_at hlt, decide_eq_true hh]; rfl)
      have hme : l.length + 1 - (j + 1 + 1) < l.length + 1 - (j + 1) := by omega
      have HJ := Lib.hid (show j + 1 ≤ l.length by omega)
      clear e2 s1 s2 hsl hall hjl
      go_wp2_with fail
      have d0 : wr.drew.cell? ⟨b1, o1 + j * 2, none⟩ = some (.slice A1 l[j].key.length c1) := q0
      have d1 : wr.drew.cell? ⟨b1, o1 + j * 2 + 1, none⟩ = some (.int .i64 l[j].id) := q1
      go_region_held3 (fun w' => w'.cell? ⟨b, 0, none⟩ = some (.slice (some ⟨b1, o1, none⟩) l.length c) ∧ w'.cell? ⟨b, 1, none⟩ = some (.func (.func 53) #[] #[]) ∧ w'.cell? ⟨b1, o1 + j * 2, none⟩ = some (.slice A1 l[j].key.length c1) ∧ w'.cell? ⟨b1, o1 + j * 2 + 1, none⟩ = some (.int .i64 l[j].id) ∧ w'.cell? ⟨b1, o1 + (j + 1) * 2, none⟩ = some (.slice A2 l[j + 1].key.length c2) ∧ w'.cell? ⟨b1, o1 + (j + 1) * 2 + 1, none⟩ = some (.int .i64 l[j + 1].id))
        (first | go_keep | exact ⟨k0, k1, q0, q1, r0, r1⟩ | exact keep6 (by assumption) hq3)
        (first | (go_at_call 53; refine HX.out.mono ?_; rintro e w3 ⟨rfl, hq3⟩))
      have hz := hbw.drew.trans (hq3.mono hbw.drew.size)
      by_cases hc : ordE l[j] l[j + 1] < 0
      · have zc : decide (0 ≤ ordE l[j] l[j + 1]) = false := decide_eq_false (by omega)
        have HA := Lib.hid (HYES.out hc)
        go_wp2_with fail
        go_roundw
        case rel => exact ⟨j + 1, by first | rfl | go_num, HJ, HA, hz⟩
        case measure => simp [intOf]; omega
      · have zc : decide (0 ≤ ordE l[j] l[j + 1]) = true := decide_eq_true (by omega)
        have HF := Lib.hid (HNO.out (by omega))
        go_wp2_with fail
        go_ret
        exact ⟨retB HF.out.symm, hz⟩
    · have z : decide ((j : Int) + 1 < l.length) = false := decide_eq_false (by omega)
      have HF := Lib.hid (rises_yes hall.out (by omega))
      clear hall
      go_wp2_with fail
      go_ret
      exact ⟨retB HF.out.symm, hbw⟩
set_option maxRecDepth 100000 in
set_option maxHeartbeats 2000000 in
theorem implEntryOk (x : En) (A : Option Addr) (n c : Nat) (ok : Nat → Prop) (w : World) (h : Sl VlR 3 ok w A n x.key) (hn : n ≤ 1048576) :
    Calls Try.prog 39 #[.agg #[.slice A n c, .int .i64 x.id]] w fun e w' => e = .returned (.bool (entryB x)) ∧ Below w.heap.size w w' := by
  obtain rfl : x.key.length = n := h.1
  have hb0 := (Below.refl w.heap.size w).alloc (Nat.le_refl _) (.cells #[.slice A x.key.length c, .int .i64 x.id] 42)
  have r0 := Row.new w 42 #[.slice A x.key.length c, .int .i64 x.id]
  have h1 := h.below VlR.stays hb0
  obtain ⟨⟨k0, k1⟩, -⟩ := r0.all2
  have RB := Lib.hid r0
  clear r0
  by_cases hl : 1 ≤ x.key.length
  case neg =>
    have HF := Lib.hid (show entryB x = false by unfold entryB; rw [decide_eq_false hl]; rfl)
    have z : decide ((1 : Int) ≤ x.key.length) = false := decide_eq_false (by omega)
    have z' : decide (1 ≤ x.key.length) = false := decide_eq_false (by omega)
    clear hl
    go_enter Try.func39, Try.ntmps39
    go_wp2_with fail
    go_ret
    exact ⟨retB HF.out.symm, hb0⟩
  have z : decide ((1 : Int) ≤ x.key.length) = true := decide_eq_true (by omega)
  have z' : decide (1 ≤ x.key.length) = true := decide_eq_true (by omega)
  have HE := Lib.hid (show entryB x = (rowB x.key && (decide (1 ≤ x.id) && decide (x.id ≤ 1000000000))) by unfold entryB; rw [z']; rfl)
  have HX := Lib.hid (implSeenOk A x.key.length c x.key _ (Sl.cellz (fun _ => rfl) h1) (by unfold maxLen; omega))
  clear hl h h1
  go_enter Try.func39, Try.ntmps39
  go_wp2_with fail
  generalize w.alloc (.cells #[.slice A x.key.length c, .int .i64 x.id] 42) = z0 at *
  refine HX.out.mono ?_
  rintro e w1 ⟨rfl, hb1⟩
  have hz := hb0.trans (hb1.mono hb0.size)
  obtain ⟨⟨g0, g1⟩, -⟩ := (RB.out.below hb1).all2
  clear k0 k1
  cases hr : rowB x.key
  · have HF := Lib.hid (show entryB x = false by rw [HE.out, hr]; rfl)
    clear hr
    go_wp2_with fail
    go_ret
    exact ⟨retB HF.out.symm, hz⟩
  have HE2 := Lib.hid (show entryB x = (decide (1 ≤ x.id) && decide (x.id ≤ 1000000000)) by rw [HE.out, hr]; rfl)
  clear hr
  by_cases hi : 1 ≤ x.id
  · have zi : decide (1 ≤ x.id) = true := decide_eq_true hi
    have HF := Lib.hid (show entryB x = decide (x.id ≤ 1000000000) by rw [HE2.out, zi]; rfl)
    clear hi
    go_wp2_with fail
    go_ret
    exact ⟨retB HF.out.symm, hz⟩
  · have zi : decide (1 ≤ x.id) = false := decide_eq_false hi
    have HF := Lib.hid (show entryB x = false by rw [HE2.out, zi]; rfl)
    clear hi
    go_wp2_with fail
    go_ret
    exact ⟨retB HF.out.symm, hz⟩
set_option maxRecDepth 100000 in
set_option maxHeartbeats 4000000 in
theorem implEntriesOk (A : Option Addr) (n c : Nat) (l : List En) (ok : Nat → Prop) (w : World) (h : Sl EnR 2 ok w A n l) (hn : n ≤ 1048576) (hk : ∀ e ∈ l, e.key.length ≤ 1048576) :
    Calls Try.prog 38 #[.slice A n c] w fun e w' => e = .returned (.bool (entriesB l)) ∧ Below w.heap.size w w' := by
  obtain rfl : l.length = n := h.1
  by_cases h120 : l.length ≤ 120
  case neg =>
    have HF := Lib.hid (show entriesB l = false by unfold entriesB; rw [decide_eq_false h120]; rfl)
    have z : decide ((120 : Int) < l.length) = true := decide_eq_true (by omega)
    have z' : decide (120 < l.length) = true := decide_eq_true (by omega)
    clear h120
    go_enter Try.func38, Try.ntmps38
    go_wp2_with fail
    go_ret
    exact ⟨retB HF.out.symm, Below.refl _ _⟩
  have z : decide ((120 : Int) < l.length) = false := decide_eq_false (by omega)
  have z' : decide (120 < l.length) = false := decide_eq_false (by omega)
  have H120 := Lib.hid h120
  have HK := Lib.hid hk
  clear h120 hk
  go_enter Try.func38, Try.ntmps38
  go_wp2_with fail
  clear z z'
  go_loopw [11] (fun i wr => ∃ k : Nat, k ≤ l.length ∧ i = .int .i64 k ∧ Hid ((l.take k).all (entW (wideOf l)) = true) ∧ Below w.heap.size w wr) (fun i _ => l.length - (intOf i).toNat)
  case atStart => exact ⟨0, by omega, rfl, Lib.hid (by simp), Below.refl _ _⟩
  case round =>
    obtain ⟨k, hk, rfl, hall, hb⟩ := hrel
    by_cases hlt : k < l.length
    · have hsl := h.below EnR.stays hb
      obtain ⟨b1, o1, A1, n1, c1, -, rfl, q0, q1, s1, -⟩ := EnR.at_ hsl (i := k) hlt
      obtain ⟨b2, o2, A2, n2, c2, -, e2, r0, r1, s2, -⟩ := EnR.at_ hsl (i := 0) (by omega)
      obtain ⟨rfl, rfl⟩ : b1 = b2 ∧ o1 = o2 := by simpa using e2
      obtain rfl : l[k].key.length = n1 := s1.1
      obtain rfl : l[0].key.length = n2 := s2.1
      rw [Nat.zero_mul, Nat.add_zero] at r0
      have i0 : (0 : Int) ≤ k := by omega
      have i1 : (k : Int) < l.length := by omega
      have i2 : (0 : Int) < l.length := by omega
      have i3 : 0 < l.length := by omega
      have hbx := (Below.refl wr.heap.size wr).alloc (Nat.le_refl _) (.cells #[.slice A1 l[k].key.length c1, .int .i64 l[k].id] 42)
      have hba := hb.trans (hbx.mono hb.size)
      obtain ⟨⟨v0, v1⟩, -⟩ := (Row.new wr 42 #[.slice A1 l[k].key.length c1, .int .i64 l[k].id]).all2
      have x0 := below_keep hbx _ _ r0
      have HX := Lib.hid (implEntryOk l[k] A1 l[k].key.length c1 _ (wr.alloc (.cells #[.slice A1 l[k].key.length c1, .int .i64 l[k].id] 42)).drew (Sl.below VlR.stays (s1.below VlR.stays hbx) (Below.refl _ _).drew) (HK.out _ (List.getElem_mem _)))
      have HNO := Lib.hid (fun hf => entriesB_no (l := l) hlt hf)
      have HW := Lib.hid (wideOf_at i3)
      have HST := Lib.hid (all_take_succE (entW (wideOf l)) l k hlt)
      clear e2 s1 s2 hsl r0 r1
      go_wp2_with fail
      generalize wr.alloc (.cells #[.slice A1 l[k].key.length c1, .int .i64 l[k].id] 42) = z0 at *
      cases he : entryB l[k]
      · have HE := Lib.hid he
        have HF := Lib.hid (HNO.out (by unfold entW; rw [he]; rfl))
        clear he
        first | (go_region_with ((go_at_call 39; refine HX.out.mono ?_; rintro e w3 ⟨rfl, hq3⟩; rw [HE.out]))) | fail
        go_wp2_with fail
        all_goals (go_ret; exact ⟨retB HF.out.symm, hba.drew.trans (hq3.mono hba.drew.size)⟩)
      have HE := Lib.hid he
      by_cases hl : l[k].key.length = l[0].key.length
      · have zl : ((l[k].key.length : Int) != l[0].key.length) = false := by rw [hl]; simp
        have HA := Lib.hid (show (l.take (k + 1)).all (entW (wideOf l)) = true by rw [HST.out, hall.out]; unfold entW; rw [he, HW.out, decide_eq_true hl]; rfl)
        clear he hl
        first | (go_region_held3 (fun w' => w'.cell? ⟨wr.heap.size, 0, none⟩ = some (.slice A1 l[k].key.length c1) ∧ w'.cell? ⟨wr.heap.size, 1, none⟩ = some (.int .i64 l[k].id) ∧ w'.cell? ⟨b1, o1, none⟩ = some (.slice A2 l[0].key.length c2))
          (first | go_keep | exact keepC3 (by assumption) hq3)
          (first | (go_at_call 39; refine HX.out.mono ?_; rintro e w3 ⟨rfl, hq3⟩; rw [HE.out]))) | fail
        (try rw [zl])
        go_wp2_with fail
        go_roundw
        case rel => exact ⟨k + 1, by omega, by go_num, HA, hba.drew.trans (hq3.mono hba.drew.size)⟩
        case measure => simp [intOf]; omega
      · have zl : ((l[k].key.length : Int) != l[0].key.length) = true := by simp; omega
        have HF := Lib.hid (HNO.out (by unfold entW; rw [HW.out, decide_eq_false hl, Bool.and_false]))
        clear he hl
        first | (go_region_held3 (fun w' => w'.cell? ⟨wr.heap.size, 0, none⟩ = some (.slice A1 l[k].key.length c1) ∧ w'.cell? ⟨wr.heap.size, 1, none⟩ = some (.int .i64 l[k].id) ∧ w'.cell? ⟨b1, o1, none⟩ = some (.slice A2 l[0].key.length c2))
          (first | go_keep | exact keepC3 (by assumption) hq3)
          (first | (go_at_call 39; refine HX.out.mono ?_; rintro e w3 ⟨rfl, hq3⟩; rw [HE.out]))) | fail
        (try rw [zl])
        go_wp2_with fail
        go_ret
        exact ⟨retB HF.out.symm, hba.drew.trans (hq3.mono hba.drew.size)⟩
    · obtain rfl : k = l.length := by omega
      have ha := hall.out
      rw [List.take_of_length_le (Nat.le_refl _)] at ha
      have HF := Lib.hid (show entriesB l = risesB l by unfold entriesB; rw [decide_eq_true H120.out, ha]; rfl)
      have hbx := (Below.refl wr.heap.size wr).alloc (Nat.le_refl _) (.cells #[.slice A l.length c, .func (.func 53) #[] #[]] 67)
      have hba := hb.trans (hbx.mono hb.size)
      obtain ⟨⟨v0, v1⟩, -⟩ := (Row.new wr 67 #[.slice A l.length c, .func (.func 53) #[] #[]]).all2
      have HX := Lib.hid (implRises wr.heap.size A l.length c l _ _ v0 v1 ((h.below EnR.stays hb).below EnR.stays hbx) hn HK.out)
      clear hall ha
      go_wp2_with fail
      refine HX.out.mono ?_
      rintro e w3 ⟨rfl, hq3⟩
      go_wp2_with fail
      go_ret
      exact ⟨retB HF.out.symm, hba.trans (hq3.mono hba.size)⟩
end Go.Proofs.Ytlpfpcnafejkoaa
namespace Go.Proofs.Ytlpfpcnafejkoaa
open Go.RowKit
theorem Sl.drew {α : Type} {R : Rd α} (hR : Stays R) {sz : Nat} {ok : Nat → Prop} {w : World} {A : Option Addr} {n : Nat} {ds : List α} (h : Sl R sz ok w A n ds) : Sl R sz ok w.drew A n ds := h.stays hR (fun _ h => h) fun _ _ _ h => h
theorem keepE4 {w w' : World} {a0 a1 a2 a3 : Addr} {v0 v1 v2 v3 : Value} (h : w.cell? a0 = some v0 ∧ w.cell? a1 = some v1 ∧ w.cell? a2 = some v2 ∧ w.cell? a3 = some v3) (hb : Below w.heap.size w w') : w'.cell? a0 = some v0 ∧ w'.cell? a1 = some v1 ∧ w'.cell? a2 = some v2 ∧ w'.cell? a3 = some v3 := by
  obtain ⟨h0, h1, h2, h3⟩ := h
  exact ⟨(hb.cell (cell_lt h0)).trans h0, (hb.cell (cell_lt h1)).trans h1, (hb.cell (cell_lt h2)).trans h2, (hb.cell (cell_lt h3)).trans h3⟩
theorem keepE6 {w w' : World} {a0 a1 a2 a3 a4 a5 : Addr} {v0 v1 v2 v3 v4 v5 : Value} (h : w.cell? a0 = some v0 ∧ w.cell? a1 = some v1 ∧ w.cell? a2 = some v2 ∧ w.cell? a3 = some v3 ∧ w.cell? a4 = some v4 ∧ w.cell? a5 = some v5) (hb : Below w.heap.size w w') : w'.cell? a0 = some v0 ∧ w'.cell? a1 = some v1 ∧ w'.cell? a2 = some v2 ∧ w'.cell? a3 = some v3 ∧ w'.cell? a4 = some v4 ∧ w'.cell? a5 = some v5 := by
  obtain ⟨h0, h1, h2, h3, h4, h5⟩ := h
  exact ⟨(hb.cell (cell_lt h0)).trans h0, (hb.cell (cell_lt h1)).trans h1, (hb.cell (cell_lt h2)).trans h2, (hb.cell (cell_lt h3)).trans h3, (hb.cell (cell_lt h4)).trans h4, (hb.cell (cell_lt h5)).trans h5⟩
set_option maxRecDepth 100000 in
set_option maxHeartbeats 1000000 in
theorem lawsEqValL (A A' : Option Addr) (n c c' : Nat) (l : List Vl) (ok ok' : Nat → Prop) (w : World) (h : Sl VlR 3 ok w A n l) (h' : Sl VlR 3 ok' w A' n l) (hs : szL (fun v : Vl => v.s.size) l ≤ 1048576) :
    Calls Try.prog 42 #[.slice A n c, .slice A' n c'] w fun e w' => e = .returned (.bool true) ∧ Below w.heap.size w w' := by
  obtain rfl : l.length = n := h.1
  have hn : l.length ≤ 1048576 := by unfold szL at hs; omega
  have HS := Lib.hid hs
  clear hs
  go_enter Try.func42, Try.ntmps42
  go_wp2
  go_loopw [5] (fun i wr => ∃ k : Nat, k ≤ l.length ∧ i = .int .i64 k ∧ Below w.heap.size w wr) (fun i _ => l.length - (intOf i).toNat)
  case atStart => exact ⟨0, by omega, rfl, Below.refl _ _⟩
  case round =>
    obtain ⟨k, hk, rfl, hb⟩ := hrel
    by_cases hlt : k < l.length
    · obtain ⟨b, off, -, rfl, q0, q1, q2⟩ := VlR.at_ (h.below VlR.stays hb) hlt
      obtain ⟨b', off', -, rfl, r0, r1, r2⟩ := VlR.at_ (h'.below VlR.stays hb) hlt
      have i0 : (0 : Int) ≤ k := by omega
      have i1 : (k : Int) < l.length := by omega
      go_wp2_with fail
      go_region_held3 (fun w' => w'.cell? ⟨b, off + k * 3, none⟩ = some (.int .i64 l[k].k) ∧ w'.cell? ⟨b, off + k * 3 + 1, none⟩ = some (.int .i64 l[k].n) ∧ w'.cell? ⟨b, off + k * 3 + 2, none⟩ = some (.string l[k].s) ∧ w'.cell? ⟨b', off' + k * 3, none⟩ = some (.int .i64 l[k].k) ∧ w'.cell? ⟨b', off' + k * 3 + 1, none⟩ = some (.int .i64 l[k].n) ∧ w'.cell? ⟨b', off' + k * 3 + 2, none⟩ = some (.string l[k].s))
        (first | go_keep | exact keepE6 (by assumption) hb1)
        (first | (go_at_call 59; refine (lawsEqVal l[k].k l[k].n l[k].s _).mono ?_; rintro e w1 ⟨rfl, hb1⟩))
      go_wp2
      go_roundw
      case rel => exact ⟨k + 1, by omega, by go_num, hb.drew.trans (hb1.mono hb.size)⟩
      case measure => simp [intOf]; omega
    · go_wp2
      go_ret
      exact ⟨rfl, hb⟩
set_option maxRecDepth 100000 in
set_option maxHeartbeats 1000000 in
theorem lawsEqEntry (x : En) (A0 B0 : Option Addr) (n0 c0 d0 : Nat) (ok ok' : Nat → Prop) (w : World) (h0 : Sl VlR 3 ok w A0 n0 x.key) (k0 : Sl VlR 3 ok' w B0 n0 x.key) (hs : x.sz ≤ 1048576) :
    Calls Try.prog 20 #[.agg #[.slice A0 n0 c0, .int .i64 x.id], .agg #[.slice B0 n0 d0, .int .i64 x.id]] w fun e w' => e = .returned (.bool true) ∧ Below w.heap.size w w' := by
  have HS0 := Lib.hid (show szL (fun v : Vl => v.s.size) x.key ≤ 1048576 by have := hs; unfold En.sz at this; omega)
  clear hs
  have ra := (Row.new w 42 #[.slice A0 n0 c0, .int .i64 x.id]).alloc (.cells #[.slice B0 n0 d0, .int .i64 x.id] 42)
  have rb := Row.newAt (w.alloc (.cells #[.slice A0 n0 c0, .int .i64 x.id] 42)) 42 #[.slice B0 n0 d0, .int .i64 x.id] (w.heap.size + 1) (by simp)
  have hb0 := ((Below.refl w.heap.size w).alloc (Nat.le_refl _) (.cells #[.slice A0 n0 c0, .int .i64 x.id] 42)).alloc (by simp) (.cells #[.slice B0 n0 d0, .int .i64 x.id] 42)
  go_enter Try.func20, Try.ntmps20
  go_wp2_with fail
  generalize (w.alloc (.cells #[.slice A0 n0 c0, .int .i64 x.id] 42)).alloc (.cells #[.slice B0 n0 d0, .int .i64 x.id] 42) = x0 at *
  refine (lawsEqValL A0 B0 n0 c0 d0 x.key ok ok' _ (h0.below VlR.stays hb0) (k0.below VlR.stays hb0) HS0.out).mono ?_
  rintro e w1 ⟨rfl, hc0⟩
  have ra := ra.below hc0
  have rb := rb.below hc0
  have hb1 := hb0.trans (hc0.mono hb0.size)
  obtain ⟨⟨a_0_0, a_0_1⟩, -⟩ := ra.all2
  obtain ⟨⟨b_0_0, b_0_1⟩, -⟩ := rb.all2
  go_wp2_with fail
  go_ret
  exact ⟨rfl, hb1⟩
set_option maxRecDepth 100000 in
set_option maxHeartbeats 1000000 in
theorem lawsEqEntryL (A A' : Option Addr) (n c c' : Nat) (l : List En) (ok ok' : Nat → Prop) (w : World) (h : Sl EnR 2 ok w A n l) (h' : Sl EnR 2 ok' w A' n l) (hs : szL En.sz l ≤ 1048576) :
    Calls Try.prog 19 #[.slice A n c, .slice A' n c'] w fun e w' => e = .returned (.bool true) ∧ Below w.heap.size w w' := by
  obtain rfl : l.length = n := h.1
  have hn : l.length ≤ 1048576 := by unfold szL at hs; omega
  have HS := Lib.hid hs
  clear hs
  go_enter Try.func19, Try.ntmps19
  go_wp2
  go_loopw [5] (fun i wr => ∃ k : Nat, k ≤ l.length ∧ i = .int .i64 k ∧ Below w.heap.size w wr) (fun i _ => l.length - (intOf i).toNat)
  case atStart => exact ⟨0, by omega, rfl, Below.refl _ _⟩
  case round =>
    obtain ⟨k, hk, rfl, hb⟩ := hrel
    by_cases hlt : k < l.length
    · obtain ⟨b, off, A0, n0, c0, -, rfl, q0, q1, s0, -⟩ := EnR.at_ (h.below EnR.stays hb) hlt
      obtain ⟨b', off', B0, m0, d0, -, rfl, r0, r1, t0, -⟩ := EnR.at_ (h'.below EnR.stays hb) hlt
      obtain rfl : n0 = m0 := s0.1.symm.trans t0.1
      have i0 : (0 : Int) ≤ k := by omega
      have i1 : (k : Int) < l.length := by omega
      have hszk : l[k].sz ≤ 1048576 := by have := HS.out; have := sum_mem_le (En.sz) l k hlt; unfold szL at *; (try simp only at *); omega
      have HSK := Lib.hid hszk
      clear hszk
      go_wp2_with fail
      go_region_held3 (fun w' => w'.cell? ⟨b, off + k * 2, none⟩ = some (.slice A0 n0 c0) ∧ w'.cell? ⟨b, off + k * 2 + 1, none⟩ = some (.int .i64 l[k].id) ∧ w'.cell? ⟨b', off' + k * 2, none⟩ = some (.slice B0 n0 d0) ∧ w'.cell? ⟨b', off' + k * 2 + 1, none⟩ = some (.int .i64 l[k].id))
        (first | go_keep | exact keepE4 (by assumption) hb1)
        (first | (go_at_call 20; refine (lawsEqEntry l[k] A0 B0 n0 c0 d0 ok ok' _ (s0.drew VlR.stays) (t0.drew VlR.stays) HSK.out).mono ?_; rintro e w1 ⟨rfl, hb1⟩))
      go_wp2
      go_roundw
      case rel => exact ⟨k + 1, by omega, by go_num, hb.drew.trans (hb1.mono hb.size)⟩
      case measure => simp [intOf]; omega
    · go_wp2
      go_ret
      exact ⟨rfl, hb⟩
end Go.Proofs.Ytlpfpcnafejkoaa
namespace Go.Proofs.Ytlpfpcnafejkoaa
open Go.RowKit Go.Maps
theorem below_drewN {B : Nat} {w w' : World} (h : Below B w w') (m : Nat) : Below B w (w'.drewN m) := ⟨h.os, h.tape, h.output, h.size, h.block⟩
theorem specInV {n lo hi : Int} {b : Bool} (h : (decide (lo ≤ n) && decide (n ≤ hi)) = b) (w : World) :
    Calls Try.prog 49 #[.int .i64 n, .int .i64 lo, .int .i64 hi] w fun e w' => e = .returned (.bool b) ∧ w' = w := (specIn n lo hi w).mono fun _ _ ⟨h1, h2⟩ => ⟨by rw [h1, h], h2.symm⟩
end Go.Proofs.Ytlpfpcnafejkoaa
